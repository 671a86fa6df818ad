/- slices.Insert at Ep: one element into a row of the call's own, at any place (layer 11). -/
import Derived.Test.YtplpmemlaohlaaaGreatKpBasMem
import Derived.Test.YtplpmemlaohlaaaGreatKpSplice
import Derived.Laws.Externs
import Derived.Laws.NewBlocks
import Derived.Lib.Overlaps
namespace Go.Proofs.YtplpmemlaohlaaaGreat.Bas.InsEp
open Go.RowKit Mem Oct Lsa Chg Bas
set_option linter.unusedVariables false
set_option linter.unusedSimpArgs false
theorem uS:Tryz.prog.underlying 41=some (.slice (Tryz.prog.elem 41)):=by kernel_rfl
theorem uSE:Tryz.prog.underlying 41=some (.slice 118):=by kernel_rfl
theorem szS (w:World):(sizeOf (Tryz.prog.elem 41)).run Tryz.prog w=.ok 2 w:=by kernel_rfl
theorem szE (w:World):(sizeOf 118).run Tryz.prog w=.ok 2 w:=by kernel_rfl
theorem sE:(Tryz.prog.info? 118).map (·.size)=some 2:=by kernel_rfl
theorem cutL (b o n c i:Nat) (hi:i≤n) (hc:i<c) (W:World):(Instr.slice 41 (.slice (some ⟨b,o,none⟩) n c) (some (.int .i64 i)) none none).run Tryz.prog W=.ok (.slice (some ⟨b,o+i*2,none⟩) (n - i) (c - i)) W:=by
 rw [run_slice_l W _ (some ⟨b,o,none⟩) n c uS .i64 i (by omega) (by omega),szS]
 simp only [Result.andThen,Int.toNat_natCast,sliced]
 rw [if_neg (by omega)]
 simp [add_plain]
theorem cutH (b o n c i:Nat) (hi:i≤c) (hc:0<c) (W:World):(Instr.slice 41 (.slice (some ⟨b,o,none⟩) n c) none (some (.int .i64 i)) none).run Tryz.prog W=.ok (.slice (some ⟨b,o,none⟩) i c) W:=by
 rw [run_slice_h W _ (some ⟨b,o,none⟩) n c uS .i64 i (by omega) (by omega),szS]
 simp only [Result.andThen,Int.toNat_natCast,sliced]
 rw [if_neg (by omega)]
 simp [add_plain]
theorem cutLn (A:Option Addr) (n c:Nat) (hc:n≤c):∃ A',∀ W,(Instr.slice 41 (.slice A n c) (some (.int .i64 n)) none none).run Tryz.prog W=.ok (.slice A' (n - n) (c - n)) W:=by
 refine ⟨if c=n then A else A.map (·.add (n*2)),fun W=>?_⟩
 rw [run_slice_l W _ A n c uS .i64 n (by omega) (by omega),szS]
 simp only [Result.andThen,Int.toNat_natCast,sliced]
set_option maxHeartbeats 4000000 in
set_option maxRecDepth 100000 in
theorem at_end (base:Nat) (A:Option Addr) (n c vb:Nat) (xs news:List Value) (w:World) (h:w.ownsRow base 118 2 (.slice A n c) n xs) (hn:n≤1000) (hb:Blk w vb 118 news.toArray) (hl:news.length=2) (h1:∀ u∈news,u.oneCell'=true) (hbase:base≤w.heap.size) :
  Calls Tryz.prog 192 #[.slice A n c,.int .i64 n,.slice (some ⟨vb,0,none⟩) 1 1] w fun e w'=>∃ v',e=.returned v'∧w'.ownsRow base 118 2 v' (n+1) (xs++news)∧w.grownBy w' (Value.slice A n c).ownBlock∧(v'.ownBlock=(Value.slice A n c).ownBlock∨v'.ownBlock=some w.heap.size):=by
 obtain ⟨i0,hi,hz0,hz1,hz2⟩:=info_parts infoE
 have hnc:n≤c:=by
  rcases h.2 with ⟨e,_⟩ | ⟨g,cap,cur,e,_,_,h3,_⟩
  ·injection e with e1 e2 e3;omega
  ·injection e with e1 e2 e3;omega
 obtain ⟨A',hcut⟩:=cutLn A n c hnc
 have hr:Reads w w.heap.size 2 (some ⟨vb,0,none⟩) 1 news:=by
  refine ⟨by omega,fun _=>⟨_,rfl,hb.lt,fun j u hu=>?_⟩⟩
  rw [add_plain,Nat.zero_add,hb.cell]
  simpa using hu
 have HI:=Lib.hid hi;clear hi
 have HZ0:=Lib.hid hz0;clear hz0
 have HZ1:=Lib.hid hz1;clear hz1
 have HZ2:=Lib.hid hz2;clear hz2
 have HO:=Lib.hid h;clear h
 have HR:=Lib.hid hr;clear hr
 have HL:=Lib.hid hl;clear hl
 have HB:=Lib.hid hb;clear hb
 obtain ⟨B0,hB0⟩:∃ B0,B0=(Value.slice A n c).ownBlock:=⟨_,rfl⟩
 rw [← hB0]
 have HB0:=Lib.hid hB0;clear hB0
 go_enter Tryz.func192,Tryz.ntmps192
 go_wp2_with (at_builtin;(refine wpList_append_any _ rfl (.tmp 23) (.tmp 24) 41 rfl base 118 i0 (.agg #[.int .i64 0,.int .i64 0]) 2 16 Tryz.underlying41 HI.out HZ0.out HZ1.out HZ2.out rfl (by decide) (.slice A n c) n xs rfl HO.out _ (some ⟨vb,0,none⟩) 1 1 news rfl HR.out h1 (by unfold maxLen;omega) (by omega) hbase ?_;intro v2 w2 hown2 hg2 hv2))
 go_ret
 rw [HB0.out]
 exact ⟨v2,rfl,hown2,hg2,hv2⟩
set_option maxHeartbeats 4000000 in
set_option maxRecDepth 100000 in
theorem at_room (base:Nat) (g n c i vb:Nat) (xs news:List Value) (w:World) (h:w.ownsRow base 118 2 (.slice (some ⟨g,0,none⟩) n c) n xs) (hn:n≤1000) (hi:i<n) (hroom:n+1≤c) (hb:Blk w vb 118 news.toArray) (hvg:vb≠g) (hl:news.length=2) (h1:∀ u∈news,u.oneCell'=true) (hx1:∀ u∈xs,u.oneCell'=true) :
  Calls Tryz.prog 192 #[.slice (some ⟨g,0,none⟩) n c,.int .i64 i,.slice (some ⟨vb,0,none⟩) 1 1] w fun e w'=>e=.returned (.slice (some ⟨g,0,none⟩) (n+1) c)∧w'.ownsRow base 118 2 (.slice (some ⟨g,0,none⟩) (n+1) c) (n+1) (xs.take (i*2)++(news++xs.drop (i*2)))∧w.grownBy w' (some g):=by
 have hxl:=h.1
 have hcm:c≤maxLen:=by
  rcases h.2 with ⟨e,_⟩ | ⟨g',cap,cur,e,_,_,_,h4,_⟩
  ·cases e
  ·injection e with e1 e2 e3;omega
 unfold maxLen at hcm
 have hd:w.drew.ownsRow base 118 2 (.slice (some ⟨g,0,none⟩) n c) n xs:=h
 obtain ⟨ys,hyl,hw⟩:=own_wide hd (n+1) (by omega) hroom
 have hyl':ys.length=2:=by rw [hyl,show n+1 - n=1 by omega]
 have hdl:(xs.drop (i*2)).length=(n - i)*2:=by rw [List.length_drop,hxl,Nat.sub_mul]
 have hfit:(i+1)*2+(xs.drop (i*2)).length≤(n+1)*2:=by
  rw [hdl,← Nat.add_mul]
  exact Nat.mul_le_mul_right _ (by omega)
 have hs1:=own_splice hw (o:=(i+1)*2) (vs:=xs.drop (i*2)) hfit
 have e1:splice (xs++ys) ((i+1)*2) (xs.drop (i*2))=(xs++ys).take ((i+1)*2)++xs.drop (i*2):=by
  have hz:(xs++ys).drop ((i+1)*2+(xs.drop (i*2)).length)=[]:=by
   apply List.drop_eq_nil_of_le
   rw [hdl,List.length_append,hxl,hyl',← Nat.add_mul,show i+1+(n - i)=n+1 by omega,Nat.succ_mul]
   exact Nat.le_refl _
  unfold splice
  rw [hz,List.append_nil]
 have ht1:(xs++ys).take ((i+1)*2)=xs.take (i*2)++(xs.drop (i*2)).take 2:=by
  have hle:(i+1)*2≤xs.length:=by rw [hxl];exact Nat.mul_le_mul_right _ (by omega)
  rw [List.take_append_of_le_length hle,show (i+1)*2=i*2+2 by rw [Nat.succ_mul],List.take_add]
 rw [e1,ht1,List.append_assoc] at hs1
 have hfit2:i*2+news.length≤(n+1)*2:=by
  rw [hl]
  have:=Nat.mul_le_mul_right 2 (by omega:i+1≤n+1)
  rw [Nat.succ_mul] at this
  exact this
 have htl:(xs.take (i*2)).length=i*2:=by
  rw [List.length_take,hxl]
  exact Nat.min_eq_left (Nat.mul_le_mul_right _ (by omega))
 have hml:news.length=((xs.drop (i*2)).take 2).length:=by
  rw [List.length_take,hdl,hl]
  have:=Nat.mul_le_mul_right 2 (by omega:1≤n - i)
  omega
 have hs2:=own_splice hs1 (o:=i*2) (vs:=news) hfit2
 have e2:=splice_mid (xs.take (i*2)) ((xs.drop (i*2)).take 2) (xs.drop (i*2)) news hml
 rw [htl] at e2
 rw [e2] at hs2
 have hth:=own_there hw ((i+1)*2) (xs.drop (i*2)).length hfit
 have hth2:=own_there hs1 (i*2) news.length hfit2
 have hsrc:∀ j v,(xs.drop (i*2))[j]?=some v→w.cell? ((⟨g,i*2,none⟩:Addr).add j)=some v:=fun j v hj=>by
  rw [List.getElem?_drop] at hj
  have hlt:=(List.getElem?_eq_some_iff.1 hj).1
  rw [add_plain,h.cellAt _ (by omega),hj]
 have hov:∀ lb cb,(callFunc 211 #[.slice (some ⟨vb,0,none⟩) 1 1,.slice (some ⟨g,(i+1)*2,none⟩) lb cb]).run Tryz.prog w=.ok (.value (.bool false)) w:=fun lb cb=>by
  have hgb:∃ kB,w.shape? g=some (118,kB)∧kB≠0:=by
   rcases h.2 with ⟨e,_⟩ | ⟨g',cap,cur,e,_,hh,h3,_,h5,_⟩
   ·cases e
   ·injection e with e1 e2 e3
    injection e1 with e1
    injection e1 with e1
    subst e1 e3
    refine ⟨cur.size,by simp [World.shape?,hh],?_⟩
    rw [h5]
    have:=Nat.mul_le_mul_right 2 (by omega:1≤c)
    omega
  obtain ⟨kB,hkb,hk0⟩:=hgb
  have hva:w.shape? vb=some (118,news.toArray.size):=by
   have:=hb
   unfold Blk at this
   simp [World.shape?,this]
  rw [run_callFunc_extern (f:=211) Tryz.func211 (by kernel_rfl) (by kernel_rfl) (by kernel_rfl) (e:=Extern.SlicesOverlaps.overlaps #[41,41] #[4]) (by kernel_rfl),
   Lib.run_overlaps_apart w 41 4 118 uSE 2 szE ⟨vb,0,none⟩ ⟨g,(i+1)*2,none⟩ 1 1 lb cb hvg 118 118 news.toArray.size kB hva hkb hk0 (hb.frozen 0) (hb.frozen _)]
  rfl
 obtain ⟨W1,hW1⟩:∃ W1,W1=w.drew.setCells g ((i+1)*2) (xs.drop (i*2)):=⟨_,rfl⟩
 have hg1:w.grownBy W1 (some g):=by rw [hW1];exact grown_trans grown_drew (grown_setCells g _ _ w.drew)
 have hb2:Blk W1 vb 118 news.toArray:=hb.grown hg1 (by simpa using hvg)
 rw [← hW1] at hs1 hs2 hth2
 have hcp1:∀ (W:World),(∀ x,W.cell? x=w.cell? x)→(∀ x,W.frozen? x=w.frozen? x)→∀ ty dc sc,(Builtin.copy_ #[41,41] ty #[.slice (some ⟨g,(i+1)*2,none⟩) (n - i) dc,.slice (some ⟨g,i*2,none⟩) (n+1 - i) sc]).run Tryz.prog W=.ok (goInt (n - i:Nat)) (W.setCells g ((i+1)*2) (xs.drop (i*2))):=fun W hWc hWf ty dc sc =>
  run_copy_sz W _ _ ty 118 2 g _ _ dc _ _ sc _ uSE sE (n - i) (by simp only [Nat.min_def];split <;> omega) hdl (fun j v hj=>by rw [hWc];exact hsrc j v hj) (fun j hj=>by rw [hWc,hWf];exact hth j hj) (fun v hv=>hx1 v (List.mem_of_mem_drop hv))
 have hcp2:∀ (W:World),(∀ x,W.cell? x=W1.cell? x)→(∀ x,W.frozen? x=W1.frozen? x)→∀ ty dc,(Builtin.copy_ #[41,41] ty #[.slice (some ⟨g,i*2,none⟩) (n+1 - i) dc,.slice (some ⟨vb,0,none⟩) 1 1]).run Tryz.prog W=.ok (goInt (1:Nat)) (W.setCells g (i*2) news):=fun W hWc hWf ty dc =>
  run_copy_sz W _ _ ty 118 2 g _ _ dc _ _ 1 _ uSE sE 1 (by simp only [Nat.min_def];split <;> omega) (by omega) (fun j v hj=>by
   rw [add_plain,Nat.zero_add,hWc,hb2.cell]
   simpa using hj) (fun j hj=>by rw [hWc,hWf];exact hth2 j hj) h1
 have hcp1:∀ ty dc sc,(Builtin.copy_ #[41,41] ty #[.slice (some ⟨g,(i+1)*2,none⟩) (n - i) dc,.slice (some ⟨g,i*2,none⟩) (n+1 - i) sc]).run Tryz.prog w.drew=.ok (goInt (n - i:Nat)) W1:=fun ty dc sc=>by
  rw [hcp1 w.drew (fun _=>rfl) (fun _=>rfl),hW1]
 clear hW1
 have q1:=cutL g 0 n c i (by omega) (by omega)
 have q2:=cutH g 0 n c (n+1) hroom (by omega)
 have q3:=cutL g 0 (n+1) c (i+1) (by omega) (by omega)
 have q4:=cutL g 0 (n+1) c i (by omega) (by omega)
 rw [Nat.zero_add] at q1 q3 q4
 have e4:((n+1:Nat):Int)=(n:Int)+1:=by omega
 have e5:((i+1:Nat):Int)=(i:Int)+1:=by omega
 rw [e4] at q2
 rw [e5] at q3
 have hz2:((i:Int) == (n:Int))=false:=by rw [beq_eq_false_iff_ne];omega
 have hz3:decide ((c:Int)<(n:Int)+1)=false:=by rw [decide_eq_false_iff_not];omega
 have hw1:IntKind.i64.wrap ((i:Int)+1)=(i:Int)+1:=by rw [IntKind.wrap_i64];omega
 have HS2:=Lib.hid hs2;clear hs2
 have HG1:=Lib.hid hg1;clear hg1
 clear hs1 hth hth2 hsrc e1 ht1 e2 hw hyl hyl' hdl hfit hfit2 htl hml hb2 hb e4 e5 h hxl
 go_enter Tryz.func192,Tryz.ntmps192
 go_wp2_with (simp only [hov])
 go_region_law (refine step_copy_eq rfl _ _ 41 41 rfl (.slice (some ⟨g,(i+1)*2,none⟩) (n - i) (c - (i+1))) (.slice (some ⟨g,i*2,none⟩) (n+1 - i) (c - i)) (by simp [Act.eval,Act.put]) (by simp [Act.eval,Act.put]) (hcp1 _ (c - (i+1)) (c - i)) ?_)
 go_wp2
 go_ret
 exact ⟨rfl,HS2.out,grown_trans HG1.out (grown_setCells g _ _ _)⟩
set_option maxHeartbeats 4000000 in
set_option maxRecDepth 100000 in
theorem at_grow (base:Nat) (g n c i vb:Nat) (xs news:List Value) (w:World) (h:w.ownsRow base 118 2 (.slice (some ⟨g,0,none⟩) n c) n xs) (hn:n≤1000) (hi:i<n) (hroom:c<n+1) (hb:Blk w vb 118 news.toArray) (hl:news.length=2) (h1:∀ u∈news,u.oneCell'=true) (hx1:∀ u∈xs,u.oneCell'=true) (hbase:base≤w.heap.size) :
  Calls Tryz.prog 192 #[.slice (some ⟨g,0,none⟩) n c,.int .i64 i,.slice (some ⟨vb,0,none⟩) 1 1] w fun e w'=>∃ v',e=.returned v'∧w'.ownsRow base 118 2 v' (n+1) (xs.take (i*2)++(news++xs.drop (i*2)))∧w.grownBy w' (some g)∧v'.ownBlock=some w.heap.size:=by
 have hxl:=h.1
 have hgw:g<w.heap.size:=(h.lt g rfl).2
 have hvw:vb<w.heap.size:=hb.lt
 have hnc:n≤c:=by
  rcases h.2 with ⟨e,_⟩ | ⟨g',cap,cur,e,_,_,h3,_⟩
  ·cases e
  ·injection e with e1 e2 e3;omega
 obtain ⟨i0,hi0,hz0,hzs,hzb⟩:=info_parts infoE
 have htl:(xs.take (i*2)).length=i*2:=by
  rw [List.length_take,hxl]
  exact Nat.min_eq_left (Nat.mul_le_mul_right _ (by omega))
 have hdl:(xs.drop (i*2)).length=(n - i)*2:=by rw [List.length_drop,hxl,Nat.sub_mul]
 have hold:(Builtin.firstCells i0.size i (.slice (some ⟨g,0,none⟩) i c)).run Tryz.prog w.drew=.ok (xs.take (i*2)).toArray w.drew:=by
  rw [hzs]
  exact run_firstCells_some w.drew 2 i ⟨g,0,none⟩ i c (xs.take (i*2)) htl (fun j v hj=>by
   rw [List.getElem?_take] at hj
   split at hj
   ·have hlt:=(List.getElem?_eq_some_iff.1 hj).1
    rw [add_plain,Nat.zero_add]
    show w.cell? _=_
    rw [h.cellAt _ (by omega),hj]
   ·cases hj)
 obtain ⟨G,hG⟩:∃ G,G=grownCap w (n+1) c 118:=⟨_,rfl⟩
 obtain ⟨zs,hzz⟩:∃ zs:Array Value,zs=Builtin.zeroCells (Value.cells (.agg #[.int .i64 0,.int .i64 0])) (n+1 - i):=⟨_,rfl⟩
 obtain ⟨ys,hyy⟩:∃ ys:Array Value,ys=Builtin.zeroCells (Value.cells (.agg #[.int .i64 0,.int .i64 0])) (G - (n+1)):=⟨_,rfl⟩
 have hzl:zs.size=(n+1 - i)*2:=by rw [hzz,size_zeroCells];rfl
 have hyl:ys.size=(G - (n+1))*2:=by rw [hyy,size_zeroCells];rfl
 have hrz:∀ ty,(Builtin.append_ #[41,3] ty #[.slice (some ⟨g,0,none⟩) i c,.int .i64 ((n:Int)+1 - (i:Int))]).run Tryz.prog w=.ok (.slice (some ⟨w.heap.size,0,none⟩) (n+1) G) (w.drew.alloc (.cells ((xs.take (i*2)).toArray++zs++ys) 118)):=fun ty=>by
  have hq:=Lib.run_append_grow_zeros w 41 3 ty 118 i0 _ .i64 .i64 uSE Tryz.underlying3 hi0 hz0 (some ⟨g,0,none⟩) i c (xs.take (i*2)) hold (n+1 - i) (by omega) (by omega) (by omega) (by omega) (by rw [hzb];omega) (by rw [hzb,show i+(n+1 - i)=n+1 by omega];exact growslice_fits hroom (by omega))
  rw [show i+(n+1 - i)=n+1 by omega,← hG] at hq
  rw [show (n:Int)+1 - (i:Int)=((n+1 - i:Nat):Int) by omega,hq,hzz,hyy]
 have hGn:n+1≤G:=by rw [hG];exact grownCap_ge w _ _ _
 have hG63:G≤maxLen:=by rw [hG];exact grownCap_le_maxLen w _ _ _ (by unfold maxLen;omega)
 obtain ⟨W1,hW1⟩:∃ W1,W1=w.drew.alloc (.cells ((xs.take (i*2)).toArray++zs++ys) 118):=⟨_,rfl⟩
 have hfin:xs.take (i*2)++(news++xs.drop (i*2))=(xs.take (i*2)++news)++(xs.drop (i*2)++[]):=by simp
 have hw0:W1.ownsRow base 118 2 (.slice (some ⟨w.heap.size,0,none⟩) (n+1) G) (n+1) (xs.take (i*2)++(zs.toList.take 2++zs.toList.drop 2)):=by
  rw [List.take_append_drop,hW1]
  have e3:(n+1)*2=i*2+(n+1 - i)*2:=by rw [← Nat.add_mul];congr 1;omega
  refine ⟨by rw [List.length_append,htl,Array.length_toList,hzl,e3],.inr ⟨w.heap.size,G,_,rfl,hbase,heap_alloc_new w.drew _,hGn,hG63,?_,?_⟩⟩
  ·simp only [Array.size_append,List.size_toArray,htl,hzl,hyl,← Nat.add_mul]
   congr 1
   omega
  ·simp only [Array.toList_append,List.append_assoc]
   rw [← List.append_assoc,e3]
   have:i*2+(n+1 - i)*2=(xs.take (i*2)++zs.toList).length:=by rw [List.length_append,htl,Array.length_toList,hzl]
   rw [this]
   exact List.take_left
 have hzt:(zs.toList.take 2).length=2:=by
  rw [List.length_take,Array.length_toList,hzl]
  have:=Nat.mul_le_mul_right 2 (by omega:1≤n+1 - i)
  omega
 have hzd:(zs.toList.drop 2).length=(n - i)*2:=by
  rw [List.length_drop,Array.length_toList,hzl,show n+1 - i=(n - i)+1 by omega,Nat.succ_mul]
  omega
 have hfit:i*2+news.length≤(n+1)*2:=by
  rw [hl]
  have:=Nat.mul_le_mul_right 2 (by omega:i+1≤n+1)
  rw [Nat.succ_mul] at this
  exact this
 have hs1:=own_splice hw0 (o:=i*2) (vs:=news) hfit
 have e1:=splice_mid (xs.take (i*2)) (zs.toList.take 2) (zs.toList.drop 2) news (by omega)
 rw [htl] at e1
 rw [e1] at hs1
 have hfit2:(i+1)*2+(xs.drop (i*2)).length≤(n+1)*2:=by
  rw [hdl,← Nat.add_mul]
  exact Nat.mul_le_mul_right _ (by omega)
 have hth:=own_there hw0 (i*2) news.length hfit
 have hgr1:w.grownBy W1 (some g):=by rw [hW1];exact grown_trans grown_drew (World.grownBy_alloc w.drew _ _)
 have hb1:W1.heap[vb]?=w.heap[vb]?:=by rw [hW1];exact (World.grownBy_alloc w.drew _ none).block vb hvw (by simp)
 have hbg:W1.heap[g]?=w.heap[g]?:=by rw [hW1];exact (World.grownBy_alloc w.drew _ none).block g hgw (by simp)
 have hbb:Blk W1 vb 118 news.toArray:=hb1.trans hb
 have hsz1:W1.heap.size=w.heap.size+1:=by rw [hW1];simp
 obtain ⟨W2,hW2⟩:∃ W2,W2=W1.setCells w.heap.size (i*2) news:=⟨_,rfl⟩
 have hgr2:W1.grownBy W2 (some w.heap.size):=by rw [hW2];exact grown_setCells _ _ _ _
 have hbg2:W2.heap[g]?=w.heap[g]?:=(hgr2.block g (by omega) (fun e=>by injection e with e;omega)).trans hbg
 rw [← hW2] at hs1
 have hs1:W2.drew.ownsRow base 118 2 (.slice (some ⟨w.heap.size,0,none⟩) (n+1) G) (n+1) (xs.take (i*2)++(news++zs.toList.drop 2)):=hs1
 have hth2:=own_there hs1 ((i+1)*2) (xs.drop (i*2)).length hfit2
 have hs2:=own_splice hs1 (o:=(i+1)*2) (vs:=xs.drop (i*2)) hfit2
 have e2:=splice_mid (xs.take (i*2)++news) (zs.toList.drop 2) [] (xs.drop (i*2)) (by omega)
 rw [List.length_append,htl,hl,show i*2+2=(i+1)*2 by rw [Nat.succ_mul],List.append_nil,List.append_assoc,← hfin] at e2
 rw [e2] at hs2
 have hsrc:∀ j v,(xs.drop (i*2))[j]?=some v→W2.cell? ((⟨g,i*2,none⟩:Addr).add j)=some v:=fun j v hj=>by
  rw [List.getElem?_drop] at hj
  have hlt:=(List.getElem?_eq_some_iff.1 hj).1
  rw [add_plain,← hj,← h.cellAt _ (by omega)]
  exact World.cell?_of_block (w:=w) (w':=W2) (a:=⟨g,i*2+j,none⟩) hbg2
 have hcp1:∀ ty dc,(Builtin.copy_ #[41,41] ty #[.slice (some ⟨w.heap.size,i*2,none⟩) (n+1 - i) dc,.slice (some ⟨vb,0,none⟩) 1 1]).run Tryz.prog W1=.ok (goInt (1:Nat)) W2:=fun ty dc=>by
  rw [hW2]
  exact run_copy_sz W1 _ _ ty 118 2 w.heap.size _ _ dc _ _ 1 _ uSE sE 1 (by simp only [Nat.min_def];split <;> omega) (by omega) (fun j v hj=>by
   rw [add_plain,Nat.zero_add,hbb.cell]
   simpa using hj) hth h1
 have hcp2:∀ (W:World),(∀ x,W.cell? x=W2.cell? x)→(∀ x,W.frozen? x=W2.frozen? x)→∀ ty dc sc,(Builtin.copy_ #[41,41] ty #[.slice (some ⟨w.heap.size,(i+1)*2,none⟩) (n - i) dc,.slice (some ⟨g,i*2,none⟩) (n - i) sc]).run Tryz.prog W=.ok (goInt (n - i:Nat)) (W.setCells w.heap.size ((i+1)*2) (xs.drop (i*2))):=fun W hWc hWf ty dc sc =>
  run_copy_sz W _ _ ty 118 2 w.heap.size _ _ dc _ _ sc _ uSE sE (n - i) (by simp only [Nat.min_def];split <;> omega) hdl (fun j v hj=>by rw [hWc];exact hsrc j v hj) (fun j hj=>by rw [hWc,hWf];exact hth2 j hj) (fun v hv=>hx1 v (List.mem_of_mem_drop hv))
 have q1:=cutL g 0 n c i (by omega) (by omega)
 have q2:=cutH g 0 n c i (by omega) (by omega)
 have q3:=cutL w.heap.size 0 (n+1) G (i+1) (by omega) (by omega)
 have q4:=cutL w.heap.size 0 (n+1) G i (by omega) (by omega)
 rw [Nat.zero_add] at q1 q3 q4
 have e5:((i+1:Nat):Int)=(i:Int)+1:=by omega
 rw [e5] at q3
 have hz2:((i:Int) == (n:Int))=false:=by rw [beq_eq_false_iff_ne];omega
 have hz3:decide ((c:Int)<(n:Int)+1)=true:=by rw [decide_eq_true_iff];omega
 have hw1:IntKind.i64.wrap ((i:Int)+1)=(i:Int)+1:=by rw [IntKind.wrap_i64];omega
 rw [← hW1] at hrz
 have HS2:=Lib.hid hs2;clear hs2
 have HG1:=Lib.hid hgr1;clear hgr1
 have HG2:=Lib.hid hgr2;clear hgr2
 have HW2:=Lib.hid hW2;clear hW2
 have hnlt:i≤n:=by omega
 clear hs1 hth hth2 hsrc e1 e2 hw0 hyl hzl hdl hfit hfit2 htl hbb hb hb1 hbg hbg2 hW1 hzz hyy hG hold hi0 hz0 hzs hzb hzt hzd e5 h hxl hfin hl
 have hG64:(G:Int)≤9223372036854775807:=by unfold maxLen at hG63;omega
 go_enter Tryz.func192,Tryz.ntmps192
 go_wp2_with (at_builtin;refine Lib.wpList_append_run _ rfl _ _ _ _ rfl _ _ rfl rfl _ _ (hrz _) ?_)
 go_region_law (refine step_copy_eq rfl _ _ 41 41 rfl (.slice (some ⟨w.heap.size,(i+1)*2,none⟩) (n - i) (G - (i+1))) (.slice (some ⟨g,i*2,none⟩) (n - i) (c - i)) (by simp [Act.eval,Act.put]) (by simp [Act.eval,Act.put]) (hcp2 W2.drew (fun _=>rfl) (fun _=>rfl) _ (G - (i+1)) (c - i)) ?_)
 go_wp2
 go_ret
 refine ⟨_,rfl,HS2.out,?_,rfl⟩
 exact grown_over (grown_over HG1.out HG2.out (fun q hq=>by cases hq;exact Nat.le_refl _)) (grown_trans grown_drew (grown_setCells _ _ _ _)) (fun q hq=>by cases hq;exact Nat.le_refl _)
theorem ins_any (base:Nat) (A:Option Addr) (n c i vb:Nat) (xs news:List Value) (w:World) (h:w.ownsRow base 118 2 (.slice A n c) n xs) (hn:n≤1000) (hi:i≤n) (hb:Blk w vb 118 news.toArray) (hne:(Value.slice A n c).ownBlock≠some vb) (hl:news.length=2) (h1:∀ u∈news,u.oneCell'=true) (hx1:∀ u∈xs,u.oneCell'=true) (hbase:base≤w.heap.size) :
  Calls Tryz.prog 192 #[.slice A n c,.int .i64 i,.slice (some ⟨vb,0,none⟩) 1 1] w fun e w'=>∃ v',e=.returned v'∧w'.ownsRow base 118 2 v' (n+1) (xs.take (i*2)++(news++xs.drop (i*2)))∧w.grownBy w' (Value.slice A n c).ownBlock∧(v'.ownBlock=(Value.slice A n c).ownBlock∨v'.ownBlock=some w.heap.size):=by
 have hxl:=h.1
 by_cases hin:i=n
 ·subst hin
  have e1:xs.take (i*2)=xs:=List.take_of_length_le (by omega)
  have e2:xs.drop (i*2)=[]:=List.drop_eq_nil_of_le (by omega)
  rw [e1,e2,List.append_nil]
  exact at_end base A i c vb xs news w h hn hb hl h1 hbase
 ·rcases h.2 with ⟨e,h0⟩ | ⟨g,cap,cur,e,hr⟩
  ·omega
  ·injection e with e1 e2 e3
   subst e1 e3
   by_cases hroom:n+1≤c
   ·refine (at_room base g n c i vb xs news w h hn (by omega) hroom hb (fun e=>hne (by rw [e];rfl)) hl h1 hx1).mono ?_
    rintro e w' ⟨rfl,h2,h3⟩
    exact ⟨_,rfl,h2,h3,.inl rfl⟩
   ·refine (at_grow base g n c i vb xs news w h hn (by omega) (by omega) hb hl h1 hx1 hbase).mono ?_
    rintro e w' ⟨v',rfl,h2,h3,h4⟩
    exact ⟨_,rfl,h2,h3,.inr h4⟩
end Go.Proofs.YtplpmemlaohlaaaGreat.Bas.InsEp
