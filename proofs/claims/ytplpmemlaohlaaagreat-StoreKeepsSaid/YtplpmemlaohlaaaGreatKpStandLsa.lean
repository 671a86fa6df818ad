/- An Lsa put into a row whose origins rise (layer 11): base.stand at Lsas. -/
import Derived.Test.YtplpmemlaohlaaaGreatKpFindLsa
import Derived.Test.YtplpmemlaohlaaaGreatKpInsLsa
import Derived.Deep.RegionHeld3
namespace Go.Proofs.YtplpmemlaohlaaaGreat.Bas
open Go.RowKit Mem Oct Lsa Chg
set_option linter.unusedVariables false
set_option linter.unusedSimpArgs false
def RowUp (w w':World) (v v':Value):Prop:=w.grownBy w' v.ownBlock∧(v'.ownBlock=v.ownBlock∨∃ k,v'.ownBlock=some k∧w.heap.size≤k)
theorem isSl_form {u:Value} (h:isSl u=true):∃ A n c,u=.slice A n c:=by
 cases u <;> first | exact ⟨_,_,_,rfl⟩ | cases h
theorem blk_c0' {w:World} {g:Nat} {t:TypeId} {a:Value} (h:Blk w g t #[a]):w.cell? ⟨g,0,none⟩=some a:=by rw [h.cell];rfl
theorem own_some {w:World} {base n c sz:Nat} {e:TypeId} {A:Option Addr} {xs:List Value} (h:w.ownsRow base e sz (.slice A n c) n xs) (h0:0<n):∃ g,A=some ⟨g,0,none⟩:=by
 rcases h.2 with ⟨_,e⟩ | ⟨g,cap,cur,e,_⟩
 ·omega
 ·injection e with e1 e2 e3
  exact ⟨g,e1⟩
theorem own_row_at {w:World} {base g n c:Nat} {l:List La} {us:List Value} (h:w.ownsRow base 80 3 (.slice (some ⟨g,0,none⟩) n c) n (flatL l us)) (hul:us.length=l.length) (hn:n=l.length) {r:Nat} (hr:r<n):w.rangeAt g (r*3) (rowL (l.getD r zeroL) (us.getD r undef)):=fun j v hv=>by
 have hj:j<3:=(List.getElem?_eq_some_iff.1 hv).1
 rw [h.cellAt (r*3+j) (by omega),flatL_get l us r j hul (by omega) hj]
 exact hv
def StandOut (w:World) (base:Nat) (v:Value) (l:List La) (a:La) (e:Ending) (w':World):Prop :=
 ∃ v',e=.returned (.tuple #[v',.bool (decide (seqOf l a.o<a.s))])∧OwnL w' base v' (if seqOf l a.o<a.s then putOf l a else l)∧RowUp w w' v v'
set_option maxHeartbeats 4000000 in
set_option maxRecDepth 100000 in
theorem stand_lsa (base:Nat) (v u:Value) (l:List La) (a:La) (w:World) (h:OwnL w base v l) (hn:l.length≤100) (hu:LkT w base u a.ls) (hbase:base≤w.heap.size)
  (hK:∀ j,j<l.length→0≤kL l j∧kL l j≤64) (hm:∀ i j,i≤j→j<l.length→kL l i≤kL l j) (h1:0≤a.o) (h2:a.o≤64) (h3:1≤a.s) :
  Calls Tryz.prog 145 #[v,laV a u,.func (.func 146) #[] #[],.func (.func 147) #[] #[]] w (StandOut w base v l a):=by
 obtain ⟨o,s,ls⟩:=a
 obtain ⟨A,c,rfl⟩:=h.form
 obtain ⟨Au,nu,cu,rfl⟩:=isSl_form (lkT_sl hu)
 simp only [laV] at *
 have hb2:=low2 w (.cells #[.int .i64 o,.int .i64 s,.slice Au nu cu] 80) (.cells #[.func (.func 146) #[] #[]] 226)
 have k0:=(Blk.new w 80 #[.int .i64 o,.int .i64 s,.slice Au nu cu]).alloc (.cells #[.func (.func 146) #[] #[]] 226)
 have k1:=blk_second w (.cells #[.int .i64 o,.int .i64 s,.slice Au nu cu] 80) 226 #[.func (.func 146) #[] #[]]
 obtain ⟨n,hnn⟩:∃ n,n=l.length:=⟨_,rfl⟩
 rw [← hnn] at h hn hK hm ⊢
 have hlas:Las w w.heap.size (.slice A n c) l:=OwnL.las h
 have nd:=fun W=>FindLsa.node_any o s (.slice Au nu cu) W
 have fd:=fun (W:World) (hW:Below w.heap.size w W) (hq:W.cell? ⟨w.heap.size+1,0,none⟩=some (.func (.func 146) #[] #[]))=>FindLsa.find_any A n c l o (w.heap.size+1) W (hlas.up hW) (by omega) hq h1 h2 hK hm
 obtain ⟨P1,hP1⟩:∃ P1,P1=StandOut w base (.slice A n c) l ⟨o,s,ls⟩:=⟨_,rfl⟩
 rw [← hP1]
 have HP1:=Lib.hid hP1;clear hP1
 have HO:=Lib.hid h;clear h
 have HU:=Lib.hid hu;clear hu
 have HN:=Lib.hid hnn;clear hnn
 have HM:=Lib.hid hm;clear hm
 have HK:=Lib.hid hK;clear hK
 have FD:=Lib.hid fd;clear fd hlas
 have ND:=Lib.hid nd;clear nd
 have HB2:=Lib.hid hb2;clear hb2
 have K0:=Lib.hid k0;clear k0
 have K1:=Lib.hid k1;clear k1
 go_enter Tryz.func145,Tryz.ntmps145
 go_wp2_with (go_at_call 146;refine (ND.out _).mono ?_;rintro e w3 ⟨rfl,hb⟩;have HB3:=Lib.hid (low_low HB2.out hb);have Q0:=Lib.hid (K0.out.below hb K0.out.lt);have Q1:=Lib.hid (K1.out.below hb K1.out.lt);obtain ⟨x0,x1,x2,x3⟩:=blk_cells3 Q0.out;have y0:=blk_c0' Q1.out;clear hb)
 refine (FD.out _ HB3.out y0).mono ?_
 rintro e w4 ⟨⟨r,rfl,hR⟩,hb4⟩
 have HB4:=Lib.hid (low_low HB3.out hb4)
 have K4:=Lib.hid (Q0.out.below hb4 Q0.out.lt)
 have HR:Hid (Rank n (kL l) o r):=Lib.hid hR
 clear hR
 obtain ⟨z0,z1,z2,z3⟩:=blk_cells3 K4.out
 clear hb4 x0 x1 x2 x3 y0
 by_cases hf:r<n∧kL l r=o
 ·have e1:(decide (r<n) && ((l.getD r zeroL).o - o == 0))=true:=by
   have:(l.getD r zeroL).o=o:=hf.2
   rw [this,decide_eq_true hf.1]
   simp
  simp only [e1]
  have hrn:=hf.1
  have HF:=Lib.hid hf;clear hf e1
  obtain ⟨us,hul,hown,hlk⟩:=HO.out
  rw [← HN.out] at hown
  obtain ⟨g,rfl⟩:∃ g,A=some ⟨g,0,none⟩:=own_some hown (by omega)
  have hr4:Hid (w4.rangeAt g (r*3) (rowL (l.getD r zeroL) (us.getD r undef))):=Lib.hid (own_row_at (own_below hown HB4.out) hul HN.out hrn)
  have hso:seqOf l o=(l.getD r zeroL).s:=seqOf_found (HN.out ▸ HR.out) (by rw [← HN.out];exact hrn) HF.out.2
  have hko:(l.getD r zeroL).o=o:=HF.out.2
  have hgs:g<w.heap.size:=(hown.lt g rfl).2
  generalize hx:l.getD r zeroL=x at hr4 hso hko
  obtain ⟨xo,xs,xl⟩:=x
  simp only at hso hko
  subst hko
  generalize us.getD r undef=ux at hr4
  have d0:=hr4.out 0 _ rfl
  have d1:=hr4.out 1 _ rfl
  have d2:=hr4.out 2 _ rfl
  rw [Nat.add_zero] at d0
  have HSO:=Lib.hid hso;clear hso
  have HX:=Lib.hid hx;clear hx
  have HOW:=Lib.hid hown;clear hown
  have HLK:=Lib.hid hlk;clear hlk
  have HUL:=Lib.hid hul;clear hul
  cases hnb:newerB xo s xo xs
  ·have hns:s≤xs:=by
    simp [newerB] at hnb
    exact hnb
   go_wp2_with (fail)
   go_region_held3 (fun W=>W.cell? ⟨w.heap.size,0,none⟩=some (.int .i64 xo)∧W.cell? ⟨w.heap.size,1,none⟩=some (.int .i64 s)∧W.cell? ⟨w.heap.size,2,none⟩=some (.slice Au nu cu)∧W.cell? ⟨g,r*3,none⟩=some (.int .i64 xo)∧W.cell? ⟨g,r*3+1,none⟩=some (.int .i64 xs)∧W.cell? ⟨g,r*3+2,none⟩=some ux)
    (first
     | with_reducible exact ⟨z0,z1,z2,d0,d1,d2⟩
     | with_reducible exact ⟨i0,i1,i2,j0,j1,j2⟩
     | go_keep)
    (first | (go_at_call 147;refine (newer_any xo s xo xs (.slice Au nu cu) ux _).mono ?_;rintro e w5 ⟨rfl,hb⟩;rewrite [hnb];have hb:Below w4.heap.size w4 w5:=⟨hb.os,hb.tape,hb.output,hb.size,hb.block⟩;have HB5:=Lib.hid (low_low HB4.out hb);have K5:=Lib.hid (K4.out.below hb K4.out.lt);obtain ⟨i0,i1,i2,i3⟩:=blk_cells3 K5.out;have j0:=(hb.cell (p:=⟨g,r*3,none⟩) (show g<_ by omega)).trans d0;have j1:=(hb.cell (p:=⟨g,r*3+1,none⟩) (show g<_ by omega)).trans d1;have j2:=(hb.cell (p:=⟨g,r*3+2,none⟩) (show g<_ by omega)).trans d2;have hb0:=HB5.out;have f0:=(own_below HOW.out hb0).frozenAt (r*3);have f1:=(own_below HOW.out hb0).frozenAt (r*3+1);have f2:=(own_below HOW.out hb0).frozenAt (r*3+2);clear hb hb0))
   go_wp2
   have hb5:=HB5.out
   rw [HP1.out]
   refine ⟨.slice (some ⟨g,0,none⟩) n c,?_,?_,grown_of_below hb5,.inl rfl⟩
   ·rw [decide_eq_false (show ¬ seqOf l xo<s by rw [HSO.out];omega)]
    rfl
   rw [if_neg (show ¬ seqOf l xo<s by rw [HSO.out];omega)]
   exact OwnL.below HO.out hb5
  ·have hns:xs<s:=by
    simp [newerB] at hnb
    exact hnb
   go_wp2_with (fail)
   go_region_held3 (fun W=>W.cell? ⟨w.heap.size,0,none⟩=some (.int .i64 xo)∧W.cell? ⟨w.heap.size,1,none⟩=some (.int .i64 s)∧W.cell? ⟨w.heap.size,2,none⟩=some (.slice Au nu cu)∧W.cell? ⟨g,r*3,none⟩=some (.int .i64 xo)∧W.cell? ⟨g,r*3+1,none⟩=some (.int .i64 xs)∧W.cell? ⟨g,r*3+2,none⟩=some ux)
    (first
     | with_reducible exact ⟨z0,z1,z2,d0,d1,d2⟩
     | with_reducible exact ⟨i0,i1,i2,j0,j1,j2⟩
     | go_keep)
    (first | (go_at_call 147;refine (newer_any xo s xo xs (.slice Au nu cu) ux _).mono ?_;rintro e w5 ⟨rfl,hb⟩;rewrite [hnb];have hb:Below w4.heap.size w4 w5:=⟨hb.os,hb.tape,hb.output,hb.size,hb.block⟩;have HB5:=Lib.hid (low_low HB4.out hb);have K5:=Lib.hid (K4.out.below hb K4.out.lt);obtain ⟨i0,i1,i2,i3⟩:=blk_cells3 K5.out;have j0:=(hb.cell (p:=⟨g,r*3,none⟩) (show g<_ by omega)).trans d0;have j1:=(hb.cell (p:=⟨g,r*3+1,none⟩) (show g<_ by omega)).trans d1;have j2:=(hb.cell (p:=⟨g,r*3+2,none⟩) (show g<_ by omega)).trans d2;have hb0:=HB5.out;have f0:=(own_below HOW.out hb0).frozenAt (r*3);have f1:=(own_below HOW.out hb0).frozenAt (r*3+1);have f2:=(own_below HOW.out hb0).frozenAt (r*3+2);clear hb hb0))
   have hb5:=HB5.out
   have how:=own_below HOW.out hb5
   have hfin:P1 (.returned (.tuple #[.slice (some ⟨g,0,none⟩) n c,.bool true])) (w5.setCells g (r*3) (rowL ⟨xo,s,ls⟩ (.slice Au nu cu))):=by
    rw [HP1.out]
    refine ⟨.slice (some ⟨g,0,none⟩) n c,?_,?_,?_,.inl rfl⟩
    ·rw [decide_eq_true (show seqOf l xo<s by rw [HSO.out];exact hns)]
    ·rw [if_pos (show seqOf l xo<s by rw [HSO.out];omega),putOf_found (l:=⟨xo,s,ls⟩) (HN.out ▸ HR.out) (by rw [← HN.out];exact hrn) HF.out.2]
     exact ownL_set (by rw [← HN.out];exact hrn) HUL.out (fun i hi=>(HLK.out i hi).below hb5) (HU.out.below hb5) HN.out how
    ·exact grown_trans (grown_of_below hb5) (grown_setCells g _ _ _)
   have hw:w5.setCells g (r*3) (rowL ⟨xo,s,ls⟩ (.slice Au nu cu))=((w5.setCell ⟨g,r*3,none⟩ (.int .i64 xo)).setCell ⟨g,r*3+1,none⟩ (.int .i64 s)).setCell ⟨g,r*3+2,none⟩ (.slice Au nu cu):=rfl
   rw [hw] at hfin
   have FIN:=Lib.hid hfin
   clear hfin how hb5 hw
   go_wp2
   exact FIN.out
 ·have e1:(decide (r<n) && ((l.getD r zeroL).o - o == 0))=false:=by
   rw [Bool.and_eq_false_iff,decide_eq_false_iff_not,beq_eq_false_iff_ne]
   by_cases hr:r<n
   ·right;intro e;exact hf ⟨hr,by show (l.getD r zeroL).o=o;omega⟩
   ·exact .inl hr
  simp only [e1]
  have HF:=Lib.hid hf;clear hf e1
  obtain ⟨us,hul,hown,hlk⟩:=HO.out
  have hbA:Below w.heap.size w (w4.alloc (.cells #[.int .i64 o,.int .i64 s,.slice Au nu cu] 80)):=low1 HB4.out _
  have ho5:=own_below hown hbA
  rw [← HN.out] at hown ho5
  have hne:(Value.slice A n c).ownBlock≠some w4.heap.size:=fun e=>by
   have:=(hown.lt _ e).2
   have:=HB4.out.size
   omega
  have hsl:∀ x∈us,isSl x=true:=getD_mem_all (P:=fun x=>isSl x=true) (d:=undef) (fun i hi=>lkT_sl (hlk i (by rw [← hul];exact hi)))
  have hu5:=HU.out.below hbA
  have IN:=Lib.hid (InsLsa.ins_any base A n c r w4.heap.size (flatL l us) (rowL ⟨o,s,ls⟩ (.slice Au nu cu)) _ ho5 (by omega) HR.out.1 (Blk.new w4 80 #[.int .i64 o,.int .i64 s,.slice Au nu cu]) hne rfl (rowL_one _ _ rfl) (flatL_one' l us hsl) (Nat.le_trans hbase hbA.size))
  have hseq:seqOf l o=0:=seqOf_none (fun j hj=>HR.out.none HM.out (fun hr e=>HF.out ⟨hr,e⟩) j (by rw [HN.out];exact hj))
  have hput:putOf l ⟨o,s,ls⟩=l.take r++((⟨o,s,ls⟩:La)::l.drop r):=putOf_new (l:=⟨o,s,ls⟩) (HN.out ▸ HR.out) (fun hr e=>HF.out ⟨by rw [HN.out];exact hr,e⟩)
  have hrl:r≤l.length:=by rw [← HN.out];exact HR.out.1
  have hgA:w.grownBy (w4.alloc (.cells #[.int .i64 o,.int .i64 s,.slice Au nu cu] 80)) (Value.slice A n c).ownBlock:=grown_of_below hbA
  have hfin:∀ (v6:Value) (w6:World),w6.ownsRow base 80 3 v6 (n+1) ((flatL l us).take (r*3)++(rowL ⟨o,s,ls⟩ (.slice Au nu cu)++(flatL l us).drop (r*3)))→(w4.alloc (.cells #[.int .i64 o,.int .i64 s,.slice Au nu cu] 80)).grownBy w6 (Value.slice A n c).ownBlock→(v6.ownBlock=(Value.slice A n c).ownBlock∨v6.ownBlock=some (w4.alloc (.cells #[.int .i64 o,.int .i64 s,.slice Au nu cu] 80)).heap.size)→P1 (.returned (.tuple #[v6,.bool true])) w6:=by
   intro v6 w6 ho6 hg6 hv6
   rw [HP1.out]
   refine ⟨v6,by rw [decide_eq_true (show seqOf l o<s by omega)],?_,grown_trans hgA hg6,?_⟩
   ·rw [if_pos (show seqOf l o<s by omega),hput]
    rw [HN.out] at ho6 hg6 ho5
    exact ownL_insert hrl hul ho5 (fun i hi=>(hlk i hi).below hbA) hu5 ho6 hg6
   ·rcases hv6 with e | e
    ·exact .inl e
    ·exact .inr ⟨_,e,hbA.size⟩
  have FIN:=Lib.hid hfin
  clear hfin hgA hrl hput hseq hu5 hsl hne ho5 hbA hlk hown hul
  go_wp2_with (fail)
  refine (IN.out).mono ?_
  rintro e w6 ⟨v6,rfl,ho6,hg6,hv6⟩
  have HF6:=Lib.hid (FIN.out v6 w6 ho6 hg6 hv6)
  clear ho6 hg6 hv6
  go_wp2
  exact HF6.out
end Go.Proofs.YtplpmemlaohlaaaGreat.Bas
