/- RecAll: the texts Record, Pgs, Parts, Part, Filled, Split, Told, OwnPgs, RefSplit, OwnApp, Join, RefJoin in one. (Printed by tools/mergeall.py.) -/
import Derived.Test.YtplpmemlaohlaaaGreatKpLowAll
import Derived.Test.YtplpmemlaohlaaaGreatKpPageAll
import Derived.BigQuiet
import Derived.Deep.MidRow
import Derived.Deep.QuietTactic
import Derived.Deep.RegionHeld3
namespace Go.Proofs.YtplpmemlaohlaaaGreat.Rcd
open Go.RowKit Mem Oct Pg
set_option linter.unusedVariables false
set_option linter.unusedSimpArgs false
def parts (n:Nat):Nat:=if n≤7808 then (if n=0 then 1 else (n+487) / 488) else 0
def nth (p:P) (b:List Nat) (n i:Nat):P:=⟨p.kind,p.gen,p.mark,p.index+i,i,n,(b.drop (i*488)).take 488⟩
def pages (p:P) (b:List Nat):List P:=(List.range (parts b.length)).map (nth p b (parts b.length))
def fits (p:P) (b:List Nat):Bool:=decide (1≤parts b.length) && (pages p b).all P.may
def told (l:List P):List P:=if 1≤(l.headD zero).parts∧(l.headD zero).parts≤l.length∧(l.headD zero).parts≤16 then l.take (l.headD zero).parts.toNat else []
where zero:P:=⟨0,0,0,0,0,0,[]⟩
def cat (l:List P):List Nat:=l.flatMap P.b
def joined (l:List P):Option (List Nat × Nat):=match told l with
 | []=>none
 | q::r=>if fits q (cat (q::r))=true∧pages q (cat (q::r))=q::r then some (cat (q::r),(q::r).length) else none
theorem parts_le (n:Nat):parts n≤16:=by unfold parts;split <;> (try split) <;> omega
theorem parts_pos {n:Nat} (h:n≤7808):1≤parts n:=by unfold parts;rw [if_pos h];split <;> omega
theorem parts_zero {n:Nat} (h:7808<n):parts n=0:=by unfold parts;rw [if_neg (by omega)]
theorem parts_big {n:Nat} (h:n≤7808):n≤parts n*488:=by unfold parts;rw [if_pos h];split <;> omega
theorem parts_small {n i:Nat} (h:i<parts n):i*488≤n:=by unfold parts at h;split at h <;> (try split at h) <;> omega
theorem parts_ge {n:Nat} (h:1≤parts n):n≤7808:=Nat.le_of_not_lt fun hn=>by have:=parts_zero hn;omega
theorem pages_length (p:P) (b:List Nat):(pages p b).length=parts b.length:=by simp [pages]
theorem pages_get (p:P) (b:List Nat) (i:Nat) (h:i<(pages p b).length):(pages p b)[i]=nth p b (parts b.length) i:=by simp [pages]
theorem pages_congr {p q:P} (b:List Nat) (h1:q.kind=p.kind) (h2:q.gen=p.gen) (h3:q.mark=p.mark) (h4:q.index=p.index):pages q b=pages p b:=by
 unfold pages
 apply List.map_congr_left
 intro i _
 simp [nth,h1,h2,h3,h4]
theorem cat_to (p:P) (b:List Nat) (n k:Nat):cat ((List.range k).map (nth p b n))=b.take (k*488):=by
 induction k with
 | zero=>simp [cat]
 | succ k ih =>
  have:cat ((List.range (k+1)).map (nth p b n))=cat ((List.range k).map (nth p b n))++(b.drop (k*488)).take 488:=by
   simp [List.range_succ,cat,nth]
  rw [this,ih,show (k+1)*488=k*488+488 by omega,List.take_add]
theorem cat_pages {p:P} {b:List Nat} (h:b.length≤7808):cat (pages p b)=b:=by
 unfold pages
 rw [cat_to,List.take_of_length_le (parts_big h)]
theorem pages_cons {p:P} {b:List Nat} (h:b.length≤7808):∃ r,pages p b=nth p b (parts b.length) 0::r:=by
 have h1:=parts_pos h
 unfold pages
 obtain ⟨k,hk⟩:∃ k,parts b.length=k+1:=⟨parts b.length - 1,by omega⟩
 rw [hk,List.range_succ_eq_map]
 exact ⟨_,rfl⟩
theorem joined_of {l r:List P} {q:P} (h:told l=q::r):joined l=if fits q (cat (q::r))=true∧pages q (cat (q::r))=q::r then some (cat (q::r),(q::r).length) else none:=by
 unfold joined
 rw [h]
theorem joined_nil {l:List P} (h:told l=[]):joined l=none:=by
 unfold joined
 rw [h]
theorem fits_len {p:P} {b:List Nat} (h:fits p b=true):b.length≤7808:=by
 simp only [fits,Bool.and_eq_true,decide_eq_true_eq] at h
 exact parts_ge h.1
theorem fits_congr {p q:P} {b:List Nat} (h:pages q b=pages p b):fits q b=fits p b:=by simp [fits,h]
theorem told_pages {p:P} {b:List Nat} (more:List P) (h:b.length≤7808):told (pages p b++more)=pages p b:=by
 obtain ⟨r,hr⟩:=pages_cons (p:=p) h
 have h1:=parts_pos h
 have h2:=parts_le b.length
 have h3:(pages p b++more).headD told.zero=nth p b (parts b.length) 0:=by rw [hr];rfl
 unfold told
 rw [h3]
 have h4:(nth p b (parts b.length) 0).parts=(parts b.length:Int):=rfl
 rw [h4,if_pos ⟨by omega,by rw [List.length_append,pages_length];omega,by omega⟩,Int.toNat_natCast,← pages_length p b,List.take_left]
theorem join_pages {p:P} {b:List Nat} (more:List P) (h:fits p b=true):joined (pages p b++more)=some (b,parts b.length):=by
 have hl:=fits_len h
 obtain ⟨r,hr⟩:=pages_cons (p:=p) hl
 rw [joined_of (r:=r) (q:=nth p b (parts b.length) 0) ((told_pages more hl).trans hr),← hr,cat_pages hl]
 have hc:pages (nth p b (parts b.length) 0) b=pages p b:=pages_congr b rfl rfl rfl (by simp [nth])
 rw [if_pos ⟨(fits_congr hc).trans h,hc⟩,pages_length]
theorem told_head {l:List P} {q q':P} {r r':List P} (hl:l=q::r) (h:told l=q'::r'):q'=q:=by
 subst hl
 have e:told (q::r)=if 1≤q.parts∧q.parts≤(q::r).length∧q.parts≤16 then (q::r).take q.parts.toNat else []:=rfl
 rw [e] at h
 split at h
 ·obtain ⟨k,hk⟩:∃ k,q.parts.toNat=k+1:=⟨q.parts.toNat - 1,by omega⟩
  rw [hk,List.take_succ_cons] at h
  injection h with h _
  exact h.symm
 ·cases h
end Go.Proofs.YtplpmemlaohlaaaGreat.Rcd
namespace Go.Proofs.YtplpmemlaohlaaaGreat.Rcd
open Go.RowKit Mem Oct Pg
set_option linter.unusedVariables false
set_option linter.unusedSimpArgs false
def row (p:P) (v:Value):List Value:=[.int .i64 p.kind,.int .i64 p.gen,.int .i64 p.mark,.int .i64 p.index,.int .i64 p.part,.int .i64 p.parts,v]
def noP:P:=⟨0,0,0,0,0,0,[]⟩
theorem row_length (p:P) (v:Value):(row p v).length=7:=rfl
theorem size24:(Tryz.prog.info? 125).map (·.size)=some 7:=by kernel_rfl
theorem rangeAt_keep {w w':World} {b o:Nat} {cs:List Value} (h:w.rangeAt b o cs) (hk:∀ p:Addr,p.block=b→w'.cell? p=w.cell? p):w'.rangeAt b o cs:=fun j v hv=>(hk _ rfl).trans (h j v hv)
theorem rangeAt_below {w w':World} {B b o:Nat} {cs:List Value} (h:w.rangeAt b o cs) (hb:Below B w w') (hlt:b<B):w'.rangeAt b o cs:=rangeAt_keep h fun p hp=>hb.cell (by omega)
theorem there_below {w w':World} {B b o n:Nat} (h:w.there b o n) (hb:Below B w w') (hlt:b<B):w'.there b o n:=fun j hj=>by
 obtain ⟨h1,h2⟩:=h j hj
 exact ⟨by rw [hb.cell (p:=⟨b,o+j,none⟩) hlt];exact h1,by rw [hb.frozen (p:=⟨b,o+j,none⟩) hlt];exact h2⟩
def Pgs (w:World) (B:Nat) (v:Value) (ps:List P):Prop:=∃ (A:Option Addr) (n c:Nat),v=.slice A n c∧ps.length=n∧n≤c∧c≤maxLen ∧
 (0<n→∃ b off,A=some ⟨b,off,none⟩∧b<B∧∀ i,i<n→∃ vb,w.rangeAt b (off+i*7) (row (ps.getD i noP) vb)∧Sb w B vb (ps.getD i noP).b)
theorem Pgs.keep {w w':World} {B:Nat} {v:Value} {ps:List P} (h:Pgs w B v ps) (hb:Below B w w'):Pgs w' B v ps:=by
 obtain ⟨A,n,c,e,h1,h2,h3,h4⟩:=h
 refine ⟨A,n,c,e,h1,h2,h3,fun hn=>?_⟩
 obtain ⟨b,off,e1,hlt,h5⟩:=h4 hn
 refine ⟨b,off,e1,hlt,fun i hi=>?_⟩
 obtain ⟨vb,h6,h7⟩:=h5 i hi
 exact ⟨vb,rangeAt_below h6 hb hlt,h7.below hb (Nat.le_refl _)⟩
theorem Pgs.more {w:World} {B B':Nat} {v:Value} {ps:List P} (h:Pgs w B v ps) (hB:B≤B'):Pgs w B' v ps:=by
 obtain ⟨A,n,c,e,h1,h2,h3,h4⟩:=h
 refine ⟨A,n,c,e,h1,h2,h3,fun hn=>?_⟩
 obtain ⟨b,off,e1,hlt,h5⟩:=h4 hn
 refine ⟨b,off,e1,by omega,fun i hi=>?_⟩
 obtain ⟨vb,h6,h7⟩:=h5 i hi
 exact ⟨vb,h6,h7.more hB⟩
theorem Pgs.below {w w':World} {B B':Nat} {v:Value} {ps:List P} (h:Pgs w B v ps) (hb:Below B' w w') (hB:B≤B'):Pgs w' B v ps:=h.keep (hb.mono hB)
theorem pgs_nil (w:World) (B:Nat):Pgs w B (.slice none 0 0) []:=⟨none,0,0,rfl,rfl,Nat.le_refl _,by unfold maxLen;omega,fun h=>absurd h (by omega)⟩
theorem pgs_len {w:World} {B n c:Nat} {A:Option Addr} {ps:List P} (h:Pgs w B (.slice A n c) ps):ps.length=n∧n≤c∧c≤maxLen:=by
 obtain ⟨A',n',c',e,h1,h2,h3,h4⟩:=h
 injection e with e1 e2 e3
 subst e1 e2 e3
 exact ⟨h1,h2,h3⟩
theorem pgs_at {w:World} {B n c:Nat} {A:Option Addr} {ps:List P} (h:Pgs w B (.slice A n c) ps) (hn:0<n) :
  ∃ b off,A=some ⟨b,off,none⟩∧b<B∧∀ i,i<n→∃ vb,w.rangeAt b (off+i*7) (row (ps.getD i noP) vb)∧Sb w B vb (ps.getD i noP).b:=by
 obtain ⟨A',n',c',e,h1,h2,h3,h4⟩:=h
 injection e with e1 e2 e3
 subst e1 e2 e3
 exact h4 hn
theorem Pgs.take {w:World} {B n c k:Nat} {A:Option Addr} {ps:List P} (h:Pgs w B (.slice A n c) ps) (hk:k≤n):Pgs w B (.slice A k c) (ps.take k):=by
 obtain ⟨h1,h2,h3⟩:=pgs_len h
 refine ⟨A,k,c,rfl,by rw [List.length_take];omega,by omega,h3,fun h0=>?_⟩
 obtain ⟨b,off,e,hlt,h5⟩:=pgs_at h (by omega)
 refine ⟨b,off,e,hlt,fun i hi=>?_⟩
 obtain ⟨vb,h6,h7⟩:=h5 i (by omega)
 have:(ps.take k).getD i noP=ps.getD i noP:=by simp [List.getD,List.getElem?_take,hi]
 rw [this]
 exact ⟨vb,h6,h7⟩
theorem row_cell {w:World} {b o:Nat} {p:P} {v:Value} (h:w.rangeAt b o (row p v)) :
  w.cell? ⟨b,o,none⟩=some (.int .i64 p.kind)∧w.cell? ⟨b,o+5,none⟩=some (.int .i64 p.parts)∧w.cell? ⟨b,o+6,none⟩=some v:=⟨h 0 _ rfl,h 5 _ rfl,h 6 _ rfl⟩
theorem load_row (w:World) (b o:Nat) (p:P) (v:Value) (h:w.rangeAt b o (row p v)) :
  (Instr.loadAt 125 (.pointer (some ⟨b,o,none⟩))).run Tryz.prog w=.ok (pgV p v) w :=
 run_loadAt_mid w b o 125 (row p v) _ h Tryz.underlying125 rfl (by rw [size24];rfl)
end Go.Proofs.YtplpmemlaohlaaaGreat.Rcd
namespace Go.Proofs.YtplpmemlaohlaaaGreat.Rcd
open Go.RowKit Mem Oct Pg
set_option linter.unusedVariables false
set_option linter.unusedSimpArgs false
def partsI (n:Int):Nat:=if n<0 then 0 else parts n.toNat
theorem partsI_nat (n:Nat):partsI (n:Int)=parts n:=by unfold partsI;rw [if_neg (by omega)];rfl
theorem partsI_low {n:Int} (h:decide (n<0)=true):partsI n=0:=by unfold partsI;rw [if_pos (by simpa using h)]
theorem partsI_high {n:Int} (h:decide (7808<n)=true):partsI n=0:=by
 simp only [decide_eq_true_eq] at h
 unfold partsI
 rw [if_neg (by omega),parts_zero (by omega)]
theorem partsI_in {n:Int} (h:decide (n<0)=false) (h2:decide (7808<n)=false):∃ k:Nat,n=k∧k≤7808:=by
 simp only [decide_eq_false_iff_not] at h h2
 exact ⟨n.toNat,by omega,by omega⟩
set_option maxRecDepth 20000 in
set_option maxHeartbeats 1000000 in
theorem parts_any (n:Int) (w:World) :
  Calls Tryz.prog 151 #[.int .i64 n] w fun e w'=>e=.returned (.int .i64 (partsI n:Nat))∧w=w':=by
 cases h0:decide (n<0)
 ·cases h1:decide (7808<n)
  ·obtain ⟨k,rfl,hk⟩:=partsI_in h0 h1
   have hm:(partsI k:Nat)=if k=0 then 1 else (k+487) / 488:=by
    rw [partsI_nat]
    unfold parts
    rw [if_pos hk]
   have HM:=Lib.hid hm;clear hm
   go_enter Tryz.func151,Tryz.ntmps151
   go_wp2
   all_goals
    go_ret
    exact ⟨ret_int (by have h9:=HM.out;split at h9 <;> omega),rfl⟩
  ·rw [partsI_high h1]
   go_enter Tryz.func151,Tryz.ntmps151
   go_wp2
   go_ret
   exact ⟨rfl,rfl⟩
 ·rw [partsI_low h0]
  go_enter Tryz.func151,Tryz.ntmps151
  go_wp2
  go_ret
  exact ⟨rfl,rfl⟩
end Go.Proofs.YtplpmemlaohlaaaGreat.Rcd
namespace Go.Proofs.YtplpmemlaohlaaaGreat.Rcd
open Go.RowKit Mem Oct Pg
set_option linter.unusedVariables false
set_option linter.unusedSimpArgs false
def Sf (w:World) (lo:Nat) (v:Value) (xs:List Nat):Prop:=∃ (A:Option Addr) (n c:Nat),v=.slice A n c∧Bts w w.heap.size A n xs∧∀ ad,A=some ad→lo≤ad.block
theorem Sf.sb {w:World} {lo:Nat} {v:Value} {xs:List Nat} (h:Sf w lo v xs):Sb w w.heap.size v xs:=by
 obtain ⟨A,n,c,e,hb,_⟩:=h
 exact ⟨A,n,c,e,hb⟩
theorem cut_lhn {w:World} {B n cap:Nat} {A:Option Addr} {xs:List Nat} (h:Bts w B A n xs) (i k:Nat) (hik:i≤k) (hk:k≤n) (hc:n≤cap) :
  ∃ A',(∀ W,(Instr.slice 74 (.slice A n cap) (some (.int .i64 i)) (some (.int .i64 k)) none).run Tryz.prog W=.ok (.slice A' (k - i) (cap - i)) W)∧Bts w B A' (k - i) ((xs.drop i).take (k - i))∧(A'=none→A=none):=by
 obtain ⟨A',e,hb⟩:=bts_sliced h i k hik hk hc
 refine ⟨A',fun W=>?_,hb,fun e0=>?_⟩
 ·rw [run_slice_lh W _ A n cap under22 .i64 .i64 i k (by omega) (by omega) (by omega),size1]
  simp only [Result.andThen,Int.toNat_natCast,e]
 ·subst e0
  unfold sliced at e
  injection e with e1 _ _
  cases A with
  | none=>rfl
  | some ad=>split at e1 <;> simp_all
theorem pdrew {w w':World} (h:Below w.heap.size w w'):Below w.heap.size w w'.drew:=h.drew
set_option maxRecDepth 20000 in
set_option maxHeartbeats 8000000 in
theorem part_at (p:P) (v:Value) (A:Option Addr) (n c i k m:Nat) (bs:List Nat) (w:World) (h:Sl w w.heap.size (.slice A n c) bs) (hik:i*488≤k) (hkn:k≤n) (hn:n≤7808) (hi:i≤16) (hm:m≤16)
  (hx0 : -9223372036854775808≤p.index+i) (hx1:p.index+i≤9223372036854775807) (hcase:(n≤i*488+488∧k=n)∨(i*488+488<n∧k=i*488+488)) :
  Calls Tryz.prog 152 #[pgV p v,.slice A n c,.int .i64 (i:Nat),.int .i64 (m:Nat)] w fun e w' =>
   ∃ v',e=.returned (pgV ⟨p.kind,p.gen,p.mark,p.index+i,i,m,(bs.drop (i*488)).take (k - i*488)⟩ v')∧Sf w' w.heap.size v' ((bs.drop (i*488)).take (k - i*488))∧Below w.heap.size w w':=by
 obtain ⟨hbt,hnc,hcm,hnil⟩:Bts w w.heap.size A n bs∧n≤c∧c≤maxLen∧(A=none→c=0):=by
  obtain ⟨A',n',c',e,h1,h2,h3,h4⟩:=h
  injection e with e1 e2 e3
  subst e1 e2 e3
  exact ⟨h1,h2,h3,h4⟩
 obtain ⟨kind,gen,mark,index,part,parts,b⟩:=p
 simp only at hx0 hx1
 unfold pgV
 simp only
 have kb1:=(Blk.new w 125 #[.int .i64 kind,.int .i64 gen,.int .i64 mark,.int .i64 index,.int .i64 part,.int .i64 parts,v]).alloc (Obj.cells #[.int .i64 0,.int .i64 0,.int .i64 0,.int .i64 0,.int .i64 0,.int .i64 0,.slice none 0 0] 125)
 have kz0:=Blk.new (w.alloc (Obj.cells #[.int .i64 kind,.int .i64 gen,.int .i64 mark,.int .i64 index,.int .i64 part,.int .i64 parts,v] 125)) 125 #[.int .i64 0,.int .i64 0,.int .i64 0,.int .i64 0,.int .i64 0,.int .i64 0,.slice none 0 0]
 rw [show (w.alloc (Obj.cells #[.int .i64 kind,.int .i64 gen,.int .i64 mark,.int .i64 index,.int .i64 part,.int .i64 parts,v] 125)).heap.size=w.heap.size+1 by simp] at kz0
 have hb1:Below w.heap.size w ((w.alloc (Obj.cells #[.int .i64 kind,.int .i64 gen,.int .i64 mark,.int .i64 index,.int .i64 part,.int .i64 parts,v] 125)).alloc (Obj.cells #[.int .i64 0,.int .i64 0,.int .i64 0,.int .i64 0,.int .i64 0,.int .i64 0,.slice none 0 0] 125)):=((Below.refl _ w).alloc (Nat.le_refl _) _).alloc (by simp) _
 have hs2:((w.alloc (Obj.cells #[.int .i64 kind,.int .i64 gen,.int .i64 mark,.int .i64 index,.int .i64 part,.int .i64 parts,v] 125)).alloc (Obj.cells #[.int .i64 0,.int .i64 0,.int .i64 0,.int .i64 0,.int .i64 0,.int .i64 0,.slice none 0 0] 125)).heap.size=w.heap.size+2:=by simp
 obtain ⟨A5,hc5,hb5,hn5⟩:=cut_lhn hbt (i*488) k hik hkn hnc
 have hnil5:A5=none→c - i*488=0:=fun e=>by
  have:=hnil (hn5 e)
  omega
 have cl:=fun (W:World) (hW:Below w.heap.size w W)=>clone_any A5 (k - i*488) (c - i*488) _ W (by omega) hnil5 ((hb5.below hW (Nat.le_refl _)).more hW.size)
 have e488:((i*488:Nat):Int)=(i:Int)*488:=by omega
 rw [e488] at hc5
 have k0:=kb1.cell 0
 have k1:=kb1.cell 1
 have k2:=kb1.cell 2
 have k3:=kb1.cell 3
 simp at k0 k1 k2 k3
 have KB:=Lib.hid kb1;clear kb1
 have KZ:=Lib.hid kz0;clear kz0
 have HB1:=Lib.hid hb1;clear hb1
 have CL:=Lib.hid cl;clear cl
 have HX:=Lib.hid hbt.2.1
 clear hbt hb5 hnil hnil5 hn5 h
 rcases hcase with ⟨hcs,hkk⟩ | ⟨hcs,hkk⟩
 all_goals
  have hmin:min ((i:Int)*488+488) (n:Int)=(k:Int):=by omega
  have HMIN:=Lib.hid hmin;clear hmin hcs hkk
  go_enter Tryz.func152,Tryz.ntmps152
  go_wp2
  rw [HMIN.out]
  generalize hw2:(w.alloc (Obj.cells #[.int .i64 kind,.int .i64 gen,.int .i64 mark,.int .i64 index,.int .i64 part,.int .i64 parts,v] 125)).alloc (Obj.cells #[.int .i64 0,.int .i64 0,.int .i64 0,.int .i64 0,.int .i64 0,.int .i64 0,.slice none 0 0] 125)=w2 at *
  have hlt1:w.heap.size+1<w2.heap.size:=by omega
  have hlt0:w.heap.size<w2.heap.size:=by omega
  have hwr:IntKind.i64.wrap (index+(i:Int))=index+i:=by rw [IntKind.wrap_i64];omega
  have k0:=KB.out.cell 0
  have k1:=KB.out.cell 1
  have k2:=KB.out.cell 2
  have k3:=KB.out.cell 3
  simp at k0 k1 k2 k3
  go_region_held3 (fun W=>W.cell? ⟨w.heap.size,0,none⟩=some (.int .i64 kind)∧W.cell? ⟨w.heap.size,1,none⟩=some (.int .i64 gen)∧W.cell? ⟨w.heap.size,2,none⟩=some (.int .i64 mark)∧W.cell? ⟨w.heap.size,3,none⟩=some (.int .i64 index))
   (first
    | with_reducible exact ⟨k0,k1,k2,k3⟩
    | with_reducible exact ⟨m0,m1,m2,m3⟩
    | go_keep)
   (first | (go_at_call 138;refine (CL.out _ ?hbw).mono ?_;(case hbw=>with_reducible repeat (first | exact HB1.out | refine below_drewN ?_ _ | refine pdrew ?_));rintro e w3 ⟨v3,rfl,hown,hb⟩;have KB3:=Lib.hid (Blk.below (w:=w2.drew) KB.out hb hlt0);have KZ3:=Lib.hid (Blk.below (w:=w2.drew) KZ.out hb hlt1);have m0:=KB3.out.cell 0;have m1:=KB3.out.cell 1;have m2:=KB3.out.cell 2;have m3:=KB3.out.cell 3;simp at m0 m1 m2 m3;have a0:=KZ3.out.cell 0;have a1:=KZ3.out.cell 1;have a2:=KZ3.out.cell 2;have a3:=KZ3.out.cell 3;have a4:=KZ3.out.cell 4;have a5:=KZ3.out.cell 5;have a6:=KZ3.out.cell 6;simp at a0 a1 a2 a3 a4 a5 a6;have f0:=KZ3.out.frozen 0;have f1:=KZ3.out.frozen 1;have f2:=KZ3.out.frozen 2;have f3:=KZ3.out.frozen 3;have f4:=KZ3.out.frozen 4;have f5:=KZ3.out.frozen 5;have f6:=KZ3.out.frozen 6;have al:=KZ3.out.lt;obtain ⟨A6,c6,rfl⟩:=own_form hown;have HOWN:=Lib.hid hown;have HB3:=Lib.hid (Below.trans (b:=w2.drew) HB1.out.drew (hb.mono (B':=w.heap.size) (Nat.le_of_lt hlt0)));clear hown))
  go_wp2
  have hgr:=set7_grown w3 (w.heap.size+1) (.int .i64 kind) (.int .i64 gen) (.int .i64 mark) (.int .i64 (index+i)) (.int .i64 (i:Nat)) (.int .i64 (m:Nat)) (.slice A6 (k - i*488) c6)
  have hcutx:∀ x∈(bs.drop (i*488)).take (k - i*488),x<256:=fun x hx=>HX.out x (List.mem_of_mem_drop (List.mem_of_mem_take hx))
  have hb6:=sl_bts (sl_own HOWN.out hcutx (by omega))
  refine bodyPost_ret (v:=.agg #[.int .i64 kind,.int .i64 gen,.int .i64 mark,.int .i64 (index+i),.int .i64 (i:Nat),.int .i64 (m:Nat),.slice A6 (k - i*488) c6]) ?_ rfl ⟨.slice A6 (k - i*488) c6,rfl,⟨A6,_,c6,rfl,(bts_grownU hb6 (noU8_blk KZ3.out) hgr).more hgr.size,?_⟩,?_⟩
  ·simp [results,Tryz.results152,go_sem,a0,a1,a2,a3,a4,a5,a6,al]
  ·intro ad hq
   have h9:=(HOWN.out.lt ad.block (by rw [hq];rfl)).1
   exact Nat.le_trans (Nat.le_of_lt hlt0) h9
  ·exact HB3.out.grown hgr HB3.out.size (fun q hq=>by cases hq;omega)
end Go.Proofs.YtplpmemlaohlaaaGreat.Rcd
namespace Go.Proofs.YtplpmemlaohlaaaGreat.Rcd
open Go.RowKit Mem Oct Pg
set_option linter.unusedVariables false
set_option linter.unusedSimpArgs false
def zPg:Value:=.agg #[.int .i64 0,.int .i64 0,.int .i64 0,.int .i64 0,.int .i64 0,.int .i64 0,.slice none 0 0]
theorem info24:(Tryz.prog.info? 125).map (fun i=>(i.zero,i.size,i.bytes))=some (some zPg,7,72):=by kernel_rfl
theorem Sf.more {w:World} {lo lo':Nat} {v:Value} {xs:List Nat} (h:Sf w lo v xs) (hl:lo'≤lo):Sf w lo' v xs:=by
 obtain ⟨A,n,c,e,hb,h1⟩:=h
 exact ⟨A,n,c,e,hb,fun ad e=>Nat.le_trans hl (h1 ad e)⟩
theorem Sf.below {w w':World} {lo:Nat} {v:Value} {xs:List Nat} (h:Sf w lo v xs) (hb:Below w.heap.size w w'):Sf w' lo v xs:=by
 obtain ⟨A,n,c,e,h1,h2⟩:=h
 exact ⟨A,n,c,e,(h1.below hb (Nat.le_refl _)).more hb.size,h2⟩
theorem setCells_grown (g:Nat):∀ (vs:List Value) (o:Nat) (w:World),w.grownBy (w.setCells g o vs) (some g)
 | [],_,w=>⟨rfl,rfl,rfl,Nat.le_refl _,fun _ _ _=>rfl⟩
 | v::r,o,w=>grown_trans (grown_set w ⟨g,o,none⟩ v) (setCells_grown g r (o+1) _)
theorem Sf.grown {w w':World} {g lo:Nat} {v:Value} {xs:List Nat} (h:Sf w lo v xs) (hg:w.grownBy w' (some g)) (hlo:g<lo):Sf w' lo v xs:=by
 obtain ⟨A,n,c,e,⟨h1,h2,h3,h4⟩,h5⟩:=h
 refine ⟨A,n,c,e,⟨h1,h2,h3,fun h0=>?_⟩,h5⟩
 obtain ⟨b,off,e1,hb,hc⟩:=h4 h0
 have hne:b≠g:=by
  have h6:lo≤b:=h5 _ e1
  omega
 refine ⟨b,off,e1,Nat.lt_of_lt_of_le hb hg.size,fun i hi=>?_⟩
 rw [← hc i hi]
 exact World.cell?_of_block (hg.block b hb (by simpa using hne))
structure Filled (w:World) (g m k:Nat) (F:Nat→P):Prop where
 lt:g<w.heap.size
 there:∀ j,j<m→w.there g (j*7) 7
 rows:∀ j,j<k→∃ vb,w.rangeAt g (j*7) (row (F j) vb)∧Sf w (g+1) vb (F j).b
theorem Filled.below {w w':World} {g m k:Nat} {F:Nat→P} (h:Filled w g m k F) (hb:Below w.heap.size w w'):Filled w' g m k F :=
 ⟨Nat.lt_of_lt_of_le h.lt hb.size,fun j hj=>there_below (h.there j hj) hb h.lt,fun j hj=>by
  obtain ⟨vb,h1,h2⟩:=h.rows j hj
  exact ⟨vb,rangeAt_below h1 hb h.lt,h2.below hb⟩⟩
theorem Filled.step {w:World} {g m k:Nat} {F:Nat→P} {vb:Value} (h:Filled w g m k F) (hk:k<m) (hs:Sf w (g+1) vb (F k).b):Filled (w.setCells g (k*7) (row (F k) vb)) g m (k+1) F:=by
 have hg:=setCells_grown g (row (F k) vb) (k*7) w
 refine ⟨Nat.lt_of_lt_of_le h.lt hg.size,fun j hj=>World.there_setCells (h.there j hj) _ _ _,fun j hj=>?_⟩
 by_cases e:j=k
 ·subst e
  exact ⟨vb,World.rangeAt_setCells_same _ _ _ _ (h.there j hk),hs.grown hg (Nat.lt_succ_self _)⟩
 ·obtain ⟨vb',h1,h2⟩:=h.rows j (by omega)
  exact ⟨vb',World.rangeAt_setCells_apart h1 _ _ _ (.inr (by rw [row_length,row_length];omega)),h2.grown hg (Nat.lt_succ_self _)⟩
theorem Filled.pgs {w:World} {g m:Nat} {F:Nat→P} {ps:List P} (h:Filled w g m m F) (hm:m≤maxLen) (hl:ps.length=m) (hp:∀ i,i<m→ps.getD i noP=F i):Pgs w w.heap.size (.slice (some ⟨g,0,none⟩) m m) ps:=by
 refine ⟨_,_,_,rfl,hl,Nat.le_refl _,hm,fun _=>⟨g,0,rfl,h.lt,fun i hi=>?_⟩⟩
 obtain ⟨vb,h1,h2⟩:=h.rows i hi
 rw [Nat.zero_add,hp i hi]
 exact ⟨vb,h1,h2.sb⟩
theorem filled_made {w:World} {base m:Nat} {g:Nat} {xs:List Value} (h:w.ownsRow base 125 7 (.slice (some ⟨g,0,none⟩) m m) m xs) (hm:0<m) (F:Nat→P):Filled w g m 0 F:=by
 have hl:xs.length=m*7:=h.1
 refine ⟨(h.lt g rfl).2,fun j hj i hi=>⟨?_,h.frozenAt _⟩,fun j hj=>absurd hj (by omega)⟩
 rw [h.cellAt _ (by omega),List.getElem?_eq_getElem (by omega)]
 rfl
theorem fits_yes {p:P} {b:List Nat} (h1:1≤parts b.length) (h:∀ j,j<parts b.length→(nth p b (parts b.length) j).may=true):fits p b=true:=by
 simp only [fits,Bool.and_eq_true,decide_eq_true_eq,List.all_eq_true]
 refine ⟨h1,fun x hx=>?_⟩
 simp only [pages,List.mem_map,List.mem_range] at hx
 obtain ⟨j,hj,rfl⟩:=hx
 exact h j hj
theorem fits_no {p:P} {b:List Nat} {j:Nat} (hj:j<parts b.length) (h:(nth p b (parts b.length) j).may=false):fits p b=false:=by
 cases hf:fits p b
 ·rfl
 ·simp only [fits,Bool.and_eq_true,List.all_eq_true] at hf
  have:=hf.2 (nth p b (parts b.length) j) (by simp only [pages,List.mem_map,List.mem_range];exact ⟨j,hj,rfl⟩)
  rw [h] at this
  cases this
theorem fits_none {p:P} {b:List Nat} (h:parts b.length=0):fits p b=false:=by simp [fits,h]
theorem pages_getD (p:P) (b:List Nat) (i:Nat) (h:i<parts b.length):(pages p b).getD i noP=nth p b (parts b.length) i:=by
 have h2:i<(pages p b).length:=by rw [pages_length];exact h
 simp [List.getD,List.getElem?_eq_getElem h2,pages_get]
theorem part_any (p:P) (v:Value) (A:Option Addr) (n c i m:Nat) (bs:List Nat) (w:World) (h:Sl w w.heap.size (.slice A n c) bs) (hik:i*488≤n) (hn:n≤7808) (hm:m≤16)
  (hx0 : -9223372036854775808≤p.index+i) (hx1:p.index+i≤9223372036854775807) :
  Calls Tryz.prog 152 #[pgV p v,.slice A n c,.int .i64 (i:Nat),.int .i64 (m:Nat)] w fun e w' =>
   ∃ v',e=.returned (pgV (nth p bs m i) v')∧Sf w' w.heap.size v' (nth p bs m i).b∧Below w.heap.size w w':=by
 have hl:bs.length=n:=by
  obtain ⟨A',n',c',e,h1,_⟩:=h
  injection e with e1 e2 e3
  subst e1 e2 e3
  exact h1.1
 by_cases hc:n≤i*488+488
 ·have hp:=part_at p v A n c i n m bs w h hik (Nat.le_refl _) hn (by omega) hm hx0 hx1 (by omega)
  have e:(bs.drop (i*488)).take (n - i*488)=(bs.drop (i*488)).take 488:=by
   rw [List.take_of_length_le (by rw [List.length_drop];omega),List.take_of_length_le (by rw [List.length_drop];omega)]
  rw [e] at hp
  exact hp
 ·obtain ⟨k,hk⟩:∃ k,k=i*488+488:=⟨_,rfl⟩
  have hp:=part_at p v A n c i k m bs w h (by omega) (by omega) hn (by omega) hm hx0 hx1 (by omega)
  rw [show k - i*488=488 by omega] at hp
  exact hp
end Go.Proofs.YtplpmemlaohlaaaGreat.Rcd
namespace Go.Proofs.YtplpmemlaohlaaaGreat.Rcd
open Go.RowKit Mem Oct Pg
set_option linter.unusedVariables false
set_option linter.unusedSimpArgs false
theorem Sf.one {w:World} {lo:Nat} {v:Value} {xs:List Nat} (h:Sf w lo v xs):v.oneCell'=true:=by
 obtain ⟨A,n,c,rfl,_⟩:=h
 rfl
theorem row_all (p:P) {v:Value} (h:v.oneCell'=true):(row p v).toArray.all (·.oneCell')=true:=by
 simp only [row,List.all_toArray,List.all_cons,List.all_nil,h,Bool.and_true]
 rfl
set_option maxRecDepth 20000 in
set_option maxHeartbeats 400000 in
theorem split_none (p:P) (v:Value) (A:Option Addr) (n c:Nat) (w:World) (h0:7808<n) :
  Calls Tryz.prog 97 #[pgV p v,.slice A n c] w fun e w'=>e=.returned (.tuple #[.slice none 0 0,.int .i64 5])∧Below w.heap.size w w':=by
 obtain ⟨kind,gen,mark,index,part,parts_,b⟩:=p
 unfold pgV
 simp only
 have hp:=fun (W:World)=>parts_any (n:Int) W
 rw [partsI_nat,parts_zero h0] at hp
 have e0:((0:Nat):Int)=0:=rfl
 rw [e0] at hp
 clear e0
 have HP:=Lib.hid hp;clear hp
 go_enter Tryz.func97,Tryz.ntmps97
 go_wp2_with (go_at_call 151;refine (HP.out _).mono ?_;rintro e w' ⟨rfl,rfl⟩)
 go_ret2
 exact ⟨rfl,(Below.refl _ w).alloc (Nat.le_refl _) _⟩
set_option maxRecDepth 20000 in
set_option maxHeartbeats 400000 in
theorem split_some (p:P) (v:Value) (A:Option Addr) (n c:Nat) (bs:List Nat) (w:World) (h:Sl w w.heap.size (.slice A n c) bs) (hb:bs.length=n) (h0:n≤7808) (hx:In64 p.index) :
  Calls Tryz.prog 97 #[pgV p v,.slice A n c] w fun e w'=>∃ v',e=.returned (.tuple #[v',.int .i64 (if fits p bs=true then 0 else 1)])∧Pgs w' w'.heap.size v' (if fits p bs=true then pages p bs else [])∧Below w.heap.size w w':=by
 have hp:=fun (W:World)=>parts_any (n:Int) W
 rw [partsI_nat] at hp
 have hm1:=parts_pos h0
 have hm16:=parts_le n
 have hsm:=fun i (hi:i<parts n)=>parts_small hi
 have HSM:=Lib.hid hsm;clear hsm
 have HP:=Lib.hid hp;clear hp
 have HBL:=Lib.hid hb;clear hb
 obtain ⟨m,hm⟩:∃ m,m=parts n:=⟨_,rfl⟩
 rw [← hm] at hm1 hm16 HP HSM
 have HM:=Lib.hid hm;clear hm
 obtain ⟨i0,hi,hz0,hz1,hz2⟩:=info_parts info24
 have HI:=Lib.hid hi;clear hi
 have HZ0:=Lib.hid hz0;clear hz0
 have HZ1:=Lib.hid hz1;clear hz1
 have HZ2:=Lib.hid hz2;clear hz2
 obtain ⟨er,her⟩:∃ er:Int,er=if fits p bs=true then 0 else 1:=⟨_,rfl⟩
 obtain ⟨pl,hpl⟩:∃ pl:List P,pl=if fits p bs=true then pages p bs else []:=⟨_,rfl⟩
 rw [← her,← hpl]
 obtain ⟨kind,gen,mark,index,part,parts_,b⟩:=p
 have HER:=Lib.hid her;clear her
 have HPL:=Lib.hid hpl;clear hpl
 have kb:=Blk.new w 125 #[.int .i64 kind,.int .i64 gen,.int .i64 mark,.int .i64 index,.int .i64 part,.int .i64 parts_,v]
 have hb0:=(Below.refl w.heap.size w).alloc (Nat.le_refl _) (Obj.cells #[.int .i64 kind,.int .i64 gen,.int .i64 mark,.int .i64 index,.int .i64 part,.int .i64 parts_,v] 125)
 have KB:=Lib.hid kb;clear kb
 have HB0:=Lib.hid hb0;clear hb0
 unfold pgV
 simp only
 go_enter Tryz.func97,Tryz.ntmps97
 go_wp2_with (first
  | (go_at_call 151;refine (HP.out _).mono ?_;rintro e w' ⟨rfl,rfl⟩)
  | (at_make;refine wpList_make_full _ rfl _ _ 163 rfl w.heap.size 125 i0 zPg 7 Tryz.underlying163 HI.out HZ0.out HZ1.out _ _ _ _ m rfl rfl rfl rfl (by rw [HZ2.out];omega) (by unfold maxLen;omega) (by simp) ?_;intro w1 hown1 hg1))
 have hsz:(w.alloc (Obj.cells #[.int .i64 kind,.int .i64 gen,.int .i64 mark,.int .i64 index,.int .i64 part,.int .i64 parts_,v] 125)).heap.size=w.heap.size+1:=by simp
 rw [hsz] at hown1
 have fl1:Filled w1 (w.heap.size+1) m 0 (nth ⟨kind,gen,mark,index,part,parts_,b⟩ bs m):=filled_made hown1 (by omega) _
 have kb1:=KB.out.grown hg1 (by simp)
 have hb1:=HB0.out.grown hg1 HB0.out.size (by simp)
 have FL1:=Lib.hid fl1;clear fl1
 have KB1:=Lib.hid kb1;clear kb1
 have HB1:=Lib.hid hb1;clear hb1
 clear hown1 hg1 KB HB0 hsz
 have HH:=Lib.hid h;clear h
 go_loopw [20] (fun i wr=>∃ k:Nat,k≤m∧i=.int .i64 k∧Filled wr (w.heap.size+1) m k (nth ⟨kind,gen,mark,index,part,parts_,b⟩ bs m)∧Below w.heap.size w wr∧Blk wr w.heap.size 125 #[.int .i64 kind,.int .i64 gen,.int .i64 mark,.int .i64 index,.int .i64 part,.int .i64 parts_,v]∧∀ j,j<k→((nth ⟨kind,gen,mark,index,part,parts_,b⟩ bs m) j).may=true) (fun i _=>m - (intOf i).toNat)
 case atStart=>exact ⟨0,Nat.zero_le _,rfl,FL1.out,HB1.out,KB1.out,fun j hj=>absurd hj (by omega)⟩
 case round =>
  obtain ⟨k,hk,rfl,hfl,hbw,hkb,hmy⟩:=hrel
  have HMY:=Lib.hid hmy;clear hmy
  have FL:=Lib.hid hfl;clear hfl
  have HB:=Lib.hid hbw;clear hbw
  have KB:=Lib.hid hkb;clear hkb
  by_cases hlt:k<m
  ·have hi0 : -9223372036854775808≤index+(k:Int)∧index+(k:Int)≤9223372036854775807:=by
    rcases Nat.eq_zero_or_pos k with e | e
    ·have h1:=hx.1
     have h2:=hx.2
     omega
    ·have h1:=win_yes ((may_iff _).1 (HMY.out 0 e)).i
     simp only [nth] at h1
     omega
   have pa:=fun (W:World) (hW:Below w.heap.size w W)=>part_any ⟨kind,gen,mark,index,part,parts_,b⟩ v A n c k m bs W ((HH.out.below hW (Nat.le_refl _)).more hW.size) (HSM.out k hlt) h0 hm16 hi0.1 hi0.2
   have PA:=Lib.hid pa;clear pa hi0
   have hgl:=FL.out.lt
   have hkw:=KB.out.lt
   have hpm:parts bs.length=m:=by rw [HBL.out];exact HM.out.symm
   cases hmay:((nth ⟨kind,gen,mark,index,part,parts_,b⟩ bs m) k).may
   ·go_wp2_with (first
     | (refine wpList_load_row rfl 125 (.tmp 2) rfl w.heap.size rfl 125 #[.int .i64 kind,.int .i64 gen,.int .i64 mark,.int .i64 index,.int .i64 part,.int .i64 parts_,v] (0,0) _ KB.out Tryz.underlying125 rfl (by rw [size24];rfl) ?_)
     | (go_at_call 152;refine (PA.out _ ?hb).mono ?_;(case hb=>with_reducible repeat (first | exact HB.out | refine below_drewN ?_ _ | refine pdrew ?_));rintro e w3 ⟨v3,rfl,hsf,hb3⟩;have H1C:=Lib.hid hsf.one;have HS3:=Lib.hid (hsf.more (Nat.succ_le_of_lt FL.out.lt));have FL3:=Lib.hid (FL.out.below hb3);have KB3:=Lib.hid (KB.out.below hb3 hkw);have HB3:=Lib.hid (HB.out.trans (hb3.mono HB.out.size));clear hsf hb3)
     | (refine wpList_store_mid rfl 125 (.tmp 30) (.tmp 29) rfl (w.heap.size+1) (k*7) (row ((nth ⟨kind,gen,mark,index,part,parts_,b⟩ bs m) k) v3).toArray rfl rfl (FL3.out.there k hlt) (by rw [size24];rfl) (row_all _ H1C.out) ?_;rw [List.toList_toArray];have FL4:=Lib.hid (FL3.out.step hlt HS3.out);have hg4:=setCells_grown (w.heap.size+1) (row ((nth ⟨kind,gen,mark,index,part,parts_,b⟩ bs m) k) v3) (k*7) w3;have KB4:=Lib.hid (KB3.out.grown hg4 (by simp));have HB4:=Lib.hid (HB3.out.grown hg4 HB3.out.size (fun q hq=>by cases hq;omega));have RG4:=Lib.hid (World.rangeAt_setCells_same w3 (w.heap.size+1) (k*7) (row ((nth ⟨kind,gen,mark,index,part,parts_,b⟩ bs m) k) v3) (FL3.out.there k hlt));have HS4:=Lib.hid ((HS3.out.grown hg4 (Nat.lt_succ_self _)).sb);clear hg4;generalize hw4:World.setCells w3 (w.heap.size+1) (k*7) (row ((nth ⟨kind,gen,mark,index,part,parts_,b⟩ bs m) k) v3)=w4 at FL4 KB4 HB4 RG4 HS4 ⊢;clear hw4)
     | (refine wpList_load_mid rfl 125 (.tmp 34) rfl (w.heap.size+1) (k*7) rfl (row ((nth ⟨kind,gen,mark,index,part,parts_,b⟩ bs m) k) v3) _ RG4.out Tryz.underlying125 rfl (by rw [size24];rfl) ?_)
     | (go_at_call 99;refine (put_any ((nth ⟨kind,gen,mark,index,part,parts_,b⟩ bs m) k) v3 _ ?hs).mono ?_;(case hs=>exact HS4.out);rintro e w5 ⟨v5,rfl,hs5,hb5⟩;rw [hmay];obtain ⟨A5,n5,c5,rfl,_⟩:=hs5;have FL5:=Lib.hid (FL4.out.below hb5);have KB5:=Lib.hid (KB4.out.below hb5 KB4.out.lt);have HB5:=Lib.hid (HB4.out.trans (hb5.mono HB4.out.size));clear hb5))
    go_ret2
    have hf:=fits_no (p:=⟨kind,gen,mark,index,part,parts_,b⟩) (b:=bs) (j:=k) (by rw [hpm];exact hlt) (by rw [hpm];exact hmay)
    have e1:=HER.out
    have e2:=HPL.out
    rw [hf,if_neg (by simp)] at e1 e2
    subst e1 e2
    exact ⟨_,rfl,pgs_nil _ _,HB5.out⟩
   ·go_wp2_with (first
     | (refine wpList_load_row rfl 125 (.tmp 2) rfl w.heap.size rfl 125 #[.int .i64 kind,.int .i64 gen,.int .i64 mark,.int .i64 index,.int .i64 part,.int .i64 parts_,v] (0,0) _ KB.out Tryz.underlying125 rfl (by rw [size24];rfl) ?_)
     | (go_at_call 152;refine (PA.out _ ?hb).mono ?_;(case hb=>with_reducible repeat (first | exact HB.out | refine below_drewN ?_ _ | refine pdrew ?_));rintro e w3 ⟨v3,rfl,hsf,hb3⟩;have H1C:=Lib.hid hsf.one;have HS3:=Lib.hid (hsf.more (Nat.succ_le_of_lt FL.out.lt));have FL3:=Lib.hid (FL.out.below hb3);have KB3:=Lib.hid (KB.out.below hb3 hkw);have HB3:=Lib.hid (HB.out.trans (hb3.mono HB.out.size));clear hsf hb3)
     | (refine wpList_store_mid rfl 125 (.tmp 30) (.tmp 29) rfl (w.heap.size+1) (k*7) (row ((nth ⟨kind,gen,mark,index,part,parts_,b⟩ bs m) k) v3).toArray rfl rfl (FL3.out.there k hlt) (by rw [size24];rfl) (row_all _ H1C.out) ?_;rw [List.toList_toArray];have FL4:=Lib.hid (FL3.out.step hlt HS3.out);have hg4:=setCells_grown (w.heap.size+1) (row ((nth ⟨kind,gen,mark,index,part,parts_,b⟩ bs m) k) v3) (k*7) w3;have KB4:=Lib.hid (KB3.out.grown hg4 (by simp));have HB4:=Lib.hid (HB3.out.grown hg4 HB3.out.size (fun q hq=>by cases hq;omega));have RG4:=Lib.hid (World.rangeAt_setCells_same w3 (w.heap.size+1) (k*7) (row ((nth ⟨kind,gen,mark,index,part,parts_,b⟩ bs m) k) v3) (FL3.out.there k hlt));have HS4:=Lib.hid ((HS3.out.grown hg4 (Nat.lt_succ_self _)).sb);clear hg4;generalize hw4:World.setCells w3 (w.heap.size+1) (k*7) (row ((nth ⟨kind,gen,mark,index,part,parts_,b⟩ bs m) k) v3)=w4 at FL4 KB4 HB4 RG4 HS4 ⊢;clear hw4)
     | (refine wpList_load_mid rfl 125 (.tmp 34) rfl (w.heap.size+1) (k*7) rfl (row ((nth ⟨kind,gen,mark,index,part,parts_,b⟩ bs m) k) v3) _ RG4.out Tryz.underlying125 rfl (by rw [size24];rfl) ?_)
     | (go_at_call 99;refine (put_any ((nth ⟨kind,gen,mark,index,part,parts_,b⟩ bs m) k) v3 _ ?hs).mono ?_;(case hs=>exact HS4.out);rintro e w5 ⟨v5,rfl,hs5,hb5⟩;rw [hmay];obtain ⟨A5,n5,c5,rfl,_⟩:=hs5;have FL5:=Lib.hid (FL4.out.below hb5);have KB5:=Lib.hid (KB4.out.below hb5 KB4.out.lt);have HB5:=Lib.hid (HB4.out.trans (hb5.mono HB4.out.size));clear hb5))
    go_roundw
    case rel =>
     refine ⟨k+1,by omega,by go_num,FL5.out,HB5.out,KB5.out,fun j hj=>?_⟩
     by_cases e:j=k
     ·subst e
      exact hmay
     ·exact HMY.out j (by omega)
    case measure=>simp [intOf];omega
  ·obtain rfl:k=m:=by omega
   have hpm:parts bs.length=k:=by rw [HBL.out];exact HM.out.symm
   go_wp2
   go_ret2
   have hf:fits ⟨kind,gen,mark,index,part,parts_,b⟩ bs=true:=fits_yes (by rw [hpm];exact hm1) (fun j hj=>by rw [hpm];rw [hpm] at hj;exact HMY.out j hj)
   have e1:=HER.out
   have e2:=HPL.out
   rw [hf,if_pos rfl] at e1 e2
   subst e1 e2
   exact ⟨_,rfl,FL.out.pgs (by unfold maxLen;omega) (by rw [pages_length,hpm]) (fun i hi=>by rw [pages_getD _ _ _ (by rw [hpm];exact hi),hpm]),HB.out⟩
theorem split_any (p:P) (v:Value) (A:Option Addr) (n c:Nat) (bs:List Nat) (w:World) (h:Sl w w.heap.size (.slice A n c) bs) (hb:bs.length=n) (hx:In64 p.index) :
  Calls Tryz.prog 97 #[pgV p v,.slice A n c] w fun e w'=>∃ v',e=.returned (.tuple #[v',.int .i64 (if 7808<n then 5 else if fits p bs=true then 0 else 1)])∧Pgs w' w'.heap.size v' (if fits p bs=true then pages p bs else [])∧Below w.heap.size w w':=by
 by_cases h0:7808<n
 ·refine (split_none p v A n c w h0).mono ?_
  rintro e w' ⟨rfl,hb'⟩
  rw [fits_none (by rw [hb];exact parts_zero h0)]
  exact ⟨_,by rw [if_pos h0],pgs_nil _ _,hb'⟩
 ·rw [if_neg h0]
  exact split_some p v A n c bs w h hb (by omega) hx
end Go.Proofs.YtplpmemlaohlaaaGreat.Rcd
namespace Go.Proofs.YtplpmemlaohlaaaGreat.Rcd
open Go.RowKit Mem Oct Pg
set_option linter.unusedVariables false
set_option linter.unusedSimpArgs false
theorem told_eq {l:List P} {T:Int} (h:(l.getD 0 noP).parts=T) (h0:0<l.length):told l=if 1≤T∧T≤l.length∧T≤16 then l.take T.toNat else []:=by
 cases l with
 | nil=>simp at h0
 | cons q r =>
  subst h
  rfl
set_option maxRecDepth 20000 in
set_option maxHeartbeats 2000000 in
theorem told_any (A:Option Addr) (n c:Nat) (ps:List P) (w:World) (h:Pgs w w.heap.size (.slice A n c) ps) (hn:n≤1000) :
  Calls Tryz.prog 171 #[.slice A n c] w fun e w'=>(∃ A' k c',e=.returned (.slice A' k c')∧(told ps).length=k∧Pgs w w.heap.size (.slice A' k c') (told ps))∧w=w':=by
 obtain ⟨hl,hnc,hcm⟩:=pgs_len h
 by_cases h0:n=0
 ·subst h0
  have e:told ps=[]:=by
   have:ps=[]:=List.eq_nil_of_length_eq_zero hl
   subst this
   rfl
  rw [e]
  go_enter Tryz.func171,Tryz.ntmps171
  go_wp2
  go_ret
  exact ⟨⟨_,_,_,rfl,rfl,pgs_nil _ _⟩,rfl⟩
 ·obtain ⟨b,off,rfl,hb,hc⟩:=pgs_at h (by omega)
  obtain ⟨vb,hr,_⟩:=hc 0 (by omega)
  have c5:=(row_cell hr).2.1
  generalize hT:(ps.getD 0 noP).parts=T at c5
  have ht:=told_eq hT (by omega)
  rw [hl] at ht
  rw [show off+0*7+5=off+5 by omega] at c5
  have h00:((n:Int) == 0)=false:=by rw [beq_eq_false_iff_ne];omega
  have HC:=Lib.hid hc;clear hc
  have HT:=Lib.hid hT;clear hT
  have HTT:=Lib.hid ht;clear ht
  have HL:=Lib.hid hl;clear hl
  have HR:=Lib.hid hr;clear hr
  have HP:=Lib.hid h;clear h
  by_cases h1:T<1
  ·have hd:decide (T<1)=true:=by simpa using h1
   have e:=HTT.out
   rw [if_neg (by omega)] at e
   rw [e]
   go_enter Tryz.func171,Tryz.ntmps171
   go_wp2
   go_ret
   exact ⟨⟨_,_,_,rfl,rfl,pgs_nil _ _⟩,rfl⟩
  ·have hd:decide (T<1)=false:=by simpa using h1
   by_cases h2:min (n:Int) 16<T
   ·have hd2:decide (min (n:Int) 16<T)=true:=by simpa using h2
    have e:=HTT.out
    rw [if_neg (by omega)] at e
    rw [e]
    go_enter Tryz.func171,Tryz.ntmps171
    go_wp2
    all_goals
     go_ret
     exact ⟨⟨_,_,_,rfl,rfl,pgs_nil _ _⟩,rfl⟩
   ·have hd2:decide (min (n:Int) 16<T)=false:=by simpa using h2
    obtain ⟨k,rfl⟩:∃ k:Nat,T=k:=⟨T.toNat,by omega⟩
    have e:=HTT.out
    rw [if_pos (by omega),Int.toNat_natCast] at e
    rw [e]
    have hk:k≤n:=by omega
    have hkc:k≤c:=by omega
    have hk2:k≤16:=by omega
    go_enter Tryz.func171,Tryz.ntmps171
    go_wp2
    all_goals
     go_ret
     exact ⟨⟨_,_,_,rfl,by have:=HL.out;first | omega | (rw [List.length_take];omega),HP.out.take hk⟩,rfl⟩
theorem palloc {w w':World} (h:Below w.heap.size w w') (o:Obj):Below w.heap.size w (w'.alloc o):=h.alloc h.size o
theorem sb_up {w w':World} {A:Option Addr} {n c:Nat} {xs:List Nat} (h:Bts w w.heap.size A n xs) (hb:Below w.heap.size w w'):Sb w' w'.heap.size (.slice A n c) xs:=⟨A,n,c,rfl,(h.below hb (Nat.le_refl _)).more hb.size⟩
theorem below_up {w w1 w2:World} (h:Below w1.heap.size w1 w2) (hb:Below w.heap.size w w1):Below w.heap.size w w2:=hb.trans (h.mono hb.size)
theorem getD_ne {ps qs:List P} {k:Nat} (h:ps.getD k noP≠qs.getD k noP):ps≠qs:=fun e=>h (by rw [e])
theorem list_eq {ps qs:List P} (hl:ps.length=qs.length) (h:∀ j,j<ps.length→ps.getD j noP=qs.getD j noP):ps=qs:=by
 apply List.ext_getElem hl
 intro i h1 h2
 have:=h i h1
 simpa [List.getD,List.getElem?_eq_getElem h1,List.getElem?_eq_getElem h2] using this
set_option maxRecDepth 20000 in
set_option maxHeartbeats 4000000 in
theorem eqf_any (A A':Option Addr) (n n' c c':Nat) (ps qs:List P) (w:World) (h:Pgs w w.heap.size (.slice A n c) ps) (h':Pgs w w.heap.size (.slice A' n' c') qs) (hn:n≤1000) :
  Calls Tryz.prog 172 #[.slice A n c,.slice A' n' c',.func (.func 173) #[] #[]] w fun e w'=>e=.returned (.bool (decide (ps=qs)))∧Below w.heap.size w w':=by
 obtain ⟨hl,hnc,hcm⟩:=pgs_len h
 obtain ⟨hl',hnc',hcm'⟩:=pgs_len h'
 by_cases hnn:n=n'
 ·subst hnn
  obtain ⟨dd,hdd⟩:∃ dd,dd=decide (ps=qs):=⟨_,rfl⟩
  rw [← hdd]
  have HDD:=Lib.hid hdd;clear hdd
  have HL:=Lib.hid hl;clear hl
  have HL':=Lib.hid hl';clear hl'
  have HP:=Lib.hid h;clear h
  have HP':=Lib.hid h';clear h'
  go_enter Tryz.func172,Tryz.ntmps172
  go_wp2
  go_loopw [17] (fun i wr=>∃ k:Nat,k≤n∧i=.int .i64 k∧Below w.heap.size w wr∧∀ j,j<k→ps.getD j noP=qs.getD j noP) (fun i _=>n - (intOf i).toNat)
  case atStart=>exact ⟨0,Nat.zero_le _,rfl,Below.refl _ _,fun j hj=>absurd hj (by omega)⟩
  case round =>
   obtain ⟨k,hk,rfl,hbw,heq⟩:=hrel
   have HB:=Lib.hid hbw;clear hbw
   have HE:=Lib.hid heq;clear heq
   by_cases hlt:k<n
   ·obtain ⟨b,off,rfl,hb,hc⟩:=pgs_at HP.out (by omega)
    obtain ⟨b',off',rfl,hb',hc'⟩:=pgs_at HP'.out (by omega)
    obtain ⟨v1,hr1,hs1⟩:=hc k hlt
    obtain ⟨v2,hr2,hs2⟩:=hc' k hlt
    obtain ⟨q1,hq1⟩:∃ q,q=ps.getD k noP:=⟨_,rfl⟩
    obtain ⟨q2,hq2⟩:∃ q,q=qs.getD k noP:=⟨_,rfl⟩
    rw [← hq1] at hr1 hs1
    rw [← hq2] at hr2 hs2
    have HQ1:=Lib.hid hq1;clear hq1
    have HQ2:=Lib.hid hq2;clear hq2
    have HR1:=Lib.hid hr1;clear hr1
    have HR2:=Lib.hid hr2;clear hr2
    obtain ⟨A1,n1,c1,rfl,hbt1⟩:=hs1
    obtain ⟨A2,n2,c2,rfl,hbt2⟩:=hs2
    have HS1:=Lib.hid hbt1;clear hbt1
    have HS2:=Lib.hid hbt2;clear hbt2
    clear hc hc'
    cases hde:decide (q1=q2)
    ·have hne:ps.getD k noP≠qs.getD k noP:=fun e=>by
      rw [← HQ1.out,← HQ2.out] at e
      rw [decide_eq_true e] at hde
      cases hde
     have hdf:dd=false:=by rw [HDD.out];exact decide_eq_false (getD_ne hne)
     have HDF:=Lib.hid hdf;clear hdf hne
     go_wp2_with (first
      | (refine wpList_load_mid rfl 125 (.tmp 20) rfl b (off+k*7) rfl [.int .i64 q1.kind,.int .i64 q1.gen,.int .i64 q1.mark,.int .i64 q1.index,.int .i64 q1.part,.int .i64 q1.parts,.slice A1 n1 c1] _ (rangeAt_below HR1.out ?hb1 hb) Tryz.underlying125 rfl (by rw [size24];rfl) ?_;(case hb1=>with_reducible repeat (first | exact HB.out | refine below_drewN ?_ _ | refine pdrew ?_ | refine palloc ?_ _)))
      | (refine wpList_load_mid rfl 125 (.tmp 24) rfl b' (off'+k*7) rfl [.int .i64 q2.kind,.int .i64 q2.gen,.int .i64 q2.mark,.int .i64 q2.index,.int .i64 q2.part,.int .i64 q2.parts,.slice A2 n2 c2] _ (rangeAt_below HR2.out ?hb1 hb') Tryz.underlying125 rfl (by rw [size24];rfl) ?_;(case hb1=>with_reducible repeat (first | exact HB.out | refine below_drewN ?_ _ | refine pdrew ?_ | refine palloc ?_ _))))
     (refine (same_any q1 q2 (.slice A1 n1 c1) (.slice A2 n2 c2) _ ?s1 ?s2).mono ?_;(case s1=>exact sb_up HS1.out (by with_reducible repeat (first | exact HB.out | refine below_drewN ?_ _ | refine pdrew ?_ | refine palloc ?_ _)));(case s2=>exact sb_up HS2.out (by with_reducible repeat (first | exact HB.out | refine below_drewN ?_ _ | refine pdrew ?_ | refine palloc ?_ _)));rintro e w4 ⟨rfl,hb4⟩;rw [hde];have HB4:=Lib.hid (below_up (w:=w) hb4 (by with_reducible repeat (first | exact HB.out | refine below_drewN ?_ _ | refine pdrew ?_ | refine palloc ?_ _)));clear hb4)
     go_wp2
     go_ret
     exact ⟨ret_bool HDF.out.symm,HB4.out⟩
    ·have heq:ps.getD k noP=qs.getD k noP:=by
      rw [← HQ1.out,← HQ2.out]
      exact of_decide_eq_true hde
     have HEQ:=Lib.hid heq;clear heq
     go_wp2_with (first
      | (refine wpList_load_mid rfl 125 (.tmp 20) rfl b (off+k*7) rfl [.int .i64 q1.kind,.int .i64 q1.gen,.int .i64 q1.mark,.int .i64 q1.index,.int .i64 q1.part,.int .i64 q1.parts,.slice A1 n1 c1] _ (rangeAt_below HR1.out ?hb1 hb) Tryz.underlying125 rfl (by rw [size24];rfl) ?_;(case hb1=>with_reducible repeat (first | exact HB.out | refine below_drewN ?_ _ | refine pdrew ?_ | refine palloc ?_ _)))
      | (refine wpList_load_mid rfl 125 (.tmp 24) rfl b' (off'+k*7) rfl [.int .i64 q2.kind,.int .i64 q2.gen,.int .i64 q2.mark,.int .i64 q2.index,.int .i64 q2.part,.int .i64 q2.parts,.slice A2 n2 c2] _ (rangeAt_below HR2.out ?hb1 hb') Tryz.underlying125 rfl (by rw [size24];rfl) ?_;(case hb1=>with_reducible repeat (first | exact HB.out | refine below_drewN ?_ _ | refine pdrew ?_ | refine palloc ?_ _))))
     (refine (same_any q1 q2 (.slice A1 n1 c1) (.slice A2 n2 c2) _ ?s1 ?s2).mono ?_;(case s1=>exact sb_up HS1.out (by with_reducible repeat (first | exact HB.out | refine below_drewN ?_ _ | refine pdrew ?_ | refine palloc ?_ _)));(case s2=>exact sb_up HS2.out (by with_reducible repeat (first | exact HB.out | refine below_drewN ?_ _ | refine pdrew ?_ | refine palloc ?_ _)));rintro e w4 ⟨rfl,hb4⟩;rw [hde];have HB4:=Lib.hid (below_up (w:=w) hb4 (by with_reducible repeat (first | exact HB.out | refine below_drewN ?_ _ | refine pdrew ?_ | refine palloc ?_ _)));clear hb4)
     go_wp2
     go_roundw
     case rel =>
      refine ⟨k+1,by omega,by go_num,HB4.out,fun j hj=>?_⟩
      by_cases e:j=k
      ·subst e
       exact HEQ.out
      ·exact HE.out j (by omega)
     case measure=>simp [intOf];omega
   ·obtain rfl:k=n:=by omega
    have hdt:dd=true:=by
     rw [HDD.out]
     exact decide_eq_true (list_eq (HL.out.trans HL'.out.symm) (fun j hj=>HE.out j (by rw [← HL.out];exact hj)))
    have HDT:=Lib.hid hdt;clear hdt
    go_wp2
    go_ret
    exact ⟨ret_bool HDT.out.symm,HB.out⟩
 ·have hne:((n:Int) != (n':Int))=true:=by rw [bne_iff_ne];omega
  rw [decide_eq_false (fun e:ps=qs=>hnn (by rw [← hl,← hl',e]))]
  go_enter Tryz.func172,Tryz.ntmps172
  go_wp2
  go_ret
  exact ⟨rfl,Below.refl _ _⟩
end Go.Proofs.YtplpmemlaohlaaaGreat.Rcd
namespace Go.Proofs.YtplpmemlaohlaaaGreat.Rcd
open Go.RowKit Mem Oct Pg
set_option linter.unusedVariables false
set_option linter.unusedSimpArgs false
def flat:List P→List Value→List Value
 | p::ps,v::vs=>row p v++flat ps vs
 | _,_=>[]
theorem flat_app:∀ (ps qs:List P) (vs us:List Value),vs.length=ps.length→flat (ps++qs) (vs++us)=flat ps vs++flat qs us
 | [],qs,[],us,_=>rfl
 | p::ps,qs,v::vs,us,h=>by
  rw [List.cons_append,List.cons_append,flat,flat,flat_app ps qs vs us (by simpa using h),List.append_assoc]
theorem flat_get:∀ (ps:List P) (vs:List Value) (i j:Nat),vs.length=ps.length→i<ps.length→j<7→(flat ps vs)[i*7+j]?=(row (ps.getD i noP) (vs.getD i undef))[j]?
 | [],_,i,j,_,hi,_=>absurd hi (by simp)
 | p::ps,v::vs,0,j,h,hi,hj=>by
  rw [flat,Nat.zero_mul,Nat.zero_add,List.getElem?_append_left (by rw [row_length];exact hj)]
  rfl
 | p::ps,v::vs,i+1,j,h,hi,hj=>by
  rw [flat,List.getElem?_append_right (by rw [row_length];omega),row_length,show (i+1)*7+j - 7=i*7+j by omega,flat_get ps vs i j (by simpa using h) (by simpa using hi) hj]
  rfl
theorem flat_one (p:P) (v:Value):flat [p] [v]=row p v:=by simp [flat]
def SbA (w:World) (g:Option Nat) (v:Value) (xs:List Nat):Prop:=∃ (A:Option Addr) (n c:Nat),v=.slice A n c∧Bts w w.heap.size A n xs∧(0<n→∀ ad,A=some ad→some ad.block≠g)
def OwnPgs (w:World) (base:Nat) (v:Value) (ps:List P):Prop :=
 ∃ vs:List Value,vs.length=ps.length∧w.ownsRow base 125 7 v ps.length (flat ps vs)∧∀ i,i<ps.length→SbA w v.ownBlock (vs.getD i undef) (ps.getD i noP).b
theorem getD_app_left {α:Type} (a b:List α) (i:Nat) (d:α) (h:i<a.length):(a++b).getD i d=a.getD i d:=by simp [List.getD,List.getElem?_append_left h]
theorem getD_app_right {α:Type} (a b:List α) (i:Nat) (d:α) (h:a.length≤i):(a++b).getD i d=b.getD (i - a.length) d:=by simp [List.getD,List.getElem?_append_right h]
theorem reads_page (w:World) (cs:Array Value) (g:Nat) (hg:g=w.heap.size) (hs:cs.size=7):Reads (w.alloc (.cells cs 125)) (w.heap.size+1) 7 (some ⟨g,0,none⟩) 1 cs.toList:=by
 subst hg
 refine ⟨by simp [hs],fun _=>⟨_,rfl,Nat.lt_succ_self _,fun j u hu=>?_⟩⟩
 have hk:=Blk.new w 125 cs
 rw [add_plain,Nat.zero_add,hk.cell]
 simpa using hu
end Go.Proofs.YtplpmemlaohlaaaGreat.Rcd
namespace Go.Proofs.YtplpmemlaohlaaaGreat.Rcd
open Go.RowKit Mem Oct Pg
set_option linter.unusedVariables false
set_option linter.unusedSimpArgs false
section
variable {w:World} {base n size:Nat} {e:TypeId} {v:Value} {xs:List Value}
end
theorem row_one (p:P) (A:Option Addr) (n c:Nat):∀ u∈row p (.slice A n c),u.oneCell'=true:=by
 intro u hu
 simp only [row,List.mem_cons,List.not_mem_nil,or_false] at hu
 rcases hu with rfl | rfl | rfl | rfl | rfl | rfl | rfl <;> rfl
end Go.Proofs.YtplpmemlaohlaaaGreat.Rcd
namespace Go.Proofs.YtplpmemlaohlaaaGreat.Rcd
open Go.RowKit Mem Oct Pg
set_option linter.unusedVariables false
set_option linter.unusedSimpArgs false
structure Src (w:World) (B:Nat) (A:Option Addr) (n:Nat) (ps:List P) (us:List Value):Prop where
 len:us.length=ps.length
 num:ps.length=n
 reads:Reads w B 7 A n (flat ps us)
 sb:∀ i,i<ps.length→Sb w B (us.getD i undef) (ps.getD i noP).b
 ones:∀ u∈flat ps us,u.oneCell'=true
end Go.Proofs.YtplpmemlaohlaaaGreat.Rcd
namespace Go.Proofs.YtplpmemlaohlaaaGreat.Rcd
open Go.RowKit Mem Oct Pg
set_option linter.unusedVariables false
set_option linter.unusedSimpArgs false
theorem pgs_lt {w:World} {B:Nat} {v:Value} {ps:List P} (h:Pgs w B v ps):∀ q∈ps,∀ x∈q.b,x<256:=by
 obtain ⟨A,n,c,e,h1,h2,h3,h4⟩:=h
 intro q hq
 obtain ⟨i,hi,rfl⟩:=List.mem_iff_getElem.1 hq
 obtain ⟨b,off,_,_,h5⟩:=h4 (by omega)
 obtain ⟨vb,_,hs⟩:=h5 i (by omega)
 have e:ps.getD i noP=ps[i]:=by simp [List.getD,List.getElem?_eq_getElem hi]
 rw [e] at hs
 exact hs.lt
theorem cat_lt {t:List P} (h:∀ q∈t,∀ x∈q.b,x<256):∀ x∈cat t,x<256:=by
 intro x hx
 simp only [cat,List.mem_flatMap] at hx
 obtain ⟨q,hq,hx⟩:=hx
 exact h q hq x hx
def jb (ps:List P):List Nat × Nat:=(joined ps).getD ([],0)
theorem cat_step (t:List P) (k:Nat) (h:k<t.length):cat (t.take (k+1))=cat (t.take k)++(t.getD k noP).b:=by
 have e:t.take (k+1)=t.take k++[t.getD k noP]:=by
  rw [List.take_add_one,List.getElem?_eq_getElem h]
  simp [List.getD,List.getElem?_eq_getElem h]
 rw [e]
 simp [cat]
theorem cat_len {t:List P} {m:Nat} (h:∀ q∈t,q.b.length≤m):(cat t).length≤t.length*m:=by
 induction t with
 | nil=>simp [cat]
 | cons q r ih =>
  have h1:=ih (fun x hx=>h x (by simp [hx]))
  have h2:=h q (by simp)
  simp only [cat,List.flatMap_cons,List.length_append,List.length_cons] at h1 ⊢
  rw [Nat.succ_mul]
  omega
theorem told_mem {ps:List P} {q:P} (h:q∈told ps):q∈ps:=by
 unfold told at h
 split at h
 ·exact List.mem_of_mem_take h
 ·simp at h
theorem told_len (ps:List P):(told ps).length≤16:=by
 unfold told
 split
 ·rw [List.length_take]
  omega
 ·simp
theorem getD_mem {t:List P} {k:Nat} (h:k<t.length):t.getD k noP∈t:=by
 simp only [List.getD,List.getElem?_eq_getElem h,Option.getD_some]
 exact List.getElem_mem h
set_option maxRecDepth 20000 in
set_option maxHeartbeats 8000000 in
theorem join_any (A:Option Addr) (n c:Nat) (ps:List P) (w:World) (h:Pgs w w.heap.size (.slice A n c) ps) (hn:n≤1000) (hlen:∀ q∈ps,q.b.length≤600) (hin:∀ q∈ps,In64 q.index) :
  Calls Tryz.prog 124 #[.slice A n c] w fun e w'=>∃ v',e=.returned (.tuple #[v',.int .i64 ((jb ps).2:Nat),.bool (joined ps).isSome])∧Sl w' w'.heap.size v' (jb ps).1∧Below w.heap.size w w':=by
 have ht:=told_any A n c ps w h hn
 have hlt16:=told_len ps
 have hln:∀ q∈told ps,q.b.length≤600:=fun q hq=>hlen q (told_mem hq)
 have hint:∀ q∈told ps,In64 q.index:=fun q hq=>hin q (told_mem hq)
 obtain ⟨t,hte⟩:∃ t,t=told ps:=⟨_,rfl⟩
 rw [← hte] at ht hlt16 hln hint
 have HT:=Lib.hid ht;clear ht
 have HTE:=Lib.hid hte;clear hte
 have HLN:=Lib.hid hln;clear hln
 have HIN:=Lib.hid hint;clear hint
 obtain ⟨i5,hi5,hy0,hy1,hy2⟩:=info_parts Tryz.info5
 have HI:=Lib.hid hi5;clear hi5
 have HY0:=Lib.hid hy0;clear hy0
 have HY1:=Lib.hid hy1;clear hy1
 have HY2:=Lib.hid hy2;clear hy2
 clear hlen hin h
 by_cases h0:t=[]
 ·have e1:joined ps=none:=joined_nil (HTE.out.symm.trans h0)
  have e2:jb ps=([],0):=by unfold jb;rw [e1];rfl
  rw [e1,e2]
  subst h0
  go_enter Tryz.func124,Tryz.ntmps124
  go_wp2_with (go_at_call 171;refine (HT.out).mono ?_;rintro e w' ⟨⟨A1,k1,c1,rfl,hk1,hp1⟩,rfl⟩;have hk0:k1=0:=hk1.symm;clear hk1;subst hk0)
  go_ret3
  exact ⟨_,rfl,sl_nil _ _,Below.refl _ _⟩
 ·obtain ⟨q,r,hqr⟩:∃ q r,t=q::r:=by
   cases t with
   | nil=>exact absurd rfl h0
   | cons q r=>exact ⟨q,r,rfl⟩
  have hj:=joined_of (HTE.out.symm.trans hqr)
  rw [← hqr] at hj
  have hq0:t.getD 0 noP=q:=by rw [hqr];rfl
  have htl:0<t.length:=by rw [hqr];simp
  have hqm:q∈t:=by rw [hqr];simp
  have hqi:=HIN.out q hqm
  have HJ:=Lib.hid hj;clear hj
  have HQ0:=Lib.hid hq0;clear hq0
  clear hqr hqm h0
  obtain ⟨ok,hok⟩:∃ ok,ok=(joined ps).isSome:=⟨_,rfl⟩
  obtain ⟨jl,hjl⟩:∃ jl,jl=(jb ps).1:=⟨_,rfl⟩
  obtain ⟨jn,hjn⟩:∃ jn,jn=(jb ps).2:=⟨_,rfl⟩
  rw [← hok,← hjl,← hjn]
  have HOK:=Lib.hid hok;clear hok
  have HJL:=Lib.hid hjl;clear hjl
  have HJN:=Lib.hid hjn;clear hjn
  go_enter Tryz.func124,Tryz.ntmps124
  go_wp2_with (go_at_call 171;refine (HT.out).mono ?_;rintro e w' ⟨⟨A1,k1,c1,rfl,hk1,hp1⟩,rfl⟩;have hk0:((k1:Int) == 0)=false:=(by rw [beq_eq_false_iff_ne];omega);have HK1:=Lib.hid hk1;have hk16:k1≤16:=(by omega);have hk1p:0<k1:=(by omega);clear hk1;have HP1:=Lib.hid hp1;clear hp1)
  go_loopw [5,17] (fun v i wr=>∃ k:Nat,k≤k1∧i=.int .i64 k∧wr.ownsRow w.heap.size 5 1 v (cat (t.take k)).length (vals (cat (t.take k)))∧Below w.heap.size w wr) (fun _ i _=>k1 - (intOf i).toNat)
  case atStart=>exact ⟨0,Nat.zero_le _,rfl,World.ownsRow_nil _ _ _ _,Below.refl _ _⟩
  case round =>
   obtain ⟨k,hk,rfl,hown,hbw⟩:=hrel
   have HO:=Lib.hid hown;clear hown
   have HB:=Lib.hid hbw;clear hbw
   obtain ⟨b,off,rfl,hb,hc⟩:=pgs_at HP1.out hk1p
   have HC:=Lib.hid hc;clear hc
   by_cases hlt:k<k1
   ·obtain ⟨v1,hr1,hs1⟩:=HC.out k hlt
    have hst:=cat_step t k (by have:=HK1.out;omega)
    have hq6:=HLN.out _ (getD_mem (by have:=HK1.out;omega:k<t.length))
    have hcl:(cat (t.take k)).length≤16*600:=by
     have h1:=cat_len (t:=t.take k) (m:=600) (fun q hq=>HLN.out q (List.mem_of_mem_take hq))
     have h2:(t.take k).length≤16:=by rw [List.length_take];omega
     have h3:=Nat.mul_le_mul_right 600 h2
     omega
    obtain ⟨q1,hq1⟩:∃ q,q=t.getD k noP:=⟨_,rfl⟩
    rw [← hq1] at hr1 hs1 hst hq6
    clear hq1
    obtain ⟨A2,n2,c2,rfl,hbt2⟩:=hs1
    have hl2:=hbt2.1
    rw [hl2] at hq6
    have HL2:=Lib.hid hl2;clear hl2
    have HR1:=Lib.hid hr1;clear hr1
    have HS1:=Lib.hid hbt2;clear hbt2
    have HST:=Lib.hid hst;clear hst
    obtain ⟨L,hL⟩:∃ L,L=(cat (t.take k)).length:=⟨_,rfl⟩
    rw [← hL] at hcl HO
    have HLL:=Lib.hid hL;clear hL
    go_wp2_with (first
     | (refine wpList_load_mid rfl 125 (.tmp 19) rfl b (off+k*7) rfl [.int .i64 q1.kind,.int .i64 q1.gen,.int .i64 q1.mark,.int .i64 q1.index,.int .i64 q1.part,.int .i64 q1.parts,.slice A2 n2 c2] _ (rangeAt_below HR1.out ?hb1 hb) Tryz.underlying125 rfl (by rw [size24];rfl) ?_;(case hb1=>with_reducible repeat (first | exact HB.out | refine below_drewN ?_ _ | refine pdrew ?_ | refine palloc ?_ _)))
     | (at_builtin;refine wpList_append_any _ rfl (.tmp 21) (.tmp 23) 74 rfl w.heap.size 5 i5 (.int .u8 0) 1 1 Tryz.underlying74 HI.out HY0.out HY1.out HY2.out rfl (by decide) _ L (vals (cat (t.take k))) rfl (HO.out.alloc (Obj.cells #[.int .i64 q1.kind,.int .i64 q1.gen,.int .i64 q1.mark,.int .i64 q1.index,.int .i64 q1.part,.int .i64 q1.parts,.slice A2 n2 c2] 125)) w.heap.size A2 n2 c2 (vals q1.b) rfl (Bts.reads (Bts.below HS1.out (palloc HB.out (Obj.cells #[.int .i64 q1.kind,.int .i64 q1.gen,.int .i64 q1.mark,.int .i64 q1.index,.int .i64 q1.part,.int .i64 q1.parts,.slice A2 n2 c2] 125)) (Nat.le_refl _))) (vals_one _) (by unfold maxLen;omega) (by omega) (palloc HB.out (Obj.cells #[.int .i64 q1.kind,.int .i64 q1.gen,.int .i64 q1.mark,.int .i64 q1.index,.int .i64 q1.part,.int .i64 q1.parts,.slice A2 n2 c2] 125)).size ?_;intro v5 w5 hown5 hg5 _;rw [← vals_append,← HST.out] at hown5;have HO5:=Lib.hid hown5;have HB5:=Lib.hid ((palloc HB.out (Obj.cells #[.int .i64 q1.kind,.int .i64 q1.gen,.int .i64 q1.mark,.int .i64 q1.index,.int .i64 q1.part,.int .i64 q1.parts,.slice A2 n2 c2] 125)).grown hg5 (palloc HB.out (Obj.cells #[.int .i64 q1.kind,.int .i64 q1.gen,.int .i64 q1.mark,.int .i64 q1.index,.int .i64 q1.part,.int .i64 q1.parts,.slice A2 n2 c2] 125)).size (fun q hq=>((HO.out.alloc (Obj.cells #[.int .i64 q1.kind,.int .i64 q1.gen,.int .i64 q1.mark,.int .i64 q1.index,.int .i64 q1.part,.int .i64 q1.parts,.slice A2 n2 c2] 125)).lt q hq).1));clear hown5 hg5))
    go_roundw
    case rel=>exact ⟨k+1,by omega,by go_num,by rw [show (cat (t.take (k+1))).length=L+n2 by rw [HST.out,List.length_append,HLL.out,HL2.out]];exact HO5.out,HB5.out⟩
    case measure=>simp [intOf];omega
   ·obtain rfl:k=k1:=by omega
    have htk:t.take k=t:=List.take_of_length_le (by have:=HK1.out;omega)
    rw [htk] at HO
    have hcl:(cat t).length≤9600:=by
     have h1:=cat_len (t:=t) (m:=600) HLN.out
     have h2:=Nat.mul_le_mul_right 600 hlt16
     omega
    have hx:=cat_lt (pgs_lt HP1.out)
    obtain ⟨bs,hbs⟩:∃ bs,bs=cat t:=⟨_,rfl⟩
    rw [← hbs] at HO hcl hx HJ
    obtain ⟨L,hL⟩:∃ L,L=bs.length:=⟨_,rfl⟩
    rw [← hL] at HO hcl
    obtain ⟨v1,hr1,hs1⟩:=HC.out 0 hk1p
    rw [HQ0.out] at hr1 hs1
    obtain ⟨A2,n2,c2,rfl,_⟩:=hs1
    have HR1:=Lib.hid hr1;clear hr1
    obtain ⟨A5,c5,rfl⟩:=own_form HO.out
    have hsl:=sl_own HO.out hx (by omega)
    have hsp:=split_any q (.slice A2 n2 c2) A5 L c5 bs wr hsl hL.symm hqi
    have HSL:=Lib.hid hsl;clear hsl
    have HLL:=Lib.hid hL;clear hL
    have HBS:=Lib.hid hbs;clear hbs
    clear hx
    cases hf:fits q bs
    ·rw [hf,if_neg (by simp:¬ false=true),if_neg (by simp:¬ false=true)] at hsp
     obtain ⟨er,her⟩:∃ er:Int,er=if 7808<L then 5 else 1:=⟨_,rfl⟩
     rw [← her] at hsp
     have hne:(er != 0)=true:=by rw [bne_iff_ne];split at her <;> omega
     have e1:joined ps=none:=by rw [HJ.out,hf,if_neg (by simp)]
     have e2:jb ps=([],0):=by unfold jb;rw [e1];rfl
     have o1:ok=false:=by rw [HOK.out,e1];rfl
     have o2:jl=[]:=by rw [HJL.out,e2]
     have o3:jn=0:=by rw [HJN.out,e2]
     have O1:=Lib.hid o1;clear o1
     have O2:=Lib.hid o2;clear o2
     have O3:=Lib.hid o3;clear o3
     have SP:=Lib.hid hsp;clear hsp her e1 e2
     go_wp2_with (first
      | (refine wpList_load_mid rfl 125 (.tmp 28) rfl b (off+0*7) ?hx [.int .i64 q.kind,.int .i64 q.gen,.int .i64 q.mark,.int .i64 q.index,.int .i64 q.part,.int .i64 q.parts,.slice A2 n2 c2] _ (rangeAt_below HR1.out ?hb1 hb) Tryz.underlying125 rfl (by rw [size24];rfl) ?_;(case hx=>first | rfl | simp [Act.eval]);(case hb1=>with_reducible repeat (first | exact HB.out | refine below_drewN ?_ _ | refine pdrew ?_ | refine palloc ?_ _)))
      | (go_at_call 97;refine (SP.out).mono ?_;rintro e w3 ⟨v3,rfl,hp3,hb3⟩;obtain ⟨A3,n3,c3,rfl,_⟩:=id hp3;have HB3:=Lib.hid (below_up (w:=w) hb3 HB.out);clear hb3 hp3))
     go_ret3
     rw [O1.out,O2.out,O3.out]
     exact ⟨_,rfl,sl_nil _ _,HB3.out⟩
    ·have hl78:L≤7808:=by rw [HLL.out];exact fits_len hf
     rw [hf,if_pos rfl,if_pos rfl,if_neg (by omega)] at hsp
     have SP:=Lib.hid hsp;clear hsp
     cases hd:decide (pages q bs=t)
     ·have e1:joined ps=none:=by rw [HJ.out,if_neg (fun h=>absurd (decide_eq_true h.2) (by rw [hd];simp))]
      have e2:jb ps=([],0):=by unfold jb;rw [e1];rfl
      have o1:ok=false:=by rw [HOK.out,e1];rfl
      have o2:jl=[]:=by rw [HJL.out,e2]
      have o3:jn=0:=by rw [HJN.out,e2]
      have O1:=Lib.hid o1;clear o1
      have O2:=Lib.hid o2;clear o2
      have O3:=Lib.hid o3;clear o3
      clear e1 e2
      go_wp2_with (first
       | (refine wpList_load_mid rfl 125 (.tmp 28) rfl b (off+0*7) ?hx [.int .i64 q.kind,.int .i64 q.gen,.int .i64 q.mark,.int .i64 q.index,.int .i64 q.part,.int .i64 q.parts,.slice A2 n2 c2] _ (rangeAt_below HR1.out ?hb1 hb) Tryz.underlying125 rfl (by rw [size24];rfl) ?_;(case hx=>first | rfl | simp [Act.eval]);(case hb1=>with_reducible repeat (first | exact HB.out | refine below_drewN ?_ _ | refine pdrew ?_ | refine palloc ?_ _)))
       | (go_at_call 97;refine (SP.out).mono ?_;rintro e w3 ⟨v3,rfl,hp3,hb3⟩;obtain ⟨A3,n3,c3,rfl,_⟩:=id hp3;have hn3:=(pgs_len hp3).1;have HN3:=Lib.hid hn3;clear hn3;have HB3:=Lib.hid (below_up (w:=w) hb3 HB.out);have HP3:=Lib.hid hp3;clear hb3 hp3)
       | (go_at_call 172;refine (eqf_any A3 (some ⟨b,off,none⟩) n3 k c3 c1 (pages q bs) t _ HP3.out ((HP1.out.below HB3.out (Nat.le_refl _)).more HB3.out.size) ?hn9).mono ?_;(case hn9=>(have h9:=HN3.out;rw [pages_length] at h9;have:=parts_le bs.length;omega));rintro e w4 ⟨rfl,hb4⟩;rw [hd];have HB4:=Lib.hid (below_up (w:=w) hb4 HB3.out);clear hb4))
      go_ret3
      rw [O1.out,O2.out,O3.out]
      exact ⟨_,rfl,sl_nil _ _,HB4.out⟩
     ·have hpt:pages q bs=t:=of_decide_eq_true hd
      have e1:joined ps=some (bs,t.length):=by rw [HJ.out,if_pos ⟨hf,hpt⟩]
      have e2:jb ps=(bs,t.length):=by unfold jb;rw [e1];rfl
      have o1:ok=true:=by rw [HOK.out,e1];rfl
      have o2:jl=bs:=by rw [HJL.out,e2]
      have o3:jn=t.length:=by rw [HJN.out,e2]
      have O1:=Lib.hid o1;clear o1
      have O2:=Lib.hid o2;clear o2
      have O3:=Lib.hid o3;clear o3
      have HPT:=Lib.hid hpt;clear hpt e1 e2
      go_wp2_with (first
       | (refine wpList_load_mid rfl 125 (.tmp 28) rfl b (off+0*7) ?hx [.int .i64 q.kind,.int .i64 q.gen,.int .i64 q.mark,.int .i64 q.index,.int .i64 q.part,.int .i64 q.parts,.slice A2 n2 c2] _ (rangeAt_below HR1.out ?hb1 hb) Tryz.underlying125 rfl (by rw [size24];rfl) ?_;(case hx=>first | rfl | simp [Act.eval]);(case hb1=>with_reducible repeat (first | exact HB.out | refine below_drewN ?_ _ | refine pdrew ?_ | refine palloc ?_ _)))
       | (go_at_call 97;refine (SP.out).mono ?_;rintro e w3 ⟨v3,rfl,hp3,hb3⟩;obtain ⟨A3,n3,c3,rfl,_⟩:=id hp3;have hn3:=(pgs_len hp3).1;have HN3:=Lib.hid hn3;clear hn3;have HSL3:=Lib.hid ((HSL.out.below hb3 (Nat.le_refl _)).more hb3.size);have HB3:=Lib.hid (below_up (w:=w) hb3 HB.out);have HP3:=Lib.hid hp3;clear hb3 hp3)
       | (go_at_call 172;refine (eqf_any A3 (some ⟨b,off,none⟩) n3 k c3 c1 (pages q bs) t _ HP3.out ((HP1.out.below HB3.out (Nat.le_refl _)).more HB3.out.size) ?hn9).mono ?_;(case hn9=>(have h9:=HN3.out;rw [pages_length] at h9;have:=parts_le bs.length;omega));rintro e w4 ⟨rfl,hb4⟩;rw [hd];have HB4:=Lib.hid (below_up (w:=w) hb4 HB3.out);have HSL4:=Lib.hid ((HSL3.out.below hb4 (Nat.le_refl _)).more hb4.size);clear hb4))
      go_ret3
      rw [O1.out,O2.out,O3.out,HK1.out]
      exact ⟨_,rfl,HSL4.out,HB4.out⟩
end Go.Proofs.YtplpmemlaohlaaaGreat.Rcd
namespace Go.Proofs.YtplpmemlaohlaaaGreat.Rcd
open Go.RowKit Mem Oct Pg
set_option linter.unusedVariables false
set_option linter.unusedSimpArgs false
theorem jb_none {ps:List P} (h:joined ps=none):jb ps=([],0):=by unfold jb;rw [h];rfl
theorem jb_some {ps:List P} {x:List Nat × Nat} (h:joined ps=some x):jb ps=x:=by unfold jb;rw [h];rfl
end Go.Proofs.YtplpmemlaohlaaaGreat.Rcd
