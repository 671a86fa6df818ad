/- SlotAll: the texts Sls, Slot, SlotGet, SlotMark, PgRow, SlotPages, SlotLoad, SlotBetter, SlotSecs, SlotRefPut, SlotRSecs in one. (Printed by tools/mergeall.py.) -/
import Derived.Test.YtplpmemlaohlaaaGreatKpLowAll
import Derived.Test.YtplpmemlaohlaaaGreatKpPageAll
import Derived.Test.YtplpmemlaohlaaaGreatKpRecAll
import Derived.Deep.OwnRows
namespace Go.Proofs.YtplpmemlaohlaaaGreat.Mem
open Go.RowKit
set_option linter.unusedVariables false
set_option linter.unusedSimpArgs false
theorem info25:(Tryz.prog.info? 74).map (fun i=>(i.zero,i.size,i.bytes))=some (some (.slice none 0 0),1,24):=by kernel_rfl
def Sls (w:World) (B:Nat) (v:Value) (ss:List (List Nat)):Prop:=∃ (A:Option Addr) (n c:Nat),v=.slice A n c∧ss.length=n∧n≤c∧c≤maxLen ∧
 (0<n→∃ b off,A=some ⟨b,off,none⟩∧b<B∧∀ i,i<n→∃ u,w.cell? ⟨b,off+i,none⟩=some u∧Sl w B u (ss.getD i []))
theorem Sls.keep {w w':World} {B:Nat} {v:Value} {ss:List (List Nat)} (h:Sls w B v ss) (hb:Below B w w'):Sls w' B v ss:=by
 obtain ⟨A,n,c,e,h1,h2,h3,h4⟩:=h
 refine ⟨A,n,c,e,h1,h2,h3,fun hn=>?_⟩
 obtain ⟨b,off,e1,hlt,h5⟩:=h4 hn
 refine ⟨b,off,e1,hlt,fun i hi=>?_⟩
 obtain ⟨u,h6,h7⟩:=h5 i hi
 exact ⟨u,by rw [hb.cell (p:=⟨b,off+i,none⟩) hlt];exact h6,h7.below hb (Nat.le_refl _)⟩
theorem Sls.more {w:World} {B B':Nat} {v:Value} {ss:List (List Nat)} (h:Sls w B v ss) (hB:B≤B'):Sls w B' v ss:=by
 obtain ⟨A,n,c,e,h1,h2,h3,h4⟩:=h
 refine ⟨A,n,c,e,h1,h2,h3,fun hn=>?_⟩
 obtain ⟨b,off,e1,hlt,h5⟩:=h4 hn
 refine ⟨b,off,e1,by omega,fun i hi=>?_⟩
 obtain ⟨u,h6,h7⟩:=h5 i hi
 exact ⟨u,h6,h7.more hB⟩
theorem Sls.up {w w':World} {v:Value} {ss:List (List Nat)} (h:Sls w w.heap.size v ss) (hb:Below w.heap.size w w'):Sls w' w'.heap.size v ss:=(h.keep hb).more hb.size
theorem sls_nil (w:World) (B:Nat):Sls w B (.slice none 0 0) []:=⟨none,0,0,rfl,rfl,Nat.le_refl _,by unfold maxLen;omega,fun h=>absurd h (by omega)⟩
theorem sls_len {w:World} {B n c:Nat} {A:Option Addr} {ss:List (List Nat)} (h:Sls w B (.slice A n c) ss):ss.length=n∧n≤c∧c≤maxLen:=by
 obtain ⟨A',n',c',e,h1,h2,h3,h4⟩:=h
 injection e with e1 e2 e3
 subst e1 e2 e3
 exact ⟨h1,h2,h3⟩
theorem sls_at {w:World} {B n c:Nat} {A:Option Addr} {ss:List (List Nat)} (h:Sls w B (.slice A n c) ss) (hn:0<n) :
  ∃ b off,A=some ⟨b,off,none⟩∧b<B∧∀ i,i<n→∃ u,w.cell? ⟨b,off+i,none⟩=some u∧Sl w B u (ss.getD i []):=by
 obtain ⟨A',n',c',e,h1,h2,h3,h4⟩:=h
 injection e with e1 e2 e3
 subst e1 e2 e3
 exact h4 hn
theorem Sls.take {w:World} {B n c k:Nat} {A:Option Addr} {ss:List (List Nat)} (h:Sls w B (.slice A n c) ss) (hk:k≤n):Sls w B (.slice A k c) (ss.take k):=by
 obtain ⟨h1,h2,h3⟩:=sls_len h
 refine ⟨A,k,c,rfl,by rw [List.length_take];omega,by omega,h3,fun h0=>?_⟩
 obtain ⟨b,off,e,hlt,h5⟩:=sls_at h (by omega)
 refine ⟨b,off,e,hlt,fun i hi=>?_⟩
 obtain ⟨u,h6,h7⟩:=h5 i (by omega)
 have:(ss.take k).getD i []=ss.getD i []:=by simp [List.getD,List.getElem?_take,hi]
 rw [this]
 exact ⟨u,h6,h7⟩
theorem getD_mem_sl {ss:List (List Nat)} {k:Nat} (h:k<ss.length):ss.getD k []∈ss:=by
 simp only [List.getD,List.getElem?_eq_getElem h,Option.getD_some]
 exact List.getElem_mem h
theorem sl_one {w:World} {B:Nat} {v:Value} {xs:List Nat} (h:Sl w B v xs):v.oneCell'=true∧isBy v=false:=by
 obtain ⟨A,n,c,rfl,_⟩:=h
 exact ⟨rfl,rfl⟩
structure SlSrc (w:World) (B:Nat) (A:Option Addr) (n:Nat) (ss:List (List Nat)) (us:List Value):Prop where
 len:us.length=ss.length
 num:ss.length=n
 reads:Reads w B 1 A n us
 sl:∀ i,i<ss.length→Sl w B (us.getD i undef) (ss.getD i [])
 ones:∀ u∈us,u.oneCell'=true
 nob:∀ u∈us,isBy u=false
def SlRow (w:World) (base:Nat) (v:Value) (ss:List (List Nat)):Prop :=
 ∃ vs:List Value,vs.length=ss.length∧OwnN w base 74 1 v ss.length vs∧∀ i,i<ss.length→Sl w w.heap.size (vs.getD i undef) (ss.getD i [])
theorem SlRow.below {w w':World} {base:Nat} {v:Value} {ss:List (List Nat)} (h:SlRow w base v ss) (hb:Below w.heap.size w w'):SlRow w' base v ss:=by
 obtain ⟨vs,h1,h2,h3⟩:=h
 exact ⟨vs,h1,h2.below hb,fun i hi=>((h3 i hi).below hb (Nat.le_refl _)).more hb.size⟩
theorem slRow_nil (w:World) (base:Nat):SlRow w base (.slice none 0 0) []:=⟨[],rfl,ownN_nil _ _ _ _,fun i hi=>absurd hi (by simp)⟩
theorem getD_left {α:Type} (a b:List α) (i:Nat) (d:α) (h:i<a.length):(a++b).getD i d=a.getD i d:=by simp [List.getD,List.getElem?_append_left h]
theorem getD_right {α:Type} (a b:List α) (i:Nat) (d:α) (h:a.length≤i):(a++b).getD i d=b.getD (i - a.length) d:=by simp [List.getD,List.getElem?_append_right h]
theorem slRow_app {w w':World} {base:Nat} {v v':Value} {ss ts:List (List Nat)} {vs us:List Value} (hl:vs.length=ss.length) (hl':us.length=ts.length) (hn:NoBy w v.ownBlock) (h:∀ i,i<ss.length→Sl w w.heap.size (vs.getD i undef) (ss.getD i []))
  (h':∀ i,i<ts.length→Sl w w.heap.size (us.getD i undef) (ts.getD i [])) (hown:OwnN w' base 74 1 v' (ss.length+ts.length) (vs++us)) (hg:w.grownBy w' v.ownBlock):SlRow w' base v' (ss++ts):=by
 refine ⟨vs++us,by simp [hl,hl'],by rw [List.length_append];exact hown,fun i hi=>?_⟩
 by_cases hc:i<ss.length
 ·rw [getD_left _ _ _ _ hc,getD_left _ _ _ _ (by omega)]
  exact (sl_by (h i hc) hg (Nat.le_refl _) hn).more hg.size
 ·rw [getD_right _ _ _ _ (by omega),getD_right _ _ _ _ (by omega),hl]
  exact (sl_by (h' _ (by rw [List.length_append] at hi;omega)) hg (Nat.le_refl _) hn).more hg.size
theorem slRow_sls {w:World} {base:Nat} {v:Value} {ss:List (List Nat)} (h:SlRow w base v ss):Sls w w.heap.size v ss:=by
 obtain ⟨vs,hl,⟨hown,_⟩,hs⟩:=h
 by_cases h0:ss.length=0
 ·have:ss=[]:=List.eq_nil_of_length_eq_zero h0
  subst this
  rcases hown.2 with ⟨rfl,_⟩ | ⟨g,cap,cur,rfl,_,_,h3,h4,_⟩
  ·exact sls_nil _ _
  ·exact ⟨_,_,_,rfl,rfl,h3,h4,fun h=>absurd h (by simp)⟩
 ·rcases hown.2 with ⟨_,h⟩ | ⟨g,cap,cur,rfl,_,hg,h3,h4,h5,h6⟩
  ·exact absurd h h0
  ·refine ⟨_,_,_,rfl,rfl,h3,h4,fun _=>⟨g,0,rfl,(hown.lt g rfl).2,fun i hi=>⟨vs.getD i undef,?_,hs i hi⟩⟩⟩
   rw [Nat.zero_add,hown.cellAt i (by omega),List.getElem?_eq_getElem (by omega)]
   simp [List.getD,List.getElem?_eq_getElem (by omega:i<vs.length)]
end Go.Proofs.YtplpmemlaohlaaaGreat.Mem
namespace Go.Proofs.YtplpmemlaohlaaaGreat.Slt
open Go.RowKit Mem Oct Pg Rcd
set_option linter.unusedVariables false
set_option linter.unusedSimpArgs false
def pagesBy (f:List Nat→Option P):List (List Nat)→List P
 | []=>[]
 | s::r=>match f s with
  | none=>[]
  | some p=>p::pagesBy f r
def pagesOf (ss:List (List Nat)):List P:=pagesBy got ss
abbrev Bs:=Int × List Nat
def base0 (q:P) (b:List Nat):Option Bs:=if q.kind=1∧q.index=0 then some (q.gen,b) else none
def loaded (ss:List (List Nat)):Option Bs:=match pagesOf ss with
 | []=>none
 | q::r=>match joined (q::r) with
  | none=>none
  | some x=>base0 q x.1
def theB (ss:List (List Nat)):Bs:=(loaded ss).getD (0,[])
def better (a b:List (List Nat)):Option Bs:=match loaded a with
 | none=>loaded b
 | some x=>match loaded b with
  | none=>some x
  | some y=>if x.1<y.1 then some y else some x
def stepO (m:Int):Option P→Int
 | none=>m
 | some p=>max m p.mark
def markStep (m:Int) (s:List Nat):Int:=stepO m (got s)
def markOf (ss:List (List Nat)):Int:=ss.foldl markStep 0
def bP (g m:Int):P:=⟨1,g,m,0,0,0,[]⟩
def sectorsOf (g m:Int) (b:List Nat):List (List Nat):=(pages (bP g m) b).map P.sector
def errOf (g m most:Int) (b:List Nat):Int:=if parts b.length=0∨most<parts b.length then 5 else if fits (bP g m) b=true then 0 else 1
def secs (g m most:Int) (b:List Nat):List (List Nat):=if errOf g m most b=0 then sectorsOf g m b else []
section
variable {f:List Nat→Option P}
theorem by_some {s:List Nat} {r:List (List Nat)} {p:P} (h:f s=some p):pagesBy f (s::r)=p::pagesBy f r:=by
 rw [pagesBy,h]
theorem by_none {s:List Nat} {r:List (List Nat)} (h:f s=none):pagesBy f (s::r)=[]:=by
 rw [pagesBy,h]
theorem by_len (ss:List (List Nat)):(pagesBy f ss).length≤ss.length:=by
 induction ss with
 | nil=>simp [pagesBy]
 | cons s r ih =>
  cases hg:f s with
  | none=>rw [by_none hg];simp
  | some q=>rw [by_some hg];simpa using ih
theorem by_take {ss:List (List Nat)} {k:Nat} (h:(pagesBy f (ss.take k)).length=k) (hk:k<ss.length) :
  pagesBy f (ss.take (k+1))=match f (ss.getD k []) with | none=>pagesBy f (ss.take k) | some p=>pagesBy f (ss.take k)++[p]:=by
 induction ss generalizing k with
 | nil=>simp at hk
 | cons s r ih =>
  cases k with
  | zero =>
   rw [List.take_succ_cons,List.take_zero,List.take_zero,List.getD_cons_zero]
   cases hg:f s with
   | none=>rw [by_none hg];rfl
   | some p=>rw [by_some hg];rfl
  | succ k =>
   rw [List.take_succ_cons] at h
   cases hg:f s with
   | none=>rw [by_none hg] at h;simp at h
   | some p =>
    rw [by_some hg,List.length_cons] at h
    rw [List.take_succ_cons,List.take_succ_cons,by_some hg,by_some hg,ih (by omega) (by simpa using hk),List.getD_cons_succ]
    cases f (r.getD k []) <;> rfl
theorem by_stop {ss:List (List Nat)} {k:Nat} (h:(pagesBy f (ss.take k)).length=k) (hk:k<ss.length) (hg:f (ss.getD k [])=none):pagesBy f ss=pagesBy f (ss.take k):=by
 induction ss generalizing k with
 | nil=>simp at hk
 | cons s r ih =>
  cases k with
  | zero=>rw [List.getD_cons_zero] at hg;rw [by_none hg];rfl
  | succ k =>
   rw [List.take_succ_cons] at h ⊢
   rw [List.getD_cons_succ] at hg
   cases hs:f s with
   | none=>rw [by_none hs] at h;simp at h
   | some p =>
    rw [by_some hs,List.length_cons] at h
    rw [by_some hs,by_some hs,ih (by omega) (by simpa using hk) hg]
theorem by_cut (ss:List (List Nat)) (k:Nat):pagesBy f (ss.take k)=(pagesBy f ss).take k:=by
 induction ss generalizing k with
 | nil=>simp [pagesBy]
 | cons s r ih =>
  cases k with
  | zero=>simp [pagesBy]
  | succ k =>
   rw [List.take_succ_cons]
   cases hs:f s with
   | none=>rw [by_none hs,by_none hs];simp
   | some p=>rw [by_some hs,by_some hs,List.take_succ_cons,ih]
theorem by_all {Q:P→Prop} (hf:∀ s p,f s=some p→Q p) (ss:List (List Nat)):∀ p∈pagesBy f ss,Q p:=by
 induction ss with
 | nil=>intro p hp;simp [pagesBy] at hp
 | cons s r ih =>
  intro p hp
  cases hg:f s with
  | none=>rw [by_none hg] at hp;simp at hp
  | some q =>
   rw [by_some hg] at hp
   rcases List.mem_cons.1 hp with rfl | hp
   ·exact hf s p hg
   ·exact ih p hp
end
theorem pagesOf_some {s:List Nat} {r:List (List Nat)} {p:P} (h:got s=some p):pagesOf (s::r)=p::pagesOf r:=by_some h
theorem pagesOf_none {s:List Nat} {r:List (List Nat)} (h:got s=none):pagesOf (s::r)=[]:=by_none h
theorem got_may {s:List Nat} {p:P} (h:got s=some p):p.may=true∧p.sector=s:=by
 unfold got at h
 split at h
 ·rename_i hh
  injection h with h
  rw [← h]
  exact hh
 ·cases h
theorem pagesOf_may (ss:List (List Nat)):∀ p∈pagesOf ss,p.may=true:=by_all (fun s p h=>(got_may h).1) ss
theorem pagesOf_len (ss:List (List Nat)):(pagesOf ss).length≤ss.length:=by_len ss
theorem pagesOf_take {ss:List (List Nat)} {k:Nat} (h:(pagesOf (ss.take k)).length=k) (hk:k<ss.length) :
  pagesOf (ss.take (k+1))=match got (ss.getD k []) with | none=>pagesOf (ss.take k) | some p=>pagesOf (ss.take k)++[p]:=by_take h hk
theorem pagesOf_stop {ss:List (List Nat)} {k:Nat} (h:(pagesOf (ss.take k)).length=k) (hk:k<ss.length) (hg:got (ss.getD k [])=none):pagesOf ss=pagesOf (ss.take k):=by_stop h hk hg
theorem pagesOf_cut (ss:List (List Nat)) (k:Nat):pagesOf (ss.take k)=(pagesOf ss).take k:=by_cut ss k
theorem told_cut (l:List P):told (l.take 16)=told l:=by
 cases l with
 | nil=>rfl
 | cons q r =>
  have e:∀ t:List P,told (q::t)=if 1≤q.parts∧q.parts≤(q::t).length∧q.parts≤16 then (q::t).take q.parts.toNat else []:=fun t=>rfl
  rw [show (q::r).take 16=q::r.take 15 from rfl,e,e]
  by_cases h:1≤q.parts∧q.parts≤(q::r).length∧q.parts≤16
  ·rw [if_pos h,if_pos ⟨h.1,by simp only [List.length_cons,List.length_take] at h ⊢;omega,h.2.2⟩]
   rw [show q::r.take 15=(q::r).take 16 from rfl,List.take_take]
   congr 1
   omega
  ·rw [if_neg h,if_neg]
   rintro ⟨h1,h2,h3⟩
   exact h ⟨h1,by simp only [List.length_cons,List.length_take] at h2 ⊢;omega,h3⟩
theorem joined_cut (l:List P):joined (l.take 16)=joined l:=by
 unfold joined
 rw [told_cut]
theorem loaded_eq (ss:List (List Nat)) {q:P} {r:List P} (h:pagesOf ss=q::r):loaded ss=match joined (q::r) with | none=>none | some x=>base0 q x.1:=by
 unfold loaded
 rw [h]
theorem loaded_nil {ss:List (List Nat)} (h:pagesOf ss=[]):loaded ss=none:=by
 unfold loaded
 rw [h]
theorem loaded_not {ss:List (List Nat)} (h:joined (pagesOf ss)=none):loaded ss=none:=by
 cases hp:pagesOf ss with
 | nil=>exact loaded_nil hp
 | cons q r =>
  rw [loaded_eq ss hp]
  rw [hp] at h
  rw [h]
theorem sectorsOf_len (g m:Int) (b:List Nat):(sectorsOf g m b).length=parts b.length:=by
 unfold sectorsOf
 rw [List.length_map,pages_length]
theorem sectorsOf_get (g m:Int) (b:List Nat) (i:Nat) (hi:i<parts b.length):(sectorsOf g m b).getD i []=(nth (bP g m) b (parts b.length) i).sector:=by
 unfold sectorsOf pages
 simp [List.getD,hi]
theorem mark_take {ss:List (List Nat)} {k:Nat} (hk:k<ss.length):markOf (ss.take (k+1))=markStep (markOf (ss.take k)) (ss.getD k []):=by
 have e:ss.take (k+1)=ss.take k++[ss.getD k []]:=by
  rw [List.take_add_one,List.getElem?_eq_getElem hk]
  simp [List.getD,List.getElem?_eq_getElem hk]
 unfold markOf
 rw [e,List.foldl_append]
 rfl
end Go.Proofs.YtplpmemlaohlaaaGreat.Slt
namespace Go.Proofs.YtplpmemlaohlaaaGreat.Slt
open Go.RowKit Mem Oct Pg
set_option linter.unusedVariables false
set_option linter.unusedSimpArgs false
theorem get_none (v:Value) (xs:List Nat) (w:World) (h:Sl w w.heap.size v xs) (hl:xs.length≤1000) (hg:got xs=none) :
  Calls Tryz.prog 62 #[v] w fun e w'=>∃ A1 n1 c1,e=.returned (.tuple #[.agg #[.int .i64 0,.int .i64 0,.int .i64 0,.int .i64 0,.int .i64 0,.int .i64 0,.slice A1 n1 c1],.int .i64 2])∧Below w.heap.size w w':=by
 refine (get_any v xs w h hl).mono ?_
 rw [hg]
 rintro e w' ⟨v',rfl,⟨vb,rfl,A1,n1,c1,rfl,_⟩,hb⟩
 exact ⟨A1,n1,c1,rfl,hb⟩
theorem get_some (v:Value) (xs:List Nat) (p:P) (w:World) (h:Sl w w.heap.size v xs) (hl:xs.length≤1000) (hg:got xs=some p) :
  Calls Tryz.prog 62 #[v] w fun e w'=>∃ A1 n1 c1,e=.returned (.tuple #[.agg #[.int .i64 p.kind,.int .i64 p.gen,.int .i64 p.mark,.int .i64 p.index,.int .i64 p.part,.int .i64 p.parts,.slice A1 n1 c1],.int .i64 0])∧Bts w' w'.heap.size A1 n1 p.b∧Below w.heap.size w w':=by
 refine (get_any v xs w h hl).mono ?_
 rw [hg]
 rintro e w' ⟨v',rfl,⟨vb,rfl,A1,n1,c1,rfl,hs⟩,hb⟩
 exact ⟨A1,n1,c1,rfl,hs,hb⟩
end Go.Proofs.YtplpmemlaohlaaaGreat.Slt
namespace Go.Proofs.YtplpmemlaohlaaaGreat.Slt
open Go.RowKit Mem Oct Pg Rcd
set_option linter.unusedVariables false
set_option linter.unusedSimpArgs false
theorem sl_up {w w':World} {v:Value} {xs:List Nat} (h:Sl w w.heap.size v xs) (hb:Below w.heap.size w w'):Sl w' w'.heap.size v xs:=(h.below hb (Nat.le_refl _)).more hb.size
set_option maxRecDepth 20000 in
set_option maxHeartbeats 4000000 in
theorem mark_any (A:Option Addr) (n c:Nat) (ss:List (List Nat)) (w:World) (h:Sls w w.heap.size (.slice A n c) ss) (hn:n≤1000) (hlen:∀ s∈ss,s.length≤600) :
  Calls Tryz.prog 69 #[.slice A n c] w fun e w'=>e=.returned (.int .i64 (markOf ss))∧Below w.heap.size w w':=by
 obtain ⟨hsl,hnc,hcm⟩:=sls_len h
 have HSL:=Lib.hid hsl;clear hsl
 have HS:=Lib.hid h;clear h
 have HLN:=Lib.hid hlen;clear hlen
 go_enter Tryz.func69,Tryz.ntmps69
 go_wp2
 go_loopw [3,10] (fun g i wr=>∃ k:Nat,k≤n∧i=.int .i64 k∧g=.int .i64 (markOf (ss.take k))∧Below w.heap.size w wr) (fun _ i _=>n - (intOf i).toNat)
 case atStart=>exact ⟨0,Nat.zero_le _,rfl,rfl,Below.refl _ _⟩
 case round =>
  obtain ⟨k,hk,rfl,rfl,hbw⟩:=hrel
  have HB:=Lib.hid hbw;clear hbw
  by_cases hlt:k<n
  ·obtain ⟨b,off,rfl,hb,hc⟩:=sls_at HS.out (by omega)
   obtain ⟨u,hu,hus⟩:=hc k hlt
   obtain ⟨A1,n1,c1,rfl,_⟩:=id hus
   have hu':wr.cell? ⟨b,off+k,none⟩=some (.slice A1 n1 c1):=by rw [HB.out.cell (p:=⟨b,off+k,none⟩) hb];exact hu
   have hsl1:(ss.getD k []).length≤600:=HLN.out _ (getD_mem_sl (by have:=HSL.out;omega))
   have hmt:=mark_take (ss:=ss) (k:=k) (by have:=HSL.out;omega)
   obtain ⟨s,hs⟩:∃ s,s=ss.getD k []:=⟨_,rfl⟩
   rw [← hs] at hus hsl1 hmt
   have hup:=sl_up hus HB.out
   have HUP:=Lib.hid hup;clear hup hus hc hs hu
   obtain ⟨g0,hg0⟩:∃ g0,g0=markOf (ss.take k):=⟨_,rfl⟩
   rw [← hg0] at hmt ⊢
   cases hg:got s with
   | none =>
    have hm2:markOf (ss.take (k+1))=g0:=by rw [hmt];unfold markStep;rw [hg];rfl
    have HM2:=Lib.hid hm2;clear hm2 hmt
    have gt:=get_none _ s wr HUP.out (by omega) hg
    have GT:=Lib.hid gt;clear gt hg hg0
    go_wp2_with (go_at_call 62;refine (GT.out).mono ?_;rintro e w4 ⟨A4,n4,c4,rfl,hb4⟩;have HB4:=Lib.hid (HB.out.trans (hb4.mono HB.out.size));clear hb4)
    go_roundw
    case rel=>exact ⟨k+1,by omega,by go_num,by rw [HM2.out],palloc HB4.out _⟩
    case measure=>simp [intOf];omega
   | some p =>
    have hm2:markOf (ss.take (k+1))=max g0 p.mark:=by rw [hmt];unfold markStep;rw [hg];rfl
    have HM2:=Lib.hid hm2;clear hm2 hmt
    have gt:=get_some _ s p wr HUP.out (by omega) hg
    have GT:=Lib.hid gt;clear gt hg hg0
    go_wp2_with (go_at_call 62;refine (GT.out).mono ?_;rintro e w4 ⟨A4,n4,c4,rfl,hbt4,hb4⟩;have HB4:=Lib.hid (HB.out.trans (hb4.mono HB.out.size));clear hb4 hbt4)
    go_roundw
    case rel=>exact ⟨k+1,by omega,by go_num,by rw [HM2.out],palloc HB4.out _⟩
    case measure=>simp [intOf];omega
  ·obtain rfl:k=n:=by omega
   have htk:ss.take k=ss:=List.take_of_length_le (by have:=HSL.out;omega)
   rw [htk]
   go_wp2
   go_ret
   exact ⟨rfl,HB.out⟩
end Go.Proofs.YtplpmemlaohlaaaGreat.Slt
namespace Go.Proofs.YtplpmemlaohlaaaGreat.Slt
open Go.RowKit Mem Oct Pg Rcd
set_option linter.unusedVariables false
set_option linter.unusedSimpArgs false
def PgRow (w:World) (base:Nat) (v:Value) (ps:List P):Prop :=
 ∃ vs:List Value,vs.length=ps.length∧OwnN w base 125 7 v ps.length (flat ps vs)∧∀ i,i<ps.length→Sb w w.heap.size (vs.getD i undef) (ps.getD i noP).b
theorem PgRow.below {w w':World} {base:Nat} {v:Value} {ps:List P} (h:PgRow w base v ps) (hb:Below w.heap.size w w'):PgRow w' base v ps:=by
 obtain ⟨vs,h1,h2,h3⟩:=h
 exact ⟨vs,h1,h2.below hb,fun i hi=>((h3 i hi).below hb (Nat.le_refl _)).more hb.size⟩
theorem pgRow_nil (w:World) (base:Nat):PgRow w base (.slice none 0 0) []:=⟨[],rfl,ownN_nil _ _ _ _,fun i hi=>absurd hi (by simp)⟩
theorem sb_by {w w':World} {B:Nat} {v:Value} {xs:List Nat} {row:Option Nat} (h:Sb w B v xs) (hg:w.grownBy w' row) (hB:B≤w.heap.size) (hn:NoBy w row):Sb w' B v xs:=by
 obtain ⟨A,n,c,e,h1⟩:=h
 exact ⟨A,n,c,e,bts_by h1 hg hB hn⟩
theorem pgRow_pgs {w:World} {base:Nat} {v:Value} {ps:List P} (h:PgRow w base v ps):Pgs w w.heap.size v ps:=by
 obtain ⟨vs,hl,⟨hown,_⟩,hs⟩:=h
 by_cases h0:ps.length=0
 ·have:ps=[]:=List.eq_nil_of_length_eq_zero h0
  subst this
  rcases hown.2 with ⟨rfl,_⟩ | ⟨g,cap,cur,rfl,_,_,h3,h4,_⟩
  ·exact pgs_nil _ _
  ·exact ⟨_,_,_,rfl,rfl,h3,h4,fun h=>absurd h (by simp)⟩
 ·rcases hown.2 with ⟨_,h⟩ | ⟨g,cap,cur,rfl,_,hg,h3,h4,h5,h6⟩
  ·exact absurd h h0
  ·refine ⟨_,_,_,rfl,rfl,h3,h4,fun _=>⟨g,0,rfl,(hown.lt g rfl).2,fun i hi=>⟨vs.getD i undef,fun j u hu=>?_,hs i hi⟩⟩⟩
   have hj:j<7:=(List.getElem?_eq_some_iff.1 hu).1
   rw [Nat.zero_add,hown.cellAt (i*7+j) (by have:=Nat.mul_le_mul_right 7 (Nat.succ_le_of_lt hi);rw [Nat.succ_mul] at this;omega),flat_get ps vs i j hl hi hj]
   exact hu
theorem row_nob (p:P) (A:Option Addr) (n c:Nat):∀ u∈row p (.slice A n c),isBy u=false:=by
 intro u hu
 simp only [row,List.mem_cons,List.not_mem_nil,or_false] at hu
 rcases hu with rfl | rfl | rfl | rfl | rfl | rfl | rfl <;> rfl
theorem zPg_nob:∀ u∈zPg.cells.toList,isBy u=false:=by
 intro u hu
 have:zPg.cells.toList=row noP (.slice none 0 0):=by simp [zPg,Value.cells,row,noP]
 rw [this] at hu
 exact row_nob _ _ _ _ u hu
theorem pgRow_push {w5 W w7:World} {base:Nat} {u v7 vq:Value} {ps:List P} {vs:List Value} {q:P} (hvl:vs.length=ps.length) (hown:OwnN w5 base 125 7 u ps.length (flat ps vs)) (hvs:∀ i,i<ps.length→Sb w5 w5.heap.size (vs.getD i undef) (ps.getD i noP).b)
  (hq:Sb w5 w5.heap.size vq q.b) (hW:Below w5.heap.size w5 W) (hown7:OwnN w7 base 125 7 v7 (ps.length+1) (flat ps vs++row q vq)) (hg7:W.grownBy w7 u.ownBlock):PgRow w7 base v7 (ps++[q]):=by
 have hn:=(hown.below hW).2
 refine ⟨vs++[vq],by simp [hvl],?_,fun i hi=>?_⟩
 ·rw [List.length_append,flat_app ps [q] vs [vq] hvl,flat_one]
  exact hown7
 ·by_cases hc:i<ps.length
  ·rw [getD_app_left _ _ _ _ hc,getD_app_left _ _ _ _ (by omega)]
   exact (sb_by (((hvs i hc).below hW (Nat.le_refl _)).more hW.size) hg7 (Nat.le_refl _) hn).more hg7.size
  ·have hi':i=ps.length:=by rw [List.length_append,List.length_singleton] at hi;omega
   subst hi'
   rw [getD_app_right _ _ _ _ (by omega),getD_app_right _ _ _ _ (by omega),hvl,Nat.sub_self]
   exact (sb_by ((hq.below hW (Nat.le_refl _)).more hW.size) hg7 (Nat.le_refl _) hn).more hg7.size
end Go.Proofs.YtplpmemlaohlaaaGreat.Slt
namespace Go.Proofs.YtplpmemlaohlaaaGreat.Slt
open Go.RowKit Mem Oct Pg Rcd
set_option linter.unusedVariables false
set_option linter.unusedSimpArgs false
set_option maxRecDepth 20000 in
set_option maxHeartbeats 4000000 in
theorem pages_any (A:Option Addr) (n c:Nat) (ss:List (List Nat)) (w:World) (h:Sls w w.heap.size (.slice A n c) ss) (hn:n≤1000) (hA:A=none→c=0) (hlen:∀ s∈ss,s.length≤600) :
  Calls Tryz.prog 203 #[.slice A n c] w fun e w'=>∃ v',e=.returned v'∧PgRow w' w.heap.size v' (pagesOf (ss.take 16))∧Below w.heap.size w w':=by
 obtain ⟨hsl,hnc,hcm⟩:=sls_len h
 obtain ⟨m,hm⟩:∃ m,m=min n 16:=⟨_,rfl⟩
 have hmI:min (n:Int) 16=(m:Int):=by omega
 have hmn:m≤n:=by omega
 have hmc:m≤c:=by omega
 have hm16:m≤16:=by omega
 have htk:ss.take 16=ss.take m:=by
  by_cases h16:n≤16
  ·rw [List.take_of_length_le (by omega),List.take_of_length_le (by omega)]
  ·rw [show m=16 by omega]
 rw [htk]
 have hS:=h.take hmn
 have hlS:∀ s∈ss.take m,s.length≤600:=fun s hs=>hlen s (List.mem_of_mem_take hs)
 have hsl2:(ss.take m).length=m:=by rw [List.length_take];omega
 obtain ⟨ts,hts⟩:∃ ts,ts=ss.take m:=⟨_,rfl⟩
 rw [← hts] at hS hlS hsl2 ⊢
 clear hts htk hlen hsl h
 have HSL:=Lib.hid hsl2;clear hsl2
 have HS:=Lib.hid hS;clear hS
 have HLN:=Lib.hid hlS;clear hlS
 have HM:=Lib.hid hm;clear hm
 obtain ⟨i0,hi,hz0,hz1,hz2⟩:=info_parts info24
 have HI:=Lib.hid hi;clear hi
 have HZ0:=Lib.hid hz0;clear hz0
 have HZ1:=Lib.hid hz1;clear hz1
 have HZ2:=Lib.hid hz2;clear hz2
 rcases A with _ | ad
 ·obtain rfl:c=0:=hA rfl
  obtain rfl:n=0:=by omega
  obtain rfl:m=0:=by omega
  have e:ts=[]:=List.eq_nil_of_length_eq_zero HSL.out
  subst e
  go_enter Tryz.func203,Tryz.ntmps203
  go_wp2
  go_loopw [3,14] (fun v i wr=>v=.slice none 0 0∧i=.int .i64 0∧wr=w) (fun _ i _=>0)
  case atStart=>exact ⟨rfl,rfl,rfl⟩
  case round =>
   obtain ⟨rfl,rfl,rfl⟩:=hrel
   go_wp2
   go_ret
   exact ⟨_,rfl,pgRow_nil _ _,Below.refl _ _⟩
 ·go_enter Tryz.func203,Tryz.ntmps203
  go_wp2
  go_loopw [3,14] (fun v i wr=>∃ k:Nat,k≤m∧i=.int .i64 k∧(pagesOf (ts.take k)).length=k∧PgRow wr w.heap.size v (pagesOf (ts.take k))∧Below w.heap.size w wr) (fun _ i _=>m - (intOf i).toNat)
  case atStart=>exact ⟨0,Nat.zero_le _,rfl,rfl,pgRow_nil _ _,Below.refl _ _⟩
  case round =>
   obtain ⟨k,hk,rfl,hpk,hrow,hbw⟩:=hrel
   have HB:=Lib.hid hbw;clear hbw
   have HROW:=Lib.hid hrow;clear hrow
   have HPK:=Lib.hid hpk;clear hpk
   by_cases hlt:k<m
   ·obtain ⟨b,off,e,hb,hc⟩:=sls_at HS.out (by omega)
    injection e with e
    subst e
    obtain ⟨u,hu,hus⟩:=hc k hlt
    obtain ⟨A1,n1,c1,rfl,_⟩:=id hus
    have hu':wr.cell? ⟨b,off+k,none⟩=some (.slice A1 n1 c1):=by rw [HB.out.cell (p:=⟨b,off+k,none⟩) hb];exact hu
    have hsl1:(ts.getD k []).length≤600:=HLN.out _ (getD_mem_sl (by have:=HSL.out;omega))
    have hpt:=pagesOf_take HPK.out (by have:=HSL.out;omega)
    have hps:=fun hg=>pagesOf_stop HPK.out (by have:=HSL.out;omega) hg
    obtain ⟨s,hs⟩:∃ s,s=ts.getD k []:=⟨_,rfl⟩
    rw [← hs] at hus hsl1 hpt hps
    have hup:=sl_up hus HB.out
    have HUP:=Lib.hid hup;clear hup hus hc hs hu
    cases hg:got s with
    | none =>
     have hp2:=hps hg
     have HP2:=Lib.hid hp2;clear hp2 hpt hps
     have gt:=get_none _ s wr HUP.out (by omega) hg
     have GT:=Lib.hid gt;clear gt hg
     go_wp2_with (go_at_call 62;refine (GT.out).mono ?_;rintro e w4 ⟨A4,n4,c4,rfl,hb4⟩;have HR4:=Lib.hid ((HROW.out).below (palloc hb4 (Obj.cells #[.int .i64 0,.int .i64 0,.int .i64 0,.int .i64 0,.int .i64 0,.int .i64 0,.slice A4 n4 c4] 125)));have HB4:=Lib.hid (HB.out.trans ((palloc hb4 (Obj.cells #[.int .i64 0,.int .i64 0,.int .i64 0,.int .i64 0,.int .i64 0,.int .i64 0,.slice A4 n4 c4] 125)).mono HB.out.size));clear hb4)
     go_ret
     rw [HP2.out]
     exact ⟨_,rfl,HR4.out,HB4.out⟩
    | some p =>
     have hp2:pagesOf (ts.take (k+1))=pagesOf (ts.take k)++[p]:=by rw [hpt,hg]
     have HP2:=Lib.hid hp2;clear hp2 hpt hps
     obtain ⟨ps,hps⟩:∃ ps,ps=pagesOf (ts.take k):=⟨_,rfl⟩
     rw [← hps] at HROW HP2 HPK
     clear hps
     have gt:=get_some _ s p wr HUP.out (by omega) hg
     have GT:=Lib.hid gt;clear gt hg
     have hk16:k<16:=by omega
     go_wp2_with (first
      | (go_at_call 62;refine (GT.out).mono ?_;rintro e w4 ⟨A4,n4,c4,rfl,hbt4,hb4⟩;obtain ⟨vs,hvl,hown4,hvs⟩:=(HROW.out).below hb4;have HVL:=Lib.hid hvl;have HOW:=Lib.hid hown4;have HVS:=Lib.hid hvs;have HBT:=Lib.hid hbt4;have HB4:=Lib.hid (HB.out.trans (hb4.mono HB.out.size));have hz4:=HB4.out.size;clear hb4 hbt4 hvl hown4 hvs)
      | (at_builtin;refine wpList_append_n _ rfl (.tmp 25) (.tmp 27) 163 rfl w.heap.size 125 i0 zPg 7 72 Tryz.underlying163 HI.out HZ0.out HZ1.out HZ2.out rfl (by decide) zPg_nob u3 ps.length (flat ps vs) rfl ?own ((w4.alloc (Obj.cells #[.int .i64 p.kind,.int .i64 p.gen,.int .i64 p.mark,.int .i64 p.index,.int .i64 p.part,.int .i64 p.parts,.slice A4 n4 c4] 125)).heap.size+1) (some ⟨(w4.alloc (Obj.cells #[.int .i64 p.kind,.int .i64 p.gen,.int .i64 p.mark,.int .i64 p.index,.int .i64 p.part,.int .i64 p.parts,.slice A4 n4 c4] 125)).heap.size,0,none⟩) 1 1 (row p (.slice A4 n4 c4)) ?hx ?hr (row_one _ _ _ _) (row_nob _ _ _ _) ?h63 ?hby ?hbase ?_;(case own=>exact HOW.out.below (palloc (palloc (Below.refl _ _) _) _));(case hx=>first | rfl | simp [Act.eval]);(case hr=>exact reads_page _ _ _ rfl rfl);(case h63=>(have:=HPK.out;unfold maxLen;omega));(case hby=>(have:=HPK.out;omega));(case hbase=>(simp;omega));intro v5 w5 hown5 hg5 _;have hbw:=palloc (palloc (Below.refl w4.heap.size w4) (Obj.cells #[.int .i64 p.kind,.int .i64 p.gen,.int .i64 p.mark,.int .i64 p.index,.int .i64 p.part,.int .i64 p.parts,.slice A4 n4 c4] 125)) (Obj.cells #[.int .i64 p.kind,.int .i64 p.gen,.int .i64 p.mark,.int .i64 p.index,.int .i64 p.part,.int .i64 p.parts,.slice A4 n4 c4] 125);have HR5:=Lib.hid (pgRow_push (q:=p) HVL.out HOW.out HVS.out ⟨A4,n4,c4,rfl,HBT.out⟩ hbw hown5 hg5);have HB5:=Lib.hid ((HB4.out.trans (hbw.mono HB4.out.size)).grown hg5 (HB4.out.trans (hbw.mono HB4.out.size)).size (fun q hq=>(HOW.out.1.lt q hq).1));clear hown5 hg5 hbw))
     go_roundw
     case rel=>exact ⟨k+1,by omega,by go_num,by rw [HP2.out,List.length_append,HPK.out];rfl,by rw [HP2.out];exact HR5.out,HB5.out⟩
     case measure=>simp [intOf];omega
   ·obtain rfl:k=m:=by omega
    have htk:ts.take k=ts:=List.take_of_length_le (by have:=HSL.out;omega)
    rw [htk] at HROW
    go_wp2
    go_ret
    exact ⟨_,rfl,HROW.out,HB.out⟩
end Go.Proofs.YtplpmemlaohlaaaGreat.Slt
namespace Go.Proofs.YtplpmemlaohlaaaGreat.Slt
open Go.RowKit Mem Oct Pg Rcd
set_option linter.unusedVariables false
set_option linter.unusedSimpArgs false
theorem bts_up {w w':World} {A:Option Addr} {n:Nat} {xs:List Nat} (h:Bts w w.heap.size A n xs) (hb:Below w.heap.size w w'):Bts w' w'.heap.size A n xs:=(h.below hb (Nat.le_refl _)).more hb.size
def BtsC (w:World) (B:Nat) (A:Option Addr) (n c:Nat) (xs:List Nat):Prop:=Bts w B A n xs∧n≤c∧c≤maxLen∧(A=none→c=0)
section
variable {w w':World} {B n c:Nat} {A:Option Addr} {xs:List Nat}
theorem BtsC.sl (h:BtsC w B A n c xs):Sl w B (.slice A n c) xs:=⟨A,n,c,rfl,h⟩
theorem btc_up (h:BtsC w w.heap.size A n c xs) (hb:Below w.heap.size w w'):BtsC w' w'.heap.size A n c xs:=⟨bts_up h.1 hb,h.2⟩
theorem btc_by {row:Option Nat} (h:BtsC w B A n c xs) (hg:w.grownBy w' row) (hB:B≤w.heap.size) (hn:NoBy w row):BtsC w' B A n c xs:=⟨bts_by h.1 hg hB hn,h.2⟩
theorem btc_nil (w:World) (B:Nat):BtsC w B none 0 0 []:=⟨bts_nil _ _ _,Nat.le_refl _,by unfold maxLen;omega,fun _=>rfl⟩
theorem BtsC.more {B':Nat} (h:BtsC w B A n c xs) (hB:B≤B'):BtsC w B' A n c xs:=⟨h.1.more hB,h.2⟩
theorem sl_by {v:Value} {row:Option Nat} (h:Sl w B v xs) (hg:w.grownBy w' row) (hB:B≤w.heap.size) (hn:NoBy w row):Sl w' B v xs:=by
 obtain ⟨A,n,c,e,h1,h2⟩:=h
 exact ⟨A,n,c,e,bts_by h1 hg hB hn,h2⟩
end
def BsAt (w:World) (B:Nat) (v:Value) (x:Bs):Prop:=∃ vb,v=.agg #[.int .i64 x.1,vb]∧Sl w B vb x.2
theorem loaded_cut (ss:List (List Nat)):loaded (ss.take 16)=loaded ss:=by
 unfold loaded
 rw [pagesOf_cut]
 cases h:pagesOf ss with
 | nil=>rfl
 | cons q r =>
  have:=joined_cut (q::r)
  rw [show (q::r).take 16=q::r.take 15 from rfl] at this ⊢
  simp only [this]
theorem may_facts {ps:List P} (h:∀ p∈ps,p.may=true):(∀ q∈ps,q.b.length≤600)∧∀ q∈ps,In64 q.index:=by
 refine ⟨fun q hq=>?_,fun q hq=>?_⟩
 ·have:=((may_iff q).1 (h q hq)).l
  omega
 ·have:=win_yes ((may_iff q).1 (h q hq)).i
  unfold In64
  omega
theorem set2_grown (w:World) (g:Nat) (a b:Value):w.grownBy ((w.setCell ⟨g,0,none⟩ a).setCell ⟨g,1,none⟩ b) (some g) :=
 grown_trans (grown_set _ _ _) (grown_set _ ⟨g,1,none⟩ _)
theorem noBy_blk2 {w:World} {g:Nat} {t:TypeId} {z:Int} {A:Option Addr} {n c:Nat} (h:Blk w g t #[.int .i64 z,.slice A n c]):NoBy w (some g) :=
 noBy_cells h (by simp [isBy])
theorem head_cells {w:World} {B n c:Nat} {A:Option Addr} {q:P} {r:List P} (h:Pgs w B (.slice A n c) (q::r)):∃ b off,A=some ⟨b,off,none⟩∧0<n∧n≤c∧w.cell? ⟨b,off,none⟩=some (.int .i64 q.kind)∧w.cell? ⟨b,off+1,none⟩=some (.int .i64 q.gen)∧w.cell? ⟨b,off+3,none⟩=some (.int .i64 q.index):=by
 obtain ⟨h1,h2,_⟩:=pgs_len h
 have hn:0<n:=by rw [List.length_cons] at h1;omega
 obtain ⟨b,off,rfl,hb,hc⟩:=pgs_at h hn
 obtain ⟨vb,hr,_⟩:=hc 0 hn
 rw [show off+0*7=off by omega] at hr
 exact ⟨b,off,rfl,hn,h2,hr 0 _ rfl,hr 1 _ rfl,hr 3 _ rfl⟩
set_option maxRecDepth 20000 in
set_option maxHeartbeats 4000000 in
theorem load_any (A:Option Addr) (n c:Nat) (ss:List (List Nat)) (w:World) (h:Sls w w.heap.size (.slice A n c) ss) (hn:n≤1000) (hA:A=none→c=0) (hlen:∀ s∈ss,s.length≤600) :
  Calls Tryz.prog 167 #[.slice A n c] w fun e w'=>∃ v',e=.returned (.tuple #[v',.bool (loaded ss).isSome])∧BsAt w' w'.heap.size v' (theB ss)∧Below w.heap.size w w':=by
 have hb0:=palloc (Below.refl w.heap.size w) (Obj.cells #[.int .i64 0,.slice none 0 0] 140)
 have kp:=Blk.new w 140 #[.int .i64 0,.slice none 0 0]
 have pg:=pages_any A n c ss _ (h.up hb0) hn hA hlen
 unfold theB
 rw [← loaded_cut]
 have hmay:=pagesOf_may (ss.take 16)
 have hpl:(pagesOf (ss.take 16)).length≤16:=Nat.le_trans (pagesOf_len _) (by rw [List.length_take];omega)
 have hld:=fun q r=>loaded_eq (ss.take 16) (q:=q) (r:=r)
 have hln:=@loaded_not (ss.take 16)
 obtain ⟨lo,hlo⟩:∃ lo,lo=loaded (ss.take 16):=⟨_,rfl⟩
 rw [← hlo] at hld hln ⊢
 obtain ⟨ps,hps⟩:∃ ps,ps=pagesOf (ss.take 16):=⟨_,rfl⟩
 rw [← hps] at pg hmay hpl hld hln
 obtain ⟨hl6,hin⟩:=may_facts hmay
 have jn:=fun (A1:Option Addr) (n1 c1:Nat) (W:World) (h1:Pgs W W.heap.size (.slice A1 n1 c1) ps)=>join_any A1 n1 c1 ps W h1 (by have:=(pgs_len h1).1;omega) hl6 hin
 clear hlo hps hl6 hin hmay h hlen
 have PG:=Lib.hid pg;clear pg
 have HB0:=Lib.hid hb0;clear hb0
 have KP0:=Lib.hid kp;clear kp
 have h0:w.heap.size<(w.alloc (.cells #[.int .i64 0,.slice none 0 0] 140)).heap.size:=by simp
 have HPL:=Lib.hid hpl;clear hpl
 cases hj:joined ps with
 | none =>
  have e1:=hln hj
  rw [e1]
  have e2:jb ps=([],0):=jb_none hj
  rw [hj,e2] at jn
  have JN:=Lib.hid jn;clear jn
  clear hld hln e1 e2 hj
  go_enter Tryz.func167,Tryz.ntmps167
  go_wp2_with (first
   | (go_at_call 203;refine (PG.out).mono ?_;rintro e w1 ⟨v1,rfl,hrow,hb⟩;have hpg:=pgRow_pgs hrow;obtain ⟨A1,n1,c1,rfl,_⟩:=id hpg;have KP1:=Lib.hid (KP0.out.below hb h0);have HB1:=Lib.hid (HB0.out.trans (hb.mono HB0.out.size));have HP1:=Lib.hid hpg;clear hpg hrow hb)
   | (go_at_call 124;refine (JN.out A1 n1 c1 _ HP1.out).mono ?_;rintro e w2 ⟨v2,rfl,hs2,hb⟩;have KP2:=Lib.hid (KP1.out.below hb KP1.out.lt);have HB2:=Lib.hid (HB1.out.trans (hb.mono HB1.out.size));have a0:=KP2.out.cell 0;have a1:=KP2.out.cell 1;simp at a0 a1;have hz2:=KP2.out.lt;have f0:=KP2.out.frozen 0;have f1:=KP2.out.frozen 1;clear hs2 hb))
  have hgr:=set2_grown w2 w.heap.size (.int .i64 0) (.slice none 0 0)
  refine bodyPost_ret (v:=.tuple #[.agg #[.int .i64 0,.slice none 0 0],.bool false]) ?_ rfl ⟨_,rfl,⟨.slice none 0 0,rfl,sl_nil _ _⟩,?_⟩
  ·simp [results,Tryz.results167,go_sem,a0,a1,hz2]
  ·exact HB2.out.grown hgr HB2.out.size (fun q hq=>by cases hq;exact Nat.le_refl _)
 | some x =>
  obtain ⟨bs,cnt⟩:=x
  obtain ⟨q,r,hqr⟩:∃ q r,ps=q::r:=by
   cases ps with
   | nil=>rw [joined_nil rfl] at hj;cases hj
   | cons q r=>exact ⟨q,r,rfl⟩
  subst hqr
  have e1:=hld q r rfl
  rw [hj] at e1
  have e2:jb (q::r)=(bs,cnt):=jb_some hj
  rw [hj,e2] at jn
  have JN:=Lib.hid jn;clear jn
  simp only at e1
  clear hld hln e2 hj
  by_cases hk:q.kind=1
  ·have hkb:(q.kind != 1)=false:=by simp [hk]
   by_cases hi:q.index=0
   ·have hib:(q.index != 0)=false:=by simp [hi]
    have e3:lo=some (q.gen,bs):=by rw [e1];unfold base0;rw [if_pos ⟨hk,hi⟩]
    rw [e3]
    clear e1 e3 hk hi
    go_enter Tryz.func167,Tryz.ntmps167
    go_wp2_with (first
     | (go_at_call 203;refine (PG.out).mono ?_;rintro e w1 ⟨v1,rfl,hrow,hb⟩;have hpg:=pgRow_pgs hrow;obtain ⟨A1,n1,c1,rfl,_⟩:=id hpg;have KP1:=Lib.hid (KP0.out.below hb h0);have HB1:=Lib.hid (HB0.out.trans (hb.mono HB0.out.size));have HP1:=Lib.hid hpg;clear hpg hrow hb)
     | (go_at_call 124;refine (JN.out A1 n1 c1 _ HP1.out).mono ?_;rintro e w2 ⟨v2,rfl,hs2,hb⟩;obtain ⟨b1,o1,rfl,hn1,hnc1,k0,k1,k3⟩:=head_cells ((HP1.out.below hb (Nat.le_refl _)).more hb.size);obtain ⟨A2,n2,c2,rfl,_⟩:=id hs2;have HS2:=Lib.hid hs2;have KP2:=Lib.hid (KP1.out.below hb KP1.out.lt);have HB2:=Lib.hid (HB1.out.trans (hb.mono HB1.out.size));have a0:=KP2.out.cell 0;have a1:=KP2.out.cell 1;simp at a0 a1;have hz2:=KP2.out.lt;have f0:=KP2.out.frozen 0;have f1:=KP2.out.frozen 1;clear hs2 hb))
    have hgr:=set2_grown w2 w.heap.size (.int .i64 q.gen) (.slice A2 n2 c2)
    refine bodyPost_ret (v:=.tuple #[.agg #[.int .i64 q.gen,.slice A2 n2 c2],.bool true]) ?_ rfl ⟨_,rfl,⟨.slice A2 n2 c2,rfl,(sl_by HS2.out hgr (Nat.le_refl _) (noBy_blk2 KP2.out)).more hgr.size⟩,?_⟩
    ·simp [results,Tryz.results167,go_sem,a0,a1,hz2]
    ·exact HB2.out.grown hgr HB2.out.size (fun q hq=>by cases hq;exact Nat.le_refl _)
   ·have hib:(q.index != 0)=true:=by simp [hi]
    have e3:lo=none:=by rw [e1];unfold base0;rw [if_neg (fun h=>hi h.2)]
    rw [e3]
    clear e1 e3 hk hi
    go_enter Tryz.func167,Tryz.ntmps167
    go_wp2_with (first
     | (go_at_call 203;refine (PG.out).mono ?_;rintro e w1 ⟨v1,rfl,hrow,hb⟩;have hpg:=pgRow_pgs hrow;obtain ⟨A1,n1,c1,rfl,_⟩:=id hpg;have KP1:=Lib.hid (KP0.out.below hb h0);have HB1:=Lib.hid (HB0.out.trans (hb.mono HB0.out.size));have HP1:=Lib.hid hpg;clear hpg hrow hb)
     | (go_at_call 124;refine (JN.out A1 n1 c1 _ HP1.out).mono ?_;rintro e w2 ⟨v2,rfl,hs2,hb⟩;obtain ⟨b1,o1,rfl,hn1,hnc1,k0,k1,k3⟩:=head_cells ((HP1.out.below hb (Nat.le_refl _)).more hb.size);have KP2:=Lib.hid (KP1.out.below hb KP1.out.lt);have HB2:=Lib.hid (HB1.out.trans (hb.mono HB1.out.size));have a0:=KP2.out.cell 0;have a1:=KP2.out.cell 1;simp at a0 a1;have hz2:=KP2.out.lt;have f0:=KP2.out.frozen 0;have f1:=KP2.out.frozen 1;clear hs2 hb))
    have hgr:=set2_grown w2 w.heap.size (.int .i64 0) (.slice none 0 0)
    refine bodyPost_ret (v:=.tuple #[.agg #[.int .i64 0,.slice none 0 0],.bool false]) ?_ rfl ⟨_,rfl,⟨.slice none 0 0,rfl,sl_nil _ _⟩,?_⟩
    ·simp [results,Tryz.results167,go_sem,a0,a1,hz2]
    ·exact HB2.out.grown hgr HB2.out.size (fun q hq=>by cases hq;exact Nat.le_refl _)
  ·have hkb:(q.kind != 1)=true:=by simp [hk]
   have e3:lo=none:=by rw [e1];unfold base0;rw [if_neg (fun h=>hk h.1)]
   rw [e3]
   clear e1 e3 hk
   go_enter Tryz.func167,Tryz.ntmps167
   go_wp2_with (first
    | (go_at_call 203;refine (PG.out).mono ?_;rintro e w1 ⟨v1,rfl,hrow,hb⟩;have hpg:=pgRow_pgs hrow;obtain ⟨A1,n1,c1,rfl,_⟩:=id hpg;have KP1:=Lib.hid (KP0.out.below hb h0);have HB1:=Lib.hid (HB0.out.trans (hb.mono HB0.out.size));have HP1:=Lib.hid hpg;clear hpg hrow hb)
    | (go_at_call 124;refine (JN.out A1 n1 c1 _ HP1.out).mono ?_;rintro e w2 ⟨v2,rfl,hs2,hb⟩;obtain ⟨b1,o1,rfl,hn1,hnc1,k0,k1,k3⟩:=head_cells ((HP1.out.below hb (Nat.le_refl _)).more hb.size);have KP2:=Lib.hid (KP1.out.below hb KP1.out.lt);have HB2:=Lib.hid (HB1.out.trans (hb.mono HB1.out.size));have a0:=KP2.out.cell 0;have a1:=KP2.out.cell 1;simp at a0 a1;have hz2:=KP2.out.lt;have f0:=KP2.out.frozen 0;have f1:=KP2.out.frozen 1;clear hs2 hb))
   have hgr:=set2_grown w2 w.heap.size (.int .i64 0) (.slice none 0 0)
   refine bodyPost_ret (v:=.tuple #[.agg #[.int .i64 0,.slice none 0 0],.bool false]) ?_ rfl ⟨_,rfl,⟨.slice none 0 0,rfl,sl_nil _ _⟩,?_⟩
   ·simp [results,Tryz.results167,go_sem,a0,a1,hz2]
   ·exact HB2.out.grown hgr HB2.out.size (fun q hq=>by cases hq;exact Nat.le_refl _)
end Go.Proofs.YtplpmemlaohlaaaGreat.Slt
namespace Go.Proofs.YtplpmemlaohlaaaGreat.Slt
open Go.RowKit Mem Oct Pg Rcd
set_option linter.unusedVariables false
set_option linter.unusedSimpArgs false
theorem better_eq (ss ts:List (List Nat)):(better ss ts).isSome=((loaded ss).isSome || (loaded ts).isSome)∧(better ss ts).getD (0,[])=if (loaded ss).isSome=false∨((loaded ts).isSome=true∧(theB ss).1<(theB ts).1) then theB ts else theB ss:=by
 unfold better theB
 cases loaded ss with
 | none=>simp
 | some x =>
  cases loaded ts with
  | none=>simp
  | some y =>
   by_cases h:x.1<y.1
   ·simp [h]
   ·simp [h]
theorem load_at (A:Option Addr) (n c:Nat) (ss:List (List Nat)) (w W:World) (hW:Below w.heap.size w W) (h:Sls w w.heap.size (.slice A n c) ss) (hn:n≤1000) (hA:A=none→c=0) (hlen:∀ s∈ss,s.length≤600) :
  Calls Tryz.prog 167 #[.slice A n c] W fun e w'=>∃ A1 n1 c1,e=.returned (.tuple #[.agg #[.int .i64 (theB ss).1,.slice A1 n1 c1],.bool (loaded ss).isSome])∧BtsC w' w'.heap.size A1 n1 c1 (theB ss).2∧Below W.heap.size W w':=by
 refine (load_any A n c ss W (h.up hW) hn hA hlen).mono ?_
 rintro e w' ⟨v',rfl,⟨vb,rfl,A1,n1,c1,rfl,hb⟩,hb2⟩
 exact ⟨A1,n1,c1,rfl,hb,hb2⟩
theorem none_same {ss ts:List (List Nat)} (h:(loaded ss).isSome=false) (h':(loaded ts).isSome=false):theB ss=theB ts:=by
 unfold theB
 cases hs:loaded ss with
 | some x=>rw [hs] at h;cases h
 | none =>
  cases ht:loaded ts with
  | some x=>rw [ht] at h';cases h'
  | none=>rfl
theorem gt_yes {a b:Int} (h:a<b):decide (a<b)=true:=by simpa using h
theorem gt_no {a b:Int} (h:¬ a<b):decide (a<b)=false:=by simpa using h
theorem ge_no {a b:Int} (h:a<b):decide (b≤a)=false:=by simp;omega
theorem ge_yes {a b:Int} (h:¬ a<b):decide (b≤a)=true:=by simp;omega
set_option maxRecDepth 20000 in
set_option maxHeartbeats 4000000 in
theorem better_any (A A':Option Addr) (n n' c c':Nat) (ss ts:List (List Nat)) (w:World) (h:Sls w w.heap.size (.slice A n c) ss) (h':Sls w w.heap.size (.slice A' n' c') ts) (hn:n≤1000) (hn':n'≤1000) (hA:A=none→c=0) (hA':A'=none→c'=0) (hlen:∀ s∈ss,s.length≤600) (hlen':∀ s∈ts,s.length≤600) :
  Calls Tryz.prog 118 #[.slice A n c,.slice A' n' c'] w fun e w'=>∃ v',e=.returned (.tuple #[v',.bool (better ss ts).isSome])∧BsAt w' w'.heap.size v' ((better ss ts).getD (0,[]))∧Below w.heap.size w w':=by
 have hb0:=palloc (Below.refl w.heap.size w) (Obj.cells #[.int .i64 0,.slice none 0 0] 140)
 have kp:=Blk.new w 140 #[.int .i64 0,.slice none 0 0]
 have l1:=load_at A n c ss w _ hb0 h hn hA hlen
 have l2:=fun (W:World) (hW:Below w.heap.size w W)=>load_at A' n' c' ts w W hW h' hn' hA' hlen'
 obtain ⟨be1,be2⟩:=better_eq ss ts
 rw [be1,be2]
 obtain ⟨oa,hoa⟩:∃ oa,oa=(loaded ss).isSome:=⟨_,rfl⟩
 obtain ⟨ob,hob⟩:∃ ob,ob=(loaded ts).isSome:=⟨_,rfl⟩
 obtain ⟨xa,hxa⟩:∃ xa,xa=theB ss:=⟨_,rfl⟩
 obtain ⟨xb,hxb⟩:∃ xb,xb=theB ts:=⟨_,rfl⟩
 have hsame:oa=false→ob=false→xa=xb:=fun e1 e2=>by rw [hxa,hxb];exact none_same (hoa.symm.trans e1) (hob.symm.trans e2)
 rw [← hoa,← hxa] at l1
 rw [← hob,← hxb] at l2
 rw [← hoa,← hob,← hxa,← hxb]
 obtain ⟨ga,ba⟩:=xa
 obtain ⟨gb,bb⟩:=xb
 clear be1 be2 hoa hob hxa hxb hlen hlen' h h'
 simp only at l1 l2 ⊢
 have L2:=Lib.hid l2;clear l2
 have HB0:=Lib.hid hb0;clear hb0
 have KP0:=Lib.hid kp;clear kp
 have h0:w.heap.size<(w.alloc (.cells #[.int .i64 0,.slice none 0 0] 140)).heap.size:=by simp
 have HM0:=Lib.hid (rfl:(0:Nat)=0)
 cases oa
 ·clear hsame
  rw [if_pos (.inl rfl),Bool.false_or]
  have L1:=Lib.hid l1;clear l1
  go_enter Tryz.func118,Tryz.ntmps118
  go_wp2_with (first
   | (have HM1:=HM0;go_at_call 167;refine (L1.out).mono ?_;rintro e w1 ⟨A1,n1,c1,rfl,hbt,hb⟩;clear HM0;have HM2:=HM1;clear HM1;have KP1:=Lib.hid ((KP0.out.below hb h0).alloc (Obj.cells #[.int .i64 ga,.slice A1 n1 c1] 140));have K6:=Lib.hid (Blk.new w1 140 #[.int .i64 ga,.slice A1 n1 c1]);have HB1:=Lib.hid (palloc (HB0.out.trans (hb.mono HB0.out.size)) (Obj.cells #[.int .i64 ga,.slice A1 n1 c1] 140));have HT1:=Lib.hid (btc_up hbt (palloc (Below.refl _ _) (Obj.cells #[.int .i64 ga,.slice A1 n1 c1] 140)));have hz1:=KP1.out.lt;have hz6:=K6.out.lt;clear hb hbt)
   | (have HM3:=HM2;go_at_call 167;refine (L2.out _ HB1.out).mono ?_;rintro e w2 ⟨A2,n2,c2,rfl,hbt,hb⟩;clear HM2 HM3;have KP2:=Lib.hid ((KP1.out.below hb hz1).alloc (Obj.cells #[.int .i64 gb,.slice A2 n2 c2] 140));have K62:=Lib.hid ((K6.out.below hb hz6).alloc (Obj.cells #[.int .i64 gb,.slice A2 n2 c2] 140));have K8:=Lib.hid (Blk.new w2 140 #[.int .i64 gb,.slice A2 n2 c2]);have HB2:=Lib.hid (palloc (HB1.out.trans (hb.mono HB1.out.size)) (Obj.cells #[.int .i64 gb,.slice A2 n2 c2] 140));have HT12:=Lib.hid (btc_up (btc_up HT1.out hb) (palloc (Below.refl _ _) (Obj.cells #[.int .i64 gb,.slice A2 n2 c2] 140)));have HT2:=Lib.hid (btc_up hbt (palloc (Below.refl _ _) (Obj.cells #[.int .i64 gb,.slice A2 n2 c2] 140)));have a0:=KP2.out.cell 0;have a1:=KP2.out.cell 1;have p0:=K62.out.cell 0;have p1:=K62.out.cell 1;have q0:=K8.out.cell 0;have q1:=K8.out.cell 1;simp at a0 a1 p0 p1 q0 q1;have f0:=KP2.out.frozen 0;have f1:=KP2.out.frozen 1;have hz2:=KP2.out.lt;clear hb hbt))
  have hgr:=set2_grown (w2.alloc (Obj.cells #[.int .i64 gb,.slice A2 n2 c2] 140)) w.heap.size (.int .i64 gb) (.slice A2 n2 c2)
  refine bodyPost_ret (v:=.tuple #[.agg #[.int .i64 gb,.slice A2 n2 c2],.bool ob]) ?_ rfl ⟨_,rfl,⟨.slice A2 n2 c2,rfl,(sl_by (BtsC.sl HT2.out) hgr (Nat.le_refl _) (noBy_blk2 KP2.out)).more hgr.size⟩,?_⟩
  ·simp [results,Tryz.results118,go_sem,a0,a1,hz2]
  ·exact HB2.out.grown hgr HB2.out.size (fun q hq=>by cases hq;exact Nat.le_refl _)
 ·clear hsame
  rw [Bool.true_or]
  cases ob
  ·rw [if_neg (by simp)]
   have L1:=Lib.hid l1;clear l1
   go_enter Tryz.func118,Tryz.ntmps118
   go_wp2_with (first
    | (have HM1:=HM0;go_at_call 167;refine (L1.out).mono ?_;rintro e w1 ⟨A1,n1,c1,rfl,hbt,hb⟩;clear HM0;have HM2:=HM1;clear HM1;have KP1:=Lib.hid ((KP0.out.below hb h0).alloc (Obj.cells #[.int .i64 ga,.slice A1 n1 c1] 140));have K6:=Lib.hid (Blk.new w1 140 #[.int .i64 ga,.slice A1 n1 c1]);have HB1:=Lib.hid (palloc (HB0.out.trans (hb.mono HB0.out.size)) (Obj.cells #[.int .i64 ga,.slice A1 n1 c1] 140));have HT1:=Lib.hid (btc_up hbt (palloc (Below.refl _ _) (Obj.cells #[.int .i64 ga,.slice A1 n1 c1] 140)));have hz1:=KP1.out.lt;have hz6:=K6.out.lt;clear hb hbt)
    | (have HM3:=HM2;go_at_call 167;refine (L2.out _ HB1.out).mono ?_;rintro e w2 ⟨A2,n2,c2,rfl,hbt,hb⟩;clear HM2 HM3;have KP2:=Lib.hid ((KP1.out.below hb hz1).alloc (Obj.cells #[.int .i64 gb,.slice A2 n2 c2] 140));have K62:=Lib.hid ((K6.out.below hb hz6).alloc (Obj.cells #[.int .i64 gb,.slice A2 n2 c2] 140));have K8:=Lib.hid (Blk.new w2 140 #[.int .i64 gb,.slice A2 n2 c2]);have HB2:=Lib.hid (palloc (HB1.out.trans (hb.mono HB1.out.size)) (Obj.cells #[.int .i64 gb,.slice A2 n2 c2] 140));have HT12:=Lib.hid (btc_up (btc_up HT1.out hb) (palloc (Below.refl _ _) (Obj.cells #[.int .i64 gb,.slice A2 n2 c2] 140)));have HT2:=Lib.hid (btc_up hbt (palloc (Below.refl _ _) (Obj.cells #[.int .i64 gb,.slice A2 n2 c2] 140)));have a0:=KP2.out.cell 0;have a1:=KP2.out.cell 1;have p0:=K62.out.cell 0;have p1:=K62.out.cell 1;have q0:=K8.out.cell 0;have q1:=K8.out.cell 1;simp at a0 a1 p0 p1 q0 q1;have f0:=KP2.out.frozen 0;have f1:=KP2.out.frozen 1;have hz2:=KP2.out.lt;clear hb hbt))
   have hgr:=set2_grown (w2.alloc (Obj.cells #[.int .i64 gb,.slice A2 n2 c2] 140)) w.heap.size (.int .i64 ga) (.slice A1 n1 c1)
   refine bodyPost_ret (v:=.tuple #[.agg #[.int .i64 ga,.slice A1 n1 c1],.bool true]) ?_ rfl ⟨_,rfl,⟨.slice A1 n1 c1,rfl,(sl_by (BtsC.sl HT12.out) hgr (Nat.le_refl _) (noBy_blk2 KP2.out)).more hgr.size⟩,?_⟩
   ·simp [results,Tryz.results118,go_sem,a0,a1,hz2]
   ·exact HB2.out.grown hgr HB2.out.size (fun q hq=>by cases hq;exact Nat.le_refl _)
  ·by_cases hlt:ga<gb
   ·rw [if_pos (.inr ⟨rfl,hlt⟩)]
    have hd:=gt_yes hlt
    have hd2:=ge_no hlt
    clear hlt
    have L1:=Lib.hid l1;clear l1
    go_enter Tryz.func118,Tryz.ntmps118
    go_wp2_with (first
     | (have HM1:=HM0;go_at_call 167;refine (L1.out).mono ?_;rintro e w1 ⟨A1,n1,c1,rfl,hbt,hb⟩;clear HM0;have HM2:=HM1;clear HM1;have KP1:=Lib.hid ((KP0.out.below hb h0).alloc (Obj.cells #[.int .i64 ga,.slice A1 n1 c1] 140));have K6:=Lib.hid (Blk.new w1 140 #[.int .i64 ga,.slice A1 n1 c1]);have HB1:=Lib.hid (palloc (HB0.out.trans (hb.mono HB0.out.size)) (Obj.cells #[.int .i64 ga,.slice A1 n1 c1] 140));have HT1:=Lib.hid (btc_up hbt (palloc (Below.refl _ _) (Obj.cells #[.int .i64 ga,.slice A1 n1 c1] 140)));have hz1:=KP1.out.lt;have hz6:=K6.out.lt;clear hb hbt)
     | (have HM3:=HM2;go_at_call 167;refine (L2.out _ HB1.out).mono ?_;rintro e w2 ⟨A2,n2,c2,rfl,hbt,hb⟩;clear HM2 HM3;have KP2:=Lib.hid ((KP1.out.below hb hz1).alloc (Obj.cells #[.int .i64 gb,.slice A2 n2 c2] 140));have K62:=Lib.hid ((K6.out.below hb hz6).alloc (Obj.cells #[.int .i64 gb,.slice A2 n2 c2] 140));have K8:=Lib.hid (Blk.new w2 140 #[.int .i64 gb,.slice A2 n2 c2]);have HB2:=Lib.hid (palloc (HB1.out.trans (hb.mono HB1.out.size)) (Obj.cells #[.int .i64 gb,.slice A2 n2 c2] 140));have HT12:=Lib.hid (btc_up (btc_up HT1.out hb) (palloc (Below.refl _ _) (Obj.cells #[.int .i64 gb,.slice A2 n2 c2] 140)));have HT2:=Lib.hid (btc_up hbt (palloc (Below.refl _ _) (Obj.cells #[.int .i64 gb,.slice A2 n2 c2] 140)));have a0:=KP2.out.cell 0;have a1:=KP2.out.cell 1;have p0:=K62.out.cell 0;have p1:=K62.out.cell 1;have q0:=K8.out.cell 0;have q1:=K8.out.cell 1;simp at a0 a1 p0 p1 q0 q1;have f0:=KP2.out.frozen 0;have f1:=KP2.out.frozen 1;have hz2:=KP2.out.lt;clear hb hbt))
    have hgr:=set2_grown (w2.alloc (Obj.cells #[.int .i64 gb,.slice A2 n2 c2] 140)) w.heap.size (.int .i64 gb) (.slice A2 n2 c2)
    refine bodyPost_ret (v:=.tuple #[.agg #[.int .i64 gb,.slice A2 n2 c2],.bool true]) ?_ rfl ⟨_,rfl,⟨.slice A2 n2 c2,rfl,(sl_by (BtsC.sl HT2.out) hgr (Nat.le_refl _) (noBy_blk2 KP2.out)).more hgr.size⟩,?_⟩
    ·simp [results,Tryz.results118,go_sem,a0,a1,hz2]
    ·exact HB2.out.grown hgr HB2.out.size (fun q hq=>by cases hq;exact Nat.le_refl _)
   ·rw [if_neg (by simp [hlt])]
    have hd:=gt_no hlt
    have hd2:=ge_yes hlt
    clear hlt
    have L1:=Lib.hid l1;clear l1
    go_enter Tryz.func118,Tryz.ntmps118
    go_wp2_with (first
     | (have HM1:=HM0;go_at_call 167;refine (L1.out).mono ?_;rintro e w1 ⟨A1,n1,c1,rfl,hbt,hb⟩;clear HM0;have HM2:=HM1;clear HM1;have KP1:=Lib.hid ((KP0.out.below hb h0).alloc (Obj.cells #[.int .i64 ga,.slice A1 n1 c1] 140));have K6:=Lib.hid (Blk.new w1 140 #[.int .i64 ga,.slice A1 n1 c1]);have HB1:=Lib.hid (palloc (HB0.out.trans (hb.mono HB0.out.size)) (Obj.cells #[.int .i64 ga,.slice A1 n1 c1] 140));have HT1:=Lib.hid (btc_up hbt (palloc (Below.refl _ _) (Obj.cells #[.int .i64 ga,.slice A1 n1 c1] 140)));have hz1:=KP1.out.lt;have hz6:=K6.out.lt;clear hb hbt)
     | (have HM3:=HM2;go_at_call 167;refine (L2.out _ HB1.out).mono ?_;rintro e w2 ⟨A2,n2,c2,rfl,hbt,hb⟩;clear HM2 HM3;have KP2:=Lib.hid ((KP1.out.below hb hz1).alloc (Obj.cells #[.int .i64 gb,.slice A2 n2 c2] 140));have K62:=Lib.hid ((K6.out.below hb hz6).alloc (Obj.cells #[.int .i64 gb,.slice A2 n2 c2] 140));have K8:=Lib.hid (Blk.new w2 140 #[.int .i64 gb,.slice A2 n2 c2]);have HB2:=Lib.hid (palloc (HB1.out.trans (hb.mono HB1.out.size)) (Obj.cells #[.int .i64 gb,.slice A2 n2 c2] 140));have HT12:=Lib.hid (btc_up (btc_up HT1.out hb) (palloc (Below.refl _ _) (Obj.cells #[.int .i64 gb,.slice A2 n2 c2] 140)));have HT2:=Lib.hid (btc_up hbt (palloc (Below.refl _ _) (Obj.cells #[.int .i64 gb,.slice A2 n2 c2] 140)));have a0:=KP2.out.cell 0;have a1:=KP2.out.cell 1;have p0:=K62.out.cell 0;have p1:=K62.out.cell 1;have q0:=K8.out.cell 0;have q1:=K8.out.cell 1;simp at a0 a1 p0 p1 q0 q1;have f0:=KP2.out.frozen 0;have f1:=KP2.out.frozen 1;have hz2:=KP2.out.lt;clear hb hbt))
    have hgr:=set2_grown (w2.alloc (Obj.cells #[.int .i64 gb,.slice A2 n2 c2] 140)) w.heap.size (.int .i64 ga) (.slice A1 n1 c1)
    refine bodyPost_ret (v:=.tuple #[.agg #[.int .i64 ga,.slice A1 n1 c1],.bool true]) ?_ rfl ⟨_,rfl,⟨.slice A1 n1 c1,rfl,(sl_by (BtsC.sl HT12.out) hgr (Nat.le_refl _) (noBy_blk2 KP2.out)).more hgr.size⟩,?_⟩
    ·simp [results,Tryz.results118,go_sem,a0,a1,hz2]
    ·exact HB2.out.grown hgr HB2.out.size (fun q hq=>by cases hq;exact Nat.le_refl _)
end Go.Proofs.YtplpmemlaohlaaaGreat.Slt
namespace Go.Proofs.YtplpmemlaohlaaaGreat.Slt
open Go.RowKit Mem Oct Pg Rcd
set_option linter.unusedVariables false
set_option linter.unusedSimpArgs false
theorem made_slices (n:Nat):madeCells #[.slice none 0 0] n=(List.replicate n (Value.slice none 0 0)).toArray:=by
 apply Array.ext
 ·simp [madeCells]
 ·intro i h1 h2
  simp [madeCells,Nat.mod_one]
theorem make_slices (m:Nat) (hm:m≤1000) (w:World):(Instr.makeSlice 33 (.int .i64 (m:Nat)) (.int .i64 (m:Nat))).run Tryz.prog w=.ok (.slice (some ⟨w.heap.size,0,none⟩) m m) (w.alloc (.cells (List.replicate m (Value.slice none 0 0)).toArray 74)):=by
 have:=run_make_row' (P:=Tryz.prog) 33 74 (.slice none 0 0) 24 Tryz.underlying33 info25 rfl .i64 .i64 m (by omega) (by omega) w
 rw [made_slices] at this
 exact this
def Made (w:World) (g m k:Nat) (F:Nat→List Nat):Prop:=∃ vs:List Value,Blk w g 74 vs.toArray∧vs.length=m∧(∀ u∈vs,u.oneCell'=true∧isBy u=false)∧∀ i,i<k→Sl w w.heap.size (vs.getD i undef) (F i)
theorem Made.below {w w':World} {g m k:Nat} {F:Nat→List Nat} (h:Made w g m k F) (hb:Below w.heap.size w w'):Made w' g m k F:=by
 obtain ⟨vs,h1,h2,h3,h4⟩:=h
 exact ⟨vs,h1.below hb h1.lt,h2,h3,fun i hi=>((h4 i hi).below hb (Nat.le_refl _)).more hb.size⟩
theorem made_new (w:World) (m:Nat) (F:Nat→List Nat):Made (w.alloc (.cells (List.replicate m (Value.slice none 0 0)).toArray 74)) w.heap.size m 0 F:=by
 refine ⟨List.replicate m (Value.slice none 0 0),Blk.new w _ _,by simp,fun u hu=>?_,fun i hi=>absurd hi (by omega)⟩
 rw [List.eq_of_mem_replicate hu]
 exact ⟨rfl,rfl⟩
theorem Made.cell {w:World} {g m k:Nat} {F:Nat→List Nat} (h:Made w g m k F) (hk:k<m):(∃ u,w.cell? ⟨g,k,none⟩=some u∧u.oneCell'=true)∧w.frozen? ⟨g,k,none⟩=false∧g<w.heap.size:=by
 obtain ⟨vs,h1,h2,h3,h4⟩:=h
 refine ⟨⟨vs[k]'(by omega),by rw [h1.cell];simp [List.getElem?_eq_getElem (by omega:k<vs.length)],(h3 _ (List.getElem_mem _)).1⟩,h1.frozen k,h1.lt⟩
theorem Made.step {w:World} {g m k:Nat} {F:Nat→List Nat} {u:Value} (h:Made w g m k F) (hk:k<m) (hs:Sl w w.heap.size u (F k)):Made (w.setCell ⟨g,k,none⟩ u) g m (k+1) F:=by
 obtain ⟨vs,h1,h2,h3,h4⟩:=h
 have hn:NoBy w (some g):=noBy_cells h1 (fun u hu=>(h3 u (by simpa using hu)).2)
 have hg:=grown_set w ⟨g,k,none⟩ u
 have hup:∀ v xs,Sl w w.heap.size v xs→Sl (w.setCell ⟨g,k,none⟩ u) (w.setCell ⟨g,k,none⟩ u).heap.size v xs:=fun v xs h=>(sl_by h hg (Nat.le_refl _) hn).more hg.size
 refine ⟨vs.set k u,?_,by simp [h2],fun v hv=>?_,fun i hi=>?_⟩
 ·have:=h1.set_ k u
  simpa using this
 ·rcases List.mem_or_eq_of_mem_set hv with hv | rfl
  ·exact h3 v hv
  ·exact sl_one hs
 ·by_cases e:i=k
  ·subst e
   have e1:(vs.set i u).getD i undef=u:=by simp [List.getD,h2,hk]
   rw [e1]
   exact hup _ _ hs
  ·have e1:(vs.set k u).getD i undef=vs.getD i undef:=by simp [List.getD,List.getElem?_set,Ne.symm e]
   rw [e1]
   exact hup _ _ (h4 i (by omega))
theorem Made.sls {w:World} {g m:Nat} {F:Nat→List Nat} {ss:List (List Nat)} (h:Made w g m m F) (hm:m≤maxLen) (hl:ss.length=m) (hs:∀ i,i<m→ss.getD i []=F i):Sls w w.heap.size (.slice (some ⟨g,0,none⟩) m m) ss:=by
 obtain ⟨vs,h1,h2,h3,h4⟩:=h
 refine ⟨_,_,_,rfl,hl,Nat.le_refl _,hm,fun _=>⟨g,0,rfl,h1.lt,fun i hi=>⟨vs.getD i undef,?_,by rw [hs i hi];exact h4 i hi⟩⟩⟩
 rw [Nat.zero_add,h1.cell]
 simp [List.getD,List.getElem?_eq_getElem (by omega:i<vs.length)]
theorem pages_may {g m:Int} {b:List Nat} {i:Nat} (h:fits (bP g m) b=true) (hi:i<parts b.length):(nth (bP g m) b (parts b.length) i).May:=by
 simp only [fits,Bool.and_eq_true] at h
 exact (may_iff _).1 (List.all_eq_true.1 h.2 _ (by simp only [pages,List.mem_map,List.mem_range];exact ⟨i,hi,rfl⟩))
theorem secs_none {g m most:Int} {b:List Nat} (h:errOf g m most b≠0):secs g m most b=[]:=by
 unfold secs
 rw [if_neg h]
set_option maxRecDepth 20000 in
set_option maxHeartbeats 8000000 in
theorem sectors_any (g mk most:Int) (A:Option Addr) (n c:Nat) (bs:List Nat) (w:World) (h:Sl w w.heap.size (.slice A n c) bs) (hb:bs.length=n) :
  Calls Tryz.prog 170 #[.agg #[.int .i64 g,.slice A n c],.int .i64 mk,.int .i64 most] w fun e w'=>∃ v',e=.returned (.tuple #[v',.int .i64 (errOf g mk most bs)])∧Sls w' w'.heap.size v' (secs g mk most bs)∧Below w.heap.size w w':=by
 have hb0:=palloc (Below.refl w.heap.size w) (Obj.cells #[.int .i64 g,.slice A n c] 140)
 have kb:=Blk.new w 140 #[.int .i64 g,.slice A n c]
 have hp:=fun (W:World)=>parts_any (n:Int) W
 rw [partsI_nat] at hp
 have sp:=fun (W:World) (hW:Below w.heap.size w W)=>split_any (bP g mk) (.slice none 0 0) A n c bs W ((h.below hW (Nat.le_refl _)).more hW.size) hb (by unfold In64 bP;simp only;omega)
 have e0:pgV (bP g mk) (.slice none 0 0)=.agg #[.int .i64 1,.int .i64 g,.int .i64 mk,.int .i64 0,.int .i64 0,.int .i64 0,.slice none 0 0]:=rfl
 rw [e0] at sp
 clear e0
 have hm16:=parts_le n
 have hpn:parts n=0↔7808<n:=⟨fun h=>Nat.lt_of_not_le fun h2=>by have:=parts_pos h2;omega,parts_zero⟩
 have her:errOf g mk most bs=if parts n=0∨most<parts n then 5 else if fits (bP g mk) bs=true then 0 else 1:=by unfold errOf;rw [hb]
 have hsn:=@secs_none g mk most bs
 have hss:errOf g mk most bs=0→secs g mk most bs=sectorsOf g mk bs:=fun h=>by unfold secs;rw [if_pos h]
 have hgt:=fun i (hi:i<parts n)=>sectorsOf_get g mk bs i (by rw [hb];exact hi)
 have hsl:=sectorsOf_len g mk bs
 have hpg:=fun i (hi:i<parts n)=>pages_getD (bP g mk) bs i (by rw [hb];exact hi)
 have hpy:=fun i (hf:fits (bP g mk) bs=true) (hi:i<parts n)=>pages_may hf (by rw [hb];exact hi)
 rw [hb] at hgt hsl hpg hpy
 obtain ⟨m,hm⟩:∃ m,m=parts n:=⟨_,rfl⟩
 rw [← hm] at hp hm16 hpn her hgt hsl hpg hpy
 obtain ⟨ec,hec⟩:∃ ec,ec=errOf g mk most bs:=⟨_,rfl⟩
 obtain ⟨sl,hsl0⟩:∃ sl,sl=secs g mk most bs:=⟨_,rfl⟩
 rw [← hec] at her hsn hss ⊢
 rw [← hsl0] at hsn hss ⊢
 clear hec hsl0 hm h
 have HP:=Lib.hid hp;clear hp
 have HB0:=Lib.hid hb0;clear hb0
 have KB:=Lib.hid kb;clear kb
 have HBL:=Lib.hid hb;clear hb
 by_cases hmo:most<(m:Int)
 ·rw [if_pos (.inr hmo)] at her
  have hd:decide (most<(m:Int))=true:=by simpa using hmo
  have hs0:=hsn (by omega)
  rw [her,hs0]
  clear her hsn hss hgt hsl hpg hpy sp hmo hpn hs0
  go_enter Tryz.func170,Tryz.ntmps170
  go_wp2_with (go_at_call 151;refine (HP.out _).mono ?_;rintro e w' ⟨rfl,rfl⟩)
  go_ret2
  exact ⟨_,rfl,sls_nil _ _,HB0.out⟩
 ·have hd:decide (most<(m:Int))=false:=by simpa using hmo
  by_cases hf:fits (bP g mk) bs=true
  ·have hn78:n≤7808:=by have:=fits_len hf;have:=HBL.out;omega
   have hm0:m≠0:=fun e=>by have:=hpn.1 e;omega
   rw [if_neg (fun h=>h.elim (fun e=>hm0 e) hmo),if_pos hf] at her
   have hs0:=hss her
   rw [her,hs0]
   rw [if_neg (by omega:¬ 7808<n),if_pos hf,if_pos hf] at sp
   have hpy':=fun i hi=>hpy i hf hi
   have SP:=Lib.hid sp;clear sp
   have HPY:=Lib.hid hpy';clear hpy' hpy
   have HPG:=Lib.hid hpg;clear hpg
   have HGT:=Lib.hid hgt;clear hgt
   have HSL:=Lib.hid hsl;clear hsl
   clear her hsn hss hmo hpn hs0 hf
   have hmk:=fun (W:World)=>make_slices m (by omega) W
   have hmp:0<m:=by omega
   go_enter Tryz.func170,Tryz.ntmps170
   go_wp2_with (first
    | (go_at_call 151;refine (HP.out _).mono ?_;rintro e w' ⟨rfl,rfl⟩)
    | (go_at_call 97;refine (SP.out _ HB0.out).mono ?_;rintro e w2 ⟨v2,rfl,hp2,hb2⟩;obtain ⟨A2,n2,c2,rfl,_⟩:=id hp2;have hn2:n2=m:=(by have h1:=(pgs_len hp2).1;rw [pages_length,HBL.out] at h1;have h2:=HGT;have:=HSL.out;unfold sectorsOf at this;rw [List.length_map,pages_length,HBL.out] at this;omega);subst hn2;have HP2:=Lib.hid hp2;have HB2:=Lib.hid (HB0.out.trans (hb2.mono HB0.out.size));clear hp2 hb2))
   obtain ⟨F,hF⟩:∃ F:Nat→List Nat,F=fun i=>(nth (bP g mk) bs n2 i).sector:=⟨_,rfl⟩
   have HF:=Lib.hid hF;clear hF
   have hmd:=made_new w2 n2 F
   have hz2:w2.heap.size<(w2.alloc (.cells (List.replicate n2 (Value.slice none 0 0)).toArray 74)).heap.size:=by simp
   have hbm:=palloc (Below.refl w2.heap.size w2) (Obj.cells (List.replicate n2 (Value.slice none 0 0)).toArray 74)
   have HMD:=Lib.hid hmd;clear hmd
   have HBM:=Lib.hid hbm;clear hbm
   have HB3:=Lib.hid (HB2.out.trans (HBM.out.mono HB2.out.size))
   go_loopw [37] (fun i wr=>∃ k:Nat,k≤n2∧i=.int .i64 k∧Made wr w2.heap.size n2 k F∧Below w2.heap.size w2 wr) (fun i _=>n2 - (intOf i).toNat)
   case atStart=>exact ⟨0,Nat.zero_le _,rfl,HMD.out,HBM.out⟩
   case round =>
    obtain ⟨k,hk,rfl,hmd,hbw⟩:=hrel
    have HB:=Lib.hid hbw;clear hbw
    have HMK:=Lib.hid hmd;clear hmd
    by_cases hlt:k<n2
    ·obtain ⟨b,off,rfl,hb,hc⟩:=pgs_at HP2.out (by omega)
     obtain ⟨v1,hr1,hs1⟩:=hc k hlt
     rw [HPG.out k hlt] at hr1 hs1
     have hmy:=HPY.out k hlt
     have hfk:F k=(nth (bP g mk) bs n2 k).sector:=by rw [HF.out]
     obtain ⟨q1,hq1⟩:∃ q,q=nth (bP g mk) bs n2 k:=⟨_,rfl⟩
     rw [← hq1] at hr1 hs1 hmy hfk
     clear hq1 hc
     obtain ⟨A1,n1,c1,rfl,hbt1⟩:=hs1
     have HR1:=Lib.hid hr1;clear hr1
     have HFK:=Lib.hid hfk;clear hfk
     have pu:=put_ok q1 (.slice A1 n1 c1) (wr.alloc (.cells #[.int .i64 q1.kind,.int .i64 q1.gen,.int .i64 q1.mark,.int .i64 q1.index,.int .i64 q1.part,.int .i64 q1.parts,.slice A1 n1 c1] 125)) hmy ⟨A1,n1,c1,rfl,(hbt1.below (palloc HB.out _) (Nat.le_refl _)).more (palloc HB.out _).size⟩
     unfold pgV at pu
     have PU:=Lib.hid pu;clear pu hbt1
     go_wp2_with (first
      | (refine wpList_load_mid rfl 125 (.tmp 40) rfl b (off+k*7) rfl [.int .i64 q1.kind,.int .i64 q1.gen,.int .i64 q1.mark,.int .i64 q1.index,.int .i64 q1.part,.int .i64 q1.parts,.slice A1 n1 c1] _ (rangeAt_below HR1.out HB.out hb) Tryz.underlying125 rfl (by rw [size24];rfl) ?_)
      | (go_at_call 99;refine (PU.out).mono ?_;rintro e w4 ⟨v4,rfl,hs4,hb4⟩;obtain ⟨A4,n4,c4,rfl,_⟩:=id hs4;have HS4:=Lib.hid hs4;have hbr:=(palloc (Below.refl wr.heap.size wr) (Obj.cells #[.int .i64 q1.kind,.int .i64 q1.gen,.int .i64 q1.mark,.int .i64 q1.index,.int .i64 q1.part,.int .i64 q1.parts,.slice A1 n1 c1] 125)).trans (hb4.mono (by simp));have HM4:=Lib.hid (HMK.out.below hbr);have HB4:=Lib.hid (HB.out.trans (hbr.mono HB.out.size));obtain ⟨⟨uk,huk,huo⟩,hfk4,hg4⟩:=HM4.out.cell hlt;clear hbr hb4 hs4))
     go_roundw
     case rel=>exact ⟨k+1,by omega,by go_num,HM4.out.step hlt (by rw [HFK.out];exact HS4.out),HB4.out.grown (grown_set w4 ⟨w2.heap.size,k,none⟩ _) HB4.out.size (fun q hq=>by cases hq;exact Nat.le_refl _)⟩
     case measure=>simp [intOf];omega
    ·obtain rfl:k=n2:=by omega
     go_wp2
     go_ret2
     exact ⟨_,rfl,HMK.out.sls (by unfold maxLen;omega) HSL.out (fun i hi=>by rw [HGT.out i hi,HF.out]),HB2.out.trans (HB.out.mono HB2.out.size)⟩
  ·have hf':fits (bP g mk) bs=false:=by simpa using hf
   obtain ⟨er,hers⟩:∃ er:Int,er=if 7808<n then 5 else 1:=⟨_,rfl⟩
   have hee:ec=er:=by
    rw [her,hers]
    by_cases hn78:7808<n
    ·rw [if_pos (.inl (hpn.2 hn78)),if_pos hn78]
    ·rw [if_neg (fun h=>h.elim (fun e=>hn78 (hpn.1 e)) hmo),if_neg hf,if_neg hn78]
   have hne:(er != 0)=true:=by rw [bne_iff_ne];split at hers <;> omega
   have hs0:=hsn (by rw [hee];split at hers <;> omega)
   rw [hee,hs0]
   rw [if_neg hf,← hers,if_neg hf] at sp
   have SP:=Lib.hid sp;clear sp
   clear her hsn hss hgt hsl hpg hpy hmo hpn hs0 hf hf' hee hers
   go_enter Tryz.func170,Tryz.ntmps170
   go_wp2_with (first
    | (go_at_call 151;refine (HP.out _).mono ?_;rintro e w' ⟨rfl,rfl⟩)
    | (go_at_call 97;refine (SP.out _ HB0.out).mono ?_;rintro e w2 ⟨v2,rfl,hp2,hb2⟩;have HB2:=Lib.hid (HB0.out.trans (hb2.mono HB0.out.size));clear hb2 hp2))
   go_ret2
   exact ⟨_,rfl,sls_nil _ _,HB2.out⟩
end Go.Proofs.YtplpmemlaohlaaaGreat.Slt
namespace Go.Proofs.YtplpmemlaohlaaaGreat.Slt
open Go.RowKit Mem Oct Pg
set_option linter.unusedVariables false
set_option linter.unusedSimpArgs false
end Go.Proofs.YtplpmemlaohlaaaGreat.Slt
namespace Go.Proofs.YtplpmemlaohlaaaGreat.Slt
open Go.RowKit Mem Oct Pg Rcd
set_option linter.unusedVariables false
set_option linter.unusedSimpArgs false
theorem reads_slice (w:World) (u:Value) (g:Nat) (hg:g=w.heap.size):Reads (w.alloc (.cells #[u] 74)) (w.heap.size+1) 1 (some ⟨g,0,none⟩) 1 [u]:=by
 subst hg
 refine ⟨by simp,fun _=>⟨_,rfl,Nat.lt_succ_self _,fun j x hx=>?_⟩⟩
 have hk:=Blk.new w 74 #[u]
 rw [add_plain,Nat.zero_add,hk.cell]
 simpa using hx
theorem zSl_nob:∀ u∈(Value.slice none 0 0).cells.toList,isBy u=false:=by
 intro u hu
 have e:(Value.slice none 0 0).cells.toList=[.slice none 0 0]:=rfl
 rw [e] at hu
 rw [List.mem_singleton.1 hu]
 rfl
theorem slRow_push {w5 W w7:World} {base:Nat} {u v7 vq:Value} {ss:List (List Nat)} {vs:List Value} {s:List Nat} (hvl:vs.length=ss.length) (hown:OwnN w5 base 74 1 u ss.length vs) (hvs:∀ i,i<ss.length→Sl w5 w5.heap.size (vs.getD i undef) (ss.getD i []))
  (hq:Sl w5 w5.heap.size vq s) (hW:Below w5.heap.size w5 W) (hown7:OwnN w7 base 74 1 v7 (ss.length+1) (vs++[vq])) (hg7:W.grownBy w7 u.ownBlock):SlRow w7 base v7 (ss++[s]) :=
 slRow_app (ts:=[s]) (us:=[vq]) hvl rfl (hown.below hW).2 (fun i hi=>((hvs i hi).below hW (Nat.le_refl _)).more hW.size) (fun i hi=>by
  have:i=0:=by simpa using hi
  subst this
  exact (hq.below hW (Nat.le_refl _)).more hW.size) hown7 hg7
end Go.Proofs.YtplpmemlaohlaaaGreat.Slt
