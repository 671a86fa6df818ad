/- WalAllA: the texts WalPure, WalInv, WalWrites, WalKeep, WalLog in one. (Printed by tools/mergeall.py.) -/
import Derived.Test.YtplpmemlaohlaaaGreatKpDiskAll
import Derived.Test.YtplpmemlaohlaaaGreatKpRecAll
import Derived.Test.YtplpmemlaohlaaaGreatKpSlotAll
namespace Go.Proofs.YtplpmemlaohlaaaGreat.Wl
open Go.RowKit Mem Oct Pg Rcd Slt
set_option linter.unusedVariables false
set_option linter.unusedSimpArgs false
def run (f:Nat→Option P):Nat→Nat→List P
 | 0,_=>[]
 | k+1,i=>match f i with
  | none=>[]
  | some p=>p::run f k (i+1)
section
variable {f f':Nat→Option P}
theorem run_some {k i:Nat} {p:P} (h:f i=some p):run f (k+1) i=p::run f k (i+1):=by rw [run,h]
theorem run_none {k i:Nat} (h:f i=none):run f (k+1) i=[]:=by rw [run,h]
theorem run_get {k i j:Nat} {p:P} (h:(run f k i)[j]?=some p):f (i+j)=some p∧j<k:=by
 induction k generalizing i j with
 | zero=>simp [run] at h
 | succ k ih =>
  cases hf:f i with
  | none=>rw [run_none hf] at h;simp at h
  | some q =>
   rw [run_some hf] at h
   cases j with
   | zero=>simp at h;subst h;exact ⟨hf,by omega⟩
   | succ j =>
    rw [List.getElem?_cons_succ] at h
    have:=ih h
    exact ⟨by rw [show i+(j+1)=i+1+j by omega];exact this.1,by omega⟩
theorem run_len (k i:Nat):(run f k i).length≤k:=by
 induction k generalizing i with
 | zero=>simp [run]
 | succ k ih =>
  cases hf:f i with
  | none=>rw [run_none hf];simp
  | some q=>rw [run_some hf,List.length_cons];have:=ih (i+1);omega
theorem run_agree {k i n:Nat} (h:∀ j,i≤j→j<i+n→f' j=f j):(run f' k i).take n=(run f k i).take n:=by
 induction k generalizing i n with
 | zero=>rfl
 | succ k ih =>
  cases n with
  | zero=>simp
  | succ n =>
   have h0:=h i (Nat.le_refl _) (by omega)
   cases hf:f i with
   | none=>rw [hf] at h0;rw [run_none hf,run_none h0]
   | some q =>
    rw [hf] at h0
    rw [run_some hf,run_some h0,List.take_succ_cons,List.take_succ_cons,ih (fun j h1 h2=>h j (by omega) (by omega))]
theorem run_laid {k i:Nat} {ps:List P} (hk:ps.length≤k) (h:∀ j,j<ps.length→f (i+j)=some (ps.getD j noP)):run f k i=ps++run f (k - ps.length) (i+ps.length):=by
 induction ps generalizing k i with
 | nil=>simp
 | cons p r ih =>
  rw [List.length_cons] at hk
  obtain ⟨k',rfl⟩:∃ k',k=k'+1:=⟨k - 1,by omega⟩
  have h0:=h 0 (by simp)
  simp only [Nat.add_zero,List.getD_cons_zero] at h0
  rw [run_some h0,ih (by omega) (fun j hj=>by have:=h (j+1) (by simp;omega);rw [List.getD_cons_succ] at this;rw [← this];congr 1;omega)]
  rw [List.cons_append,List.length_cons]
  congr 3
  ·omega
  ·omega
end
theorem parts_told {l:List P} {q:P} {r:List P} (hl:l=q::r):told l=if 1≤q.parts∧q.parts≤l.length∧q.parts≤16 then l.take q.parts.toNat else []:=by
 subst hl
 rfl
theorem joined_some {l:List P} {b:List Nat} {n:Nat} (h:joined l=some (b,n)):∃ q r,l=q::r∧q.parts=n∧1≤n∧n≤l.length∧n≤16∧l.take n=pages q b∧parts b.length=n∧fits q b=true:=by
 cases l with
 | nil=>rw [joined_nil rfl] at h;cases h
 | cons q r =>
  cases ht:told (q::r) with
  | nil=>rw [joined_nil ht] at h;cases h
  | cons q' r' =>
   have hq:=told_head rfl ht
   subst hq
   have ht2:=parts_told (l:=q'::r) rfl
   rw [ht] at ht2
   rw [joined_of ht] at h
   split at h
   ·rename_i hh
    injection h with h
    injection h with h1 h2
    by_cases hc:1≤q'.parts∧q'.parts≤(q'::r).length∧q'.parts≤16
    ·rw [if_pos hc] at ht2
     have hlen:(q'::r').length=q'.parts.toNat:=by
      rw [ht2,List.length_take]
      omega
     have hn:q'.parts=n:=by omega
     refine ⟨q',r,rfl,hn,by omega,by omega,by omega,?_,?_,?_⟩
     ·have e:n=q'.parts.toNat:=by omega
      rw [e,← ht2,← h1,hh.2]
     ·rw [← h1,← pages_length q' _,hh.2,h2]
     ·rw [← h1];exact hh.1
    ·rw [if_neg hc] at ht2
     cases ht2
   ·cases h
theorem joined_prefix {l l':List P} {b:List Nat} {n:Nat} (h:joined l=some (b,n)) (ht:l'.take n=l.take n):joined l'=some (b,n):=by
 obtain ⟨q,r,hl,hp,h1,h2,h16,hpg,hpl,hf⟩:=joined_some h
 have hn:n≤l'.length:=by
  have:=congrArg List.length ht
  rw [List.length_take,List.length_take] at this
  omega
 have hl':l'=pages q b++l'.drop n:=by
  conv=>lhs;rw [← List.take_append_drop n l',ht,hpg]
 rw [hl',join_pages _ hf,hpl]
theorem joined_part {q:P} {r:List P} {b:List Nat} {n:Nat} (h:joined (q::r)=some (b,n)):q.part=0:=by
 obtain ⟨q',r',hl,hp,h1,h2,h16,hpg,hpl,hf⟩:=joined_some h
 injection hl with e1 e2
 subst e1
 have e3:((q::r).take n)[0]?=some q:=by
  rw [List.getElem?_take,if_pos (by omega)]
  rfl
 rw [hpg] at e3
 have h0:0<(pages q b).length:=by rw [pages_length];omega
 rw [List.getElem?_eq_getElem h0,pages_get] at e3
 have e4:=Option.some.inj e3
 rw [← e4]
 rfl
theorem joined_same {l:List P} {b:List Nat} {n:Nat} (h:joined l=some (b,n)):∃ q,l[0]?=some q∧q.parts=(n:Int)∧∀ i,i<n→∃ y,l[i]?=some y∧y.gen=q.gen∧y.mark=q.mark:=by
 obtain ⟨q,r,hl,hp,h1,h2,h16,hpg,hpl,hf⟩:=joined_some h
 refine ⟨q,by rw [hl];rfl,hp,fun i hi=>?_⟩
 have e:l[i]?=(pages q b)[i]?:=by rw [← hpg,List.getElem?_take,if_pos hi]
 have h0:i<(pages q b).length:=by rw [pages_length];omega
 rw [List.getElem?_eq_getElem h0,pages_get] at e
 exact ⟨_,e,rfl,rfl⟩
theorem mix {f f':Nat→Option P} {i k n:Nat} {q:P} {b:List Nat} (hf:fits q b=true) (hn:n=parts b.length) (hnk:n≤k)
  (hin:∀ j,j<n→f' (i+j)=none∨f' (i+j)=f (i+j)∨f' (i+j)=some (nth q b n j)) (hout:∀ j,i+n≤j→f' j=f j)
  (hfr:∀ j x,i≤j→f j=some x→¬ (x.gen=q.gen∧x.mark=q.mark)) {b':List Nat} {n':Nat} (h:joined (run f' k i)=some (b',n')) :
  ((∀ j,j<n→f' (i+j)=some (nth q b n j))∧b'=b∧n'=n)∨(run f k i).take n'=(run f' k i).take n':=by
 obtain ⟨p,hp0,hpp,hall⟩:=joined_same h
 have hf0:=(run_get hp0).1
 rw [Nat.add_zero] at hf0
 obtain ⟨_,_,_,_,h1,h2,_,_,_,_⟩:=joined_some h
 have hn1:1≤n:=by
  rw [hn]
  simp only [fits,Bool.and_eq_true,decide_eq_true_eq] at hf
  exact hf.1
 by_cases hm:p.gen=q.gen∧p.mark=q.mark
 ·left
  have hnew:∀ j,j<n'→j<n→f' (i+j)=some (nth q b n j):=fun j hj hjn=>by
   obtain ⟨y,hy,hy1,hy2⟩:=hall j hj
   have hyf:=(run_get hy).1
   rcases hin j hjn with e | e | e
   ·rw [hyf] at e;cases e
   ·rw [hyf] at e
    exact absurd ⟨hy1.trans hm.1,hy2.trans hm.2⟩ (hfr (i+j) y (by omega) e.symm)
   ·exact e
  have h0:=hnew 0 (by omega) (by omega)
  rw [Nat.add_zero,hf0] at h0
  have hpq:=Option.some.inj h0
  have hnn:n'=n:=by
   have:p.parts=(n:Int):=by rw [hpq];rfl
   omega
  have hno:∀ j,j<n→f' (i+j)=some (nth q b n j):=fun j hj=>hnew j (by omega) hj
  have hl:run f' k i=pages q b++run f' (k - n) (i+n):=by
   have:=run_laid (f:=f') (k:=k) (i:=i) (ps:=pages q b) (by rw [pages_length,← hn];exact hnk) (fun j hj=>by
    rw [pages_length,← hn] at hj
    rw [hno j hj]
    have h3:j<(pages q b).length:=by rw [pages_length,← hn];exact hj
    simp only [List.getD,List.getElem?_eq_getElem h3,pages_get,Option.getD_some,← hn])
   rw [pages_length,← hn] at this
   exact this
  rw [hl,join_pages _ hf] at h
  injection h with h
  injection h with h3 h4
  exact ⟨hno,h3.symm,by omega⟩
 ·right
  refine run_agree fun j h3 h4=>?_
  by_cases hj:j<i+n
  ·obtain ⟨y,hy,hy1,hy2⟩:=hall (j - i) (by omega)
   have hyf:=(run_get hy).1
   rw [show i+(j - i)=j by omega] at hyf
   rcases hin (j - i) (by omega) with e | e | e
   ·rw [show i+(j - i)=j by omega] at e
    rw [hyf] at e;cases e
   ·rw [show i+(j - i)=j by omega] at e
    exact e.symm
   ·rw [show i+(j - i)=j by omega] at e
    rw [hyf] at e
    have e2:=Option.some.inj e
    exact absurd ⟨by rw [← hy1,e2];rfl,by rw [← hy2,e2];rfl⟩ hm
  ·exact (hout j (by omega)).symm
theorem all_new {f':Nat→Option P} {i k n:Nat} {q:P} {b:List Nat} (hf:fits q b=true) (hn:n=parts b.length) (hnk:n≤k) (h:∀ j,j<n→f' (i+j)=some (nth q b n j)) :
  joined (run f' k i)=some (b,n):=by
 have:=run_laid (f:=f') (k:=k) (i:=i) (ps:=pages q b) (by rw [pages_length,← hn];exact hnk) (fun j hj=>by
  rw [pages_length,← hn] at hj
  rw [h j hj]
  have h3:j<(pages q b).length:=by rw [pages_length,← hn];exact hj
  simp only [List.getD,List.getElem?_eq_getElem h3,pages_get,Option.getD_some,← hn])
 rw [this,join_pages _ hf,hn]
def Laid (f:Nat→Option P) (log:Nat):List (List Nat)→Nat→Nat→Prop
 | [],i,e=>i=e
 | b::r,i,e=>∃ n,joined (run f (log - i) i)=some (b,n)∧Laid f log r (i+n) e
def tail (f:Nat→Option P) (log:Nat):Nat→Nat→List (List Nat) × Nat
 | 0,i=>([],i)
 | k+1,i=>match joined (run f (log - i) i) with
  | none=>([],i)
  | some x=>(x.1::(tail f log k (i+x.2)).1,(tail f log k (i+x.2)).2)
section
variable {f f':Nat→Option P} {log:Nat}
theorem tail_none {k i:Nat} (h:joined (run f (log - i) i)=none):tail f log k i=([],i):=by
 cases k with
 | zero=>rfl
 | succ k=>rw [tail,h]
theorem tail_some {k i n:Nat} {b:List Nat} (h:joined (run f (log - i) i)=some (b,n)):tail f log (k+1) i=(b::(tail f log k (i+n)).1,(tail f log k (i+n)).2):=by rw [tail,h]
theorem laid_tail {recs:List (List Nat)} {i e k:Nat} (h:Laid f log recs i e) (he:joined (run f (log - e) e)=none) (hk:recs.length≤k):tail f log k i=(recs,e):=by
 induction recs generalizing i k with
 | nil =>
  have:i=e:=h
  subst this
  exact tail_none he
 | cons b r ih =>
  obtain ⟨n,h1,h2⟩:=h
  obtain ⟨k',rfl⟩:∃ k',k=k'+1:=⟨k - 1,by rw [List.length_cons] at hk;omega⟩
  rw [tail_some h1,ih h2 (by rw [List.length_cons] at hk;omega)]
theorem laid_le {recs:List (List Nat)} {i e:Nat} (h:Laid f log recs i e) (hi:i≤log):i+recs.length≤e∧e≤log:=by
 induction recs generalizing i with
 | nil =>
  have:i=e:=h
  subst this
  exact ⟨by simp,hi⟩
 | cons b r ih =>
  obtain ⟨n,h1,h2⟩:=h
  obtain ⟨_,_,_,_,h3,h4,_⟩:=joined_some h1
  have h5:=run_len (f:=f) (log - i) i
  have:=ih h2 (by omega)
  rw [List.length_cons]
  omega
theorem laid_agree {recs:List (List Nat)} {i e:Nat} (h:Laid f log recs i e) (hi:i≤log) (ha:∀ j,j<e→f' j=f j):Laid f' log recs i e:=by
 induction recs generalizing i with
 | nil=>exact h
 | cons b r ih =>
  obtain ⟨n,h1,h2⟩:=h
  obtain ⟨_,_,_,_,h3,h4,_⟩:=joined_some h1
  have h5:=run_len (f:=f) (log - i) i
  have h6:=laid_le h2 (by omega)
  exact ⟨n,joined_prefix h1 (run_agree fun j _ hj=>ha j (by omega)),ih h2 (by omega)⟩
theorem laid_app {recs rs:List (List Nat)} {i m e:Nat} (h:Laid f log recs i m) (h':Laid f log rs m e):Laid f log (recs++rs) i e:=by
 induction recs generalizing i with
 | nil =>
  have:i=m:=h
  subst this
  exact h'
 | cons b r ih =>
  obtain ⟨n,h1,h2⟩:=h
  exact ⟨n,h1,ih h2⟩
theorem laid_one {i n:Nat} {b:List Nat} (h:joined (run f (log - i) i)=some (b,n)):Laid f log [b] i (i+n):=⟨n,h,rfl⟩
end
structure LogInv (f:Nat→Option P) (log:Nat) (recs:List (List Nat)) (e:Nat) (mk:Int):Prop where
 laid:Laid f log recs 0 e
 stop:joined (run f (log - e) e)=none
 le:e≤log
 fresh:∀ j x,e≤j→f j=some x→x.mark<mk
 part:∀ j x,e<j→f j=some x→1≤x.part
theorem LogInv.tail_eq {f:Nat→Option P} {log e:Nat} {recs:List (List Nat)} {mk:Int} (h:LogInv f log recs e mk) {k:Nat} (hk:log≤k):tail f log k 0=(recs,e) :=
 laid_tail h.laid h.stop (by have:=laid_le h.laid (Nat.zero_le _);omega)
theorem log_write {f f':Nat→Option P} {log e n:Nat} {recs:List (List Nat)} {mk:Int} {q:P} {b:List Nat} (h:LogInv f log recs e mk) (hq:q.mark=mk) (hf:fits q b=true) (hn:n=parts b.length) (hnl:e+n≤log)
  (hin:∀ j,j<n→f' (e+j)=none∨f' (e+j)=f (e+j)∨f' (e+j)=some (nth q b n j)) (hout:∀ j,j<e∨e+n≤j→f' j=f j) (mk':Int) (hmk:mk<mk') :
  LogInv f' log recs e mk'∨((∀ j,j<n→f' (e+j)=some (nth q b n j))∧LogInv f' log (recs++[b]) (e+n) mk'):=by
 have hfr:∀ j x,e≤j→f j=some x→¬ (x.gen=q.gen∧x.mark=q.mark):=fun j x hj hx hh=>by
  have:=h.fresh j x hj hx
  omega
 have hlaid:=laid_agree (f':=f') h.laid (Nat.zero_le _) (fun j hj=>hout j (.inl hj))
 have hfresh:∀ j x,e≤j→f' j=some x→x.mark<mk':=fun j x hj hx=>by
  by_cases hjn:j<e+n
  ·rcases hin (j - e) (by omega) with e1 | e1 | e1
   ·rw [show e+(j - e)=j by omega,hx] at e1;cases e1
   ·rw [show e+(j - e)=j by omega,hx] at e1
    have:=h.fresh j x hj e1.symm
    omega
   ·rw [show e+(j - e)=j by omega,hx] at e1
    have:=Option.some.inj e1
    rw [this]
    show q.mark<mk'
    omega
  ·rw [hout j (.inr (by omega))] at hx
   have:=h.fresh j x hj hx
   omega
 have hpart:∀ j x,e<j→f' j=some x→1≤x.part:=fun j x hj hx=>by
  by_cases hjn:j<e+n
  ·rcases hin (j - e) (by omega) with e1 | e1 | e1
   ·rw [show e+(j - e)=j by omega,hx] at e1;cases e1
   ·rw [show e+(j - e)=j by omega,hx] at e1
    exact h.part j x hj e1.symm
   ·rw [show e+(j - e)=j by omega,hx] at e1
    have:=Option.some.inj e1
    rw [this]
    show (1:Int)≤((j - e:Nat):Int)
    omega
  ·rw [hout j (.inr (by omega))] at hx
   exact h.part j x hj hx
 cases hj:joined (run f' (log - e) e) with
 | none=>exact .inl ⟨hlaid,hj,h.le,hfresh,hpart⟩
 | some x =>
  obtain ⟨b',n'⟩:=x
  rcases mix hf hn (by omega) hin (fun j hj=>hout j (.inr hj)) hfr hj with ⟨h1,h2,h3⟩ | h1
  ·right
   subst h2 h3
   refine ⟨h1,laid_app hlaid (laid_one hj),?_,hnl,fun j x hj=>hfresh j x (by omega),fun j x hj=>hpart j x (by omega)⟩
   cases hj2:joined (run f' (log - (e+n')) (e+n')) with
   | none=>rfl
   | some y =>
    exfalso
    obtain ⟨b2,n2⟩:=y
    obtain ⟨p,hp0,_⟩:=joined_same hj2
    have hp1:=(run_get hp0).1
    rw [Nat.add_zero] at hp1
    obtain ⟨q2,r2,hl2,_,h4,_⟩:=joined_some hj2
    have h5:=hpart (e+n') p (by obtain ⟨_,_,_,_,h9,_⟩:=joined_some hj;omega) hp1
    rw [hl2] at hj2 hp0
    have h6:=joined_part hj2
    have h7:q2=p:=by simpa using hp0
    rw [h7] at h6
    omega
  ·have h2:=joined_prefix hj h1
   rw [h.stop] at h2
   cases h2
end Go.Proofs.YtplpmemlaohlaaaGreat.Wl
namespace Go.Proofs.YtplpmemlaohlaaaGreat.Wl
open Go.RowKit Mem Oct Pg Rcd Slt
set_option linter.unusedVariables false
set_option linter.unusedSimpArgs false
def pick (g:Int) (i:Nat):Option P→Option P
 | none=>none
 | some x=>if x.kind=2∧x.gen=g∧x.index=(i:Int) then some x else none
def logF (D:Nat→List Nat) (fr:Nat) (g:Int) (i:Nat):Option P:=pick g i (got (D (fr+i)))
def slotF (D:Nat→List Nat) (s j:Nat):Option P:=got (D (s+j))
theorem pick_some {g:Int} {i:Nat} {o:Option P} {x:P} (h:pick g i o=some x):o=some x∧x.kind=2∧x.gen=g∧x.index=(i:Int):=by
 cases o with
 | none=>cases h
 | some y =>
  have e:pick g i (some y)=if y.kind=2∧y.gen=g∧y.index=(i:Int) then some y else none:=rfl
  rw [e] at h
  split at h
  ·rename_i hh
   injection h with h
   subst h
   exact ⟨rfl,hh⟩
  ·cases h
theorem pick_of {g:Int} {i:Nat} {x:P} (h:x.kind=2∧x.gen=g∧x.index=(i:Int)):pick g i (some x)=some x:=by
 have e:pick g i (some x)=if x.kind=2∧x.gen=g∧x.index=(i:Int) then some x else none:=rfl
 rw [e,if_pos h]
def loadR:List P→Option Bs
 | []=>none
 | q::r=>(joined (q::r)).bind fun x=>base0 q x.1
theorem loadR_cons (q:P) (r:List P):loadR (q::r)=(joined (q::r)).bind fun x=>base0 q x.1:=rfl
theorem loadR_joined {l:List P} {y:Bs} (h:loadR l=some y):∃ q r b n,l=q::r∧joined l=some (b,n)∧q.kind=1∧q.index=0∧y=(q.gen,b):=by
 cases l with
 | nil=>cases h
 | cons q r =>
  rw [loadR_cons] at h
  cases hj:joined (q::r) with
  | none=>rw [hj] at h;cases h
  | some x =>
   rw [hj] at h
   simp only [base0,Option.bind_some] at h
   split at h
   ·rename_i hh
    injection h with h
    exact ⟨q,r,x.1,x.2,rfl,rfl,hh.1,hh.2,h.symm⟩
   ·cases h
theorem loadR_of {l:List P} {q:P} {r:List P} {b:List Nat} {n:Nat} (hl:l=q::r) (hj:joined l=some (b,n)) (hk:q.kind=1) (hi:q.index=0):loadR l=some (q.gen,b):=by
 subst hl
 rw [loadR_cons,hj]
 simp only [base0,Option.bind_some]
 rw [if_pos ⟨hk,hi⟩]
theorem loadR_prefix {l l':List P} {b:List Nat} {n:Nat} {y:Bs} (h:loadR l=some y) (hj:joined l=some (b,n)) (ht:l'.take n=l.take n):loadR l'=some y:=by
 obtain ⟨q,r,b2,n2,hl,hj2,hk,hi,hy⟩:=loadR_joined h
 rw [hj] at hj2
 injection hj2 with hj2
 injection hj2 with e1 e2
 subst e1 e2
 have hj':=joined_prefix hj ht
 obtain ⟨_,_,_,_,h1,h2,_⟩:=joined_some hj'
 cases l' with
 | nil=>simp at h2;omega
 | cons q' r' =>
  have hq:q'=q:=by
   subst hl
   have:=congrArg (fun l=>l[0]?) ht
   simp only [List.getElem?_take] at this
   rw [if_pos (by omega),if_pos (by omega)] at this
   simpa using this
  subst hq
  rw [loadR_of rfl hj' hk hi,hy]
theorem pagesOf_run (D:Nat→List Nat) (s k:Nat):pagesOf ((List.range k).map fun j=>D (s+j))=run (slotF D s) k 0:=by
 have:∀ (k i:Nat),pagesOf ((List.range k).map fun j=>D (s+(i+j)))=run (slotF D s) k i:=by
  intro k
  induction k with
  | zero=>intro i;rfl
  | succ k ih =>
   intro i
   have e:(List.range (k+1)).map (fun j=>D (s+(i+j)))=D (s+i)::(List.range k).map (fun j=>D (s+(i+1+j))):=by
    rw [List.range_succ_eq_map,List.map_cons,List.map_map]
    congr 1
    apply List.map_congr_left
    intro j _
    show D (s+(i+(j+1)))=_
    congr 1
    omega
   rw [e]
   cases hg:got (D (s+i)) with
   | none=>rw [pagesOf_none hg,run_none (by unfold slotF;exact hg)]
   | some p=>rw [pagesOf_some hg,run_some (by unfold slotF;exact hg),ih]
 have h0:=this k 0
 simpa using h0
theorem loaded_run (D:Nat→List Nat) (s k:Nat):loaded ((List.range k).map fun j=>D (s+j))=loadR (run (slotF D s) k 0):=by
 unfold loaded
 rw [pagesOf_run]
 cases run (slotF D s) k 0 with
 | nil=>rfl
 | cons q r =>
  rw [loadR_cons]
  simp only
  cases joined (q::r) <;> rfl
def slotAt (sl:Nat) (g:Int):Nat:=g.toNat % 2*sl
theorem slotAt_lt {sl:Nat} {g:Int} {j:Nat} (hj:j<sl):slotAt sl g+j<2*sl:=by
 unfold slotAt
 have h:g.toNat % 2<2:=Nat.mod_lt _ (by omega)
 rcases (by omega:g.toNat % 2=0∨g.toNat % 2=1) with h | h <;> rw [h] <;> omega
theorem slotAt_two {sl:Nat} {g:Int} (hg:0≤g):slotAt sl (g+1+1)=slotAt sl g:=by
 unfold slotAt
 congr 1
 omega
theorem slotAt_ne {sl:Nat} {g:Int} {i j:Nat} (hg:0≤g) (hi:i<sl) (hj:j<sl):slotAt sl g+i≠slotAt sl (g+1)+j:=by
 unfold slotAt
 rcases (by omega:g.toNat % 2=0∧(g+1).toNat % 2=1∨g.toNat % 2=1∧(g+1).toNat % 2=0) with ⟨h1,h2⟩ | ⟨h1,h2⟩ <;> rw [h1,h2] <;> omega
structure WInv (D:Nat→List Nat) (sl log:Nat) (g mk:Int) (e:Nat) (base:List Nat) (recs:List (List Nat)):Prop where
 g1:1≤g
 cur:loadR (run (slotF D (slotAt sl g)) sl 0)=some (g,base)
 oth:∀ y,loadR (run (slotF D (slotAt sl (g+1))) sl 0)=some y→y.1<g
 curg:∀ j x,j<sl→slotF D (slotAt sl g) j=some x→x.gen≤g
 othg:∀ j x,j<sl→slotF D (slotAt sl (g+1)) j=some x→x.gen≤g+1∧(x.gen=g+1→x.mark<mk)
 log:LogInv (logF D (2*sl) g) log recs e mk
 logg:∀ i x,got (D (2*sl+i))=some x→x.kind=2→x.gen≤g
theorem run_same {f f':Nat→Option P} {k:Nat} (h:∀ j,j<k→f' j=f j):run f' k 0=run f k 0:=by
 have h1:=run_agree (f:=f) (f':=f') (k:=k) (i:=0) (n:=k) (fun j _ hj=>h j (by omega))
 rw [List.take_of_length_le (run_len k 0),List.take_of_length_le (run_len k 0)] at h1
 exact h1
theorem WInv.more {D:Nat→List Nat} {sl log e:Nat} {g mk mk':Int} {base:List Nat} {recs:List (List Nat)} (h:WInv D sl log g mk e base recs) (hm:mk≤mk'):WInv D sl log g mk' e base recs :=
 ⟨h.g1,h.cur,h.oth,h.curg,fun j x hj hx=>⟨(h.othg j x hj hx).1,fun e=>by have:=(h.othg j x hj hx).2 e;omega⟩,⟨h.log.laid,h.log.stop,h.log.le,fun j x hj hx=>by have:=h.log.fresh j x hj hx;omega,h.log.part⟩,h.logg⟩
theorem inv_log {D D':Nat→List Nat} {sl log e e':Nat} {g mk mk':Int} {base:List Nat} {recs recs':List (List Nat)} (h:WInv D sl log g mk e base recs) (hs:∀ j,j<2*sl→D' j=D j) (hm:mk≤mk')
  (hl:LogInv (logF D' (2*sl) g) log recs' e' mk') (hg:∀ i x,got (D' (2*sl+i))=some x→x.kind=2→x.gen≤g):WInv D' sl log g mk' e' base recs':=by
 have hf:∀ k j,j<sl→slotF D' (slotAt sl k) j=slotF D (slotAt sl k) j:=fun k j hj=>by
  unfold slotF
  rw [hs _ (slotAt_lt hj)]
 refine ⟨h.g1,?_,?_,fun j x hj hx=>h.curg j x hj (by rw [← hf g j hj];exact hx),fun j x hj hx=>?_,hl,hg⟩
 ·rw [run_same (hf g)]
  exact h.cur
 ·rw [run_same (hf (g+1))]
  exact h.oth
 ·have:=h.othg j x hj (by rw [← hf (g+1) j hj];exact hx)
  exact ⟨this.1,fun e=>by have:=this.2 e;omega⟩
def lP (g mk:Int) (e:Nat):P:=⟨2,g,mk,e,0,0,[]⟩
theorem log_page {g mk:Int} {e n j:Nat} {b:List Nat} (hm:(nth (lP g mk e) b n j).May):pick g (e+j) (got (nth (lP g mk e) b n j).sector)=some (nth (lP g mk e) b n j):=by
 rw [got_sector hm]
 exact pick_of ⟨rfl,rfl,by show ((e:Nat):Int)+(j:Nat)=((e+j:Nat):Int);omega⟩
theorem fits_may {q:P} {b:List Nat} {i:Nat} (h:fits q b=true) (hi:i<parts b.length):(nth q b (parts b.length) i).May:=by
 simp only [fits,Bool.and_eq_true] at h
 exact (may_iff _).1 (List.all_eq_true.1 h.2 _ (by simp only [pages,List.mem_map,List.mem_range];exact ⟨i,hi,rfl⟩))
theorem commit_torn {D D':Nat→List Nat} {sl log e n:Nat} {g mk mk':Int} {base b:List Nat} {recs:List (List Nat)} (h:WInv D sl log g mk e base recs) (hf:fits (lP g mk e) b=true) (hn:n=parts b.length) (hnl:e+n≤log)
  (hin:∀ j,j<n→got (D' (2*sl+(e+j)))=none∨D' (2*sl+(e+j))=D (2*sl+(e+j))∨D' (2*sl+(e+j))=(nth (lP g mk e) b n j).sector)
  (hout:∀ i,i<2*sl+e∨2*sl+(e+n)≤i→D' i=D i) (hmk:mk<mk') :
  WInv D' sl log g mk' e base recs∨WInv D' sl log g mk' (e+n) base (recs++[b]):=by
 have hmy:∀ j,j<n→(nth (lP g mk e) b n j).May:=fun j hj=>by rw [hn] at hj ⊢;exact fits_may hf hj
 have hw:=log_write (f':=logF D' (2*sl) g) h.log rfl hf hn hnl (fun j hj=>by
  unfold logF
  rcases hin j hj with e1 | e1 | e1
  ·exact .inl (by rw [e1];rfl)
  ·exact .inr (.inl (by rw [e1]))
  ·exact .inr (.inr (by rw [e1];exact log_page (hmy j hj)))) (fun j hj=>by
  unfold logF
  rw [hout]
  omega) mk' hmk
 have hg:∀ i x,got (D' (2*sl+i))=some x→x.kind=2→x.gen≤g:=fun i x hx hk=>by
  by_cases hi:e≤i∧i<e+n
  ·rcases hin (i - e) (by omega) with e1 | e1 | e1
   ·rw [show e+(i - e)=i by omega,hx] at e1;cases e1
   ·rw [show e+(i - e)=i by omega] at e1
    rw [e1] at hx
    exact h.logg i x hx hk
   ·rw [show e+(i - e)=i by omega] at e1
    rw [e1,got_sector (hmy _ (by omega))] at hx
    have:=Option.some.inj hx
    rw [← this]
    exact Int.le_refl _
  ·rw [hout _ (by omega)] at hx
   exact h.logg i x hx hk
 rcases hw with hl | ⟨_,hl⟩
 ·exact .inl (inv_log h (fun j hj=>hout j (by omega)) (by omega) hl hg)
 ·exact .inr (inv_log h (fun j hj=>hout j (by omega)) (by omega) hl hg)
theorem commit_whole {D D':Nat→List Nat} {sl log e n:Nat} {g mk:Int} {base b:List Nat} {recs:List (List Nat)} (h:WInv D sl log g mk e base recs) (hf:fits (lP g mk e) b=true) (hn:n=parts b.length) (hnl:e+n≤log)
  (hin:∀ j,j<n→D' (2*sl+(e+j))=(nth (lP g mk e) b n j).sector) (hout:∀ i,i<2*sl+e∨2*sl+(e+n)≤i→D' i=D i):WInv D' sl log g mk (e+n) base (recs++[b]):=by
 have hmy:∀ j,j<n→(nth (lP g mk e) b n j).May:=fun j hj=>by rw [hn] at hj ⊢;exact fits_may hf hj
 have hn1:1≤n:=by
  rw [hn]
  simp only [fits,Bool.and_eq_true,decide_eq_true_eq] at hf
  exact hf.1
 have hall:∀ j,j<n→logF D' (2*sl) g (e+j)=some (nth (lP g mk e) b n j):=fun j hj=>by
  unfold logF
  rw [hin j hj]
  exact log_page (hmy j hj)
 have hw:=log_write (f':=logF D' (2*sl) g) h.log rfl hf hn hnl (fun j hj=>.inr (.inr (hall j hj))) (fun j hj=>by
  unfold logF
  rw [hout]
  omega) (mk+1) (by omega)
 have hfr:∀ j x,e+n≤j→logF D' (2*sl) g j=some x→x.mark<mk:=fun j x hj hx=>by
  unfold logF at hx
  rw [hout _ (.inr (by omega))] at hx
  exact h.log.fresh j x (by omega) hx
 have hg:∀ i x,got (D' (2*sl+i))=some x→x.kind=2→x.gen≤g:=fun i x hx hk=>by
  by_cases hi:e≤i∧i<e+n
  ·have e1:=hin (i - e) (by omega)
   rw [show e+(i - e)=i by omega] at e1
   rw [e1,got_sector (hmy _ (by omega))] at hx
   have:=Option.some.inj hx
   rw [← this]
   exact Int.le_refl _
  ·rw [hout _ (by omega)] at hx
   exact h.logg i x hx hk
 have hj:=all_new (f':=logF D' (2*sl) g) (k:=log - e) (i:=e) hf hn (by omega) hall
 rcases hw with hl | ⟨_,hl⟩
 ·have:=hl.stop
  rw [hj] at this
  cases this
 ·exact inv_log h (fun j hj=>hout j (by omega)) (Int.le_refl _) ⟨hl.laid,hl.stop,hl.le,hfr,hl.part⟩ hg
theorem turned_inv {D':Nat→List Nat} {sl log:Nat} {g mk:Int} {b:List Nat} (hg0:0≤g) (hcur:loadR (run (slotF D' (slotAt sl (g+1))) sl 0)=some (g+1,b)) (hcg:∀ j x,j<sl→slotF D' (slotAt sl (g+1)) j=some x→x.gen≤g+1)
  (hog:∀ j x,j<sl→slotF D' (slotAt sl g) j=some x→x.gen≤g) (hoth:∀ y,loadR (run (slotF D' (slotAt sl g)) sl 0)=some y→y.1≤g) (hlg:∀ i x,got (D' (2*sl+i))=some x→x.kind=2→x.gen≤g):WInv D' sl log (g+1) mk 0 b []:=by
 have hnone:∀ i,logF D' (2*sl) (g+1) i=none:=fun i=>by
  cases hx:logF D' (2*sl) (g+1) i with
  | none=>rfl
  | some x =>
   exfalso
   obtain ⟨h1,h2,h3,_⟩:=pick_some (by unfold logF at hx;exact hx)
   have:=hlg i x h1 h2
   omega
 have hrun:∀ k i,run (logF D' (2*sl) (g+1)) k i=[]:=fun k i=>by
  cases k with
  | zero=>rfl
  | succ k=>exact run_none (hnone i)
 refine ⟨by omega,hcur,fun y hy=>?_,hcg,fun j x hj hx=>?_,⟨rfl,by rw [hrun];exact joined_nil rfl,Nat.zero_le _,fun j x _ hx=>?_,fun j x _ hx=>?_⟩,fun i x hx hk=>by have:=hlg i x hx hk;omega⟩
 ·rw [slotAt_two hg0] at hy
  have:=hoth y hy
  omega
 ·rw [slotAt_two hg0] at hx
  have:=hog j x hj hx
  exact ⟨by omega,fun e=>by omega⟩
 ·rw [hnone] at hx;cases hx
 ·rw [hnone] at hx;cases hx
theorem turn_torn {D D':Nat→List Nat} {sl log e n:Nat} {g mk mk':Int} {base b:List Nat} {recs:List (List Nat)} (h:WInv D sl log g mk e base recs) (hf:fits (bP (g+1) mk) b=true) (hn:n=parts b.length) (hnl:n≤sl)
  (hin:∀ j,j<n→got (D' (slotAt sl (g+1)+j))=none∨D' (slotAt sl (g+1)+j)=D (slotAt sl (g+1)+j)∨D' (slotAt sl (g+1)+j)=(nth (bP (g+1) mk) b n j).sector)
  (hout:∀ i,i<slotAt sl (g+1)∨slotAt sl (g+1)+n≤i→D' i=D i) (hmk:mk<mk') :
  WInv D' sl log g mk' e base recs∨WInv D' sl log (g+1) mk' 0 b []:=by
 have hg1:=h.g1
 have hmy:∀ j,j<n→(nth (bP (g+1) mk) b n j).May:=fun j hj=>by rw [hn] at hj ⊢;exact fits_may hf hj
 have hother:∀ j,j<sl→slotF D' (slotAt sl g) j=slotF D (slotAt sl g) j:=fun j hj=>by
  unfold slotF
  rw [hout]
  have h1:∀ k,k<n→slotAt sl g+j≠slotAt sl (g+1)+k:=fun k hk=>slotAt_ne (by omega) hj (by omega)
  have:=h1 (slotAt sl g+j - slotAt sl (g+1))
  omega
 have hlog:∀ i,D' (2*sl+i)=D (2*sl+i):=fun i=>hout _ (.inr (by
  have:slotAt sl (g+1)≤sl:=by
   unfold slotAt
   rcases (by omega:(g+1).toNat % 2=0∨(g+1).toNat % 2=1) with h | h <;> rw [h] <;> omega
  omega))
 have hin':∀ j,j<n→slotF D' (slotAt sl (g+1)) (0+j)=none∨slotF D' (slotAt sl (g+1)) (0+j)=slotF D (slotAt sl (g+1)) (0+j)∨slotF D' (slotAt sl (g+1)) (0+j)=some (nth (bP (g+1) mk) b n j):=fun j hj=>by
  unfold slotF
  rw [Nat.zero_add]
  rcases hin j hj with e1 | e1 | e1
  ·exact .inl e1
  ·exact .inr (.inl (by rw [e1]))
  ·exact .inr (.inr (by rw [e1,got_sector (hmy j hj)]))
 have hgen:∀ j x,j<sl→slotF D' (slotAt sl (g+1)) j=some x→x.gen≤g+1∧(x.gen=g+1→x.mark<mk'):=fun j x hj hx=>by
  by_cases hjn:j<n
  ·have h1:=hin' j hjn
   rw [Nat.zero_add,hx] at h1
   rcases h1 with e1 | e1 | e1
   ·cases e1
   ·have:=h.othg j x hj e1.symm
    exact ⟨this.1,fun e=>by have:=this.2 e;omega⟩
   ·have:=Option.some.inj e1
    rw [this]
    exact ⟨Int.le_refl _,fun _=>by show mk<mk';omega⟩
  ·unfold slotF at hx
   rw [hout _ (.inr (by omega))] at hx
   have:=h.othg j x hj hx
   exact ⟨this.1,fun e=>by have:=this.2 e;omega⟩
 have hlogF:logF D' (2*sl) g=logF D (2*sl) g:=by
  funext i
  unfold logF
  rw [hlog]
 have hmix:∀ y,loadR (run (slotF D' (slotAt sl (g+1))) sl 0)=some y→(y=(g+1,b))∨loadR (run (slotF D (slotAt sl (g+1))) sl 0)=some y:=fun y hy=>by
  obtain ⟨q,r,b',n',hl,hj,hk,hi,hyq⟩:=loadR_joined hy
  have hcut:∀ f:Nat→Option P,run (fun j=>if j<sl then f j else none) sl 0=run f sl 0:=fun f=>run_same fun j hj=>by simp [hj]
  have hj2:=hj
  rw [← hcut] at hj2
  rcases mix (f:=fun j=>if j<sl then slotF D (slotAt sl (g+1)) j else none) (f':=fun j=>if j<sl then slotF D' (slotAt sl (g+1)) j else none) (i:=0) hf hn hnl (fun j hj=>by
   have h1:=hin' j hj
   simp only [Nat.zero_add,show j<sl by omega,if_true] at h1 ⊢
   exact h1) (fun j hj=>by
   by_cases hjs:j<sl
   ·simp only [hjs,if_true]
    unfold slotF
    rw [hout _ (.inr (by omega))]
   ·simp only [hjs,if_false]) (fun j x _ hx=>by
   by_cases hjs:j<sl
   ·simp only [hjs,if_true] at hx
    rintro ⟨e1,e2⟩
    have:=(h.othg j x hjs hx).2 e1
    have e3:x.mark=mk:=e2
    omega
   ·simp only [hjs,if_false] at hx
    cases hx) hj2 with ⟨h1,h2,h3⟩ | h1
  ·left
   have h0:=h1 0 (by obtain ⟨_,_,_,_,h9,_⟩:=joined_some hj;omega)
   have hq:=(run_get (f:=slotF D' (slotAt sl (g+1))) (k:=sl) (i:=0) (j:=0) (p:=q) (by rw [hl];rfl)).1
   have hsl:0<sl:=by obtain ⟨_,_,_,_,h9,_⟩:=joined_some hj;omega
   simp only [Nat.add_zero,hsl,if_true] at h0 hq
   rw [hq] at h0
   have h4:=Option.some.inj h0
   rw [hyq,h4,h2]
   rfl
  ·right
   rw [hcut,hcut] at h1
   exact loadR_prefix hy hj h1
 have hlog2:LogInv (logF D' (2*sl) g) log recs e mk':=by
  rw [hlogF]
  exact (h.more (Int.le_of_lt hmk)).log
 have hlg:∀ i x,got (D' (2*sl+i))=some x→x.kind=2→x.gen≤g:=fun i x hx hk=>h.logg i x (by rw [← hlog];exact hx) hk
 have hcur:loadR (run (slotF D' (slotAt sl g)) sl 0)=some (g,base):=by
  rw [run_same hother]
  exact h.cur
 have hcg:∀ j x,j<sl→slotF D' (slotAt sl g) j=some x→x.gen≤g:=fun j x hj hx=>h.curg j x hj (by rw [← hother j hj];exact hx)
 by_cases hy:loadR (run (slotF D' (slotAt sl (g+1))) sl 0)=some (g+1,b)
 ·right
  exact turned_inv (by omega) hy (fun j x hj hx=>(hgen j x hj hx).1) hcg (fun y hy=>by
   rw [hcur] at hy
   injection hy with hy
   rw [← hy]
   exact Int.le_refl _) hlg
 ·left
  refine ⟨hg1,hcur,fun y hy2=>?_,hcg,hgen,hlog2,hlg⟩
  rcases hmix y hy2 with e1 | e1
  ·rw [e1] at hy2
   exact absurd hy2 hy
  ·exact h.oth y e1
theorem turn_whole {D':Nat→List Nat} {sl log n:Nat} {g mk:Int} {b:List Nat} (hg0:0≤g) (hf:fits (bP (g+1) mk) b=true) (hn:n=parts b.length) (hnl:n≤sl)
  (hin:∀ j,j<n→D' (slotAt sl (g+1)+j)=(nth (bP (g+1) mk) b n j).sector) (hcg:∀ j x,n≤j→j<sl→slotF D' (slotAt sl (g+1)) j=some x→x.gen≤g+1)
  (hog:∀ j x,j<sl→slotF D' (slotAt sl g) j=some x→x.gen≤g) (hoth:∀ y,loadR (run (slotF D' (slotAt sl g)) sl 0)=some y→y.1≤g) (hlg:∀ i x,got (D' (2*sl+i))=some x→x.kind=2→x.gen≤g):WInv D' sl log (g+1) mk 0 b []:=by
 have hmy:∀ j,j<n→(nth (bP (g+1) mk) b n j).May:=fun j hj=>by rw [hn] at hj ⊢;exact fits_may hf hj
 have hall:∀ j,j<n→slotF D' (slotAt sl (g+1)) (0+j)=some (nth (bP (g+1) mk) b n j):=fun j hj=>by
  unfold slotF
  rw [Nat.zero_add,hin j hj,got_sector (hmy j hj)]
 have hj:=all_new (f':=slotF D' (slotAt sl (g+1))) (k:=sl) (i:=0) hf hn hnl hall
 obtain ⟨q,r,hl,_,h1,_⟩:=joined_some hj
 have hq:q=nth (bP (g+1) mk) b n 0:=by
  have h2:=(run_get (f:=slotF D' (slotAt sl (g+1))) (k:=sl) (i:=0) (j:=0) (p:=q) (by rw [hl];rfl)).1
  have h3:=hall 0 (by omega)
  rw [Nat.add_zero] at h2 h3
  rw [h2] at h3
  exact Option.some.inj h3
 have hcur:loadR (run (slotF D' (slotAt sl (g+1))) sl 0)=some (g+1,b):=by
  have:=loadR_of hl hj (by rw [hq];rfl) (by rw [hq];rfl)
  rw [this,hq]
  rfl
 refine turned_inv hg0 hcur (fun j x hj hx=>?_) hog hoth hlg
 by_cases hjn:j<n
 ·have h2:=hall j hjn
  rw [Nat.zero_add,hx] at h2
  rw [Option.some.inj h2]
  exact Int.le_refl _
 ·exact hcg j x (by omega) hj hx
theorem turn_next {D D':Nat→List Nat} {sl log e n:Nat} {g mk:Int} {base b:List Nat} {recs:List (List Nat)} (h:WInv D sl log g mk e base recs) (hf:fits (bP (g+1) mk) b=true) (hn:n=parts b.length) (hnl:n≤sl)
  (hin:∀ j,j<n→D' (slotAt sl (g+1)+j)=(nth (bP (g+1) mk) b n j).sector) (hout:∀ i,i<slotAt sl (g+1)∨slotAt sl (g+1)+n≤i→D' i=D i):WInv D' sl log (g+1) mk 0 b []:=by
 have hg1:=h.g1
 have hother:∀ j,j<sl→slotF D' (slotAt sl g) j=slotF D (slotAt sl g) j:=fun j hj=>by
  unfold slotF
  rw [hout]
  have h1:∀ k,k<n→slotAt sl g+j≠slotAt sl (g+1)+k:=fun k hk=>slotAt_ne (by omega) hj (by omega)
  have:=h1 (slotAt sl g+j - slotAt sl (g+1))
  omega
 have hlog:∀ i,D' (2*sl+i)=D (2*sl+i):=fun i=>hout _ (.inr (by
  have:slotAt sl (g+1)≤sl:=by
   unfold slotAt
   rcases (by omega:(g+1).toNat % 2=0∨(g+1).toNat % 2=1) with h | h <;> rw [h] <;> omega
  omega))
 refine turn_whole (by omega) hf hn hnl hin (fun j x h1 h2 hx=>?_) (fun j x hj hx=>h.curg j x hj (by rw [← hother j hj];exact hx)) (fun y hy=>?_) (fun i x hx hk=>h.logg i x (by rw [← hlog];exact hx) hk)
 ·unfold slotF at hx
  rw [hout _ (.inr (by omega))] at hx
  exact (h.othg j x h2 hx).1
 ·rw [run_same hother,h.cur] at hy
  injection hy with hy
  rw [← hy]
  exact Int.le_refl _
def slots (D:Nat→List Nat) (sl k:Nat):List (List Nat):=(List.range sl).map fun j=>D (k*sl+j)
theorem better_inv {D:Nat→List Nat} {sl log e:Nat} {g mk:Int} {base:List Nat} {recs:List (List Nat)} (h:WInv D sl log g mk e base recs):better (slots D sl 0) (slots D sl 1)=some (g,base):=by
 have hg:=h.g1
 have e0:∀ k,loaded (slots D sl k)=loadR (run (slotF D (k*sl)) sl 0):=fun k=>loaded_run D (k*sl) sl
 unfold better
 rw [e0,e0]
 have hc:=h.cur
 have ho:=h.oth
 unfold slotAt at hc ho
 rcases (by omega:g.toNat % 2=0∧(g+1).toNat % 2=1∨g.toNat % 2=1∧(g+1).toNat % 2=0) with ⟨h1,h2⟩ | ⟨h1,h2⟩ <;> rw [h1] at hc <;> rw [h2] at ho
 ·rw [hc]
  simp only
  cases hy:loadR (run (slotF D (1*sl)) sl 0) with
  | none=>rfl
  | some y =>
   have:=ho y hy
   simp only
   rw [if_neg (by omega)]
 ·rw [hc]
  cases hy:loadR (run (slotF D (0*sl)) sl 0) with
  | none=>rfl
  | some y =>
   have:=ho y hy
   simp only
   rw [if_pos (by omega)]
theorem mark_ge {ss:List (List Nat)} {s:List Nat} {p:P} (hs:s∈ss) (hg:got s=some p):p.mark≤markOf ss:=by
 have hmono:∀ (l:List (List Nat)) (m:Int),m≤l.foldl markStep m:=by
  intro l
  induction l with
  | nil=>intro m;exact Int.le_refl _
  | cons x r ih =>
   intro m
   rw [List.foldl_cons]
   have h1:=ih (markStep m x)
   have h2:m≤markStep m x:=by
    unfold markStep
    cases got x with
    | none=>exact Int.le_refl _
    | some q=>show m≤max m q.mark;omega
   omega
 have:∀ (l:List (List Nat)) (m:Int),s∈l→p.mark≤l.foldl markStep m:=by
  intro l
  induction l with
  | nil=>intro m h;simp at h
  | cons x r ih =>
   intro m h
   rw [List.foldl_cons]
   rcases List.mem_cons.1 h with rfl | h
   ·have h1:=hmono r (markStep m s)
    have h2:p.mark≤markStep m s:=by
     unfold markStep
     rw [hg]
     show p.mark≤max m p.mark
     omega
    omega
   ·exact ih _ h
 exact this ss 0 hs
theorem mark_le {ss:List (List Nat)} {m:Int} (h0:0≤m) (h:∀ s∈ss,∀ p,got s=some p→p.mark≤m):markOf ss≤m:=by
 have:∀ (l:List (List Nat)) (k:Int),k≤m→(∀ s∈l,∀ p,got s=some p→p.mark≤m)→l.foldl markStep k≤m:=by
  intro l
  induction l with
  | nil=>intro k hk _;exact hk
  | cons x r ih =>
   intro k hk hl
   rw [List.foldl_cons]
   refine ih _ ?_ fun s hs=>hl s (by simp [hs])
   unfold markStep
   cases hg:got x with
   | none=>exact hk
   | some q =>
    have:=hl x (by simp) q hg
    show max k q.mark≤m
    omega
 exact this ss 0 h0 h
theorem reopen_inv {D:Nat→List Nat} {sl log e n:Nat} {g mk:Int} {base:List Nat} {recs:List (List Nat)} (h:WInv D sl log g mk e base recs) (hn:n=2*sl+log) (hend:∀ i x,log≤i→got (D (2*sl+i))≠some x) :
  WInv D sl log g (markOf ((List.range n).map D)+1) e base recs:=by
 have hm:∀ i x,i<n→got (D i)=some x→x.mark≤markOf ((List.range n).map D):=fun i x hi hx=>mark_ge (by simp only [List.mem_map,List.mem_range];exact ⟨i,hi,rfl⟩) hx
 refine ⟨h.g1,h.cur,h.oth,h.curg,fun j x hj hx=>⟨(h.othg j x hj hx).1,fun _=>?_⟩,⟨h.log.laid,h.log.stop,h.log.le,fun j x hj hx=>?_,h.log.part⟩,h.logg⟩
 ·have:=hm (slotAt sl (g+1)+j) x (by have:=slotAt_lt (g:=g+1) hj;omega) hx
  omega
 ·obtain ⟨h1,_⟩:=pick_some (by unfold logF at hx;exact hx)
  have hj:j<log:=Nat.lt_of_not_le fun hh=>hend j x hh h1
  have:=hm (2*sl+j) x (by omega) h1
  omega
end Go.Proofs.YtplpmemlaohlaaaGreat.Wl
namespace Go.Proofs.YtplpmemlaohlaaaGreat.Wl
open Go.RowKit Mem Dsk
set_option linter.unusedVariables false
set_option linter.unusedSimpArgs false
def writes:St→Nat→List (List Nat)→St × Int
 | s,_,[]=>s.flush
 | s,i,x::r=>if (s.write (i:Int) x).2=0 then writes (s.write (i:Int) x).1 (i+1) r else s.write (i:Int) x
theorem writes_nil (s:St) (i:Nat):writes s i []=s.flush:=rfl
theorem writes_ok {s:St} {i:Nat} {x:List Nat} {r:List (List Nat)} (h:(s.write (i:Int) x).2=0):writes s i (x::r)=writes (s.write (i:Int) x).1 (i+1) r:=by
 rw [writes,if_pos h]
theorem writes_no {s:St} {i:Nat} {x:List Nat} {r:List (List Nat)} (h:(s.write (i:Int) x).2≠0):writes s i (x::r)=s.write (i:Int) x:=by
 rw [writes,if_neg h]
theorem write_two {s:St} {i:Nat} {x:List Nat} (hd:s.dead=false) (hi:i<s.n) (hx:x.length=512) :
  ((s.write (i:Int) x).2=0∧(s.write (i:Int) x).1.dead=false∧(s.write (i:Int) x).1.n=s.n∧(s.write (i:Int) x).1.fs=s.fs∧(s.write (i:Int) x).1.fw=upd1 s.fw i x) ∨
  ((s.write (i:Int) x).2=7∧(s.write (i:Int) x).1.dead=true∧(s.write (i:Int) x).1.n=s.n∧(s.write (i:Int) x).1.fs=s.fs∧(s.write (i:Int) x).1.fw=s.fw):=by
 unfold St.write
 rw [if_neg (by rw [hd];simp),if_pos ⟨by omega,by omega,hx⟩]
 unfold St.act
 by_cases h0:s.left=0
 ·rw [if_pos h0,if_neg (by simp)]
  exact .inr ⟨rfl,rfl,rfl,rfl,rfl⟩
 ·rw [if_neg h0,if_pos rfl]
  exact .inl ⟨rfl,hd,rfl,rfl,by simp⟩
theorem flush_two {s:St} (hd:s.dead=false) :
  (s.flush.2=0∧s.flush.1.dead=false∧s.flush.1.n=s.n∧(∀ i,s.flush.1.fs i=(s.fw i).or (s.fs i))∧∀ i,s.flush.1.fw i=none) ∨
  (s.flush.2=7∧s.flush.1.dead=true∧s.flush.1.n=s.n∧s.flush.1.fs=s.fs∧s.flush.1.fw=s.fw):=by
 unfold St.flush
 rw [if_neg (by rw [hd];simp)]
 unfold St.act
 by_cases h0:s.left=0
 ·rw [if_pos h0,if_neg (by simp)]
  exact .inr ⟨rfl,rfl,rfl,rfl,rfl⟩
 ·rw [if_neg h0,if_pos rfl]
  exact .inl ⟨rfl,hd,rfl,fun i=>rfl,fun i=>rfl⟩
theorem writes_two {l:List (List Nat)} {s:St} {i:Nat} (hd:s.dead=false) (hi:i+l.length≤s.n) (hx:∀ x∈l,x.length=512) :
  ((writes s i l).2=0∧(writes s i l).1.dead=false∧(writes s i l).1.n=s.n∧(∀ j,(writes s i l).1.fw j=none)∧(∀ j,j<l.length→(writes s i l).1.fs (i+j)=some (l.getD j []))∧∀ j,j<i∨i+l.length≤j→(writes s i l).1.fs j=(s.fw j).or (s.fs j)) ∨
  ((writes s i l).2=7∧(writes s i l).1.dead=true∧(writes s i l).1.n=s.n∧(writes s i l).1.fs=s.fs∧(∀ j,j<l.length→(writes s i l).1.fw (i+j)=s.fw (i+j)∨(writes s i l).1.fw (i+j)=some (l.getD j []))∧∀ j,j<i∨i+l.length≤j→(writes s i l).1.fw j=s.fw j):=by
 induction l generalizing s i with
 | nil =>
  rw [writes_nil]
  rcases flush_two hd with ⟨h1,h2,h3,h4,h5⟩ | ⟨h1,h2,h3,h4,h5⟩
  ·exact .inl ⟨h1,h2,h3,h5,fun j hj=>absurd hj (by simp),fun j _=>h4 j⟩
  ·exact .inr ⟨h1,h2,h3,h4,fun j hj=>absurd hj (by simp),fun j _=>by rw [h5]⟩
 | cons x r ih =>
  rw [List.length_cons] at hi
  rcases write_two (x:=x) hd (by omega:i<s.n) (hx x (by simp)) with ⟨h1,h2,h3,h4,h5⟩ | ⟨h1,h2,h3,h4,h5⟩
  ·rw [writes_ok h1]
   have hu:∀ j,j≠i→(s.write (i:Int) x).1.fw j=s.fw j:=fun j hj=>by rw [h5];unfold upd1;rw [if_neg hj]
   have hui:(s.write (i:Int) x).1.fw i=some x:=by rw [h5];unfold upd1;rw [if_pos rfl]
   rcases ih (s:=(s.write (i:Int) x).1) (i:=i+1) h2 (by rw [h3];omega) (fun y hy=>hx y (by simp [hy])) with ⟨g1,g2,g3,g4,g5,g6⟩ | ⟨g1,g2,g3,g4,g5,g6⟩
   ·refine .inl ⟨g1,g2,by rw [g3,h3],g4,fun j hj=>?_,fun j hj=>?_⟩
    ·cases j with
     | zero =>
      have e:=g6 i (.inl (by omega))
      rw [hui] at e
      exact e
     | succ j =>
      have:=g5 j (by rw [List.length_cons] at hj;omega)
      rw [show i+1+j=i+(j+1) by omega] at this
      rw [this,List.getD_cons_succ]
    ·rw [List.length_cons] at hj
     rw [g6 j (by omega),hu j (by omega),h4]
   ·refine .inr ⟨g1,g2,by rw [g3,h3],by rw [g4,h4],fun j hj=>?_,fun j hj=>?_⟩
    ·cases j with
     | zero =>
      have e:=g6 i (.inl (by omega))
      rw [hui] at e
      exact .inr e
     | succ j =>
      have:=g5 j (by rw [List.length_cons] at hj;omega)
      rw [show i+1+j=i+(j+1) by omega,hu _ (by omega)] at this
      rw [List.getD_cons_succ]
      exact this
    ·rw [List.length_cons] at hj
     rw [g6 j (by omega),hu j (by omega)]
  ·rw [writes_no (by omega)]
   exact .inr ⟨h1,h2,h3,h4,fun j _=>.inl (by rw [h5]),fun j _=>by rw [h5]⟩
theorem get_safe {s:St} (h:∀ j,s.fw j=none) (i:Nat):s.get i=(s.fs i).getD noughts:=by
 unfold St.get
 rw [h]
 rfl
end Go.Proofs.YtplpmemlaohlaaaGreat.Wl
namespace Go.Proofs.YtplpmemlaohlaaaGreat.Wl
open Go.RowKit Mem Pg Rcd Slt
set_option linter.unusedVariables false
set_option linter.unusedSimpArgs false
theorem got_blank:got Dsk.noughts=none:=by
 cases h:got Dsk.noughts with
 | none=>rfl
 | some p =>
  exfalso
  obtain ⟨h1,h2⟩:=got_may h
  obtain ⟨r,hr⟩:=sector_parts p
  rw [hr] at h2
  have e1:=congrArg (fun l:List Nat=>l.head?) h2
  have e2:Dsk.noughts.head?=some 0:=by unfold Dsk.noughts;rw [List.head?_replicate,if_neg (by omega)]
  rw [e2] at e1
  cases e1
structure Ready (s:Dsk.St) (sl log:Nat) (g mk:Int) (e:Nat) (base:List Nat) (recs:List (List Nat)):Prop where
 live:s.dead=false
 calm:∀ j,s.fw j=none
 size:s.n=2*sl+log
 far:∀ i,s.n≤i→got (s.get i)=none
 inv:WInv s.get sl log g mk e base recs
 mks:∀ i x,got (s.get i)=some x→x.mark≤mk
def openMark (s:Dsk.St):Int:=markOf ((List.range s.n).map s.get)+1
structure Crashed (s s':Dsk.St):Prop where
 n:s'.n=s.n
 live:s'.dead=false
 calm:∀ j,s'.fw j=none
 same:∀ i,s.fw i=none→s'.get i=(s.fs i).getD Dsk.noughts
 told:∀ i y,s.fw i=some y→got (s'.get i)=none∨s'.get i=(s.fs i).getD Dsk.noughts∨s'.get i=y
theorem openMark_le {s:Dsk.St} {m:Int} (h0:0≤m) (h:∀ i x,got (s.get i)=some x→x.mark≤m):openMark s≤m+1:=by
 unfold openMark
 have:markOf ((List.range s.n).map s.get)≤m:=mark_le h0 fun y hy p hp=>by
  simp only [List.mem_map] at hy
  obtain ⟨i,_,rfl⟩:=hy
  exact h i p hp
 omega
theorem openMark_gt {s:Dsk.St} (hfar:∀ i,s.n≤i→got (s.get i)=none) {i:Nat} {x:P} (h:got (s.get i)=some x):x.mark<openMark s:=by
 unfold openMark
 have hi:i<s.n:=Nat.lt_of_not_le fun hh=>by rw [hfar i hh] at h;cases h
 have:=mark_ge (ss:=(List.range s.n).map s.get) (by simp only [List.mem_map,List.mem_range];exact ⟨i,hi,rfl⟩) h
 omega
theorem ready_open {s:Dsk.St} {sl log e:Nat} {g mk:Int} {base:List Nat} {recs:List (List Nat)} (hl:s.dead=false) (hc:∀ j,s.fw j=none) (hn:s.n=2*sl+log) (hfar:∀ i,s.n≤i→got (s.get i)=none) (h:WInv s.get sl log g mk e base recs) :
  Ready s sl log g (openMark s) e base recs:=by
 refine ⟨hl,hc,hn,hfar,?_,fun i x hx=>Int.le_of_lt (openMark_gt hfar hx)⟩
 have:=reopen_inv h hn (fun i x hi hx=>by rw [hfar _ (by omega)] at hx;cases hx)
 exact this
theorem crash_calm {s s':Dsk.St} {sl log e:Nat} {g mk:Int} {base:List Nat} {recs:List (List Nat)} (h:Ready s sl log g mk e base recs) (hc:Crashed s s') (h0:0≤mk):Ready s' sl log g (openMark s') e base recs∧openMark s'≤mk+1:=by
 have hg:s'.get=s.get:=by
  funext i
  rw [hc.same i (h.calm i),get_safe h.calm]
 refine ⟨ready_open hc.live hc.calm (by rw [hc.n];exact h.size) (fun i hi=>by rw [hg];exact h.far i (by rw [← hc.n];exact hi)) (mk:=mk) (by rw [hg];exact h.inv),openMark_le h0 fun i x hx=>h.mks i x (by rw [← hg];exact hx)⟩
def secL (q:P) (b:List Nat):List (List Nat):=(pages q b).map P.sector
theorem secL_len (q:P) (b:List Nat):(secL q b).length=parts b.length:=by unfold secL;rw [List.length_map,pages_length]
theorem secL_get (q:P) (b:List Nat) (j:Nat) (hj:j<parts b.length):(secL q b).getD j []=(nth q b (parts b.length) j).sector:=by
 unfold secL pages
 simp [List.getD,hj]
theorem secL_512 {q:P} {b:List Nat} (h:fits q b=true):∀ x∈secL q b,x.length=512:=by
 intro x hx
 unfold secL at hx
 obtain ⟨p,hp,rfl⟩:=List.mem_map.1 hx
 simp only [fits,Bool.and_eq_true] at h
 exact sector_length ((may_iff p).1 (List.all_eq_true.1 h.2 p hp)).l
theorem get_whole {s:Dsk.St} {q:P} {b:List Nat} {i:Nat} (hc:∀ j,s.fw j=none) (h1:∀ j,(writes s i (secL q b)).1.fw j=none) (h2:∀ j,j<(secL q b).length→(writes s i (secL q b)).1.fs (i+j)=some ((secL q b).getD j []))
  (h3:∀ j,j<i∨i+(secL q b).length≤j→(writes s i (secL q b)).1.fs j=(s.fw j).or (s.fs j)) :
  (∀ j,j<parts b.length→(writes s i (secL q b)).1.get (i+j)=(nth q b (parts b.length) j).sector)∧∀ j,j<i∨i+parts b.length≤j→(writes s i (secL q b)).1.get j=s.get j:=by
 rw [secL_len] at h2 h3
 refine ⟨fun j hj=>?_,fun j hj=>?_⟩
 ·rw [get_safe h1,h2 j hj,secL_get q b j hj]
  rfl
 ·rw [get_safe h1,h3 j hj,get_safe hc,hc j]
  rfl
theorem get_torn {s s':Dsk.St} {q:P} {b:List Nat} {i:Nat} (hc:∀ j,s.fw j=none) (h1:(writes s i (secL q b)).1.fs=s.fs) (h2:∀ j,j<(secL q b).length→(writes s i (secL q b)).1.fw (i+j)=s.fw (i+j)∨(writes s i (secL q b)).1.fw (i+j)=some ((secL q b).getD j []))
  (h3:∀ j,j<i∨i+(secL q b).length≤j→(writes s i (secL q b)).1.fw j=s.fw j) (hk:Crashed (writes s i (secL q b)).1 s') :
  (∀ j,j<parts b.length→got (s'.get (i+j))=none∨s'.get (i+j)=s.get (i+j)∨s'.get (i+j)=(nth q b (parts b.length) j).sector)∧∀ j,j<i∨i+parts b.length≤j→s'.get j=s.get j:=by
 rw [secL_len] at h2 h3
 refine ⟨fun j hj=>?_,fun j hj=>?_⟩
 ·rcases h2 j hj with e | e
  ·right;left
   rw [hk.same _ (by rw [e];exact hc _),h1,get_safe hc]
  ·rcases hk.told _ _ e with g | g | g
   ·exact .inl g
   ·right;left
    rw [g,h1,get_safe hc]
   ·right;right
    rw [g,secL_get q b j hj]
 ·rw [hk.same j (by rw [h3 j hj];exact hc j),h1,get_safe hc]
theorem keep_commit {s:Dsk.St} {sl log e:Nat} {g mk:Int} {base b:List Nat} {recs:List (List Nat)} (h:Ready s sl log g mk e base recs) (hf:fits (lP g mk e) b=true) (hl:e+parts b.length≤log) (h0:0≤mk) :
  ((writes s (2*sl+e) (secL (lP g mk e) b)).2=0∧Ready (writes s (2*sl+e) (secL (lP g mk e) b)).1 sl log g mk (e+parts b.length) base (recs++[b])) ∨
  ((writes s (2*sl+e) (secL (lP g mk e) b)).2=7∧(writes s (2*sl+e) (secL (lP g mk e) b)).1.dead=true∧(writes s (2*sl+e) (secL (lP g mk e) b)).1.n=s.n∧∀ s',Crashed (writes s (2*sl+e) (secL (lP g mk e) b)).1 s' →
   (Ready s' sl log g (openMark s') e base recs∨Ready s' sl log g (openMark s') (e+parts b.length) base (recs++[b]))∧openMark s'≤mk+1):=by
 have hsz:=h.size
 have hmy:∀ j,j<parts b.length→(nth (lP g mk e) b (parts b.length) j).May:=fun j hj=>fits_may hf hj
 rcases writes_two (l:=secL (lP g mk e) b) (i:=2*sl+e) h.live (by rw [secL_len];omega) (secL_512 hf) with ⟨w1,w2,w3,w4,w5,w6⟩ | ⟨w1,w2,w3,w4,w5,w6⟩
 ·left
  obtain ⟨hin,hout⟩:=get_whole h.calm w4 w5 w6
  refine ⟨w1,w2,w4,by rw [w3];exact hsz,fun i hi=>?_,commit_whole h.inv hf rfl hl (fun j hj=>?_) (fun i hi=>hout i (by omega)),fun i x hx=>?_⟩
  ·rw [hout i (by rw [w3] at hi;omega)]
   exact h.far i (by rw [← w3];exact hi)
  ·have:=hin j hj
   rw [show 2*sl+e+j=2*sl+(e+j) by omega] at this
   exact this
  ·by_cases hi:2*sl+e≤i∧i<2*sl+e+parts b.length
   ·have:=hin (i - (2*sl+e)) (by omega)
    rw [show 2*sl+e+(i - (2*sl+e))=i by omega] at this
    rw [this,got_sector (hmy _ (by omega))] at hx
    rw [← Option.some.inj hx]
    exact Int.le_refl _
   ·rw [hout i (by omega)] at hx
    exact h.mks i x hx
 ·right
  refine ⟨w1,w2,w3,fun s' hk=>?_⟩
  obtain ⟨hin,hout⟩:=get_torn h.calm w4 w5 w6 hk
  have hmks:∀ i x,got (s'.get i)=some x→x.mark≤mk:=fun i x hx=>by
   by_cases hi:2*sl+e≤i∧i<2*sl+e+parts b.length
   ·rcases hin (i - (2*sl+e)) (by omega) with t | t | t
    ·rw [show 2*sl+e+(i - (2*sl+e))=i by omega,hx] at t;cases t
    ·rw [show 2*sl+e+(i - (2*sl+e))=i by omega] at t
     rw [t] at hx
     exact h.mks i x hx
    ·rw [show 2*sl+e+(i - (2*sl+e))=i by omega] at t
     rw [t,got_sector (hmy _ (by omega))] at hx
     rw [← Option.some.inj hx]
     exact Int.le_refl _
   ·rw [hout i (by omega)] at hx
    exact h.mks i x hx
  have hfar:∀ i,s'.n≤i→got (s'.get i)=none:=fun i hi=>by
   rw [hk.n,w3] at hi
   rw [hout i (by omega)]
   exact h.far i hi
  have hn':s'.n=2*sl+log:=by rw [hk.n,w3];exact hsz
  refine ⟨?_,openMark_le h0 hmks⟩
  rcases commit_torn (D':=s'.get) (mk':=mk+1) h.inv hf rfl hl (fun j hj=>by
   have:=hin j hj
   rw [show 2*sl+e+j=2*sl+(e+j) by omega] at this
   exact this) (fun i hi=>hout i (by omega)) (by omega) with t | t
  ·exact .inl (ready_open hk.live hk.calm hn' hfar t)
  ·exact .inr (ready_open hk.live hk.calm hn' hfar t)
theorem keep_turn {s:Dsk.St} {sl log e:Nat} {g mk:Int} {base b:List Nat} {recs:List (List Nat)} (h:Ready s sl log g mk e base recs) (hf:fits (bP (g+1) mk) b=true) (hl:parts b.length≤sl) (h0:0≤mk) :
  ((writes s (slotAt sl (g+1)) (secL (bP (g+1) mk) b)).2=0∧Ready (writes s (slotAt sl (g+1)) (secL (bP (g+1) mk) b)).1 sl log (g+1) mk 0 b []) ∨
  ((writes s (slotAt sl (g+1)) (secL (bP (g+1) mk) b)).2=7∧(writes s (slotAt sl (g+1)) (secL (bP (g+1) mk) b)).1.dead=true∧(writes s (slotAt sl (g+1)) (secL (bP (g+1) mk) b)).1.n=s.n∧∀ s',Crashed (writes s (slotAt sl (g+1)) (secL (bP (g+1) mk) b)).1 s' →
   (Ready s' sl log g (openMark s') e base recs∨Ready s' sl log (g+1) (openMark s') 0 b [])∧openMark s'≤mk+1):=by
 have hsz:=h.size
 have hsa:slotAt sl (g+1)≤sl:=by
  unfold slotAt
  rcases (by omega:(g+1).toNat % 2=0∨(g+1).toNat % 2=1) with h | h <;> rw [h] <;> omega
 have hmy:∀ j,j<parts b.length→(nth (bP (g+1) mk) b (parts b.length) j).May:=fun j hj=>fits_may hf hj
 rcases writes_two (l:=secL (bP (g+1) mk) b) (i:=slotAt sl (g+1)) h.live (by rw [secL_len];omega) (secL_512 hf) with ⟨w1,w2,w3,w4,w5,w6⟩ | ⟨w1,w2,w3,w4,w5,w6⟩
 ·left
  obtain ⟨hin,hout⟩:=get_whole h.calm w4 w5 w6
  refine ⟨w1,w2,w4,by rw [w3];exact hsz,fun i hi=>?_,turn_next h.inv hf rfl hl hin hout,fun i x hx=>?_⟩
  ·rw [hout i (by rw [w3] at hi;omega)]
   exact h.far i (by rw [← w3];exact hi)
  ·by_cases hi:slotAt sl (g+1)≤i∧i<slotAt sl (g+1)+parts b.length
   ·have:=hin (i - slotAt sl (g+1)) (by omega)
    rw [show slotAt sl (g+1)+(i - slotAt sl (g+1))=i by omega] at this
    rw [this,got_sector (hmy _ (by omega))] at hx
    rw [← Option.some.inj hx]
    exact Int.le_refl _
   ·rw [hout i (by omega)] at hx
    exact h.mks i x hx
 ·right
  refine ⟨w1,w2,w3,fun s' hk=>?_⟩
  obtain ⟨hin,hout⟩:=get_torn h.calm w4 w5 w6 hk
  have hmks:∀ i x,got (s'.get i)=some x→x.mark≤mk:=fun i x hx=>by
   by_cases hi:slotAt sl (g+1)≤i∧i<slotAt sl (g+1)+parts b.length
   ·rcases hin (i - slotAt sl (g+1)) (by omega) with t | t | t
    ·rw [show slotAt sl (g+1)+(i - slotAt sl (g+1))=i by omega,hx] at t;cases t
    ·rw [show slotAt sl (g+1)+(i - slotAt sl (g+1))=i by omega] at t
     rw [t] at hx
     exact h.mks i x hx
    ·rw [show slotAt sl (g+1)+(i - slotAt sl (g+1))=i by omega] at t
     rw [t,got_sector (hmy _ (by omega))] at hx
     rw [← Option.some.inj hx]
     exact Int.le_refl _
   ·rw [hout i (by omega)] at hx
    exact h.mks i x hx
  have hfar:∀ i,s'.n≤i→got (s'.get i)=none:=fun i hi=>by
   rw [hk.n,w3] at hi
   rw [hout i (by omega)]
   exact h.far i hi
  have hn':s'.n=2*sl+log:=by rw [hk.n,w3];exact hsz
  refine ⟨?_,openMark_le h0 hmks⟩
  rcases turn_torn (D':=s'.get) (mk':=mk+1) h.inv hf rfl hl hin hout (by omega) with t | t
  ·exact .inl (ready_open hk.live hk.calm hn' hfar t)
  ·exact .inr (ready_open hk.live hk.calm hn' hfar t)
theorem keep_new {s:Dsk.St} {sl log:Nat} (hl:s.dead=false) (hc:∀ j,s.fw j=none) (hn:s.n=2*sl+log) (hz:∀ i,got (s.get i)=none) (hsl:1≤sl) (h0:(writes s (slotAt sl 1) (secL (bP 1 1) [])).2=0) :
  Ready (writes s (slotAt sl 1) (secL (bP 1 1) [])).1 sl log 1 1 0 [] []:=by
 have hf:fits (bP 1 1) []=true:=by decide
 have hp:parts ([]:List Nat).length=1:=by decide
 have hsa:slotAt sl 1=sl:=by unfold slotAt;simp
 have hmy:∀ j,j<parts ([]:List Nat).length→(nth (bP 1 1) [] (parts ([]:List Nat).length) j).May:=fun j hj=>fits_may hf hj
 rcases writes_two (l:=secL (bP 1 1) []) (i:=slotAt sl 1) hl (by rw [secL_len,hp];omega) (secL_512 hf) with ⟨w1,w2,w3,w4,w5,w6⟩ | ⟨w1,_⟩
 ·obtain ⟨hin,hout⟩:=get_whole hc w4 w5 w6
  have hnone:∀ i,i<slotAt sl 1∨slotAt sl 1+1≤i→got ((writes s (slotAt sl 1) (secL (bP 1 1) [])).1.get i)=none:=fun i hi=>by
   rw [hout i (by rw [hp];exact hi)]
   exact hz i
  refine ⟨w2,w4,by rw [w3];exact hn,fun i hi=>hnone i (by rw [w3] at hi;omega),?_,fun i x hx=>?_⟩
  ·have:=turn_whole (D':=(writes s (slotAt sl 1) (secL (bP 1 1) [])).1.get) (sl:=sl) (log:=log) (g:=0) (mk:=1) (b:=[]) (Int.le_refl _) hf rfl (by rw [hp];exact hsl) hin (fun j x h1 h2 hx=>?_) (fun j x hj hx=>?_) (fun y hy=>?_) (fun i x hx hk=>?_)
   ·exact this
   ·unfold slotF at hx
    rw [hnone _ (.inr (by rw [hp] at h1;show slotAt sl 1+1≤slotAt sl 1+j;omega))] at hx
    cases hx
   ·unfold slotF at hx
    rw [hnone _ (.inl (by unfold slotAt;simp;omega))] at hx
    cases hx
   ·have he:run (slotF (writes s (slotAt sl 1) (secL (bP 1 1) [])).1.get (slotAt sl 0)) sl 0=[]:=by
     cases sl with
     | zero=>rfl
     | succ k=>exact run_none (hnone _ (.inl (by unfold slotAt;simp)))
    rw [he] at hy
    cases hy
   ·rw [hnone _ (.inr (by omega))] at hx
    cases hx
  ·by_cases hi:i=slotAt sl 1
   ·have:=hin 0 (by rw [hp];omega)
    rw [Nat.add_zero] at this
    rw [hi,this,got_sector (hmy 0 (by rw [hp];omega))] at hx
    rw [← Option.some.inj hx]
    exact Int.le_refl _
   ·rw [hnone i (by omega)] at hx
    cases hx
 ·omega
end Go.Proofs.YtplpmemlaohlaaaGreat.Wl
namespace Go.Proofs.YtplpmemlaohlaaaGreat.Wl
open Go.RowKit Mem Oct Pg Rcd Slt
set_option linter.unusedVariables false
set_option linter.unusedSimpArgs false
def atB (p:P) (g:Int) (i:Nat):Bool:=decide (p.kind=2) && decide (p.gen=g) && decide (p.index=(i:Int))
theorem atB_yes {p:P} {g:Int} {i:Nat} (h:atB p g i=true):p.kind=2∧p.gen=g∧p.index=(i:Int):=by
 simp only [atB,Bool.and_eq_true,decide_eq_true_eq] at h
 exact ⟨h.1.1,h.1.2,h.2⟩
theorem atB_mk {p:P} {g:Int} {i:Nat} (h:p.kind=2∧p.gen=g∧p.index=(i:Int)):atB p g i=true:=by
 simp only [atB,Bool.and_eq_true,decide_eq_true_eq]
 exact ⟨⟨h.1,h.2.1⟩,h.2.2⟩
theorem pick_no {p:P} {g:Int} {i:Nat} (h:atB p g i=false):pick g i (some p)=none:=by
 cases e:pick g i (some p) with
 | none=>rfl
 | some x =>
  obtain ⟨h1,h2⟩:=pick_some e
  injection h1 with h1
  rw [h1,atB_mk h2] at h
  cases h
section
variable {f h:Nat→Option P}
theorem run_sub (hs:∀ j p,f j=some p→h j=some p) (k i:Nat):run f k i=(run h k i).take (run f k i).length:=by
 induction k generalizing i with
 | zero=>rfl
 | succ k ih =>
  cases hf:f i with
  | none=>rw [run_none hf];simp
  | some p =>
   rw [run_some hf,run_some (hs _ _ hf),List.length_cons,List.take_succ_cons,← ih]
theorem run_drop {k i m:Nat} (hm:m≤(run h k i).length):(run h k i).drop m=run h (k - m) (i+m):=by
 induction m generalizing k i with
 | zero=>simp
 | succ m ih =>
  cases k with
  | zero=>simp [run] at hm
  | succ k =>
   cases hh:h i with
   | none=>rw [run_none hh] at hm;simp at hm
   | some p =>
    rw [run_some hh] at hm ⊢
    rw [List.length_cons] at hm
    rw [List.drop_succ_cons,ih (by omega)]
    congr 1 <;> omega
theorem run_stop {k i:Nat} (hm:(run h k i).length<k):h (i+(run h k i).length)=none:=by
 induction k generalizing i with
 | zero=>omega
 | succ k ih =>
  cases hh:h i with
  | none=>rw [run_none hh];simpa using hh
  | some p =>
   rw [run_some hh] at hm ⊢
   rw [List.length_cons] at hm ⊢
   have:=ih (i:=i+1) (by omega)
   rw [show i+((run h k (i+1)).length+1)=i+1+(run h k (i+1)).length by omega]
   exact this
end
def ofLog (h:Nat→Option P) (g:Int) (j:Nat):Option P:=pick g j (h j)
theorem ofLog_sub (h:Nat→Option P) (g:Int):∀ j p,ofLog h g j=some p→h j=some p:=fun j p e=>(pick_some e).1
section
variable {h:Nat→Option P} {g:Int} {log i:Nat}
theorem rec_none (hi:i≤(run h log 0).length) (hj:joined ((run h log 0).drop i)=none):joined (run (ofLog h g) (log - i) i)=none:=by
 rw [run_drop hi,Nat.zero_add] at hj
 cases hc:joined (run (ofLog h g) (log - i) i) with
 | none=>rfl
 | some x =>
  obtain ⟨b,n⟩:=x
  have hs:=run_sub (ofLog_sub h g) (log - i) i
  obtain ⟨_,_,_,_,_,h2,_⟩:=joined_some hc
  have:=joined_prefix (l':=run h (log - i) i) hc (by
   conv=>rhs;rw [hs]
   rw [List.take_take,Nat.min_eq_left h2])
  rw [this] at hj
  cases hj
theorem rec_some {p:P} {b:List Nat} {n:Nat} (hi:i<(run h log 0).length) (hp:(run h log 0)[i]?=some p) (ha:atB p g i=true) (hj:joined ((run h log 0).drop i)=some (b,n)) :
  joined (run (ofLog h g) (log - i) i)=some (b,n)∧1≤n∧i+n≤(run h log 0).length:=by
 have hle:=run_len (f:=h) (log - i) i
 have hd:=run_drop (h:=h) (k:=log) (i:=0) (m:=i) (by omega)
 rw [Nat.zero_add] at hd
 obtain ⟨q,r,hl,hpn,h1,h2,h16,hpg,hpl,hf⟩:=joined_some hj
 have hlen:((run h log 0).drop i).length=(run h log 0).length - i:=List.length_drop
 have hq:q=p:=by
  have e:((run h log 0).drop i)[0]?=some q:=by rw [hl];rfl
  rw [List.getElem?_drop,Nat.add_zero,hp] at e
  exact (Option.some.inj e).symm
 subst hq
 obtain ⟨a1,a2,a3⟩:=atB_yes ha
 have hall:∀ j,j<(pages q b).length→ofLog h g (i+j)=some ((pages q b).getD j noP):=fun j hj2=>by
  have hjn:j<n:=by rw [pages_length,hpl] at hj2;exact hj2
  have e:(run h (log - i) i)[j]?=some (nth q b n j):=by
   rw [← hd]
   have e2:((run h log 0).drop i)[j]?=(pages q b)[j]?:=by rw [← hpg,List.getElem?_take,if_pos hjn]
   rw [e2,List.getElem?_eq_getElem hj2,pages_get,hpl]
  have e3:=(run_get e).1
  have e4:(pages q b).getD j noP=nth q b n j:=by rw [List.getD,List.getElem?_eq_getElem hj2,Option.getD_some,pages_get,hpl]
  rw [e4]
  unfold ofLog
  rw [e3]
  exact pick_of ⟨a1,a2,by show q.index+(j:Nat)=((i+j:Nat):Int);omega⟩
 have hk:(pages q b).length≤log - i:=by rw [pages_length,hpl];rw [hd] at h2;omega
 refine ⟨?_,h1,by omega⟩
 have hr:=run_laid (f:=ofLog h g) (k:=log - i) (i:=i) (ps:=pages q b) hk hall
 rw [hr,join_pages _ hf,hpl]
theorem rec_end (hi:i=(run h log 0).length):joined (run (ofLog h g) (log - i) i)=none:=by
 have hle:=run_len (f:=h) log 0
 by_cases hlt:i<log
 ·have h1:=run_stop (h:=h) (k:=log) (i:=0) (by omega)
  rw [Nat.zero_add,← hi] at h1
  obtain ⟨k,hk⟩:∃ k,log - i=k+1:=⟨log - i - 1,by omega⟩
  rw [hk,run_none (by unfold ofLog;rw [h1];rfl)]
  exact joined_nil rfl
 ·rw [show log - i=0 by omega]
  exact joined_nil rfl
theorem rec_other {p:P} (hi:i<(run h log 0).length) (hp:(run h log 0)[i]?=some p) (ha:atB p g i=false):joined (run (ofLog h g) (log - i) i)=none:=by
 have hle:=run_len (f:=h) log 0
 have h1:=(run_get hp).1
 rw [Nat.zero_add] at h1
 obtain ⟨k,hk⟩:∃ k,log - i=k+1:=⟨log - i - 1,by omega⟩
 rw [hk,run_none (by unfold ofLog;rw [h1];exact pick_no ha)]
 exact joined_nil rfl
end
def recsOf (f:Nat→Option P) (log:Nat):List (List Nat) × Nat:=tail f log log 0
end Go.Proofs.YtplpmemlaohlaaaGreat.Wl
