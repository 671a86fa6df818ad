/- Plain facts on stores (layer 12): what a wal says, what a commit and a turn make of it, and that the code's way of reading is the document's. No program is named here. -/
import Derived.Test.YtplpmemlaohlaaaGreatKpBaseP
namespace Go.Proofs.YtplpmemlaohlaaaGreat.Sto
open Oct Lsa Chg Bas
def addRec (s:Sta) (r:List Nat):Option Sta:=match getR r with
 | none=>none
 | some l=>if (applyS s l).2=0 then some (applyS s l).1 else none
def addAll:Sta→List (List Nat)→Option Sta
 | s,[]=>some s
 | s,r::rs=>(addRec s r).bind fun t=>addAll t rs
def baseS (b:List Nat):Option Sta:=if b=[] then some zeroS else refRead b
def says (b:List Nat) (rs:List (List Nat)):Option Sta:=(baseS b).bind fun s=>addAll s rs
theorem addAll_append (s:Sta) (l m:List (List Nat)):addAll s (l++m)=(addAll s l).bind fun t=>addAll t m:=by
 induction l generalizing s with
 | nil=>rfl
 | cons r rs ih =>
  rw [List.cons_append]
  show ((addRec s r).bind fun t=>addAll t (rs++m))=((addRec s r).bind fun t=>addAll t rs).bind fun t=>addAll t m
  cases addRec s r with
  | none=>rfl
  | some t=>exact ih t
theorem says_append (b:List Nat) (l m:List (List Nat)):says b (l++m)=(says b l).bind fun t=>addAll t m:=by
 unfold says
 cases baseS b with
 | none=>rfl
 | some s=>exact addAll_append s l m
theorem addAll_one (s:Sta) (r:List Nat):addAll s [r]=addRec s r:=by
 unfold addAll
 cases addRec s r <;> rfl
theorem applyS_ok {s t:Sta} {l:List Ch} (h:applyS s l=(t,0)):mayS s=true∧l.all mayC=true∧doAll s l=some t:=by
 unfold applyS at h
 split at h
 ·next hc =>
  cases hd:doAll s l with
  | none=>rw [hd] at h;cases h
  | some u =>
   rw [hd] at h
   cases h
   exact ⟨hc.1,hc.2,rfl⟩
 ·cases h
theorem addRec_some {s t:Sta} {r:List Nat} (h:addRec s r=some t):∃ l,getR r=some l∧applyS s l=(t,0):=by
 unfold addRec at h
 split at h
 ·cases h
 ·next l hl =>
  split at h
  ·next h0 =>
   cases h
   exact ⟨l,hl,Prod.ext rfl h0⟩
  ·cases h
theorem addRec_up {s t:Sta} {r:List Nat} (h:addRec s r=some t):mayS t=true∧Up s t:=by
 obtain ⟨l,_,ha⟩:=addRec_some h
 obtain ⟨h1,h2,h3⟩:=applyS_ok ha
 exact ⟨doAll_may h1 h2 h3,doAll_up h3⟩
theorem addAll_up:∀ {rs:List (List Nat)} {s t:Sta},mayS s=true→addAll s rs=some t→mayS t=true∧Up s t
 | [],s,t,hs,h=>by
  cases h
  exact ⟨hs,Up.refl _⟩
 | r::rs,s,t,hs,h=>by
  unfold addAll at h
  cases hr:addRec s r with
  | none=>rw [hr] at h;cases h
  | some u =>
   rw [hr] at h
   obtain ⟨h1,h2⟩:=addRec_up hr
   obtain ⟨h3,h4⟩:=addAll_up h1 h
   exact ⟨h3,h2.trans h4⟩
theorem mayS_zero:mayS zeroS=true:=by decide
theorem baseS_may {b:List Nat} {s:Sta} (h:baseS b=some s):mayS s=true:=by
 unfold baseS at h
 split at h
 ·cases h
  exact mayS_zero
 ·exact (refRead_iff.1 h).1
theorem says_may {b:List Nat} {rs:List (List Nat)} {s:Sta} (h:says b rs=some s):mayS s=true:=by
 unfold says at h
 cases hb:baseS b with
 | none=>rw [hb] at h;cases h
 | some u =>
  rw [hb] at h
  exact (addAll_up (baseS_may hb) h).1
theorem says_new:says [] []=some zeroS:=rfl
theorem bytesS_ne (s:Sta):bytesS s≠[]:=by
 intro h
 have:=congrArg List.length h
 unfold bytesS headS at this
 simp only [List.length_append,be_length,List.length_nil] at this
 omega
theorem says_turn {s:Sta} (h:mayS s=true):says (bytesS s) []=some s:=by
 unfold says baseS
 rw [if_neg (bytesS_ne s),refRead_back h]
 rfl
theorem addRec_put {s:Sta} {l:List Ch} (h:okAll l=true):addRec s (putC l)=if (applyS s l).2=0 then some (applyS s l).1 else none:=by
 unfold addRec
 rw [← get_eq (putC_lt l),getC_back h]
theorem says_commit {b:List Nat} {rs:List (List Nat)} {s x:Sta} {l:List Ch} (h:says b rs=some s) (hl:okAll l=true) (ha:applyS s l=(x,0)):says b (rs++[putC l])=some x:=by
 rw [says_append,h]
 show addAll s [putC l]=some x
 rw [addAll_one,addRec_put hl,ha]
 rfl
theorem within_up {s t:Sta} (hs:mayS s=true) (h:Up s t):within s t=true:=within_of hs h
theorem apply_up {s x:Sta} {l:List Ch} (ha:applyS s l=(x,0)):within s x=true∧mayS x=true:=⟨(apply_ok ha).2,(apply_ok ha).1⟩
def addRecC (s:Sta) (r:List Nat):Option Sta:=match getC r with
 | none=>none
 | some l=>if (applyS s l).2=0 then some (applyS s l).1 else none
theorem addRecC_eq {s:Sta} {r:List Nat} (h:∀ x∈r,x<256):addRecC s r=addRec s r:=by
 unfold addRecC addRec
 rw [get_eq h]
theorem baseS_code {b:List Nat} (h:∀ x∈b,x<256):baseS b=if b=[] then some zeroS else getS b:=by
 unfold baseS
 rw [getS_eq h]
end Go.Proofs.YtplpmemlaohlaaaGreat.Sto
