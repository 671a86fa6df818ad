/- What a store answers (layer 12), on a disk that has a log, and what it opens with behind a crash. Pure. -/
import Derived.Test.YtplpmemlaohlaaaGreatKpBasPut
import Derived.Test.YtplpmemlaohlaaaGreatKpStoPure
import Derived.Test.YtplpmemlaohlaaaGreatKpWalAllB
namespace Go.Proofs.YtplpmemlaohlaaaGreat.Sto
open Chg Bas Wl Rcd
open Plt (sl sl_le sl_pos)
set_option linter.unusedVariables false
set_option linter.unusedSimpArgs false
theorem bytesS_len {s:Sta} (h:mayS s=true):(bytesS s).length≤6094:=by
 obtain ⟨l1,l2⟩:=mayS_len h
 have h3:=dbBytes_len s.db (fun a ha=>dbOk_all (mayS_iff.1 h).1 a ha)
 have h4:=Lsa.linkBytes_length s.ep
 unfold bytesS headS
 simp only [List.length_append,Oct.be_length]
 omega
theorem putC_len {l:List Ch} (h:okAll l=true):(putC l).length≤3641:=by
 obtain ⟨h1,h2,h3⟩:=okAll_iff.1 h
 have:=cat_len h1
 unfold putC
 simp only [List.length_append,Oct.be_length]
 omega
theorem refRead_b {b:List Nat} {s:Sta} (h:refRead b=some s):(∀ x∈b,x<256)∧b.length≤200000:=by
 obtain ⟨h1,h2⟩:=refRead_iff.1 h
 have:=bytesS_len h1
 rw [← h2]
 exact ⟨bytesS_lt s,by omega⟩
theorem baseS_b {b:List Nat} {s:Sta} (h:baseS b=some s):(∀ x∈b,x<256)∧b.length≤200000:=by
 unfold baseS at h
 split at h
 ·next e=>rw [e];exact ⟨by simp,by simp⟩
 ·exact refRead_b h
theorem getR_b {r:List Nat} {l:List Ch} (h:getR r=some l):(∀ x∈r,x<256)∧r.length≤200000:=by
 unfold getR at h
 split at h
 ·cases h
 ·split at h
  ·cases h
  ·next q m _ =>
   split at h
   ·next hh =>
    have:=putC_len hh.1
    rw [← hh.2]
    exact ⟨putC_lt m,by omega⟩
   ·cases h
theorem addAll_b:∀ {rs:List (List Nat)} {s t:Sta},addAll s rs=some t→∀ r∈rs,(∀ x∈r,x<256)∧r.length≤200000
 | [],_,_,_,r,hr=>absurd hr (by simp)
 | q::rs,s,t,h,r,hr=>by
  unfold addAll at h
  cases hq:addRec s q with
  | none=>rw [hq] at h;cases h
  | some u =>
   rw [hq] at h
   obtain ⟨l,h1,_⟩:=addRec_some hq
   rcases List.mem_cons.1 hr with rfl | hr
   ·exact getR_b h1
   ·exact addAll_b h r hr
theorem says_b {b:List Nat} {rs:List (List Nat)} {s:Sta} (h:says b rs=some s):(∀ x∈b,x<256)∧b.length≤200000:=by
 unfold says at h
 cases hb:baseS b with
 | none=>rw [hb] at h;cases h
 | some u=>exact baseS_b hb
theorem says_recs {b:List Nat} {rs:List (List Nat)} {s:Sta} (h:says b rs=some s):∀ r∈rs,(∀ x∈r,x<256)∧r.length≤200000:=by
 unfold says at h
 cases hb:baseS b with
 | none=>rw [hb] at h;cases h
 | some u =>
  rw [hb] at h
  exact addAll_b h
structure Done where
 d:Dsk.St
 v:Wn
 s:Sta
 e:Int
def full5 (e:Int):Int:=if e=5 then 4 else e
def turnTo (k:Nat) (d:Dsk.St) (v:Wn) (t:Sta):Dsk.St × Wn × Int:=((turnP k d v (bytesS t)).1,(turnP k d v (bytesS t)).2.1,full5 (turnP k d v (bytesS t)).2.2)
def turnS (k:Nat) (d:Dsk.St) (v:Wn) (s:Sta):Done :=
 if v.br=true then ⟨d,v,s,6⟩ else ⟨(turnTo k d v s).1,(turnTo k d v s).2.1,s,(turnTo k d v s).2.2⟩
def keepS (k:Nat) (d:Dsk.St) (v:Wn) (t:Sta) (l:List Ch):Dsk.St × Wn × Int :=
 if (commitP k d v (putC l)).2.2=4 then turnTo k d v t else commitP k d v (putC l)
def doS12 (k:Nat) (d:Dsk.St) (v:Wn) (s:Sta) (l:List Ch):Done :=
 if v.br=true then ⟨d,v,s,6⟩ else if okAll l=false then ⟨d,v,s,1⟩ else
  if (applyS s l).2=0 then ⟨(keepS k d v (applyS s l).1 l).1,(keepS k d v (applyS s l).1 l).2.1,if (keepS k d v (applyS s l).1 l).2.2=0 then (applyS s l).1 else s,(keepS k d v (applyS s l).1 l).2.2⟩
  else ⟨d,v,s,(applyS s l).2⟩
def Lost (p:Nat) (m:Int) (d:Dsk.St) (s t:Sta):Prop:=∀ d',Crashed d d'→openMark d'≤m∧∃ (g:Int) (e:Nat) (base:List Nat) (recs:List (List Nat)),Ready d' (sl p) (lg p) g (openMark d') e base recs∧(says base recs=some s∨says base recs=some t)
structure Says (p:Nat) (d:Dsk.St) (g mk:Int) (e:Nat) (s:Sta):Prop where
 n:d.n=p
 m0:0≤mk
 has:∃ (base:List Nat) (recs:List (List Nat)),Ready d (sl p) (lg p) g mk e base recs∧says base recs=some s
section
variable {p e:Nat} {g mk:Int} {d:Dsk.St} {s t:Sta}
theorem Says.may (h:Says p d g mk e s):mayS s=true:=by
 obtain ⟨b,r,_,h2⟩:=h.has
 exact says_may h2
theorem Says.lost (h:Says p d g mk e s):Lost p (mk+1) d s s:=by
 obtain ⟨b,r,h1,h2⟩:=h.has
 intro d' hc
 obtain ⟨h3,h4⟩:=crash_calm h1 hc h.m0
 exact ⟨h4,_,_,_,_,h3,.inl h2⟩
theorem Says.left (h:Says p d g mk e s) (l:Int):Says p { d with left:=l } g mk e s:=by
 obtain ⟨h1,h2,b,r,h3,h4⟩:=h
 exact ⟨h1,h2,b,r,ready_left h3 l,h4⟩
def After (p:Nat) (mk:Int) (d:Dsk.St) (v:Wn) (r:Dsk.St × Wn × Int) (s t:Sta):Prop :=
 (r.2.2≠0∧r.2.2≠7∧r.1=d∧r.2.1=v) ∨
 (r.2.2=0∧∃ (g':Int) (e':Nat),r.2.1=⟨g',mk,e',false⟩∧Says p r.1 g' mk e' t) ∨
 (r.2.2=7∧r.1.dead=true∧r.1.n=p∧Lost p (mk+1) r.1 s t)
theorem turnTo_ready (h:Says p d g mk e s) (ht:mayS t=true) (h1:mk≤2147483648):After p mk d ⟨g,mk,e,false⟩ (turnTo p d ⟨g,mk,e,false⟩ t) s t:=by
 have hn:=h.n
 have hm:=h.m0
 obtain ⟨b,r,h3,h4⟩:=h.has
 have hl:=bytesS_len ht
 unfold turnTo After
 rcases turn_ready (b:=bytesS t) h3 (by omega) hm h1 with ⟨er,he,q⟩ | ⟨d1,q,q2,q3,_⟩ | ⟨d1,q,q2,q3,_,q4⟩
 ·left
  rw [q]
  rcases he with rfl | rfl <;> exact ⟨(show (4:Int)≠0 by decide),(show (4:Int)≠7 by decide),rfl,rfl⟩
 ·right;left
  rw [q]
  exact ⟨rfl,g+1,0,rfl,q3.trans hn,hm,_,_,q2,says_turn ht⟩
 ·right;right
  rw [q]
  refine ⟨rfl,q2,q3.trans hn,fun d' hc=>?_⟩
  obtain ⟨q5,q6⟩:=q4 d' hc
  refine ⟨q6,?_⟩
  rcases q5 with q5 | q5
  ·exact ⟨_,_,_,_,q5,.inl h4⟩
  ·exact ⟨_,_,_,_,q5,.inr (says_turn ht)⟩
theorem keepS_ready {l:List Ch} (h:Says p d g mk e s) (hl:okAll l=true) (ha:applyS s l=(t,0)) (h1:mk≤2147483648) (hk:lg p≤1000):After p mk d ⟨g,mk,e,false⟩ (keepS p d ⟨g,mk,e,false⟩ t l) s t:=by
 have hn:=h.n
 have hm:=h.m0
 have ht:=(apply_up ha).2
 obtain ⟨b,r,h3,h4⟩:=h.has
 have hpl:=putC_len hl
 unfold keepS
 rcases commit_ready (b:=putC l) h3 (by omega) hm h1 hk with ⟨_,q⟩ | ⟨d1,q,q2,q3,_⟩ | ⟨d1,q,q2,q3,_,q4⟩
 ·rw [q,if_pos rfl]
  exact turnTo_ready h ht h1
 ·rw [q,if_neg (show ¬ (0:Int)=4 by decide)]
  right;left
  exact ⟨rfl,g,_,rfl,q3.trans hn,hm,_,_,q2,says_commit h4 hl ha⟩
 ·rw [q,if_neg (show ¬ (7:Int)=4 by decide)]
  right;right
  refine ⟨rfl,q2,q3.trans hn,fun d' hc=>?_⟩
  obtain ⟨q5,q6⟩:=q4 d' hc
  refine ⟨q6,?_⟩
  rcases q5 with q5 | q5
  ·exact ⟨_,_,_,_,q5,.inl h4⟩
  ·exact ⟨_,_,_,_,q5,.inr (says_commit h4 hl ha)⟩
end
end Go.Proofs.YtplpmemlaohlaaaGreat.Sto
