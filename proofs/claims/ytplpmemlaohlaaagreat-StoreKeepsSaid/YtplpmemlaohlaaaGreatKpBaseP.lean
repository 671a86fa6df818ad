/- BaseP: the texts BasePure, BaseRefs, BaseBytes, BaseRead, BaseWithin, BaseSame, BaseGet, BaseStand in one. (Printed by tools/mergeall.py.) -/
import Derived.Test.YtplpmemlaohlaaaGreatKpChgPure
namespace Go.Proofs.YtplpmemlaohlaaaGreat.Bas
open Oct Lsa Chg
structure La where
 o:Int
 s:Int
 ls:List Lk
def laOk (a:La):Bool:=may a.o a.s a.ls
structure Sta where
 db:List La
 up:Int
 bo:Int
 ep:List (Int × Int)
def zeroS:Sta:=⟨[],0,0,[]⟩
def dbOk:Int→List La→Bool
 | _,[]=>true
 | last,a::r=>laOk a && (decide (last<a.o) && dbOk a.o r)
def epOne (last:Int) (e:Int × Int):Bool:=win e.1 64 && (win e.2 1073741824 && decide (last<e.1))
def epOk:Int→List (Int × Int)→Bool
 | _,[]=>true
 | last,e::r=>epOne last e && epOk e.1 r
def mayS (s:Sta):Bool:=dbOk 0 s.db && (epOk 0 s.ep && (decide (0≤s.up) && (decide (s.up≤4611686018427387904) && (decide (0≤s.bo) && decide (s.bo≤1073741824)))))
theorem mayS_iff {s:Sta}:mayS s=true↔dbOk 0 s.db=true∧epOk 0 s.ep=true∧(0≤s.up∧s.up≤4611686018427387904)∧0≤s.bo∧s.bo≤1073741824:=by
 simp [mayS,and_assoc]
theorem laOk_iff {a:La}:laOk a=true↔(1≤a.o∧a.o≤64)∧(1≤a.s∧a.s≤4611686018427387904)∧a.ls.length≤16∧linksOk a.o 0 a.ls=true:=may_iff
def seqOf:List La→Int→Int
 | [],_=>0
 | a::r,o=>if a.o=o then a.s else seqOf r o
def getOf:List La→Int→La
 | [],_=>⟨0,0,[]⟩
 | a::r,o=>if a.o=o then a else getOf r o
def epoch:List (Int × Int)→Int→Int
 | [],_=>0
 | e::r,o=>if e.1=o then e.2 else epoch r o
theorem seq_get (db:List La) (o:Int):(getOf db o).s=seqOf db o:=by
 induction db with
 | nil=>rfl
 | cons a r ih =>
  unfold getOf seqOf
  split
  ·rfl
  ·exact ih
def putOf:List La→La→List La
 | [],l=>[l]
 | a::r,l=>if a.o<l.o then a::putOf r l else if a.o=l.o then l::r else l::a::r
theorem dbOk_put {l:La} (hl:laOk l=true):∀ {db:List La} {last:Int},dbOk last db=true→last<l.o→dbOk last (putOf db l)=true
 | [],last,_,h=>by simp [putOf,dbOk,hl,h]
 | a::r,last,hd,h=>by
  simp only [dbOk,Bool.and_eq_true,decide_eq_true_eq] at hd
  unfold putOf
  split
  ·simp only [dbOk,Bool.and_eq_true,decide_eq_true_eq]
   exact ⟨hd.1,hd.2.1,dbOk_put hl hd.2.2 (by assumption)⟩
  ·split
   ·next h1 h2 =>
    simp only [dbOk,Bool.and_eq_true,decide_eq_true_eq]
    exact ⟨hl,h,h2 ▸ hd.2.2⟩
   ·next h1 h2 =>
    simp only [dbOk,Bool.and_eq_true,decide_eq_true_eq]
    exact ⟨hl,h,hd.1,by omega,hd.2.2⟩
theorem get_put_same (l:La):∀ (db:List La),getOf (putOf db l) l.o=l
 | []=>by simp [putOf,getOf]
 | a::r=>by
  unfold putOf
  split
  ·next h =>
   unfold getOf
   rw [if_neg (by omega)]
   exact get_put_same l r
  ·split
   ·simp [getOf]
   ·simp [getOf]
theorem get_put_other (l:La) (o:Int) (h:o≠l.o):∀ (db:List La),getOf (putOf db l) o=getOf db o
 | []=>by simp [putOf,getOf,Ne.symm h]
 | a::r=>by
  unfold putOf
  split
  ·simp only [getOf]
   split
   ·rfl
   ·exact get_put_other l o h r
  ·split
   ·next h1 h2 =>
    simp only [getOf]
    rw [if_neg (Ne.symm h),if_neg (by omega)]
   ·simp only [getOf]
    rw [if_neg (Ne.symm h)]
def putEp:List (Int × Int)→Int × Int→List (Int × Int)
 | [],e=>[e]
 | a::r,e=>if a.1<e.1 then a::putEp r e else if a.1=e.1 then e::r else e::a::r
theorem epOk_put {e:Int × Int} (h1:win e.1 64=true) (h2:win e.2 1073741824=true):∀ {l:List (Int × Int)} {last:Int},epOk last l=true→last<e.1→epOk last (putEp l e)=true
 | [],last,_,h=>by simp [putEp,epOk,epOne,h1,h2,h]
 | a::r,last,hd,h=>by
  simp only [epOk,epOne,Bool.and_eq_true,decide_eq_true_eq] at hd
  unfold putEp
  split
  ·next h3 =>
   simp only [epOk,epOne,Bool.and_eq_true,decide_eq_true_eq]
   exact ⟨hd.1,epOk_put h1 h2 hd.2 h3⟩
  ·split
   ·next h3 h4 =>
    simp only [epOk,epOne,Bool.and_eq_true,decide_eq_true_eq]
    exact ⟨⟨h1,h2,h⟩,h4 ▸ hd.2⟩
   ·next h3 h4 =>
    simp only [epOk,epOne,Bool.and_eq_true,decide_eq_true_eq]
    exact ⟨⟨h1,h2,h⟩,⟨hd.1.1,hd.1.2.1,by omega⟩,hd.2⟩
theorem epoch_put_same (e:Int × Int):∀ (l:List (Int × Int)),epoch (putEp l e) e.1=e.2
 | []=>by simp [putEp,epoch]
 | a::r=>by
  unfold putEp
  split
  ·next h =>
   unfold epoch
   rw [if_neg (by omega)]
   exact epoch_put_same e r
  ·split
   ·simp [epoch]
   ·simp [epoch]
theorem epoch_put_other (e:Int × Int) (o:Int) (h:o≠e.1):∀ (l:List (Int × Int)),epoch (putEp l e) o=epoch l o
 | []=>by simp [putEp,epoch,Ne.symm h]
 | a::r=>by
  unfold putEp
  split
  ·simp only [epoch]
   split
   ·rfl
   ·exact epoch_put_other e o h r
  ·split
   ·next h1 h2 =>
    simp only [epoch]
    rw [if_neg (Ne.symm h),if_neg (by omega)]
   ·simp only [epoch]
    rw [if_neg (Ne.symm h)]
def doS (s:Sta) (c:Ch):Option Sta :=
 if c.k=1 then if c.s≤seqOf s.db c.o then none else some { s with db:=putOf s.db ⟨c.o,c.s,c.ls⟩ }
 else if c.k=2 then if c.n≤s.up then none else some { s with up:=c.n }
 else if c.k=3 then if c.n≤s.bo then none else some { s with bo:=c.n }
 else if c.k=4 then if c.n≤epoch s.ep c.f then none else some { s with ep:=putEp s.ep (c.f,c.n) }
 else some s
def doAll:Sta→List Ch→Option Sta
 | s,[]=>some s
 | s,c::r=>(doS s c).bind fun t=>doAll t r
def applyS (s:Sta) (l:List Ch):Sta × Int :=
 if mayS s=true∧l.all mayC=true then match doAll s l with
  | none=>(zeroS,10)
  | some t=>(t,0)
 else (zeroS,1)
theorem doS_may {s t:Sta} {c:Ch} (hs:mayS s=true) (hc:mayC c=true) (h:doS s c=some t):mayS t=true:=by
 obtain ⟨h1,h2,h3,h4⟩:=mayS_iff.1 hs
 obtain ⟨k,o,q,ls,n,f⟩:=c
 unfold doS at h
 simp only at h
 split at h
 ·next hk =>
  subst hk
  split at h
  ·cases h
  ·cases h
   rw [mayC_1] at hc
   simp only [Bool.and_eq_true] at hc
   exact mayS_iff.2 ⟨dbOk_put (l:=⟨o,q,ls⟩) hc.1 h1 (by have:=(may_iff.1 hc.1).1;show (0:Int)<o;omega),h2,h3,h4⟩
 ·split at h
  ·next hk =>
   subst hk
   split at h
   ·cases h
   ·cases h
    rw [mayC_2] at hc
    simp only [Bool.and_eq_true] at hc
    have:=win_iff.1 hc.1
    exact mayS_iff.2 ⟨h1,h2,⟨by show 0≤n;omega,this.2⟩,h4⟩
  ·split at h
   ·next hk =>
    subst hk
    split at h
    ·cases h
    ·cases h
     rw [mayC_3] at hc
     simp only [Bool.and_eq_true] at hc
     have:=win_iff.1 hc.1
     exact mayS_iff.2 ⟨h1,h2,h3,by show 0≤n;omega,this.2⟩
   ·split at h
    ·next hk =>
     subst hk
     split at h
     ·cases h
     ·cases h
      rw [mayC_4] at hc
      simp only [Bool.and_eq_true] at hc
      have:=win_iff.1 hc.1
      exact mayS_iff.2 ⟨h1,epOk_put hc.1 hc.2.1 h2 (by show (0:Int)<f;omega),h3,h4⟩
    ·cases h
     exact hs
theorem doAll_may {l:List Ch}:∀ {s t:Sta},mayS s=true→l.all mayC=true→doAll s l=some t→mayS t=true:=by
 induction l with
 | nil =>
  intro s t hs _ h
  cases h
  exact hs
 | cons c r ih =>
  intro s t hs hl h
  simp only [List.all_cons,Bool.and_eq_true] at hl
  unfold doAll at h
  cases hc:doS s c with
  | none=>rw [hc] at h;cases h
  | some u =>
   rw [hc] at h
   exact ih (doS_may hs hl.1 hc) hl.2 h
end Go.Proofs.YtplpmemlaohlaaaGreat.Bas
namespace Go.Proofs.YtplpmemlaohlaaaGreat.Bas
open Oct Lsa Chg
def Up (s t:Sta):Prop:=(∀ o,seqOf s.db o<seqOf t.db o∨seqOf s.db o=seqOf t.db o∧getOf s.db o=getOf t.db o)∧(∀ o,epoch s.ep o≤epoch t.ep o)∧s.up≤t.up∧s.bo≤t.bo
theorem Up.refl (s:Sta):Up s s:=⟨fun _=>.inr ⟨rfl,rfl⟩,fun _=>Int.le_refl _,Int.le_refl _,Int.le_refl _⟩
theorem Up.trans {s t u:Sta} (h:Up s t) (g:Up t u):Up s u:=by
 refine ⟨fun o=>?_,fun o=>Int.le_trans (h.2.1 o) (g.2.1 o),Int.le_trans h.2.2.1 g.2.2.1,Int.le_trans h.2.2.2 g.2.2.2⟩
 rcases h.1 o with h1 | ⟨h1,h2⟩
 ·rcases g.1 o with g1 | ⟨g1,g2⟩
  ·exact .inl (by omega)
  ·exact .inl (by omega)
 ·rcases g.1 o with g1 | ⟨g1,g2⟩
  ·exact .inl (by omega)
  ·exact .inr ⟨h1.trans g1,h2.trans g2⟩
theorem doS_up {s t:Sta} {c:Ch} (h:doS s c=some t):Up s t:=by
 obtain ⟨k,o,q,ls,n,f⟩:=c
 unfold doS at h
 simp only at h
 split at h
 ·split at h
  ·cases h
  ·next hq =>
   cases h
   refine ⟨fun p=>?_,fun _=>Int.le_refl _,Int.le_refl _,Int.le_refl _⟩
   by_cases hp:p=o
   ·subst hp
    left
    have e:=get_put_same (⟨p,q,ls⟩:La) s.db
    show seqOf s.db p<seqOf (putOf s.db ⟨p,q,ls⟩) p
    rw [← seq_get (putOf s.db ⟨p,q,ls⟩),show getOf (putOf s.db ⟨p,q,ls⟩) p=⟨p,q,ls⟩ from e]
    show seqOf s.db p<q
    omega
   ·right
    have e:=get_put_other (⟨o,q,ls⟩:La) p hp s.db
    refine ⟨?_,e.symm⟩
    show seqOf s.db p=seqOf (putOf s.db ⟨o,q,ls⟩) p
    rw [← seq_get,← seq_get,e]
 ·split at h
  ·split at h
   ·cases h
   ·cases h
    exact ⟨fun _=>.inr ⟨rfl,rfl⟩,fun _=>Int.le_refl _,by show s.up≤n;omega,Int.le_refl _⟩
  ·split at h
   ·split at h
    ·cases h
    ·cases h
     exact ⟨fun _=>.inr ⟨rfl,rfl⟩,fun _=>Int.le_refl _,Int.le_refl _,by show s.bo≤n;omega⟩
   ·split at h
    ·split at h
     ·cases h
     ·next hq =>
      cases h
      refine ⟨fun _=>.inr ⟨rfl,rfl⟩,fun p=>?_,Int.le_refl _,Int.le_refl _⟩
      by_cases hp:p=f
      ·subst hp
       have e:=epoch_put_same (p,n) s.ep
       show epoch s.ep p≤epoch (putEp s.ep (p,n)) p
       rw [show epoch (putEp s.ep (p,n)) p=n from e]
       omega
      ·have e:=epoch_put_other (f,n) p hp s.ep
       show epoch s.ep p≤epoch (putEp s.ep (f,n)) p
       rw [e]
       exact Int.le_refl _
    ·cases h
     exact Up.refl _
theorem doAll_up {l:List Ch}:∀ {s t:Sta},doAll s l=some t→Up s t:=by
 induction l with
 | nil =>
  intro s t h
  cases h
  exact Up.refl _
 | cons c r ih =>
  intro s t h
  unfold doAll at h
  cases hc:doS s c with
  | none=>rw [hc] at h;cases h
  | some u =>
   rw [hc] at h
   exact (doS_up hc).trans (ih h)
theorem dbOk_lt {db:List La}:∀ {last:Int},dbOk last db=true→∀ a∈db,last<a.o:=by
 induction db with
 | nil=>intro last _ a ha;cases ha
 | cons b r ih =>
  intro last h a ha
  simp only [dbOk,Bool.and_eq_true,decide_eq_true_eq] at h
  rcases List.mem_cons.1 ha with rfl | ha
  ·exact h.2.1
  ·have:=ih h.2.2 a ha
   omega
theorem get_mem {db:List La}:∀ {last:Int},dbOk last db=true→∀ a∈db,getOf db a.o=a:=by
 induction db with
 | nil=>intro last _ a ha;cases ha
 | cons b r ih =>
  intro last h a ha
  simp only [dbOk,Bool.and_eq_true,decide_eq_true_eq] at h
  unfold getOf
  rcases List.mem_cons.1 ha with rfl | ha
  ·rw [if_pos rfl]
  ·rw [if_neg (by have:=dbOk_lt h.2.2 a ha;omega)]
   exact ih h.2.2 a ha
theorem epOk_lt {l:List (Int × Int)}:∀ {last:Int},epOk last l=true→∀ a∈l,last<a.1∧a.1≤64∧1≤a.2∧a.2≤1073741824:=by
 induction l with
 | nil=>intro last _ a ha;cases ha
 | cons b r ih =>
  intro last h a ha
  simp only [epOk,epOne,Bool.and_eq_true,decide_eq_true_eq] at h
  rcases List.mem_cons.1 ha with rfl | ha
  ·have h1:=win_iff.1 h.1.1
   have h2:=win_iff.1 h.1.2.1
   exact ⟨h.1.2.2,h1.2,h2.1,h2.2⟩
  ·have:=ih h.2 a ha
   exact ⟨by omega,this.2⟩
theorem epoch_mem {l:List (Int × Int)}:∀ {last:Int},epOk last l=true→∀ a∈l,epoch l a.1=a.2:=by
 induction l with
 | nil=>intro last _ a ha;cases ha
 | cons b r ih =>
  intro last h a ha
  simp only [epOk,epOne,Bool.and_eq_true,decide_eq_true_eq] at h
  unfold epoch
  rcases List.mem_cons.1 ha with rfl | ha
  ·rw [if_pos rfl]
  ·rw [if_neg (by have:=epOk_lt h.2 a ha;omega)]
   exact ih h.2 a ha
def refPut (l:La):Bool→List La→List La
 | d,[]=>if d=true then [] else [l]
 | d,a::r=>(if d=false∧l.o≤a.o then [l] else [])++((if a.o=l.o then [] else [a])++refPut l (d || decide (l.o≤a.o)) r)
theorem refPut_done {l:La}:∀ {db:List La} {last:Int},dbOk last db=true→l.o≤last→refPut l true db=db
 | [],_,_,_=>by simp [refPut]
 | a::r,last,h,hl=>by
  simp only [dbOk,Bool.and_eq_true,decide_eq_true_eq] at h
  unfold refPut
  rw [if_neg (by simp),if_neg (by omega),Bool.true_or,refPut_done h.2.2 (by omega)]
  rfl
theorem refPut_eq {l:La}:∀ {db:List La} {last:Int},dbOk last db=true→refPut l false db=putOf db l
 | [],_,_=>by simp [refPut,putOf]
 | a::r,last,h=>by
  simp only [dbOk,Bool.and_eq_true,decide_eq_true_eq] at h
  unfold refPut putOf
  by_cases h1:a.o<l.o
  ·rw [if_neg (by omega),if_neg (by omega),if_pos h1,decide_eq_false (by omega),Bool.or_false,refPut_eq h.2.2]
   rfl
  ·rw [if_pos ⟨rfl,by omega⟩,if_neg h1,decide_eq_true (by omega:l.o≤a.o),Bool.or_true,refPut_done h.2.2 (by omega)]
   by_cases h2:a.o=l.o
   ·rw [if_pos h2,if_pos h2]
    rfl
   ·rw [if_neg h2,if_neg h2]
    rfl
def pick (g:Int→Int) (o:Int):List (Int × Int):=if 0<g o then [(o,g o)] else []
def told (g:Int→Int):Int→Nat→List (Int × Int)
 | _,0=>[]
 | last,m+1=>pick g (last+1)++told g (last+1) m
theorem told_congr {g h:Int→Int}:∀ {m:Nat} {last:Int},(∀ o,last<o→g o=h o)→told g last m=told h last m
 | 0,_,_=>rfl
 | m+1,last,e=>by
  unfold told pick
  rw [e (last+1) (by omega),told_congr (m:=m) (fun o ho=>e o (by omega))]
theorem epoch_none {l:List (Int × Int)} {o:Int}:∀ {last:Int},epOk last l=true→o≤last→epoch l o=0:=by
 induction l with
 | nil=>intro _ _ _;rfl
 | cons b r ih =>
  intro last h ho
  simp only [epOk,epOne,Bool.and_eq_true,decide_eq_true_eq] at h
  unfold epoch
  rw [if_neg (by omega)]
  exact ih h.2 (by omega)
theorem told_eq:∀ {m:Nat} {last:Int} {l:List (Int × Int)},epOk last l=true→last+m=64→told (epoch l) last m=l
 | 0,last,[],_,_=>rfl
 | 0,last,b::r,h,hm=>by
  have:=epOk_lt h b (List.mem_cons_self ..)
  omega
 | m+1,last,[],h,hm=>by
  unfold told pick
  rw [if_neg (by simp [epoch]),told_eq (l:=[]) (by rfl) (by omega)]
  rfl
 | m+1,last,b::r,h,hm=>by
  have hb:=epOk_lt h b (List.mem_cons_self ..)
  have h':=h
  simp only [epOk,epOne,Bool.and_eq_true,decide_eq_true_eq] at h'
  by_cases hq:b.1=last+1
  ·unfold told pick
   rw [show epoch (b::r) (last+1)=b.2 from by unfold epoch;rw [if_pos hq],if_pos (by omega),← hq]
   rw [told_congr (h:=epoch r) (fun o ho=>by show (if b.1=o then b.2 else epoch r o)=epoch r o;rw [if_neg (by omega)]),told_eq h'.2 (by omega)]
   rfl
  ·unfold told pick
   have e0:epoch (b::r) (last+1)=0:=by
    unfold epoch
    rw [if_neg hq]
    exact epoch_none h'.2 (by omega)
   rw [e0,if_neg (by omega),told_eq (last:=last+1) (l:=b::r) (by simp only [epOk,epOne,Bool.and_eq_true,decide_eq_true_eq];exact ⟨⟨h'.1.1,h'.1.2.1,by omega⟩,h'.2⟩) (by omega)]
   rfl
def refEp (l:List (Int × Int)) (e:Int × Int):List (Int × Int):=told (fun o=>if o=e.1 then e.2 else epoch l o) 0 64
theorem refEp_eq {l:List (Int × Int)} {e:Int × Int} (h:epOk 0 l=true) (h1:win e.1 64=true) (h2:win e.2 1073741824=true):refEp l e=putEp l e:=by
 have hp:=epOk_put h1 h2 h (by have:=win_iff.1 h1;omega)
 rw [← told_eq hp (m:=64) (by omega)]
 refine told_congr fun o _=>?_
 show (if o=e.1 then e.2 else epoch l o)=epoch (putEp l e) o
 by_cases ho:o=e.1
 ·rw [if_pos ho,ho]
  exact (epoch_put_same e l).symm
 ·rw [if_neg ho]
  exact (epoch_put_other e o ho l).symm
end Go.Proofs.YtplpmemlaohlaaaGreat.Bas
namespace Go.Proofs.YtplpmemlaohlaaaGreat.Bas
open Oct Lsa Chg
def laBytes (a:La):List Nat:=bytesOf a.o a.s a.ls
def dbBytes (db:List La):List Nat:=db.flatMap laBytes
def headS (s:Sta):List Nat:=be 8 s.up.toNat++be 4 s.bo.toNat
def bytesS (s:Sta):List Nat:=headS s++(be 1 s.db.length++(dbBytes s.db++(be 1 s.ep.length++linkBytes s.ep)))
theorem dbOk_all:∀ {db:List La} {last:Int},dbOk last db=true→∀ a∈db,laOk a=true
 | [],_,_,a,ha=>by cases ha
 | b::r,last,h,a,ha=>by
  simp only [dbOk,Bool.and_eq_true] at h
  rcases List.mem_cons.1 ha with rfl | ha
  ·exact h.1
  ·exact dbOk_all h.2.2 a ha
theorem dbOk_len:∀ {db:List La} {last:Int},dbOk last db=true→0≤last→last≤64→last+db.length≤64
 | [],last,_,_,h=>by simpa using h
 | b::r,last,h,h0,_=>by
  simp only [dbOk,Bool.and_eq_true,decide_eq_true_eq] at h
  have hb:=(laOk_iff.1 h.1).1
  have:=dbOk_len h.2.2 (by omega) (by omega)
  simp only [List.length_cons]
  omega
theorem epOk_len:∀ {l:List (Int × Int)} {last:Int},epOk last l=true→0≤last→last≤64→last+l.length≤64
 | [],last,_,_,h=>by simpa using h
 | b::r,last,h,h0,_=>by
  simp only [epOk,epOne,Bool.and_eq_true,decide_eq_true_eq] at h
  have h1:=win_iff.1 h.1.1
  have:=epOk_len h.2 (by omega) (by omega)
  simp only [List.length_cons]
  omega
theorem dbBytes_lt (db:List La):∀ x∈dbBytes db,x<256:=by
 intro x hx
 obtain ⟨a,_,ha⟩:=List.mem_flatMap.1 hx
 exact bytesOf_lt a.o a.s a.ls x ha
theorem bytesS_lt (s:Sta):∀ x∈bytesS s,x<256:=by
 intro x hx
 unfold bytesS headS at hx
 simp only [List.mem_append] at hx
 rcases hx with (h | h) | h | h | h | h
 ·exact be_lt _ _ x h
 ·exact be_lt _ _ x h
 ·exact be_lt _ _ x h
 ·exact dbBytes_lt _ x h
 ·exact be_lt _ _ x h
 ·exact linkBytes_lt _ x h
end Go.Proofs.YtplpmemlaohlaaaGreat.Bas
namespace Go.Proofs.YtplpmemlaohlaaaGreat.Bas
open Oct Lsa Chg
def laAt (xs:List Nat):La:=⟨(lsaAt xs).1,(lsaAt xs).2.1,(lsaAt xs).2.2⟩
theorem la_back (a:La) (more:List Nat) (h:laOk a=true):isAt (laBytes a++more)=true∧laAt (laBytes a++more)=a∧(laBytes a++more).drop (10+5*many (laBytes a++more))=more:=by
 obtain ⟨o,s,ls⟩:=a
 obtain ⟨h1,h2,h3⟩:=read_back o s ls more h
 have hi:isAt (bytesOf o s ls++more)=true:=by rw [← rOk_at];exact h3
 have hi':=hi
 unfold isAt at hi'
 simp only [Bool.and_eq_true,decide_eq_true_eq] at hi'
 obtain ⟨r1,r2⟩:=rAll_at hi'.1 hi'.2.1
 rw [h2] at r2
 rw [h1] at r1
 refine ⟨hi,?_,?_⟩
 ·show (⟨(lsaAt (bytesOf o s ls++more)).1,(lsaAt (bytesOf o s ls++more)).2.1,(lsaAt (bytesOf o s ls++more)).2.2⟩:La)=⟨o,s,ls⟩
  rw [← r2]
 ·exact (congrArg (fun p=>p.1.1) r1).symm
def dbRead:Nat→List Nat→Option (List La × List Nat)
 | 0,xs=>some ([],xs)
 | n+1,xs=>if isAt xs=true then (dbRead n (xs.drop (10+5*many xs))).map fun p=>(laAt xs::p.1,p.2) else none
theorem dbRead_back:∀ (db:List La) (more:List Nat),(∀ a∈db,laOk a=true)→dbRead db.length (dbBytes db++more)=some (db,more)
 | [],more,_=>rfl
 | a::r,more,h=>by
  have e:dbBytes (a::r)++more=laBytes a++(dbBytes r++more):=by
   unfold dbBytes
   rw [List.flatMap_cons,List.append_assoc]
  obtain ⟨h1,h2,h3⟩:=la_back a (dbBytes r++more) (h a (List.mem_cons_self ..))
  rw [e,List.length_cons]
  unfold dbRead
  rw [if_pos h1,h3,h2,dbRead_back r more (fun z hz=>h z (List.mem_cons_of_mem _ hz))]
  rfl
def epRead (xs:List Nat):List (Int × Int):=(List.range (xs.length / 5)).map (lkAt xs)
theorem ep_all:∀ {l:List (Int × Int)} {last:Int},epOk last l=true→0≤last→∀ a∈l,(1≤a.1∧a.1≤64)∧1≤a.2∧a.2≤1073741824
 | [],_,_,_,a,ha=>by cases ha
 | b::r,last,h,h0,a,ha=>by
  simp only [epOk,epOne,Bool.and_eq_true,decide_eq_true_eq] at h
  have h1:=win_iff.1 h.1.1
  have h2:=win_iff.1 h.1.2.1
  rcases List.mem_cons.1 ha with rfl | ha
  ·exact ⟨h1,h2⟩
  ·exact ep_all h.2 (by omega) a ha
theorem epRead_back {l:List (Int × Int)} (h:epOk 0 l=true):epRead (linkBytes l)=l:=by
 have hl:=linkBytes_length l
 have e1:=rlks_back l [] (ep_all h (by omega)) l.length (Nat.le_refl _)
 have e2:=rlks_at (linkBytes l) l.length (by omega)
 rw [List.append_nil] at e1
 rw [e1,List.take_length] at e2
 unfold epRead
 rw [show (linkBytes l).length / 5=l.length by omega]
 exact (congrArg (fun p=>p.2) e2).symm
def found (b:List Nat) (p:List La × List Nat):Sta:=⟨p.1,sgn (num (b.take 8)),(num ((b.drop 8).take 4):Nat),epRead (p.2.drop 1)⟩
def refRead (b:List Nat):Option Sta :=
 if b.length<14 then none else match dbRead (b.getD 12 0) (b.drop 13) with
  | none=>none
  | some p=>if mayS (found b p)=true∧bytesS (found b p)=b then some (found b p) else none
theorem refRead_back {s:Sta} (h:mayS s=true):refRead (bytesS s)=some s:=by
 obtain ⟨d,u,b,e⟩:=s
 obtain ⟨s1,s2,s3,s4⟩:=mayS_iff.1 h
 simp only at s1 s2 s3 s4
 have l1:=dbOk_len s1 (by omega) (by omega)
 have l3:=epOk_len s2 (by omega) (by omega)
 obtain ⟨B,hB⟩:∃ B,B=bytesS ⟨d,u,b,e⟩:=⟨_,rfl⟩
 have hx:B=be 8 u.toNat++(be 4 b.toNat++(be 1 d.length++(dbBytes d++(be 1 e.length++linkBytes e)))):=by
  rw [hB]
  unfold bytesS headS
  rw [List.append_assoc]
 have t8:B.take 8=be 8 u.toNat:=by
  rw [hx,List.take_left' (be_length _ _)]
 have d8:B.drop 8=be 4 b.toNat++(be 1 d.length++(dbBytes d++(be 1 e.length++linkBytes e))):=by
  rw [hx,List.drop_left' (be_length _ _)]
 have t4:(B.drop 8).take 4=be 4 b.toNat:=by
  rw [d8,List.take_left' (be_length _ _)]
 have d12:B.drop 12=be 1 d.length++(dbBytes d++(be 1 e.length++linkBytes e)):=by
  have:B.drop 12=(B.drop 8).drop 4:=by rw [List.drop_drop]
  rw [this,d8,List.drop_left' (be_length _ _)]
 have d13:B.drop 13=dbBytes d++(be 1 e.length++linkBytes e):=by
  have:B.drop 13=(B.drop 12).drop 1:=by rw [List.drop_drop]
  rw [this,d12,List.drop_left' (be_length _ _)]
 have hlen:14≤B.length:=by
  rw [hx]
  simp only [List.length_append,be_length]
  omega
 have g12:B.getD 12 0=d.length:=by
  have e1:B.getD 12 0=(B.drop 12).getD 0 0:=by simp [List.getD,List.getElem?_drop]
  rw [e1,d12]
  have e2:be 1 d.length=[d.length % 256]:=by simp [be]
  rw [e2]
  show d.length % 256=d.length
  omega
 rw [← hB]
 unfold refRead
 rw [if_neg (by omega),g12,d13,dbRead_back d _ (dbOk_all s1)]
 have hf:found B (d,be 1 e.length++linkBytes e)=⟨d,u,b,e⟩:=by
  unfold found
  simp only
  rw [t8,t4,num_be8 (by omega),num_be4 (by omega),List.drop_left' (be_length _ _),epRead_back s2]
  have e1:sgn u.toNat=u:=by unfold sgn;rw [if_pos (by omega)];omega
  have e2:((b.toNat:Nat):Int)=b:=by omega
  rw [e1,e2]
 show (if mayS (found B (d,be 1 e.length++linkBytes e))=true∧bytesS (found B (d,be 1 e.length++linkBytes e))=B then some (found B (d,be 1 e.length++linkBytes e)) else none)=some ⟨d,u,b,e⟩
 rw [hf,if_pos ⟨h,hB.symm⟩]
theorem refRead_iff {b:List Nat} {s:Sta}:refRead b=some s↔mayS s=true∧bytesS s=b:=by
 constructor
 ·intro h
  unfold refRead at h
  split at h
  ·cases h
  ·split at h
   ·cases h
   ·split at h
    ·next hc =>
     cases h
     exact hc
    ·cases h
 ·rintro ⟨h,rfl⟩
  exact refRead_back h
end Go.Proofs.YtplpmemlaohlaaaGreat.Bas
namespace Go.Proofs.YtplpmemlaohlaaaGreat.Bas
open Oct Lsa Chg
def zeroL:La:=⟨0,0,[]⟩
theorem dbOk_step (last:Int) (db:List La) (k:Nat) (h:k<db.length):dbOk last (db.drop k)=(laOk (db.getD k zeroL) && (decide (last<(db.getD k zeroL).o) && dbOk (db.getD k zeroL).o (db.drop (k+1)))):=by
 rw [drop_at db zeroL k h,dbOk]
theorem epOk_step (last:Int) (l:List (Int × Int)) (k:Nat) (h:k<l.length):epOk last (l.drop k)=(epOne last (l.getD k (0,0)) && epOk (l.getD k (0,0)).1 (l.drop (k+1))):=by
 rw [drop_at l (0,0) k h,epOk]
def lastO (db:List La) (k:Nat):Int:=if k=0 then 0 else (db.getD (k - 1) zeroL).o
def lastE (l:List (Int × Int)) (k:Nat):Int:=if k=0 then 0 else (l.getD (k - 1) (0,0)).1
theorem lastO_succ (db:List La) (k:Nat):lastO db (k+1)=(db.getD k zeroL).o:=by simp [lastO]
theorem lastE_succ (l:List (Int × Int)) (k:Nat):lastE l (k+1)=(l.getD k (0,0)).1:=by simp [lastE]
theorem seq_step (db:List La) (o:Int) (k:Nat) (h:k<db.length):seqOf (db.drop k) o=if (db.getD k zeroL).o=o then (db.getD k zeroL).s else seqOf (db.drop (k+1)) o:=by
 rw [drop_at db zeroL k h,seqOf]
theorem get_step (db:List La) (o:Int) (k:Nat) (h:k<db.length):getOf (db.drop k) o=if (db.getD k zeroL).o=o then db.getD k zeroL else getOf (db.drop (k+1)) o:=by
 rw [drop_at db zeroL k h,getOf]
theorem epoch_step (l:List (Int × Int)) (o:Int) (k:Nat) (h:k<l.length):epoch (l.drop k) o=if (l.getD k (0,0)).1=o then (l.getD k (0,0)).2 else epoch (l.drop (k+1)) o:=by
 rw [drop_at l (0,0) k h,epoch]
theorem refPut_step (l:La) (d:Bool) (db:List La) (k:Nat) (h:k<db.length):refPut l d (db.drop k)=(if d=false∧l.o≤(db.getD k zeroL).o then [l] else [])++((if (db.getD k zeroL).o=l.o then [] else [db.getD k zeroL])++refPut l (d || decide (l.o≤(db.getD k zeroL).o)) (db.drop (k+1))):=by
 rw [drop_at db zeroL k h,refPut]
theorem told_step (g:Int→Int) (last:Int) (m:Nat):told g last (m+1)=pick g (last+1)++told g (last+1) m:=rfl
theorem dbBytes_succ (db:List La) (k:Nat) (h:k<db.length):dbBytes (db.take (k+1))=dbBytes (db.take k)++laBytes (db.getD k zeroL):=by
 have e:db.take (k+1)=db.take k++[db.getD k zeroL]:=by
  rw [List.take_succ_eq_append_getElem h]
  simp [List.getD,List.getElem?_eq_getElem h]
 rw [e]
 unfold dbBytes
 rw [List.flatMap_append,List.flatMap_cons,List.flatMap_nil,List.append_nil]
theorem doS_1 (s:Sta) (o q n f:Int) (ls:List Lk):doS s ⟨1,o,q,ls,n,f⟩=if q≤seqOf s.db o then none else some { s with db:=putOf s.db ⟨o,q,ls⟩ }:=by simp [doS]
theorem doS_2 (s:Sta) (o q n f:Int) (ls:List Lk):doS s ⟨2,o,q,ls,n,f⟩=if n≤s.up then none else some { s with up:=n }:=by simp [doS]
theorem doS_3 (s:Sta) (o q n f:Int) (ls:List Lk):doS s ⟨3,o,q,ls,n,f⟩=if n≤s.bo then none else some { s with bo:=n }:=by simp [doS]
theorem doS_4 (s:Sta) (o q n f:Int) (ls:List Lk):doS s ⟨4,o,q,ls,n,f⟩=if n≤epoch s.ep f then none else some { s with ep:=putEp s.ep (f,n) }:=by simp [doS]
def laIn (db:List La) (a:La):Bool:=!(decide ((getOf db a.o).s<a.s) || ((getOf db a.o).s == a.s) && !smL (getOf db a.o).o (getOf db a.o).s (getOf db a.o).ls a.o a.s a.ls)
def epIn (l:List (Int × Int)) (e:Int × Int):Bool:=!decide (epoch l e.1<e.2)
def within (s t:Sta):Bool:=s.db.all (laIn t.db) && (s.ep.all (epIn t.ep) && (decide (s.up≤t.up) && decide (s.bo≤t.bo)))
theorem smL_self (o s:Int) (ls:List Lk):smL o s ls o s ls=true:=by simp [smL]
theorem within_of {s t:Sta} (hs:mayS s=true) (h:Up s t):within s t=true:=by
 obtain ⟨h1,h2,_,_⟩:=mayS_iff.1 hs
 obtain ⟨g1,g2,g3,g4⟩:=h
 unfold within
 simp only [Bool.and_eq_true,List.all_eq_true,decide_eq_true_eq]
 refine ⟨fun a ha=>?_,fun e he=>?_,g3,g4⟩
 ·have ea:=get_mem h1 a ha
  have es:seqOf s.db a.o=a.s:=by rw [← seq_get,ea]
  unfold laIn
  rcases g1 a.o with g | ⟨g,g'⟩
  ·rw [es,← seq_get] at g
   rw [decide_eq_false (by omega)]
   have:((getOf t.db a.o).s == a.s)=false:=beq_false_of_ne (by omega)
   rw [this]
   rfl
  ·rw [ea] at g'
   rw [← g',smL_self]
   simp
 ·have ee:=epoch_mem h2 e he
  have:=g2 e.1
  unfold epIn
  rw [ee] at this
  rw [decide_eq_false (by omega)]
  rfl
theorem apply_ok {s t:Sta} {l:List Ch} (h:applyS s l=(t,0)):mayS t=true∧within s t=true:=by
 unfold applyS at h
 split at h
 ·next hc =>
  cases hd:doAll s l with
  | none=>rw [hd] at h;cases h
  | some u =>
   rw [hd] at h
   cases h
   exact ⟨doAll_may hc.1 hc.2 hd,within_of hc.1 (doAll_up hd)⟩
 ·cases h
end Go.Proofs.YtplpmemlaohlaaaGreat.Bas
namespace Go.Proofs.YtplpmemlaohlaaaGreat.Bas
open Oct Lsa Chg
def sameL (a b:La):Bool:=smL a.o a.s a.ls b.o b.s b.ls
theorem sameL_iff {a b:La}:sameL a b=true↔a=b:=by
 obtain ⟨o,s,ls⟩:=a
 obtain ⟨o',s',ls'⟩:=b
 simp [sameL,smL]
def sameDb:List La→List La→Bool
 | [],[]=>true
 | a::r,b::q=>sameL a b && sameDb r q
 | _,_=>false
theorem sameDb_iff:∀ {d e:List La},sameDb d e=true↔d=e
 | [],[]=>by simp [sameDb]
 | [],b::q=>by simp [sameDb]
 | a::r,[]=>by simp [sameDb]
 | a::r,b::q=>by
  simp only [sameDb,Bool.and_eq_true,sameL_iff,sameDb_iff (d:=r) (e:=q),List.cons.injEq]
def sameS (s t:Sta):Bool:=(s.up == t.up) && ((s.bo == t.bo) && (sameDb s.db t.db && decide (s.ep=t.ep)))
theorem sameS_iff {s t:Sta}:sameS s t=true↔s=t:=by
 obtain ⟨d,u,b,e⟩:=s
 obtain ⟨d',u',b',e'⟩:=t
 simp only [sameS,Bool.and_eq_true,beq_iff_eq,sameDb_iff,decide_eq_true_eq,Sta.mk.injEq]
 constructor
 ·rintro ⟨h1,h2,h3,h4⟩
  exact ⟨h3,h1,h2,h4⟩
 ·rintro ⟨h1,h2,h3,h4⟩
  exact ⟨h2,h3,h1,h4⟩
theorem sameS_self (s:Sta):sameS s s=true:=sameS_iff.2 rfl
theorem sameDb_step (d e:List La) (k:Nat) (h:k<d.length) (h':k<e.length):sameDb (d.drop k) (e.drop k)=(sameL (d.getD k zeroL) (e.getD k zeroL) && sameDb (d.drop (k+1)) (e.drop (k+1))):=by
 rw [drop_at d zeroL k h,drop_at e zeroL k h',sameDb]
end Go.Proofs.YtplpmemlaohlaaaGreat.Bas
namespace Go.Proofs.YtplpmemlaohlaaaGreat.Bas
open Oct Lsa Chg
def laOf (st:St):La:=⟨(lsaO st).1,(lsaO st).2.1,(lsaO st).2.2⟩
def rdbs (st:St):Nat→St × List La
 | 0=>(st,[])
 | k+1=>((rAll (rdbs st k).1).1,(rdbs st k).2++[laOf (rdbs st k).1])
theorem rdbs_len (st:St):∀ k,(rdbs st k).2.length=k
 | 0=>rfl
 | k+1=>by rw [rdbs,List.length_append,rdbs_len st k];rfl
def gU (xs:List Nat):St × Nat:=rnum (xs,true) 8
def gB (xs:List Nat):St × Nat:=rnum (gU xs).1 4
def gM (xs:List Nat):St × Nat:=rnum (gB xs).1 1
def gD (xs:List Nat):St × List La:=rdbs (gM xs).1 (gM xs).2
def gN (xs:List Nat):St × Nat:=rnum (gD xs).1 1
def gE (xs:List Nat):St × List Lk:=rlks (gN xs).1 (gN xs).2
def gS (xs:List Nat):Sta:=⟨(gD xs).2,sgn (gU xs).2,((gB xs).2:Nat),(gE xs).2⟩
def gEnd (xs:List Nat):Bool:=(gE xs).1.2 && decide ((gE xs).1.1.length=0)
def getS (xs:List Nat):Option Sta:=if (gEnd xs && mayS (gS xs))=true then some (gS xs) else none
theorem laOf_ok {st:St} (h:laOk (laOf st)=true):rOk st=true∧laOf st=⟨(rLsa st).1,(rLsa st).2.1,(rLsa st).2.2⟩:=by
 unfold laOf lsaO at h ⊢
 by_cases hr:rOk st=true
 ·rw [if_pos hr]
  exact ⟨hr,rfl⟩
 ·rw [if_neg hr] at h
  exact absurd h (by decide)
theorem rlks_bytes (st:St) (h:∀ x∈st.1,x<256):∀ k,∀ x∈(rlks st k).1.1,x<256
 | 0=>h
 | k+1=>by
  rw [rlks]
  unfold rlk
  exact rnum_bytes (rnum_bytes (rlks_bytes st h k))
theorem rAll_bytes {st:St} (h:∀ x∈st.1,x<256):∀ x∈(rAll st).1.1,x<256:=by
 have b3:∀ x∈(rMany st).1.1,x<256:=rnum_bytes (rnum_bytes (rnum_bytes h))
 exact rlks_bytes _ b3 _
theorem rdbs_bytes {st:St} (h:∀ x∈st.1,x<256):∀ k,∀ x∈(rdbs st k).1.1,x<256
 | 0=>h
 | k+1=>by
  rw [rdbs]
  exact rAll_bytes (rdbs_bytes h k)
theorem rdbs_sound {st:St} (h:∀ x∈st.1,x<256):∀ k,(rdbs st k).1.2=true→(∀ a∈(rdbs st k).2,laOk a=true)→st.1=dbBytes (rdbs st k).2++(rdbs st k).1.1∧st.2=true
 | 0,ht,_=>⟨by simp [rdbs,dbBytes],ht⟩
 | k+1,ht,ha=>by
  rw [rdbs] at ht ha ⊢
  simp only at ht ha ⊢
  obtain ⟨hk,hl⟩:=laOf_ok (ha (laOf (rdbs st k).1) (by simp))
  obtain ⟨e1,e2,_⟩:=lsa_sound (rdbs_bytes h k) hk
  obtain ⟨i1,i2⟩:=rdbs_sound h k e2 (fun a hm=>ha a (by simp [hm]))
  refine ⟨?_,i2⟩
  have e3:laBytes (laOf (rdbs st k).1)=bytesOf (rLsa (rdbs st k).1).1 (rLsa (rdbs st k).1).2.1 (rLsa (rdbs st k).1).2.2:=by rw [hl];rfl
  rw [← e3] at e1
  have e4:dbBytes ((rdbs st k).2++[laOf (rdbs st k).1])=dbBytes (rdbs st k).2++laBytes (laOf (rdbs st k).1):=by
   unfold dbBytes
   rw [List.flatMap_append,List.flatMap_cons,List.flatMap_nil,List.append_nil]
  rw [e4,List.append_assoc,← e1]
  exact i1
theorem rdbs_back (db:List La) (more:List Nat) (h:∀ a∈db,laOk a=true):∀ k,k≤db.length→rdbs (dbBytes db++more,true) k=((dbBytes (db.drop k)++more,true),db.take k)
 | 0,_=>by simp [rdbs]
 | k+1,hk=>by
  have hkl:k<db.length:=by omega
  rw [rdbs,rdbs_back db more h k (by omega),drop_at db zeroL k hkl]
  have hm:db.getD k zeroL∈db:=by
   simp only [List.getD,List.getElem?_eq_getElem hkl,Option.getD_some]
   exact List.getElem_mem _
  have ha:=h _ hm
  have e1:dbBytes (db.getD k zeroL::db.drop (k+1))++more=laBytes (db.getD k zeroL)++(dbBytes (db.drop (k+1))++more):=by
   unfold dbBytes
   rw [List.flatMap_cons,List.append_assoc]
  have e2:db.take (k+1)=db.take k++[db.getD k zeroL]:=by
   rw [List.take_succ_eq_append_getElem hkl]
   simp [List.getD,List.getElem?_eq_getElem hkl]
  rw [e1,e2]
  generalize db.getD k zeroL=a at *
  obtain ⟨o,s,ls⟩:=a
  obtain ⟨r1,r2,r3⟩:=read_back o s ls (dbBytes (db.drop (k+1))++more) ha
  have e3:laOf (laBytes ⟨o,s,ls⟩++(dbBytes (db.drop (k+1))++more),true)=⟨o,s,ls⟩:=by
   show laOf (bytesOf o s ls++(dbBytes (db.drop (k+1))++more),true)=_
   unfold laOf lsaO
   rw [if_pos r3,r2]
  simp only
  rw [e3]
  show ((rAll (bytesOf o s ls++(dbBytes (db.drop (k+1))++more),true)).1,_)=_
  rw [r1]
theorem rnum_small {st:St} {k:Nat} {K:Int} (hK:K=(k:Int)) (h:∀ x∈st.1,x<256):(rnum st K).2<256 ^ k:=by
 subst hK
 unfold rnum
 split
 ·have h1:=num_lt (st.1.take (k:Int).toNat) (fun x hx=>h x (List.mem_of_mem_take hx))
  have h2:(st.1.take (k:Int).toNat).length≤k:=by rw [List.length_take];simp;omega
  exact Nat.lt_of_lt_of_le h1 (Nat.pow_le_pow_right (by decide) h2)
 ·exact Nat.pow_pos (by decide)
theorem sgn_back {n:Nat} (h:n<18446744073709551616) (h0:0≤sgn n):(sgn n).toNat=n:=by
 unfold sgn at h0 ⊢
 split
 ·rw [Int.toNat_natCast]
 ·next hc =>
  rw [if_neg hc] at h0
  omega
theorem getS_sound {xs:List Nat} {s:Sta} (hx:∀ x∈xs,x<256) (h:getS xs=some s):mayS s=true∧bytesS s=xs:=by
 unfold getS at h
 split at h
 ·next hc =>
  cases h
  simp only [Bool.and_eq_true,gEnd,decide_eq_true_eq] at hc
  obtain ⟨⟨ht,hz⟩,hm⟩:=hc
  refine ⟨hm,?_⟩
  obtain ⟨m1,m2,m3,m4⟩:=mayS_iff.1 hm
  have hl:=dbOk_all m1
  have b0:∀ x∈(gU xs).1.1,x<256:=rnum_bytes hx
  have b1:∀ x∈(gB xs).1.1,x<256:=rnum_bytes b0
  have b2:∀ x∈(gM xs).1.1,x<256:=rnum_bytes b1
  have b3:∀ x∈(gD xs).1.1,x<256:=rdbs_bytes b2 _
  have b4:∀ x∈(gN xs).1.1,x<256:=rnum_bytes b3
  obtain ⟨e6,t5,_⟩:=rlks_sound (gN xs).1 b4 (gN xs).2 ht
  obtain ⟨e5,t4⟩:=rnum_sound (st:=(gD xs).1) (K:=1) (k:=1) rfl b3 t5
  obtain ⟨e4,t3⟩:=rdbs_sound b2 (gM xs).2 t4 hl
  obtain ⟨e3,t2⟩:=rnum_sound (st:=(gB xs).1) (K:=1) (k:=1) rfl b1 t3
  obtain ⟨e2,t1⟩:=rnum_sound (st:=(gU xs).1) (K:=4) (k:=4) rfl b0 t2
  obtain ⟨e1,_⟩:=rnum_sound (st:=(xs,true)) (K:=8) (k:=8) rfl hx t1
  have hn:(gE xs).1.1=[]:=List.eq_nil_of_length_eq_zero hz
  have d1:(gD xs).2.length=(gM xs).2:=rdbs_len _ _
  have d2:(gE xs).2.length=(gN xs).2:=rlks_len _ _
  have d3:(sgn (gU xs).2).toNat=(gU xs).2:=sgn_back (rnum_small (st:=(xs,true)) (k:=8) rfl hx) m3.1
  unfold bytesS headS gS
  simp only
  rw [d1,d2,d3,Int.toNat_natCast]
  have f1:xs=be 8 (gU xs).2++(gU xs).1.1:=e1
  have f2:(gU xs).1.1=be 4 (gB xs).2++(gB xs).1.1:=e2
  have f3:(gB xs).1.1=be 1 (gM xs).2++(gM xs).1.1:=e3
  have f4:(gM xs).1.1=dbBytes (gD xs).2++(gD xs).1.1:=e4
  have f5:(gD xs).1.1=be 1 (gN xs).2++(gN xs).1.1:=e5
  have f6:(gN xs).1.1=linkBytes (gE xs).2++(gE xs).1.1:=e6
  rw [hn,List.append_nil] at f6
  rw [f6] at f5
  rw [f5] at f4
  rw [f4] at f3
  rw [f3] at f2
  rw [f2] at f1
  rw [List.append_assoc]
  exact f1.symm
 ·cases h
theorem getS_back {s:Sta} (h:mayS s=true):getS (bytesS s)=some s:=by
 obtain ⟨d,u,b,e⟩:=s
 obtain ⟨s1,s2,s3,s4⟩:=mayS_iff.1 h
 simp only at s1 s2 s3 s4
 have l1:=dbOk_len s1 (by omega) (by omega)
 have l3:=epOk_len s2 (by omega) (by omega)
 have hx:bytesS ⟨d,u,b,e⟩=be 8 u.toNat++(be 4 b.toNat++(be 1 d.length++(dbBytes d++(be 1 e.length++linkBytes e)))):=by
  unfold bytesS headS
  rw [List.append_assoc]
 generalize bytesS ⟨d,u,b,e⟩=xs at *
 have g1:gU xs=((be 4 b.toNat++(be 1 d.length++(dbBytes d++(be 1 e.length++linkBytes e))),true),u.toNat):=by
  unfold gU
  rw [hx]
  exact rnum_be rfl _ (by omega) (by omega) (by omega)
 have g2:gB xs=((be 1 d.length++(dbBytes d++(be 1 e.length++linkBytes e)),true),b.toNat):=by
  unfold gB
  rw [g1]
  exact rnum_be rfl _ (by omega) (by omega) (by omega)
 have g3:gM xs=((dbBytes d++(be 1 e.length++linkBytes e),true),d.length):=by
  unfold gM
  rw [g2]
  exact rnum_be rfl _ (by omega) (by omega) (by omega)
 have g4:gD xs=((be 1 e.length++linkBytes e,true),d):=by
  unfold gD
  rw [g3]
  simp only
  rw [rdbs_back d _ (dbOk_all s1) d.length (Nat.le_refl _),List.drop_length,List.take_length]
  rfl
 have g5:gN xs=((linkBytes e,true),e.length):=by
  unfold gN
  rw [g4]
  exact rnum_be rfl _ (by omega) (by omega) (by omega)
 have g6:gE xs=(([],true),e):=by
  unfold gE
  rw [g5]
  have:=rlks_back e [] (ep_all s2 (Int.le_refl 0)) e.length (Nat.le_refl _)
  rw [List.append_nil,List.drop_length,List.take_length] at this
  exact this
 have g7:gS xs=⟨d,u,b,e⟩:=by
  unfold gS
  rw [g4,g1,g2,g6]
  have e1:sgn u.toNat=u:=by unfold sgn;rw [if_pos (by omega)];omega
  have e2:((b.toNat:Nat):Int)=b:=by omega
  simp only
  rw [e1,e2]
 unfold getS gEnd
 rw [g6,g7,h]
 rfl
theorem getS_iff {xs:List Nat} {s:Sta} (hx:∀ x∈xs,x<256):getS xs=some s↔mayS s=true∧bytesS s=xs:=by
 constructor
 ·exact getS_sound hx
 ·rintro ⟨h,rfl⟩
  exact getS_back h
theorem getS_eq {xs:List Nat} (hx:∀ x∈xs,x<256):getS xs=refRead xs:=by
 apply Option.ext
 intro s
 rw [getS_iff hx,refRead_iff]
end Go.Proofs.YtplpmemlaohlaaaGreat.Bas
namespace Go.Proofs.YtplpmemlaohlaaaGreat.Bas
open Oct Lsa Chg
def Rank (n:Nat) (K:Nat→Int) (t:Int) (r:Nat):Prop:=r≤n∧(∀ j,j<r→K j<t)∧∀ j,r≤j→j<n→t≤K j
theorem Rank.tail {n:Nat} {K:Nat→Int} {t:Int} {r:Nat} (h:Rank (n+1) K t (r+1)):Rank n (fun j=>K (j+1)) t r :=
 ⟨by have:=h.1;omega,fun j hj=>h.2.1 (j+1) (by omega),fun j h1 h2=>h.2.2 (j+1) (by omega) (by omega)⟩
def kL (db:List La) (j:Nat):Int:=(db.getD j zeroL).o
def kE (l:List (Int × Int)) (j:Nat):Int:=(l.getD j (0,0)).1
theorem putOf_found {l:La}:∀ {db:List La} {r:Nat},Rank db.length (kL db) l.o r→r<db.length→kL db r=l.o→putOf db l=db.set r l
 | [],r,_,hr,_=>absurd hr (by simp)
 | a::db,0,h,hr,e=>by
  have e:a.o=l.o:=e
  unfold putOf
  rw [if_neg (by omega),if_pos e]
  rfl
 | a::db,r+1,h,hr,e=>by
  have h0:a.o<l.o:=h.2.1 0 (by omega)
  have ih:=putOf_found (db:=db) (r:=r) (l:=l) h.tail (by simpa using hr) e
  unfold putOf
  rw [if_pos h0,ih]
  rfl
theorem putOf_new {l:La}:∀ {db:List La} {r:Nat},Rank db.length (kL db) l.o r→(r<db.length→kL db r≠l.o)→putOf db l=db.take r++(l::db.drop r)
 | [],r,h,_=>by
  have:r=0:=by have:=h.1;simpa using this
  subst this
  rfl
 | a::db,0,h,e=>by
  have e:a.o≠l.o:=e (by simp)
  have h0:l.o≤a.o:=h.2.2 0 (by omega) (by simp)
  unfold putOf
  rw [if_neg (by omega),if_neg e]
  rfl
 | a::db,r+1,h,e=>by
  have h0:a.o<l.o:=h.2.1 0 (by omega)
  have ih:=putOf_new (db:=db) (r:=r) (l:=l) h.tail (fun hr=>e (by simpa using hr))
  unfold putOf
  rw [if_pos h0,ih]
  rfl
theorem seqOf_found {o:Int}:∀ {db:List La} {r:Nat},Rank db.length (kL db) o r→r<db.length→kL db r=o→seqOf db o=(db.getD r zeroL).s
 | [],r,_,hr,_=>absurd hr (by simp)
 | a::db,0,h,hr,e=>by
  have e:a.o=o:=e
  unfold seqOf
  rw [if_pos e]
  rfl
 | a::db,r+1,h,hr,e=>by
  have h0:a.o<o:=h.2.1 0 (by omega)
  have ih:=seqOf_found (db:=db) (r:=r) (o:=o) h.tail (by simpa using hr) e
  unfold seqOf
  rw [if_neg (by omega),ih]
  rfl
theorem seqOf_none {o:Int}:∀ {db:List La},(∀ j,j<db.length→kL db j≠o)→seqOf db o=0
 | [],_=>rfl
 | a::db,h=>by
  unfold seqOf
  rw [if_neg (show a.o≠o from h 0 (by simp)),seqOf_none (fun j hj=>h (j+1) (by simpa using hj))]
theorem Rank.none {n:Nat} {K:Nat→Int} {t:Int} {r:Nat} (h:Rank n K t r) (hm:∀ i j,i≤j→j<n→K i≤K j) (hne:r<n→K r≠t):∀ j,j<n→K j≠t:=fun j hj e=>by
 by_cases hjr:j<r
 ·have:=h.2.1 j hjr;omega
 ·have h1:=h.2.2 r (Nat.le_refl _) (by omega)
  have h2:=hm r j (by omega) hj
  exact hne (by omega) (by omega)
theorem putEp_found {x:Int × Int}:∀ {l:List (Int × Int)} {r:Nat},Rank l.length (kE l) x.1 r→r<l.length→kE l r=x.1→putEp l x=l.set r x
 | [],r,_,hr,_=>absurd hr (by simp)
 | a::l,0,h,hr,e=>by
  have e:a.1=x.1:=e
  unfold putEp
  rw [if_neg (by omega),if_pos e]
  rfl
 | a::l,r+1,h,hr,e=>by
  have h0:a.1<x.1:=h.2.1 0 (by omega)
  have ih:=putEp_found (l:=l) (r:=r) (x:=x) h.tail (by simpa using hr) e
  unfold putEp
  rw [if_pos h0,ih]
  rfl
theorem putEp_new {x:Int × Int}:∀ {l:List (Int × Int)} {r:Nat},Rank l.length (kE l) x.1 r→(r<l.length→kE l r≠x.1)→putEp l x=l.take r++(x::l.drop r)
 | [],r,h,_=>by
  have:r=0:=by have:=h.1;simpa using this
  subst this
  rfl
 | a::l,0,h,e=>by
  have e:a.1≠x.1:=e (by simp)
  have h0:x.1≤a.1:=h.2.2 0 (by omega) (by simp)
  unfold putEp
  rw [if_neg (by omega),if_neg e]
  rfl
 | a::l,r+1,h,e=>by
  have h0:a.1<x.1:=h.2.1 0 (by omega)
  have ih:=putEp_new (l:=l) (r:=r) (x:=x) h.tail (fun hr=>e (by simpa using hr))
  unfold putEp
  rw [if_pos h0,ih]
  rfl
theorem epoch_found {o:Int}:∀ {l:List (Int × Int)} {r:Nat},Rank l.length (kE l) o r→r<l.length→kE l r=o→epoch l o=(l.getD r (0,0)).2
 | [],r,_,hr,_=>absurd hr (by simp)
 | a::l,0,h,hr,e=>by
  have e:a.1=o:=e
  unfold epoch
  rw [if_pos e]
  rfl
 | a::l,r+1,h,hr,e=>by
  have h0:a.1<o:=h.2.1 0 (by omega)
  have ih:=epoch_found (l:=l) (r:=r) (o:=o) h.tail (by simpa using hr) e
  unfold epoch
  rw [if_neg (by omega),ih]
  rfl
theorem epoch_no {o:Int}:∀ {l:List (Int × Int)},(∀ j,j<l.length→kE l j≠o)→epoch l o=0
 | [],_=>rfl
 | a::l,h=>by
  unfold epoch
  rw [if_neg (show a.1≠o from h 0 (by simp)),epoch_no (fun j hj=>h (j+1) (by simpa using hj))]
theorem dbOk_rise:∀ {db:List La} {last:Int},dbOk last db=true→∀ j,j<db.length→last<kL db j∧laOk (db.getD j zeroL)=true
 | [],_,_,j,hj=>absurd hj (by simp)
 | a::db,last,h,0,_=>by
  simp only [dbOk,Bool.and_eq_true,decide_eq_true_eq] at h
  exact ⟨h.2.1,h.1⟩
 | a::db,last,h,j+1,hj=>by
  simp only [dbOk,Bool.and_eq_true,decide_eq_true_eq] at h
  obtain ⟨h1,h2⟩:=dbOk_rise h.2.2 j (by simpa using hj)
  exact ⟨by show last<kL db j;omega,h2⟩
theorem dbOk_mono:∀ {db:List La} {last:Int},dbOk last db=true→∀ i j,i≤j→j<db.length→kL db i≤kL db j
 | [],_,_,i,j,_,hj=>absurd hj (by simp)
 | a::db,last,h,0,0,_,_=>Int.le_refl _
 | a::db,last,h,0,j+1,_,hj=>by
  simp only [dbOk,Bool.and_eq_true,decide_eq_true_eq] at h
  have:=(dbOk_rise h.2.2 j (by simpa using hj)).1
  show a.o≤kL db j
  omega
 | a::db,last,h,i+1,j+1,hij,hj=>by
  simp only [dbOk,Bool.and_eq_true,decide_eq_true_eq] at h
  exact dbOk_mono h.2.2 i j (by omega) (by simpa using hj)
theorem kL_win {db:List La} {last:Int} (h:dbOk last db=true) (j:Nat) (hj:j<db.length):0≤kL db j∧kL db j≤64:=by
 have:=(laOk_iff.1 (dbOk_rise h j hj).2).1
 show 0≤(db.getD j zeroL).o∧(db.getD j zeroL).o≤64
 omega
theorem dbOk_le:∀ {db:List La} {last:Int},dbOk last db=true→0≤last→(db.length:Int)≤64 - last∨db.length=0
 | [],_,_,_=>.inr rfl
 | a::db,last,h,h0=>by
  simp only [dbOk,Bool.and_eq_true,decide_eq_true_eq] at h
  have ha:=(laOk_iff.1 h.1).1
  left
  rcases dbOk_le h.2.2 (by omega) with h1 | h1
  ·simp only [List.length_cons];omega
  ·simp only [List.length_cons,h1];omega
theorem epOk_rise:∀ {l:List (Int × Int)} {last:Int},epOk last l=true→∀ j,j<l.length→last<kE l j∧kE l j≤64
 | [],_,_,j,hj=>absurd hj (by simp)
 | a::l,last,h,0,_=>by
  have:=epOk_lt h a (by simp)
  exact ⟨this.1,this.2.1⟩
 | a::l,last,h,j+1,hj=>by
  simp only [epOk,epOne,Bool.and_eq_true,decide_eq_true_eq] at h
  obtain ⟨h1,h2⟩:=epOk_rise h.2 j (by simpa using hj)
  exact ⟨by show last<kE l j;omega,h2⟩
theorem epOk_mono:∀ {l:List (Int × Int)} {last:Int},epOk last l=true→∀ i j,i≤j→j<l.length→kE l i≤kE l j
 | [],_,_,i,j,_,hj=>absurd hj (by simp)
 | a::l,last,h,0,0,_,_=>Int.le_refl _
 | a::l,last,h,0,j+1,_,hj=>by
  simp only [epOk,epOne,Bool.and_eq_true,decide_eq_true_eq] at h
  have:=(epOk_rise h.2 j (by simpa using hj)).1
  show a.1≤kE l j
  omega
 | a::l,last,h,i+1,j+1,hij,hj=>by
  simp only [epOk,epOne,Bool.and_eq_true,decide_eq_true_eq] at h
  exact epOk_mono h.2 i j (by omega) (by simpa using hj)
theorem epOk_le:∀ {l:List (Int × Int)} {last:Int},epOk last l=true→0≤last→(l.length:Int)≤64 - last∨l.length=0
 | [],_,_,_=>.inr rfl
 | a::l,last,h,h0=>by
  have ha:=epOk_lt h a (by simp)
  simp only [epOk,epOne,Bool.and_eq_true,decide_eq_true_eq] at h
  left
  rcases epOk_le h.2 (by omega) with h1 | h1
  ·simp only [List.length_cons];omega
  ·simp only [List.length_cons,h1];omega
theorem mayS_len {s:Sta} (h:mayS s=true):s.db.length≤64∧s.ep.length≤64:=by
 obtain ⟨h1,h2,_⟩:=mayS_iff.1 h
 have a:=dbOk_le h1 (by omega)
 have b:=epOk_le h2 (by omega)
 omega
end Go.Proofs.YtplpmemlaohlaaaGreat.Bas
