/- What the law of crashes holds in memory (layer 12): a disk, stores, the state that is wanted and that which was tried, in boxes, and the act at hand; and what each call does to them. -/
import Derived.Test.YtplpmemlaohlaaaGreatKpRefBas
import Derived.Test.YtplpmemlaohlaaaGreatKpStoAwake
import Derived.Test.YtplpmemlaohlaaaGreatKpStoIn
import Derived.Test.YtplpmemlaohlaaaGreatKpWalAllB
namespace Go.Proofs.YtplpmemlaohlaaaGreat.Sto
open Go.RowKit Mem Lsa Chg Bas Wl
open Dsk (KeptBut SMap DiskAt kept_of_below kept_of_grown kept_drew TearsAt)
open Plt (sl)
set_option linter.unusedVariables false
set_option linter.unusedSimpArgs false
theorem applyS_e (s:Sta) (l:List Ch):(applyS s l).2=0∨(applyS s l).2=1∨(applyS s l).2=10:=by
 unfold applyS
 split
 ·cases doAll s l with
  | none=>exact .inr (.inr rfl)
  | some t=>exact .inl rfl
 ·exact .inr (.inl rfl)
section
variable {p e:Nat} {g mk:Int} {d:Dsk.St} {s:Sta} {l:List Ch}
theorem do_ready (h:Says p d g mk e s) (h1:mk≤2147483648) (hk:lg p≤1000) :
  (∃ er,doS12 p d ⟨g,mk,e,false⟩ s l=⟨d,⟨g,mk,e,false⟩,s,er⟩∧er≠0∧er≠7) ∨
  (∃ t d1 g' e',applyS s l=(t,0)∧doS12 p d ⟨g,mk,e,false⟩ s l=⟨d1,⟨g',mk,e',false⟩,t,0⟩∧Says p d1 g' mk e' t) ∨
  (∃ t d1 v1,applyS s l=(t,0)∧doS12 p d ⟨g,mk,e,false⟩ s l=⟨d1,v1,s,7⟩∧d1.dead=true∧d1.n=p∧Lost p (mk+1) d1 s t):=by
 cases hok:okAll l with
 | false=>exact .inl ⟨1,doS12_arg rfl hok,by decide,by decide⟩
 | true =>
  by_cases ha:(applyS s l).2=0
  ·have hap:applyS s l=((applyS s l).1,0):=Prod.ext rfl ha
   generalize (applyS s l).1=t at hap
   rcases keepS_ready h hok hap h1 hk with ⟨q1,q2,q3,q4⟩ | ⟨q1,g',e',q2,q3⟩ | ⟨q1,q2,q3,q4⟩
   ·exact .inl ⟨_,by rw [doS12_do rfl hok hap,if_neg q1,q3,q4],q1,q2⟩
   ·exact .inr (.inl ⟨t,_,g',e',hap,by rw [doS12_do rfl hok hap,if_pos q1,q1,q2],q3⟩)
   ·exact .inr (.inr ⟨t,_,_,hap,by rw [doS12_do rfl hok hap,if_neg (by rw [q1];decide),q1],q2,q3,q4⟩)
  ·refine .inl ⟨_,doS12_old rfl hok ha,ha,?_⟩
   rcases applyS_e s l with q | q | q
   ·exact absurd q ha
   ·omega
   ·omega
theorem turn_ready12 (h:Says p d g mk e s) (h1:mk≤2147483648) :
  (∃ er,turnS p d ⟨g,mk,e,false⟩ s=⟨d,⟨g,mk,e,false⟩,s,er⟩) ∨
  (∃ d1 g' e',turnS p d ⟨g,mk,e,false⟩ s=⟨d1,⟨g',mk,e',false⟩,s,0⟩∧Says p d1 g' mk e' s) ∨
  (∃ d1 v1,turnS p d ⟨g,mk,e,false⟩ s=⟨d1,v1,s,7⟩∧d1.dead=true∧d1.n=p∧Lost p (mk+1) d1 s s):=by
 have e0:turnS p d ⟨g,mk,e,false⟩ s=⟨(turnTo p d ⟨g,mk,e,false⟩ s).1,(turnTo p d ⟨g,mk,e,false⟩ s).2.1,s,(turnTo p d ⟨g,mk,e,false⟩ s).2.2⟩:=by unfold turnS;rw [if_neg (by simp)]
 rw [e0]
 rcases turnTo_ready h h.may h1 with ⟨q1,q2,q3,q4⟩ | ⟨q1,g',e',q2,q3⟩ | ⟨q1,q2,q3,q4⟩
 ·exact .inl ⟨_,by rw [q3,q4]⟩
 ·exact .inr (.inl ⟨_,g',e',by rw [q1,q2],q3⟩)
 ·exact .inr (.inr ⟨_,_,by rw [q1],q2,q3,q4⟩)
theorem Says.ok (h:Says p d g mk e s) (h1:mk≤2147483648):WnOk p ⟨g,mk,e,false⟩:=by
 obtain ⟨_,h0,b,r,h2,_⟩:=h
 have:=ready_gen h2
 exact ⟨by simp only;omega,this.2,h0,h1,h2.inv.log.le⟩
end
def Boxed (w wr:World) (b:Nat) (dv ev:Value) (t:Sta):Prop:=Blk wr b 43 #[dv,.int .i64 t.up,.int .i64 t.bo,ev]∧SafeL wr w.heap.size dv t.db∧SafeE wr w.heap.size ev t.ep∧w.heap.size≤b
section
variable {w wr w':World} {b:Nat} {dv ev:Value} {t:Sta} {S:List Nat}
theorem Boxed.kept (h:Boxed w wr b dv ev t) (hk:KeptBut wr w' S) (ht:Typ wr S) (hS:∀ c∈S,w.heap.size≤c) (hb:b ∉ S):Boxed w w' b dv ev t:=⟨hk.blk h.1 hb,safeL_kept h.2.1 hk ht hS,safeE_kept h.2.2.1 hk ht hS,h.2.2.2⟩
theorem Boxed.up (h:Boxed w wr b dv ev t) (hb:Below wr.heap.size wr w'):Boxed w w' b dv ev t:=h.kept (S:=[]) (kept_of_below hb (Nat.le_refl _)) (by intro c hc;simp at hc) (by simp) (by simp)
theorem Boxed.form (h:Boxed w wr b dv ev t):∃ A n c A' n' c',dv=.slice A n c∧ev=.slice A' n' c':=by
 obtain ⟨A,n,c,rfl⟩:=h.2.1.form
 obtain ⟨A',n',c',rfl⟩:=h.2.2.1.form
 exact ⟨A,n,c,A',n',c',rfl,rfl⟩
theorem Boxed.stm (h:Boxed w wr b dv ev t) (hl:w.heap.size≤wr.heap.size):StM wr wr.heap.size dv ev t:=⟨h.2.1.las hl,h.2.2.1.lks⟩
theorem Boxed.set {b':Nat} {dv' ev':Value} {t':Sta} (h:Boxed w wr b dv ev t) (h':Boxed w wr b' dv' ev' t') (hl:w.heap.size≤wr.heap.size):Boxed w (upd4 wr b dv' (.int .i64 t'.up) (.int .i64 t'.bo) ev') b dv' ev' t':=by
 have hg:=upd4_grown wr b dv' (.int .i64 t'.up) (.int .i64 t'.bo) ev'
 exact ⟨upd4_blk h.1,h'.2.1.blk hl h.1 (by decide) h.2.2.2 hg,h'.2.2.1.blk h.1 (by decide) h.2.2.2 hg,h.2.2.2⟩
theorem typ_box {dv ev:Value} (h:Boxed w wr b dv ev t):Typ wr [b]:=typ_blk h.1 (by decide)
end
structure KW (w wr:World) (g bs bw ab wb tb:Nat) (d:Dsk.St) (cs:Array Value) (dv ev dv' ev':Value) (want tried:Sta):Prop where
 low:Below w.heap.size w wr
 disk:DiskAt wr g bs bw d
 act:Blk wr ab 52 cs
 want:Boxed w wr wb dv ev want
 tried:Boxed w wr tb dv' ev' tried
 ge:∀ b∈[g,bs,bw,ab],w.heap.size≤b
 ne:wb≠tb
def SS (w wr:World) (y q x g p:Nat) (v:Wn) (s:Sta):Prop:=StoreAt wr y q x g p v s∧∀ b∈[y,q,x],w.heap.size≤b
section
variable {w wr w':World} {g bs bw ab wb tb y q x p:Nat} {d d':Dsk.St} {cs:Array Value} {dv ev dv' ev':Value} {want tried s s':Sta} {v v':Wn}
theorem SS.up (h:SS w wr y q x g p v s) (hb:Below wr.heap.size wr w'):SS w w' y q x g p v s:=⟨h.1.up hb,h.2⟩
theorem KW.up (h:KW w wr g bs bw ab wb tb d cs dv ev dv' ev' want tried) (hb:Below wr.heap.size wr w'):KW w w' g bs bw ab wb tb d cs dv ev dv' ev' want tried :=
 ⟨low_low h.low hb,h.disk.below hb,h.act.below hb h.act.lt,h.want.up hb,h.tried.up hb,h.ge,h.ne⟩
theorem KW.disked (h:KW w wr g bs bw ab wb tb d cs dv ev dv' ev' want tried) (hk:KeptBut wr w' [g,bs,bw]) (hd:DiskAt w' g bs bw d'):KW w w' g bs bw ab wb tb d' cs dv ev dv' ev' want tried:=by
 have ht:=typ_disk h.disk
 have hge:∀ b∈[g,bs,bw],w.heap.size≤b:=fun b hb=>h.ge b (by simp only [List.mem_cons,List.not_mem_nil,or_false] at hb ⊢;omega)
 have f:∀ (b:Nat) (t:TypeId) (cs:Array Value),Blk wr b t cs→85≠t→b ∉ [g,bs,bw]:=by
  intro b t cs hb hne
  have n2:=Blk.ne_ h.disk.1 hb hne
  have n3:=Dsk.smap_ne_blk h.disk.2.1 hb
  have n4:=Dsk.smap_ne_blk h.disk.2.2.1 hb
  simp only [List.mem_cons,List.not_mem_nil,or_false]
  omega
 exact ⟨h.low.trans (hk.below hge h.low.size),hd,hk.blk h.act (f _ _ _ h.act (by decide)),h.want.kept hk ht hge (f _ _ _ h.want.1 (by decide)),h.tried.kept hk ht hge (f _ _ _ h.tried.1 (by decide)),h.ge,h.ne⟩
theorem KW.done (h:KW w wr g bs bw ab wb tb d cs dv ev dv' ev' want tried) (hs:SS w wr y q x g p v s) (hk:KeptBut wr w' [q,x,g,bs,bw]) (hd:DiskAt w' g bs bw d'):KW w w' g bs bw ab wb tb d' cs dv ev dv' ev' want tried:=by
 obtain ⟨d0,e0,a2,_⟩:=hs.1.2.1
 have ht:Typ wr [q,x,g,bs,bw]:=(typ_blk a2 (by decide)).app (typ_both hs.1.2.2 h.disk)
 have hge:∀ b∈[q,x,g,bs,bw],w.heap.size≤b:=fun b hb=>by
  have h1:=h.ge b
  have h2:=hs.2 b
  simp only [List.mem_cons,List.not_mem_nil,or_false] at hb h1 h2
  omega
 have f:∀ (b:Nat) (t:TypeId) (cs:Array Value),Blk wr b t cs→85≠t→92≠t→138≠t→b ∉ [q,x,g,bs,bw]:=by
  intro b t cs hb hne h2 h3
  have n1:=Blk.ne_ a2 hb h2
  have n0:=Blk.ne_ hs.1.2.2 hb h3
  have n2:=Blk.ne_ h.disk.1 hb hne
  have n3:=Dsk.smap_ne_blk h.disk.2.1 hb
  have n4:=Dsk.smap_ne_blk h.disk.2.2.1 hb
  simp only [List.mem_cons,List.not_mem_nil,or_false]
  omega
 exact ⟨h.low.trans (hk.below hge h.low.size),hd,hk.blk h.act (f _ _ _ h.act (by decide) (by decide) (by decide)),h.want.kept hk ht hge (f _ _ _ h.want.1 (by decide) (by decide) (by decide)),h.tried.kept hk ht hge (f _ _ _ h.tried.1 (by decide) (by decide) (by decide)),h.ge,h.ne⟩
theorem SS.disked (h:SS w wr y q x g p v s) (hd:DiskAt wr g bs bw d) (hk:KeptBut wr w' [g,bs,bw]):SS w w' y q x g p v s:=⟨h.1.disk_kept hd hk,h.2⟩
theorem box_cells {b:Nat} {t:Sta} (h:Boxed w wr b dv ev t):(wr.cell? ⟨b,0,none⟩=some dv∧wr.cell? ⟨b,1,none⟩=some (.int .i64 t.up)∧wr.cell? ⟨b,2,none⟩=some (.int .i64 t.bo)∧wr.cell? ⟨b,3,none⟩=some ev∧b<wr.heap.size) ∧
  wr.frozen? ⟨b,0,none⟩=false∧wr.frozen? ⟨b,1,none⟩=false∧wr.frozen? ⟨b,2,none⟩=false∧wr.frozen? ⟨b,3,none⟩=false:=⟨blk_cells4 h.1,blk_fz4 h.1⟩
end
end Go.Proofs.YtplpmemlaohlaaaGreat.Sto
