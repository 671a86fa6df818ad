/- The law of crashes (layer 12): what each call does to what it holds, and what holds in the midst of a round, behind the act and ahead of the crash. -/
import Derived.Test.YtplpmemlaohlaaaGreatKpStoHeld
namespace Go.Proofs.YtplpmemlaohlaaaGreat.Sto
open Go.RowKit Mem Lsa Chg Bas Wl
open Dsk (KeptBut SMap DiskAt kept_of_below kept_of_grown kept_drew TearsAt)
open Plt (sl)
set_option linter.unusedVariables false
set_option linter.unusedSimpArgs false
section
variable {w wr w':World} {g bs bw ab wb tb y q x p:Nat} {d d':Dsk.St} {cs:Array Value} {dv ev dv' ev':Value} {want tried s s':Sta} {v v':Wn}
theorem Boxed.done {b:Nat} {dx ex:Value} {t:Sta} (hb:Boxed w wr b dx ex t) (h:KW w wr g bs bw ab wb tb d cs dv ev dv' ev' want tried) (hs:SS w wr y q x g p v s) (hk:KeptBut wr w' [q,x,g,bs,bw]):Boxed w w' b dx ex t:=by
 obtain ⟨d0,e0,a2,_⟩:=hs.1.2.1
 have ht:Typ wr [q,x,g,bs,bw]:=(typ_blk a2 (by decide)).app (typ_both hs.1.2.2 h.disk)
 have hge:∀ b∈[q,x,g,bs,bw],w.heap.size≤b:=fun b hb=>by
  have h1:=h.ge b
  have h2:=hs.2 b
  simp only [List.mem_cons,List.not_mem_nil,or_false] at hb h1 h2
  omega
 refine hb.kept hk ht hge ?_
 have n1:=Blk.ne_ a2 hb.1 (by decide)
 have n0:=Blk.ne_ hs.1.2.2 hb.1 (by decide)
 have n2:=Blk.ne_ h.disk.1 hb.1 (by decide)
 have n3:=Dsk.smap_ne_blk h.disk.2.1 hb.1
 have n4:=Dsk.smap_ne_blk h.disk.2.2.1 hb.1
 simp only [List.mem_cons,List.not_mem_nil,or_false]
 omega
def KDone (w wr:World) (g bs bw ab wb tb y q x p:Nat) (cs:Array Value) (dv ev dv' ev':Value) (want tried:Sta) (r:Done) (e:Ending) (w':World):Prop :=
 e=.returned (.int .i64 r.e)∧KW w w' g bs bw ab wb tb r.d cs dv ev dv' ev' want tried∧SS w w' y q x g p r.v r.s∧∀ b dx ex t,Boxed w wr b dx ex t→Boxed w w' b dx ex t
theorem kw_do {A:Option Addr} {n c:Nat} {l:List Ch} (h:KW w wr g bs bw ab wb tb d cs dv ev dv' ev' want tried) (hs:SS w wr y q x g p v s) (hk1:6≤p) (hk2:p≤1000) (hv:WnOk p v) (hl:Chs w w.heap.size (.slice A n c) l) :
  Calls Tryz.prog 14 #[ptr y,.slice A n c] wr (KDone w wr g bs bw ab wb tb y q x p cs dv ev dv' ev' want tried (doS12 p d v s l)):=by
 refine (sdo_any y q x g bs bw p v s d A n c l wr hs.1 h.disk hk1 hk2 hv (hl.up h.low)).mono ?_
 rintro e w' ⟨h1,h2,h3,h4⟩
 exact ⟨h1,h.done hs h4 h3,⟨h2,hs.2⟩,fun b dx ex t hb=>hb.done h hs h4⟩
theorem kw_turn (h:KW w wr g bs bw ab wb tb d cs dv ev dv' ev' want tried) (hs:SS w wr y q x g p v s) (hk1:6≤p) (hk2:p≤1000) (hv:WnOk p v) (hm:mayS s=true) :
  Calls Tryz.prog 16 #[ptr y] wr (KDone w wr g bs bw ab wb tb y q x p cs dv ev dv' ev' want tried (turnS p d v s)):=by
 refine (sturn_any y q x g bs bw p v s d wr hs.1 h.disk hk1 hk2 hv hm).mono ?_
 rintro e w' ⟨h1,h2,h3,h4⟩
 exact ⟨h1,h.done hs h4 h3,⟨h2,hs.2⟩,fun b dx ex t hb=>hb.done h hs h4⟩
theorem kw_arm {k:Int} (h:KW w wr g bs bw ab wb tb d cs dv ev dv' ev' want tried) (hs:SS w wr y q x g p v s) (h1 : -9223372036854775808≤k) (h2:k≤9223372036854775807) :
  Calls Tryz.prog 17 #[ptr g,.int .i64 k] wr fun e w'=>e=.returned (.tuple #[])∧KW w w' g bs bw ab wb tb { d with left:=k } cs dv ev dv' ev' want tried∧SS w w' y q x g p v s:=by
 refine (Dsk.arm_any g bs bw d k wr h.disk h1 h2).mono ?_
 rintro e w' ⟨rfl,b1,b2⟩
 have hk:KeptBut wr w' [g,bs,bw]:=kept_of_grown b2 (by simp)
 exact ⟨rfl,h.disked hk b1,hs.disked h.disk hk⟩
theorem kw_told {At:Option Addr} {nt ct:Nat} {l:List (Int × List Nat)} (h:KW w wr g bs bw ab wb tb d cs dv ev dv' ev' want tried) (hv:TearsAt w w.heap.size (.slice At nt ct) l) :
  Calls Tryz.prog 27 #[ptr g,.slice At nt ct] wr fun e w'=>∃ t,e=.returned (.bool t)∧(t=true→Crashed d (d.crash l))∧Below wr.heap.size wr w' :=
 told_any g bs bw w.heap.size d At nt ct l wr h.disk (hv.below h.low (Nat.le_refl _)) h.low.size
theorem kw_crash {At:Option Addr} {nt ct:Nat} {l:List (Int × List Nat)} (h:KW w wr g bs bw ab wb tb d cs dv ev dv' ev' want tried) (hv:TearsAt w w.heap.size (.slice At nt ct) l) :
  Calls Tryz.prog 18 #[ptr g,.slice At nt ct] wr fun e w'=>e=.returned (.tuple #[])∧KW w w' g bs bw ab wb tb (d.crash l) cs dv ev dv' ev' want tried:=by
 refine (Dsk.crash_any g bs bw w.heap.size d _ l wr h.disk (hv.below h.low (Nat.le_refl _)) (fun b hb=>h.ge b (by simp only [List.mem_cons,List.not_mem_nil,or_false] at hb ⊢;omega))).mono ?_
 rintro e w' ⟨rfl,b1,b2⟩
 exact ⟨rfl,h.disked b2 b1⟩
def KOpen (w wr:World) (g bs bw ab wb tb p:Nat) (d:Dsk.St) (cs:Array Value) (dv ev dv' ev':Value) (want tried:Sta) (v':Wn) (s':Sta) (e:Ending) (w':World):Prop :=
 ∃ y' q' x',e=.returned (.tuple #[ptr y',.int .i64 0])∧KW w w' g bs bw ab wb tb d cs dv ev dv' ev' want tried∧SS w w' y' q' x' g p v' s'∧∀ y q x v s,SS w wr y q x g p v s→SS w w' y q x g p v s
theorem kw_open {G mk:Int} {e:Nat} (h:KW w wr g bs bw ab wb tb d cs dv ev dv' ev' want tried) (hs:Says p d G mk e s) (hp:6≤p) (hp2:p≤1000) (hm:openMark d≤2147483648) :
  Calls Tryz.prog 10 #[ptr g] wr (KOpen w wr g bs bw ab wb tb p d cs dv ev dv' ev' want tried ⟨G,openMark d,e,false⟩ s):=by
 obtain ⟨o1,o2,o3⟩:=open_says hs hp hm
 have hn:=hs.n
 refine (sopen_yes h.disk (by omega) ⟨o2,o3⟩ o1).mono ?_
 rintro e' w' ⟨y',q',x',rfl,h1,h2,h3,h4,h5,h6⟩
 have hl:=h.low.size
 rw [hn] at h4
 exact ⟨y',q',x',rfl,h.disked h6 h5,⟨h4,fun b hb=>by simp only [List.mem_cons,List.not_mem_nil,or_false] at hb;omega⟩,fun y q x v s hq=>hq.disked h.disk h6⟩
theorem kw_state (h:KW w wr g bs bw ab wb tb d cs dv ev dv' ev' want tried) (hs:SS w wr y q x g p v s) (hm:mayS s=true) :
  Calls Tryz.prog 22 #[ptr y] wr fun e w'=>∃ A n c A' n' c',e=.returned (stV s (.slice A n c) (.slice A' n' c'))∧StM w' w'.heap.size (.slice A n c) (.slice A' n' c') s∧Below wr.heap.size wr w':=by
 refine (sState_any y q x g p v s wr hs.1 hm).mono ?_
 rintro e w' ⟨A,n,c,A',n',c',h1,h2,h3,h4⟩
 exact ⟨A,n,c,A',n',c',h1,⟨h2.las,ownE_lks h3⟩,h4⟩
end
section
variable {w wr w':World} {g bs bw ab wb tb y q x p b xb:Nat} {d d':Dsk.St} {cs:Array Value} {dv ev dv' ev' dx ex:Value} {want tried s s' t u:Sta} {v v':Wn}
theorem SS.box (hs:SS w wr y q x g p v s) (hb:Boxed w wr b dv ev t) (a c:Value) (n m:Int):SS w (upd4 wr b a (.int .i64 n) (.int .i64 m) c) y q x g p v s:=by
 obtain ⟨d0,e0,a2,_⟩:=hs.1.2.1
 have hk:KeptBut wr (upd4 wr b a (.int .i64 n) (.int .i64 m) c) [b]:=kept_of_grown (upd4_grown _ _ _ _ _ _) (by simp)
 have n1:=Blk.ne_ hs.1.1 hb.1 (by decide)
 have n2:=Blk.ne_ a2 hb.1 (by decide)
 have n3:=Blk.ne_ hs.1.2.2 hb.1 (by decide)
 exact ⟨hs.1.kept hk (typ_box hb) (by simpa using n1) (by simpa using n2) (by simpa using n3),hs.2⟩
theorem Boxed.other {b':Nat} (h:Boxed w wr b' dv' ev' u) (hb:Boxed w wr b dv ev t) (hne:b'≠b) (a c:Value) (n m:Int):Boxed w (upd4 wr b a (.int .i64 n) (.int .i64 m) c) b' dv' ev' u:=by
 have hk:KeptBut wr (upd4 wr b a (.int .i64 n) (.int .i64 m) c) [b]:=kept_of_grown (upd4_grown _ _ _ _ _ _) (by simp)
 exact h.kept hk (typ_box hb) (by intro z hz;obtain rfl:=List.mem_singleton.1 hz;exact hb.2.2.2) (by simpa using hne)
theorem KW.rest (h:KW w wr g bs bw ab wb tb d cs dv ev dv' ev' want tried) (hb:Boxed w wr b dx ex t) (a c:Value) (n m:Int):Below w.heap.size w (upd4 wr b a (.int .i64 n) (.int .i64 m) c)∧DiskAt (upd4 wr b a (.int .i64 n) (.int .i64 m) c) g bs bw d∧Blk (upd4 wr b a (.int .i64 n) (.int .i64 m) c) ab 52 cs:=by
 have hk:KeptBut wr (upd4 wr b a (.int .i64 n) (.int .i64 m) c) [b]:=kept_of_grown (upd4_grown _ _ _ _ _ _) (by simp)
 have n1:=Blk.ne_ h.disk.1 hb.1 (by decide)
 have n2:=Dsk.smap_ne_blk h.disk.2.1 hb.1
 have n3:=Dsk.smap_ne_blk h.disk.2.2.1 hb.1
 have n4:=Blk.ne_ h.act hb.1 (by decide)
 exact ⟨h.low.trans (hk.below (by intro z hz;obtain rfl:=List.mem_singleton.1 hz;exact hb.2.2.2) h.low.size),h.disk.kept hk (by simpa using n1) (by simpa using Ne.symm n2) (by simpa using Ne.symm n3),hk.blk h.act (by simpa using n4)⟩
theorem KW.set_want (h:KW w wr g bs bw ab wb tb d cs dv ev dv' ev' want tried) (hx:Boxed w wr xb dx ex t):KW w (upd4 wr wb dx (.int .i64 t.up) (.int .i64 t.bo) ex) g bs bw ab wb tb d cs dx ex dv' ev' t tried:=by
 obtain ⟨h1,h2,h3⟩:=h.rest h.want dx ex t.up t.bo
 exact ⟨h1,h2,h3,h.want.set hx h.low.size,h.tried.other h.want (Ne.symm h.ne) _ _ _ _,h.ge,h.ne⟩
theorem KW.set_tried (h:KW w wr g bs bw ab wb tb d cs dv ev dv' ev' want tried) (hx:Boxed w wr xb dx ex t):KW w (upd4 wr tb dx (.int .i64 t.up) (.int .i64 t.bo) ex) g bs bw ab wb tb d cs dv ev dx ex want t:=by
 obtain ⟨h1,h2,h3⟩:=h.rest h.tried dx ex t.up t.bo
 exact ⟨h1,h2,h3,h.want.other h.tried h.ne _ _ _ _,h.tried.set hx h.low.size,h.ge,h.ne⟩
theorem kw_apply {A:Option Addr} {n c:Nat} {l:List Ch} (h:KW w wr g bs bw ab wb tb d cs dv ev dv' ev' want tried) (hl:Chs w w.heap.size (.slice A n c) l) :
  Calls Tryz.prog 25 #[stV want dv ev,.slice A n c] wr fun e w'=>∃ A1 n1 c1 A2 n2 c2,e=.returned (.tuple #[stV (applyS want l).1 (.slice A1 n1 c1) (.slice A2 n2 c2),.int .i64 (applyS want l).2])∧Below wr.heap.size wr w'∧Boxed w (w'.alloc (.cells #[.slice A1 n1 c1,.int .i64 (applyS want l).1.up,.int .i64 (applyS want l).1.bo,.slice A2 n2 c2] 43)) w'.heap.size (.slice A1 n1 c1) (.slice A2 n2 c2) (applyS want l).1:=by
 refine (rapply_safe want dv ev A n c l w.heap.size wr h.low.size h.want.2.1 h.want.2.2.1 (chsS_in (hl.keep h.low) h.low.size (Nat.le_refl _))).mono ?_
 rintro e w' ⟨d1,e1,h1,h2,h3,h4⟩
 obtain ⟨A1,n1,c1,rfl⟩:=h2.form
 obtain ⟨A2,n2,c2,rfl⟩:=h3.form
 have ha:=low1 (Below.refl w'.heap.size w') (.cells #[.slice A1 n1 c1,.int .i64 (applyS want l).1.up,.int .i64 (applyS want l).1.bo,.slice A2 n2 c2] 43)
 have h5:=h.low.size
 have h6:=h4.size
 exact ⟨A1,n1,c1,A2,n2,c2,h1,h4,Blk.new w' _ _,h2.up (by omega) ha,h3.up ha,by omega⟩
end
def Left12 (p k:Nat) (wh:Int) (d:Dsk.St) (v:Wn) (s want tried:Sta):Prop :=
 (∃ (G mk:Int) (e:Nat),v=⟨G,mk,e,false⟩∧Says p d G mk e s∧mk≤(k:Int)+1∧s=want∧(wh=3→tried=want)) ∨
 ((wh == 3)=false∧d.dead=true∧d.n=p∧Lost p ((k:Int)+2) d want tried∧within want tried=true)
def Mid12 (w wx:World) (g bs bw ab wb tb y p k:Nat) (wh:Int) (cs:Array Value):Prop :=
 ∃ q x v d s dv ev dv' ev' want tried,KW w wx g bs bw ab wb tb d cs dv ev dv' ev' want tried∧SS w wx y q x g p v s∧Left12 p k wh d v s want tried
def HoldsK (w wr:World) (g bs bw wb p k:Nat) (z:Value):Prop:=∃ y q x d G mk e s dv ev,z=ptr y∧Below w.heap.size w wr∧DiskAt wr g bs bw d∧SS w wr y q x g p ⟨G,mk,e,false⟩ s∧Boxed w wr wb dv ev s∧Says p d G mk e s∧mk≤(k:Int)+1
theorem lost_le {p:Nat} {m m':Int} {d:Dsk.St} {s t:Sta} (h:Lost p m d s t) (hm:m≤m'):Lost p m' d s t:=fun d' hc=>by
 obtain ⟨h1,h2⟩:=h d' hc
 exact ⟨by omega,h2⟩
theorem within_self {s:Sta} (h:mayS s=true):within s s=true:=within_up h (Up.refl _)
theorem left_crash {p k:Nat} {wh:Int} {d d':Dsk.St} {v:Wn} {s want tried:Sta} (h:Left12 p k wh d v s want tried) (hc:Crashed d d') :
  ∃ (G:Int) (e:Nat) (s':Sta),Says p d' G (openMark d') e s'∧openMark d'≤((k+1:Nat):Int)+1∧(s'=want∨s'=tried)∧within want s'=true:=by
 have ho:0≤openMark d':=by have:=mark_bounds ((List.range d'.n).map d'.get);unfold openMark;omega
 rcases h with ⟨G,mk,e,rfl,h1,h2,rfl,_⟩ | ⟨_,_,hn,h1,h2⟩
 ·obtain ⟨a1,g',e',b',r',a2,a3⟩:=h1.lost _ hc
  have a4:=a3.elim id id
  exact ⟨g',e',s,⟨hc.n.trans h1.n,ho,b',r',a2,a4⟩,by omega,.inl rfl,within_self h1.may⟩
 ·obtain ⟨a1,g',e',b',r',a2,a3⟩:=h1 _ hc
  rcases a3 with a3 | a3
  ·exact ⟨g',e',want,⟨hc.n.trans hn,ho,b',r',a2,a3⟩,by omega,.inl rfl,within_self (says_may a3)⟩
  ·exact ⟨g',e',tried,⟨hc.n.trans hn,ho,b',r',a2,a3⟩,by omega,.inr rfl,h2⟩
end Go.Proofs.YtplpmemlaohlaaaGreat.Sto
