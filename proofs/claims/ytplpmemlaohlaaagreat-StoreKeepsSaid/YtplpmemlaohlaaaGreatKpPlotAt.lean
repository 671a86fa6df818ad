/- Which plots there are, and what they tell (layer 6): the contracts of isMade, Slot and At, and of the reference's May. -/
import Derived.Test.YtplpmemlaohlaaaGreatKpPlot
import Derived.IntWalk
namespace Go.Proofs.YtplpmemlaohlaaaGreat.Plt
open Go.RowKit Mem
set_option linter.unusedVariables false
set_option linter.unusedSimpArgs false
def may (s f l:Int):Bool:=decide (6≤f+l) && decide (f+l≤1024) && decide (s=sl (f+l).toNat) && decide (f=2*s)
theorem may_yes {s f l:Int} (h:may s f l=true):∃ k:Nat,6≤k∧k≤1024∧s=(sl k:Nat)∧f=2*(sl k:Nat)∧l=(k:Int) - 2*(sl k:Nat):=by
 simp only [may,Bool.and_eq_true,decide_eq_true_eq] at h
 obtain ⟨⟨⟨h1,h2⟩,h3⟩,h4⟩:=h
 exact ⟨(f+l).toNat,by omega,by omega,h3,by omega,by omega⟩
theorem may_mk (k:Nat) (h:6≤k) (h2:k≤1024):may (sl k:Nat) (2*(sl k:Nat)) ((k:Int) - 2*(sl k:Nat))=true:=by
 have e:(2*((sl k:Nat):Int)+((k:Int) - 2*((sl k:Nat):Int)))=(k:Int):=by omega
 simp only [may,e,Int.toNat_natCast,Bool.and_eq_true,decide_eq_true_eq]
 exact ⟨⟨⟨by omega,by omega⟩,trivial⟩,trivial⟩
theorem may_no {s f l:Int} (h:may s f l=false) (k:Nat) (h1:6≤k) (h2:k≤1024):¬ ((sl k:Nat)=s∧2*((sl k:Nat):Int)=f∧(k:Int) - 2*((sl k:Nat):Int)=l):=by
 rintro ⟨rfl,rfl,rfl⟩
 rw [may_mk k h1 h2] at h
 cases h
theorem cells3 {w w1:World} {t:TypeId} {a b c:Value} (hb:Below (w.alloc (.cells #[a,b,c] t)).heap.size (w.alloc (.cells #[a,b,c] t)) w1) :
  w1.cell? ⟨w.heap.size,0,none⟩=some a∧w1.cell? ⟨w.heap.size,1,none⟩=some b∧w1.cell? ⟨w.heap.size,2,none⟩=some c∧w.heap.size<w1.heap.size:=by
 have hz:w.heap.size<(w.alloc (.cells #[a,b,c] t)).heap.size:=by simp
 have h:=(Blk.new w t #[a,b,c]).below hb hz
 exact ⟨h.cell 0,h.cell 1,h.cell 2,Nat.lt_of_lt_of_le hz hb.size⟩
theorem below1 {w w1:World} (o:Obj) (hb:Below (w.alloc o).heap.size (w.alloc o) w1):Below w.heap.size w w1 :=
 ((Below.refl _ _).alloc (Nat.le_refl _) o).trans (hb.mono (by simp))
theorem below2 {w w1:World} (o o':Obj) (hb:Below (w.alloc o).heap.size (w.alloc o) w1):Below w.heap.size w (w1.alloc o') :=
 (below1 o hb).alloc (below1 o hb).size o'
theorem belowN {B:Nat} {w w':World} (h:Below B w w') (n:Nat):Below B w (w'.drewN n):=⟨h.os,h.tape,h.output,h.size,h.block⟩
set_option maxHeartbeats 1000000 in
theorem isMade_yes (k:Nat) (w:World) (h:6≤k) (h2:k≤1024) :
  Calls Tryz.prog 158 #[plV (sl k:Nat) (2*(sl k:Nat)) ((k:Int) - 2*(sl k:Nat))] w fun e w'=>e=.returned (.bool true)∧Below w.heap.size w w':=by
 have hs:=sl_le k
 have mk:=fun (W:World)=>make_yes k W h h2
 generalize sl k=s at hs mk ⊢
 have e:2*(s:Int)+((k:Int) - 2*s)=k:=by omega
 have MK:=Lib.hid mk;clear mk
 go_enter Tryz.func158,Tryz.ntmps158
 go_wp2_with (go_at_call 67;refine (MK.out _).mono ?_;rintro e w1 ⟨rfl,hb⟩;obtain ⟨g0,g1,g2,hz⟩:=cells3 hb;have HB:=Lib.hid hb;clear hb)
 go_ret
 exact ⟨rfl,below2 _ _ HB.out⟩
set_option maxHeartbeats 1000000 in
theorem isMade_no (s f l:Int) (w:World) (h:may s f l=false) :
  Calls Tryz.prog 158 #[plV s f l] w fun e w'=>e=.returned (.bool false)∧Below w.heap.size w w':=by
 by_cases hr:wrap64 (f+l)<6∨1024<wrap64 (f+l)
 ·have mk:=fun (W:World)=>make_no (wrap64 (f+l)) W hr
  have MK:=Lib.hid mk;clear mk
  have HR:=Lib.hid hr;clear hr
  go_enter Tryz.func158,Tryz.ntmps158
  go_wp2_with (go_at_call 67;refine (MK.out _).mono ?_;rintro e w1 ⟨rfl,hb⟩;obtain ⟨g0,g1,g2,hz⟩:=cells3 hb;have HB:=Lib.hid hb;clear hb)
  go_ret
  exact ⟨rfl,below2 _ _ HB.out⟩
 ·obtain ⟨k,hk⟩:∃ k:Nat,wrap64 (f+l)=k:=⟨(wrap64 (f+l)).toNat,by omega⟩
  have h1:6≤k:=by omega
  have h2:k≤1024:=by omega
  have hn:=may_no h k h1 h2
  have mk:=fun (W:World)=>make_yes k W h1 h2
  have hs:=sl_le k
  generalize sl k=s' at hs mk hn ⊢
  have MK:=Lib.hid mk;clear mk
  have HN:=Lib.hid hn;clear hn
  clear hr
  go_enter Tryz.func158,Tryz.ntmps158
  go_wp2_with (go_at_call 67;refine (MK.out _).mono ?_;rintro e w1 ⟨rfl,hb⟩;obtain ⟨g0,g1,g2,hz⟩:=cells3 hb;have HB:=Lib.hid hb;clear hb)
  all_goals first
   | exact (HN.out ⟨by omega,by omega,by omega⟩).elim
   | (go_ret;exact ⟨rfl,below2 _ _ HB.out⟩)
theorem isMade_any (s f l:Int) (w:World) :
  Calls Tryz.prog 158 #[plV s f l] w fun e w'=>e=.returned (.bool (may s f l))∧Below w.heap.size w w':=by
 cases h:may s f l
 ·exact isMade_no s f l w h
 ·obtain ⟨k,h1,h2,rfl,rfl,rfl⟩:=may_yes h
  exact isMade_yes k w h1 h2
def fromI (s f l gen:Int):Int:=if gen<0∨may s f l=false then 0 else gen % 2*s
def toI (s f l gen:Int):Int:=if gen<0∨may s f l=false then 0 else gen % 2*s+s
def atI (s f l i:Int):Int:=if i<0∨l≤i∨may s f l=false then -1 else f+i
set_option maxHeartbeats 1000000 in
theorem slot_any (s f l gen:Int) (w:World) (hg:gen≤9223372036854775807) :
  Calls Tryz.prog 168 #[plV s f l,.int .i64 gen] w fun e w'=>e=.returned (.tuple #[.int .i64 (fromI s f l gen),.int .i64 (toI s f l gen)])∧Below w.heap.size w w':=by
 have mk:=fun (W:World)=>isMade_any s f l W
 cases h0:decide (gen<0)
 ·cases h:may s f l
  ·rw [h] at mk
   have e1:fromI s f l gen=0:=by unfold fromI;rw [if_pos (.inr h)]
   have e2:toI s f l gen=0:=by unfold toI;rw [if_pos (.inr h)]
   rw [e1,e2]
   have MK:=Lib.hid mk;clear mk
   have H:=Lib.hid h;clear h e1 e2
   go_enter Tryz.func168,Tryz.ntmps168
   go_wp2_with (go_at_call 158;refine (MK.out _).mono ?_;rintro e w1 ⟨rfl,hb⟩;obtain ⟨g0,g1,g2,hz⟩:=cells3 hb;have HB:=Lib.hid hb;clear hb)
   go_ret2
   exact ⟨rfl,below1 _ HB.out⟩
  ·rw [h] at mk
   have hc:¬ (gen<0∨may s f l=false):=by simp only [decide_eq_false_iff_not] at h0;rw [h];simp;omega
   have e1:fromI s f l gen=gen % 2*s:=by unfold fromI;rw [if_neg hc]
   have e2:toI s f l gen=gen % 2*s+s:=by unfold toI;rw [if_neg hc]
   rw [e1,e2]
   obtain ⟨k,h1,h2,rfl,rfl,rfl⟩:=may_yes h
   have MK:=Lib.hid mk;clear mk
   have H:=Lib.hid h;clear h e1 e2 hc
   have hs:=(sl_le k).1
   have hg0:0≤gen:=by simpa using h0
   generalize sl k=s at *
   have hm:gen % 2=0∨gen % 2=1:=by omega
   have hm1:0≤gen % 2*(s:Int)∧gen % 2*(s:Int)≤16:=by rcases hm with e | e <;> rw [e] <;> omega
   clear hm
   go_enter Tryz.func168,Tryz.ntmps168
   go_wp2_with (go_at_call 158;refine (MK.out _).mono ?_;rintro e w1 ⟨rfl,hb⟩;obtain ⟨g0,g1,g2,hz⟩:=cells3 hb;have HB:=Lib.hid hb;clear hb)
   have hw:IntKind.i64.wrap (gen % 2*(s:Int)+s)=gen % 2*(s:Int)+s:=IntWalk.i64_in _ (by omega)
   go_quiet (fail)
   clear hw
   go_wp2
   go_ret2
   exact ⟨rfl,belowN (below1 _ HB.out) _⟩
 ·have h1:gen<0:=by simpa using h0
  have e1:fromI s f l gen=0:=by unfold fromI;rw [if_pos (.inl h1)]
  have e2:toI s f l gen=0:=by unfold toI;rw [if_pos (.inl h1)]
  rw [e1,e2]
  clear e1 e2 mk
  go_enter Tryz.func168,Tryz.ntmps168
  go_wp2
  go_ret2
  exact ⟨rfl,(Below.refl _ _).alloc (Nat.le_refl _) _⟩
set_option maxHeartbeats 1000000 in
theorem at_any (s f l i:Int) (w:World) :
  Calls Tryz.prog 101 #[plV s f l,.int .i64 i] w fun e w'=>e=.returned (.int .i64 (atI s f l i))∧Below w.heap.size w w':=by
 have mk:=fun (W:World)=>isMade_any s f l W
 cases h0:decide (i<0)
 ·cases h1:decide (l≤i)
  ·have h0':¬ i<0:=by simpa using h0
   have h1':¬ l≤i:=by simpa using h1
   cases h:may s f l
   ·rw [h] at mk
    have e1:atI s f l i = -1:=by unfold atI;rw [if_pos (.inr (.inr h))]
    rw [e1]
    have MK:=Lib.hid mk;clear mk
    have H:=Lib.hid h;clear h e1 h0' h1'
    go_enter Tryz.func101,Tryz.ntmps101
    go_wp2_with (go_at_call 158;refine (MK.out _).mono ?_;rintro e w1 ⟨rfl,hb⟩;obtain ⟨g0,g1,g2,hz⟩:=cells3 hb;have HB:=Lib.hid hb;clear hb)
    go_ret
    exact ⟨rfl,below1 _ HB.out⟩
   ·rw [h] at mk
    have hc:¬ (i<0∨l≤i∨may s f l=false):=by rw [h];simp;omega
    have e1:atI s f l i=f+i:=by unfold atI;rw [if_neg hc]
    rw [e1]
    obtain ⟨k,h2,h3,rfl,rfl,rfl⟩:=may_yes h
    have MK:=Lib.hid mk;clear mk
    have H:=Lib.hid h;clear h e1 hc
    have hs:=(sl_le k).1
    have hi0:0≤i:=by omega
    have hi1:i≤1024:=by omega
    clear h0' h1'
    generalize sl k=s at *
    go_enter Tryz.func101,Tryz.ntmps101
    go_wp2_with (go_at_call 158;refine (MK.out _).mono ?_;rintro e w1 ⟨rfl,hb⟩;obtain ⟨g0,g1,g2,hz⟩:=cells3 hb;have HB:=Lib.hid hb;clear hb)
    go_ret
    exact ⟨rfl,below1 _ HB.out⟩
  ·have h1':l≤i:=by simpa using h1
   have e1:atI s f l i = -1:=by unfold atI;rw [if_pos (.inr (.inl h1'))]
   rw [e1]
   clear e1 mk h1'
   go_enter Tryz.func101,Tryz.ntmps101
   go_wp2
   go_ret
   exact ⟨rfl,(Below.refl _ _).alloc (Nat.le_refl _) _⟩
 ·have h1:i<0:=by simpa using h0
  have e1:atI s f l i = -1:=by unfold atI;rw [if_pos (.inl h1)]
  rw [e1]
  clear e1 mk
  go_enter Tryz.func101,Tryz.ntmps101
  go_wp2
  go_ret
  exact ⟨rfl,(Below.refl _ _).alloc (Nat.le_refl _) _⟩
end Go.Proofs.YtplpmemlaohlaaaGreat.Plt
