/- OctetPuts: for every put the law returns true and its argument reads as before. No condition. -/
import Derived.Test.YtidkabbogpdclaaAwake
import Derived.Test.YtidkabbogpdclaaRef
import Derived.WalkKit
import Derived.ProofKit
import Derived.OpenShut
import Derived.ShutString
import Derived.ChangeOld
import Derived.Below
namespace Go.Proofs.Ytidkabbogpdclaa.octetPuts
open Go.Proofs.Ytidkabbogpdclaa.Mem Go.Proofs.Ytidkabbogpdclaa.Oct
open Go.ChangeShapes Go.WideShapes Go.ChangeAt Go.RowKit
open Go.ChangeMaps (open_string shut_string)
set_option linter.unusedVariables false

theorem own : ownKnob Try.prog.godebug = none := by kernel_rfl
theorem laidOut : laidOutB Try.prog = true := by kernel_rfl
theorem same_true (v v' : Value) (B B' : Nat) (xs : List Nat) (w : World) (h : Sl w B v xs) (h' : Sl w B' v' xs) :
    Calls Try.prog 11 #[v, v'] w fun e w' => e = .returned (.bool true) ∧ ∃ m, w' = w.drewN m := by
  obtain ⟨A, n, c, rfl, hb, _⟩ := h
  obtain ⟨A', n', c', rfl, hb', _⟩ := h'
  have := rsame_any A A' n n' c c' B B' xs xs w hb hb'
  rwa [decide_eq_true rfl] at this
set_option maxHeartbeats 400000 in
theorem puts_long (a0 : Option Addr) (n0 c0 : Nat) (k : Int) (N : Nat) (a3 : Option Addr) (n3 c3 : Nat) (w : World) (h : 500 < n0 ∨ 500 < n3) :
    Calls Try.prog 7 #[.slice a0 n0 c0, .int .i64 k, .int .u64 (N : Nat), .slice a3 n3 c3] w fun e w' => e = .returned (.bool true) ∧ Below w.heap.size w w' := by
  by_cases h0 : 500 < n0
  · have hd : decide ((500 : Int) < n0) = true := by simp; omega
    go_enter Try.func7, Try.ntmps7
    go_wp2_with (go_at_call 8; refine (awake_any _).mono ?_; rintro e w' ⟨rfl, hb⟩)
    go_ret
    exact ⟨rfl, hb⟩
  · have h1 : 500 < n3 := by omega
    have hd : decide ((500 : Int) < n0) = false := by simp; omega
    have hd1 : decide ((500 : Int) < n3) = true := by simp; omega
    go_enter Try.func7, Try.ntmps7
    go_wp2_with (go_at_call 8; refine (awake_any _).mono ?_; rintro e w' ⟨rfl, hb⟩)
    go_ret
    exact ⟨rfl, hb⟩
set_option maxHeartbeats 2000000 in
theorem puts_yes (a0 : Option Addr) (n0 c0 : Nat) (k N : Nat) (a3 : Option Addr) (n3 c3 : Nat) (xs ts : List Nat) (w : World) (h0 : n0 ≤ 500) (h3 : n3 ≤ 500) (hk1 : 1 ≤ k) (hk8 : k ≤ 8) (hN : N < 18446744073709551616)
    (b0 : Sl w w.heap.size (.slice a0 n0 c0) xs) (b3 : Sl w w.heap.size (.slice a3 n3 c3) ts) :
    Calls Try.prog 7 #[.slice a0 n0 c0, .int .i64 (k : Nat), .int .u64 (N : Nat), .slice a3 n3 c3] w fun e w' => e = .returned (.bool true) ∧ Below w.heap.size w w' := by
  have hd : decide ((500 : Int) < n0) = false := by simp; omega
  have hd1 : decide ((500 : Int) < n3) = false := by simp; omega
  have hw1 : decide ((1 : Int) ≤ (k : Int)) = true := by simp; omega
  have hw8 : decide ((k : Int) ≤ 8) = true := by simp; omega
  have hlx : xs.length ≤ 500 := by have := (Sl.cell b0).1; omega
  have hlt : ts.length ≤ 500 := by have := (Sl.cell b3).1; omega
  obtain ⟨i0, hi, hz0, hz1, hz2⟩ := info_parts Try.info5
  have HI := Lib.hid hi; clear hi
  have HZ0 := Lib.hid hz0; clear hz0
  have HZ1 := Lib.hid hz1; clear hz1
  have HZ2 := Lib.hid hz2; clear hz2
  have e1 : putNum xs (k : Int) N = xs ++ be k N := by unfold putNum; rw [if_pos (isW_of hk1 hk8)]; rfl
  have e2 : putText xs ts = xs ++ (be 2 ts.length ++ ts) := by unfold putText; rw [if_pos (by omega)]
  have HLT1 := Lib.hid (e1 ▸ putNum_lt b0.lt (k : Int) N)
  have HLT2 := Lib.hid (e2 ▸ putText_lt b0.lt b3.lt)
  have t1 := put_num (.slice a0 n0 c0) k N xs w b0 (by omega) hN
  rw [e1] at t1
  have t2 := fun (W : World) (hW : Below w.heap.size w W) => put_text (.slice a0 n0 c0) (.slice a3 n3 c3) xs ts W ((b0.below hW (Nat.le_refl _)).more hW.size) ((b3.below hW (Nat.le_refl _)).more hW.size) (by omega) (by omega)
  rw [e2, decide_eq_true (show ts.length ≤ 65535 by omega)] at t2
  have t4 := fun (W : World) => ref_num k N W hk8 hN
  have t5 := fun (W : World) (hW : Below w.heap.size w W) => ref_text (.slice a3 n3 c3) ts W ((b3.below hW (Nat.le_refl _)).more hW.size) (by omega)
  have T1 := Lib.hid t1; clear t1
  have T2 := Lib.hid t2; clear t2
  have T4 := Lib.hid t4; clear t4
  have T5 := Lib.hid t5; clear t5
  have hrd : Reads w w.heap.size 1 a0 n0 (vals xs) := by
    obtain ⟨_, _, _, e, hb, _⟩ := b0
    injection e with ea eb ec
    subst ea eb ec
    exact hb.reads
  have HR := Lib.hid hrd; clear hrd
  have HX := Lib.hid b0.lt
  have HT := Lib.hid b3.lt
  clear b0 b3 e1 e2
  go_enter Try.func7, Try.ntmps7
  go_wp2_with (first
    | (go_at_call 18; refine (T1.out).mono ?_; rintro e w1 ⟨x, rfl, hs1, hb1⟩; have HS1 := Lib.hid hs1; clear hs1; have HB1 := Lib.hid hb1; clear hb1)
    | (go_at_call 19; refine (T2.out w1 HB1.out).mono ?_; rintro e w2 ⟨y, rfl, hs2, hb2⟩; have HS2 := Lib.hid hs2; clear hs2; have HL2 := Lib.hid hb2; have HB2 := Lib.hid (HB1.out.trans (hb2.mono HB1.out.size)); clear hb2)
    | (at_builtin; (refine wpList_append_any _ rfl (.tmp 32) (.tmp 33) 22 rfl w2.heap.size 5 i0 (.int .u8 0) 1 1 Try.underlying22 HI.out HZ0.out HZ1.out HZ2.out rfl (by decide) (.slice (some ⟨w2.heap.size, 0, none⟩) 0 0) 0 [] rfl (World.ownsRow_lit w2 #[] 0 (Nat.le_refl _) (by unfold maxLen; omega) rfl) w.heap.size a0 n0 c0 (vals xs) rfl ((HR.out.below HB2.out).alloc HB2.out.size _) (vals_one _) (by unfold maxLen; omega) (by omega) (by simp) ?_; intro v3 w3 hown3 hg3 _; have HO3 := Lib.hid hown3; clear hown3; have hl3 : Below w2.heap.size w2 w3 := ((Below.refl _ _).alloc (Nat.le_refl _) _).grown hg3 (by simp) (fun q hq => by simp [Value.ownBlock] at hq; omega); clear hg3; have HL3 := Lib.hid hl3; clear hl3; have HB3 := Lib.hid (HB2.out.trans (HL3.out.mono HB2.out.size))))
    | (go_at_call 20; refine (T4.out w3).mono ?_; rintro e w4 ⟨v4, rfl, hown4, hl4⟩; have HL4 := Lib.hid hl4; clear hl4; obtain ⟨A4, c4, rfl, hr4⟩ := own_slice hown4; have HR4 := Lib.hid hr4; clear hr4 hown4; have HO4 := Lib.hid (own_below HO3.out HL4.out); have HB4 := Lib.hid (HB3.out.trans (HL4.out.mono HB3.out.size)); have hz4 := Nat.le_trans HL3.out.size HL4.out.size)
    | (at_builtin; (refine wpList_append_any _ rfl (.tmp 41) (.tmp 44) 22 rfl w2.heap.size 5 i0 (.int .u8 0) 1 1 Try.underlying22 HI.out HZ0.out HZ1.out HZ2.out rfl (by decide) v3 (0 + n0) _ rfl HO4.out w4.heap.size A4 k c4 (vals (be k N)) rfl HR4.out (vals_one _) (by unfold maxLen; omega) (by omega) hz4 ?_; intro v5 w5 hown5 hg5 _; have HO5 := Lib.hid hown5; clear hown5; have hl5 : Below w2.heap.size w2 w5 := (HL3.out.trans (HL4.out.mono HL3.out.size)).grown hg5 hz4 (fun q hq => (HO4.out.lt q hq).1); clear hg5; have HL5 := Lib.hid hl5; clear hl5; have HB5 := Lib.hid (HB2.out.trans (HL5.out.mono HB2.out.size)); have HS5 := Lib.hid (show Sl w5 w5.heap.size v5 (xs ++ be k N) from sl_own (by have h := HO5.out; rw [List.nil_append, ← vals_append] at h; exact h) HLT1.out (by omega))))
    | (go_at_call_of 11 x; refine (same_true x v5 _ _ (xs ++ be k N) w5 ((HS1.out.below HL2.out (Nat.le_refl _)).below HL5.out HL2.out.size) HS5.out).mono ?_; rintro e w6 ⟨rfl, m6, rfl⟩)
    | (at_builtin; (refine wpList_append_any_g _ rfl (.tmp 54) (.tmp 55) 22 rfl w5.heap.size 5 i0 (.int .u8 0) 1 1 Try.underlying22 HI.out HZ0.out HZ1.out HZ2.out rfl (by decide) (.slice (some ⟨w5.heap.size, 0, none⟩) 0 0) 0 [] rfl (World.ownsRow_lit (w5.drewN m6) #[] 0 (Nat.le_refl _) (by unfold maxLen; omega) rfl) w.heap.size a0 n0 c0 (vals xs) rfl ((HR.out.below (below_drewN HB5.out m6)).alloc HB5.out.size _) (vals_one _) (by unfold maxLen; omega) (by omega) (by simp) ?_; intro v7 w7 hown7 hg7 _; have HO7 := Lib.hid hown7; clear hown7; have hl7 : Below w5.heap.size w5 w7 := ((below_drewN (Below.refl _ _) m6).alloc (Nat.le_refl _) _).grown hg7 (by simp) (fun q hq => by have hq' : some w5.heap.size = some q := hq; cases hq'; exact Nat.le_refl _); clear hg7; have HL7 := Lib.hid hl7; clear hl7; have HB7 := Lib.hid (HB5.out.trans (HL7.out.mono HB5.out.size))))
    | (go_at_call 21; refine (T5.out w7 HB7.out).mono ?_; rintro e w8 ⟨v8, rfl, hown8, hl8⟩; have HL8 := Lib.hid hl8; clear hl8; obtain ⟨A8, c8, rfl, hr8⟩ := own_slice hown8; have HR8 := Lib.hid hr8; clear hr8 hown8; have HO8 := Lib.hid (own_below HO7.out HL8.out); have hz8 := Nat.le_trans HL7.out.size HL8.out.size)
    | (at_builtin; (refine wpList_append_any_g _ rfl (.tmp 56) (.tmp 58) 22 rfl w5.heap.size 5 i0 (.int .u8 0) 1 1 Try.underlying22 HI.out HZ0.out HZ1.out HZ2.out rfl (by decide) v7 (0 + n0) _ rfl HO8.out w8.heap.size A8 (2 + ts.length) c8 (vals (be 2 ts.length ++ ts)) rfl HR8.out (vals_one _) (by unfold maxLen; omega) (by omega) hz8 ?_; intro v9 w9 hown9 hg9 _; have HO9 := Lib.hid hown9; clear hown9; have hl9 : Below w5.heap.size w5 w9 := (HL7.out.trans (HL8.out.mono HL7.out.size)).grown hg9 hz8 (fun q hq => (HO8.out.lt q hq).1); clear hg9; have HL9 := Lib.hid hl9; clear hl9; have HB9 := Lib.hid (HB5.out.trans (HL9.out.mono HB5.out.size)); have HS9 := Lib.hid (show Sl w9 w9.heap.size v9 (xs ++ (be 2 ts.length ++ ts)) from sl_own (by have h := HO9.out; rw [List.nil_append, ← vals_append] at h; exact h) HLT2.out (by omega))))
    | (go_at_call_of 11 y; refine (same_true y v9 _ _ (xs ++ (be 2 ts.length ++ ts)) w9 ((HS2.out.below HL5.out (Nat.le_refl _)).below HL9.out HL5.out.size) HS9.out).mono ?_; rintro e w10 ⟨rfl, m10, rfl⟩)
    | (go_at_call 8; refine (awake_any _).mono ?_; rintro e w11 ⟨rfl, l11⟩))
  go_ret
  have hb10 := below_drewN HB9.out m10
  exact ⟨rfl, hb10.trans (l11.mono hb10.size)⟩
set_option maxHeartbeats 2000000 in
theorem puts_low (a0 : Option Addr) (n0 c0 : Nat) (k : Int) (N : Nat) (a3 : Option Addr) (n3 c3 : Nat) (xs ts : List Nat) (w : World) (h0 : n0 ≤ 500) (h3 : n3 ≤ 500) (hk : k < 1) (hN : N < 18446744073709551616)
    (b0 : Sl w w.heap.size (.slice a0 n0 c0) xs) (b3 : Sl w w.heap.size (.slice a3 n3 c3) ts) :
    Calls Try.prog 7 #[.slice a0 n0 c0, .int .i64 k, .int .u64 (N : Nat), .slice a3 n3 c3] w fun e w' => e = .returned (.bool true) ∧ Below w.heap.size w w' := by
  have hd : decide ((500 : Int) < n0) = false := by simp; omega
  have hd1 : decide ((500 : Int) < n3) = false := by simp; omega
  have hw1 : decide ((1 : Int) ≤ k) = false := by simp; omega
  have hlx : xs.length ≤ 500 := by have := (Sl.cell b0).1; omega
  have hlt : ts.length ≤ 500 := by have := (Sl.cell b3).1; omega
  obtain ⟨i0, hi, hz0, hz1, hz2⟩ := info_parts Try.info5
  have HI := Lib.hid hi; clear hi
  have HZ0 := Lib.hid hz0; clear hz0
  have HZ1 := Lib.hid hz1; clear hz1
  have HZ2 := Lib.hid hz2; clear hz2
  have e1 : putNum xs k N = xs := by unfold putNum; rw [if_neg (by simp [isW]; omega)]
  have e2 : putText xs ts = xs ++ (be 2 ts.length ++ ts) := by unfold putText; rw [if_pos (by omega)]
  have HLT1 := Lib.hid b0.lt
  have HLT2 := Lib.hid (e2 ▸ putText_lt b0.lt b3.lt)
  have t1 := put_num (.slice a0 n0 c0) k N xs w b0 (by omega) hN
  rw [e1] at t1
  have t2 := fun (W : World) (hW : Below w.heap.size w W) => put_text (.slice a0 n0 c0) (.slice a3 n3 c3) xs ts W ((b0.below hW (Nat.le_refl _)).more hW.size) ((b3.below hW (Nat.le_refl _)).more hW.size) (by omega) (by omega)
  rw [e2, decide_eq_true (show ts.length ≤ 65535 by omega)] at t2
  have t5 := fun (W : World) (hW : Below w.heap.size w W) => ref_text (.slice a3 n3 c3) ts W ((b3.below hW (Nat.le_refl _)).more hW.size) (by omega)
  have T1 := Lib.hid t1; clear t1
  have T2 := Lib.hid t2; clear t2
  have T5 := Lib.hid t5; clear t5
  have hrd : Reads w w.heap.size 1 a0 n0 (vals xs) := by
    obtain ⟨_, _, _, e, hb, _⟩ := b0
    injection e with ea eb ec
    subst ea eb ec
    exact hb.reads
  have HR := Lib.hid hrd; clear hrd
  have HX := Lib.hid b0.lt
  have HT := Lib.hid b3.lt
  clear b0 b3 e1 e2
  go_enter Try.func7, Try.ntmps7
  go_wp2_with (first
    | (go_at_call 18; refine (T1.out).mono ?_; rintro e w1 ⟨x, rfl, hs1, hb1⟩; have HS1 := Lib.hid hs1; clear hs1; have HB1 := Lib.hid hb1; clear hb1)
    | (go_at_call 19; refine (T2.out w1 HB1.out).mono ?_; rintro e w2 ⟨y, rfl, hs2, hb2⟩; have HS2 := Lib.hid hs2; clear hs2; have HL2 := Lib.hid hb2; have HB2 := Lib.hid (HB1.out.trans (hb2.mono HB1.out.size)); clear hb2)
    | (at_builtin; (refine wpList_append_any _ rfl (.tmp 32) (.tmp 33) 22 rfl w2.heap.size 5 i0 (.int .u8 0) 1 1 Try.underlying22 HI.out HZ0.out HZ1.out HZ2.out rfl (by decide) (.slice (some ⟨w2.heap.size, 0, none⟩) 0 0) 0 [] rfl (World.ownsRow_lit w2 #[] 0 (Nat.le_refl _) (by unfold maxLen; omega) rfl) w.heap.size a0 n0 c0 (vals xs) rfl ((HR.out.below HB2.out).alloc HB2.out.size _) (vals_one _) (by unfold maxLen; omega) (by omega) (by simp) ?_; intro v3 w3 hown3 hg3 _; have HO3 := Lib.hid hown3; clear hown3; have hl3 : Below w2.heap.size w2 w3 := ((Below.refl _ _).alloc (Nat.le_refl _) _).grown hg3 (by simp) (fun q hq => by simp [Value.ownBlock] at hq; omega); clear hg3; have HL3 := Lib.hid hl3; clear hl3; have HB3 := Lib.hid (HB2.out.trans (HL3.out.mono HB2.out.size)); have HS3 := Lib.hid (show Sl w3 w3.heap.size v3 xs from sl_own (by have h := HO3.out; rw [List.nil_append] at h; exact h) HLT1.out (by omega))))
    | (go_at_call_of 11 x; refine (same_true x v3 _ _ xs w3 ((HS1.out.below HL2.out (Nat.le_refl _)).below HL3.out HL2.out.size) HS3.out).mono ?_; rintro e w6 ⟨rfl, m6, rfl⟩)
    | (at_builtin; (refine wpList_append_any_g _ rfl (.tmp 54) (.tmp 55) 22 rfl w3.heap.size 5 i0 (.int .u8 0) 1 1 Try.underlying22 HI.out HZ0.out HZ1.out HZ2.out rfl (by decide) (.slice (some ⟨w3.heap.size, 0, none⟩) 0 0) 0 [] rfl (World.ownsRow_lit (w3.drewN m6) #[] 0 (Nat.le_refl _) (by unfold maxLen; omega) rfl) w.heap.size a0 n0 c0 (vals xs) rfl ((HR.out.below (below_drewN HB3.out m6)).alloc HB3.out.size _) (vals_one _) (by unfold maxLen; omega) (by omega) (by simp) ?_; intro v7 w7 hown7 hg7 _; have HO7 := Lib.hid hown7; clear hown7; have hl7 : Below w3.heap.size w3 w7 := ((below_drewN (Below.refl _ _) m6).alloc (Nat.le_refl _) _).grown hg7 (by simp) (fun q hq => by have hq' : some w3.heap.size = some q := hq; cases hq'; exact Nat.le_refl _); clear hg7; have HL7 := Lib.hid hl7; clear hl7; have HB7 := Lib.hid (HB3.out.trans (HL7.out.mono HB3.out.size))))
    | (go_at_call 21; refine (T5.out w7 HB7.out).mono ?_; rintro e w8 ⟨v8, rfl, hown8, hl8⟩; have HL8 := Lib.hid hl8; clear hl8; obtain ⟨A8, c8, rfl, hr8⟩ := own_slice hown8; have HR8 := Lib.hid hr8; clear hr8 hown8; have HO8 := Lib.hid (own_below HO7.out HL8.out); have hz8 := Nat.le_trans HL7.out.size HL8.out.size)
    | (at_builtin; (refine wpList_append_any_g _ rfl (.tmp 56) (.tmp 58) 22 rfl w3.heap.size 5 i0 (.int .u8 0) 1 1 Try.underlying22 HI.out HZ0.out HZ1.out HZ2.out rfl (by decide) v7 (0 + n0) _ rfl HO8.out w8.heap.size A8 (2 + ts.length) c8 (vals (be 2 ts.length ++ ts)) rfl HR8.out (vals_one _) (by unfold maxLen; omega) (by omega) hz8 ?_; intro v9 w9 hown9 hg9 _; have HO9 := Lib.hid hown9; clear hown9; have hl9 : Below w3.heap.size w3 w9 := (HL7.out.trans (HL8.out.mono HL7.out.size)).grown hg9 hz8 (fun q hq => (HO8.out.lt q hq).1); clear hg9; have HL9 := Lib.hid hl9; clear hl9; have HB9 := Lib.hid (HB3.out.trans (HL9.out.mono HB3.out.size)); have HS9 := Lib.hid (show Sl w9 w9.heap.size v9 (xs ++ (be 2 ts.length ++ ts)) from sl_own (by have h := HO9.out; rw [List.nil_append, ← vals_append] at h; exact h) HLT2.out (by omega))))
    | (go_at_call_of 11 y; refine (same_true y v9 _ _ (xs ++ (be 2 ts.length ++ ts)) w9 ((HS2.out.below HL3.out (Nat.le_refl _)).below HL9.out HL3.out.size) HS9.out).mono ?_; rintro e w10 ⟨rfl, m10, rfl⟩)
    | (go_at_call 8; refine (awake_any _).mono ?_; rintro e w11 ⟨rfl, l11⟩))
  go_ret
  have hb10 := below_drewN HB9.out m10
  exact ⟨rfl, hb10.trans (l11.mono hb10.size)⟩
set_option maxHeartbeats 2000000 in
theorem puts_high (a0 : Option Addr) (n0 c0 : Nat) (k : Int) (N : Nat) (a3 : Option Addr) (n3 c3 : Nat) (xs ts : List Nat) (w : World) (h0 : n0 ≤ 500) (h3 : n3 ≤ 500) (hk : 8 < k) (hN : N < 18446744073709551616)
    (b0 : Sl w w.heap.size (.slice a0 n0 c0) xs) (b3 : Sl w w.heap.size (.slice a3 n3 c3) ts) :
    Calls Try.prog 7 #[.slice a0 n0 c0, .int .i64 k, .int .u64 (N : Nat), .slice a3 n3 c3] w fun e w' => e = .returned (.bool true) ∧ Below w.heap.size w w' := by
  have hd : decide ((500 : Int) < n0) = false := by simp; omega
  have hd1 : decide ((500 : Int) < n3) = false := by simp; omega
  have hw1 : decide ((1 : Int) ≤ k) = true := by simp; omega
  have hw8 : decide (k ≤ 8) = false := by simp; omega
  have hlx : xs.length ≤ 500 := by have := (Sl.cell b0).1; omega
  have hlt : ts.length ≤ 500 := by have := (Sl.cell b3).1; omega
  obtain ⟨i0, hi, hz0, hz1, hz2⟩ := info_parts Try.info5
  have HI := Lib.hid hi; clear hi
  have HZ0 := Lib.hid hz0; clear hz0
  have HZ1 := Lib.hid hz1; clear hz1
  have HZ2 := Lib.hid hz2; clear hz2
  have e1 : putNum xs k N = xs := by unfold putNum; rw [if_neg (by simp [isW]; omega)]
  have e2 : putText xs ts = xs ++ (be 2 ts.length ++ ts) := by unfold putText; rw [if_pos (by omega)]
  have HLT1 := Lib.hid b0.lt
  have HLT2 := Lib.hid (e2 ▸ putText_lt b0.lt b3.lt)
  have t1 := put_num (.slice a0 n0 c0) k N xs w b0 (by omega) hN
  rw [e1] at t1
  have t2 := fun (W : World) (hW : Below w.heap.size w W) => put_text (.slice a0 n0 c0) (.slice a3 n3 c3) xs ts W ((b0.below hW (Nat.le_refl _)).more hW.size) ((b3.below hW (Nat.le_refl _)).more hW.size) (by omega) (by omega)
  rw [e2, decide_eq_true (show ts.length ≤ 65535 by omega)] at t2
  have t5 := fun (W : World) (hW : Below w.heap.size w W) => ref_text (.slice a3 n3 c3) ts W ((b3.below hW (Nat.le_refl _)).more hW.size) (by omega)
  have T1 := Lib.hid t1; clear t1
  have T2 := Lib.hid t2; clear t2
  have T5 := Lib.hid t5; clear t5
  have hrd : Reads w w.heap.size 1 a0 n0 (vals xs) := by
    obtain ⟨_, _, _, e, hb, _⟩ := b0
    injection e with ea eb ec
    subst ea eb ec
    exact hb.reads
  have HR := Lib.hid hrd; clear hrd
  have HX := Lib.hid b0.lt
  have HT := Lib.hid b3.lt
  clear b0 b3 e1 e2
  go_enter Try.func7, Try.ntmps7
  go_wp2_with (first
    | (go_at_call 18; refine (T1.out).mono ?_; rintro e w1 ⟨x, rfl, hs1, hb1⟩; have HS1 := Lib.hid hs1; clear hs1; have HB1 := Lib.hid hb1; clear hb1)
    | (go_at_call 19; refine (T2.out w1 HB1.out).mono ?_; rintro e w2 ⟨y, rfl, hs2, hb2⟩; have HS2 := Lib.hid hs2; clear hs2; have HL2 := Lib.hid hb2; have HB2 := Lib.hid (HB1.out.trans (hb2.mono HB1.out.size)); clear hb2)
    | (at_builtin; (refine wpList_append_any _ rfl (.tmp 32) (.tmp 33) 22 rfl w2.heap.size 5 i0 (.int .u8 0) 1 1 Try.underlying22 HI.out HZ0.out HZ1.out HZ2.out rfl (by decide) (.slice (some ⟨w2.heap.size, 0, none⟩) 0 0) 0 [] rfl (World.ownsRow_lit w2 #[] 0 (Nat.le_refl _) (by unfold maxLen; omega) rfl) w.heap.size a0 n0 c0 (vals xs) rfl ((HR.out.below HB2.out).alloc HB2.out.size _) (vals_one _) (by unfold maxLen; omega) (by omega) (by simp) ?_; intro v3 w3 hown3 hg3 _; have HO3 := Lib.hid hown3; clear hown3; have hl3 : Below w2.heap.size w2 w3 := ((Below.refl _ _).alloc (Nat.le_refl _) _).grown hg3 (by simp) (fun q hq => by simp [Value.ownBlock] at hq; omega); clear hg3; have HL3 := Lib.hid hl3; clear hl3; have HB3 := Lib.hid (HB2.out.trans (HL3.out.mono HB2.out.size)); have HS3 := Lib.hid (show Sl w3 w3.heap.size v3 xs from sl_own (by have h := HO3.out; rw [List.nil_append] at h; exact h) HLT1.out (by omega))))
    | (go_at_call_of 11 x; refine (same_true x v3 _ _ xs w3 ((HS1.out.below HL2.out (Nat.le_refl _)).below HL3.out HL2.out.size) HS3.out).mono ?_; rintro e w6 ⟨rfl, m6, rfl⟩)
    | (at_builtin; (refine wpList_append_any_g _ rfl (.tmp 54) (.tmp 55) 22 rfl w3.heap.size 5 i0 (.int .u8 0) 1 1 Try.underlying22 HI.out HZ0.out HZ1.out HZ2.out rfl (by decide) (.slice (some ⟨w3.heap.size, 0, none⟩) 0 0) 0 [] rfl (World.ownsRow_lit (w3.drewN m6) #[] 0 (Nat.le_refl _) (by unfold maxLen; omega) rfl) w.heap.size a0 n0 c0 (vals xs) rfl ((HR.out.below (below_drewN HB3.out m6)).alloc HB3.out.size _) (vals_one _) (by unfold maxLen; omega) (by omega) (by simp) ?_; intro v7 w7 hown7 hg7 _; have HO7 := Lib.hid hown7; clear hown7; have hl7 : Below w3.heap.size w3 w7 := ((below_drewN (Below.refl _ _) m6).alloc (Nat.le_refl _) _).grown hg7 (by simp) (fun q hq => by have hq' : some w3.heap.size = some q := hq; cases hq'; exact Nat.le_refl _); clear hg7; have HL7 := Lib.hid hl7; clear hl7; have HB7 := Lib.hid (HB3.out.trans (HL7.out.mono HB3.out.size))))
    | (go_at_call 21; refine (T5.out w7 HB7.out).mono ?_; rintro e w8 ⟨v8, rfl, hown8, hl8⟩; have HL8 := Lib.hid hl8; clear hl8; obtain ⟨A8, c8, rfl, hr8⟩ := own_slice hown8; have HR8 := Lib.hid hr8; clear hr8 hown8; have HO8 := Lib.hid (own_below HO7.out HL8.out); have hz8 := Nat.le_trans HL7.out.size HL8.out.size)
    | (at_builtin; (refine wpList_append_any_g _ rfl (.tmp 56) (.tmp 58) 22 rfl w3.heap.size 5 i0 (.int .u8 0) 1 1 Try.underlying22 HI.out HZ0.out HZ1.out HZ2.out rfl (by decide) v7 (0 + n0) _ rfl HO8.out w8.heap.size A8 (2 + ts.length) c8 (vals (be 2 ts.length ++ ts)) rfl HR8.out (vals_one _) (by unfold maxLen; omega) (by omega) hz8 ?_; intro v9 w9 hown9 hg9 _; have HO9 := Lib.hid hown9; clear hown9; have hl9 : Below w3.heap.size w3 w9 := (HL7.out.trans (HL8.out.mono HL7.out.size)).grown hg9 hz8 (fun q hq => (HO8.out.lt q hq).1); clear hg9; have HL9 := Lib.hid hl9; clear hl9; have HB9 := Lib.hid (HB3.out.trans (HL9.out.mono HB3.out.size)); have HS9 := Lib.hid (show Sl w9 w9.heap.size v9 (xs ++ (be 2 ts.length ++ ts)) from sl_own (by have h := HO9.out; rw [List.nil_append, ← vals_append] at h; exact h) HLT2.out (by omega))))
    | (go_at_call_of 11 y; refine (same_true y v9 _ _ (xs ++ (be 2 ts.length ++ ts)) w9 ((HS2.out.below HL3.out (Nat.le_refl _)).below HL9.out HL3.out.size) HS9.out).mono ?_; rintro e w10 ⟨rfl, m10, rfl⟩)
    | (go_at_call 8; refine (awake_any _).mono ?_; rintro e w11 ⟨rfl, l11⟩))
  go_ret
  have hb10 := below_drewN HB9.out m10
  exact ⟨rfl, hb10.trans (l11.mono hb10.size)⟩
theorem walk (a0 : Option Addr) (len0 cap0 : Nat) (z0 : List Int) (k : Int) (n : Int) (a3 : Option Addr) (len3 cap3 : Nat) (z3 : List Int) (w : World) (w0 : IsRow .u8 w a0 len0 cap0 z0) (w1 : (Lit.int .i64 k).wf = true) (w2 : (Lit.int .u64 n).wf = true) (w3 : IsRow .u8 w a3 len3 cap3 z3) :
    Calls Try.prog 3 #[.agg #[.slice a0 len0 cap0, .int .i64 k, .int .u64 n, .slice a3 len3 cap3]] w fun e w' => e = .returned (.bool true) ∧ Below w.heap.size w w' := by
  have hr := Go.bounds_u64 w2
  obtain ⟨N, rfl⟩ : ∃ N : Nat, n = N := ⟨n.toNat, by omega⟩
  have hN : N < 18446744073709551616 := by omega
  have main : ∀ W : World, Below w.heap.size w W → Calls Try.prog 7 #[.slice a0 len0 cap0, .int .i64 k, .int .u64 (N : Nat), .slice a3 len3 cap3] W fun e w' => e = .returned (.bool true) ∧ Below W.heap.size W w' := by
    intro W hW
    by_cases h : 500 < len0 ∨ 500 < len3
    · exact puts_long a0 len0 cap0 k N a3 len3 cap3 W h
    · obtain ⟨xs, b0, _⟩ := sl_of_row w0 (by omega)
      obtain ⟨ts, b3, _⟩ := sl_of_row w3 (by omega)
      have b0 := (b0.below hW (Nat.le_refl _)).more hW.size
      have b3 := (b3.below hW (Nat.le_refl _)).more hW.size
      by_cases h1 : k < 1
      · exact puts_low a0 len0 cap0 k N a3 len3 cap3 xs ts W (by omega) (by omega) h1 hN b0 b3
      · by_cases h8 : 8 < k
        · exact puts_high a0 len0 cap0 k N a3 len3 cap3 xs ts W (by omega) (by omega) h8 hN b0 b3
        · obtain ⟨m, rfl⟩ : ∃ m : Nat, k = m := ⟨k.toNat, by omega⟩
          exact puts_yes a0 len0 cap0 m N a3 len3 cap3 xs ts W (by omega) (by omega) (by omega) (by omega) hN b0 b3
  have hb1 : Below w.heap.size w (w.alloc (.cells #[.slice a0 len0 cap0, .int .i64 k, .int .u64 (N : Nat), .slice a3 len3 cap3] 25)) := (Below.refl _ _).alloc (Nat.le_refl _) _
  have HB1 := Lib.hid hb1; clear hb1
  have M := Lib.hid main; clear main
  go_enter Try.func3, Try.ntmps3
  go_wp2_with (go_at_call 7; refine (M.out _ HB1.out).mono ?_; rintro e w5 ⟨rfl, l5⟩)
  go_ret
  exact ⟨rfl, HB1.out.trans (l5.mono HB1.out.size)⟩
/-! the step from the walk to the row -/
set_option maxRecDepth 100000 in
theorem lifted (os : Os) (started : os.Started) (H : Type) (enc : TypeId × Value → H) :
    ReturnsInHanded {} Try.checked os 3 .any (Rows.octetPutsSpec.pre6 enc Try.prog Try.f3 Rows.octetPutsRow.domain false) (Rows.octetPutsSpec.post enc Try.prog Try.f3 false true false false) := by
  refine returnsInHanded_of_change (C := Try.checked) own started (by kernel_rfl) Try.func3
    (ChangeSpec.witness6 (enc := enc) (C := Try.checked) false ⟨#[], #[.agg #[.slice none 0 0, .int .i64 0, .int .u64 0, .slice none 0 0]], []⟩ 8 (by kernel_rfl) (by kernel_rfl) (by kernel_rfl) (by kernel_rfl)) ?_
  intro W base args ds gs before hval0 hW hcnd _
  have hval : ∀ (j : Nat) t v, Try.f3.params[j]? = some t → args[j]? = some v → Value.okWide Try.prog W .any base t v := hval0
  have hW' := hW
  obtain ⟨p, q, hA0, hV, rfl, hfz, hnd⟩ := hW
  have hA : DataW.TrodAll enc Try.prog W 0 (fun _ => true) true Try.f3.params.toList args.toList ds p := hA0
  rw [Try.params3] at hA hval
  obtain ⟨v0, vs0, d0, ds0, p0, q0, hargs, rfl, rfl, h0, r0⟩ := trodAll_cons hA
  obtain ⟨rfl, rfl, rfl⟩ := trodAll_nil r0
  obtain rfl : args = #[v0] := by cases args; simp_all
  obtain ⟨rfl, rfl⟩ := trodVars_none hV
  have k0 := h0
  have lt0 : ∀ x ∈ p0, x.block < W.heap.size := by obtain ⟨m, hm⟩ := k0; exact DataW.trod_lt m _ _ _ hm
  obtain ⟨u0a, u0b, u0c, u0d, _, _, _, _, _, rfl, _, _, g0a, g0b, g0c, g0d⟩ := Go.Joins.open_agg4 Try.underlying25 (by kernel_rfl) (by kernel_rfl) (hval 0 25 v0 rfl rfl) h0
  obtain ⟨a0a, len0a, cap0a, z0a, rfl, w0a⟩ := open_row_at Try.underlying22 Try.underlying5 (by kernel_rfl) g0a
  obtain ⟨a0b, rfl, w0b⟩ := open_num_at Try.underlying3 g0b
  obtain ⟨a0c, rfl, w0c⟩ := open_num_at Try.underlying23 g0c
  obtain ⟨a0d, len0d, cap0d, z0d, rfl, w0d⟩ := open_row_at Try.underlying22 Try.underlying5 (by kernel_rfl) g0d
  clear hA0 hval0
  refine (walk a0a len0a cap0a z0a a0b a0c a0d len0d cap0d z0d W w0a w0b w0c w0d).mono fun e W' ⟨he, bel⟩ => ?_
  subst he
  exact ⟨_, rfl, _, _, _, [], _, [], hW', trodAll_mk1 (shut_bool Try.underlying4 _), (trodAll_cons_mk (Below.trod laidOut (by kernel_rfl) (of_decide_eq_true (by kernel_rfl)) k0 bel lt0) trodAll_mk0), rfl, bel.frame _, fun h => by cases h⟩

theorem over : Rows.octetPutsRow.holds Try.pinned (OpenSpec.ofChange Rows.octetPutsSpec) :=
  OpenClaim.holds_of_wide 3 Try.f3 rfl rfl rfl rfl rfl rfl rfl ⟨rfl, rfl, rfl, rfl, rfl⟩ rfl rfl rfl rfl rfl (by kernel_rfl) Try.func3 (by kernel_rfl)
    (of_decide_eq_true (by kernel_rfl)) (by unfold Func.isWrapper; first | (rw [if_pos (by decide +kernel)]; kernel_rfl) | (rw [if_neg (by decide +kernel)]; exact ⟨rfl, rfl⟩))
    (fun os started H enc _ => lifted os started H enc)

/-- the statement -/
theorem proved : Rows.OctetPutsSaid := over
end Go.Proofs.Ytidkabbogpdclaa.octetPuts
