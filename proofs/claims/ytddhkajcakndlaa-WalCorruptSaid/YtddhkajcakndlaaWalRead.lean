/- What a log reads of a disk (layer 8): the contracts of wal.read, slotOf, isNew and log. -/
import Derived.Test.YtddhkajcakndlaaPageAll
import Derived.Test.YtddhkajcakndlaaRead
import Derived.Test.YtddhkajcakndlaaWalMem
namespace Go.Proofs.Ytddhkajcakndlaa.Wl
open Go.RowKit Go.Proofs.Ytddhkajcakndlaa.Mem Go.Proofs.Ytddhkajcakndlaa.Pg Go.Proofs.Ytddhkajcakndlaa.Rcd Go.Proofs.Ytddhkajcakndlaa.Slt
open Go.Proofs.Ytddhkajcakndlaa.Dsk (KeptBut SMap DiskAt St ptr kept_of_below kept_of_grown IsSec)
open Go.Proofs.Ytddhkajcakndlaa.Plt (sl plV sl_le sl_pos slot_any at_any fromI toI atI may_mk)
set_option linter.unusedVariables false
set_option linter.unusedSimpArgs false
theorem slot_k (k : Nat) (gen : Int) (w : World) (h1 : 6 ≤ k) (h2 : k ≤ 1024) (hg0 : 0 ≤ gen) (hg : gen ≤ 9223372036854775807) :
    Calls Try.prog 53 #[plV (sl k : Nat) (2 * (sl k : Nat)) (lg k : Nat), .int .i64 gen] w fun e w' => e = .returned (.tuple #[.int .i64 (slotAt (sl k) gen : Nat), .int .i64 (slotAt (sl k) gen + sl k : Nat)]) ∧ Below w.heap.size w w' := by
  have hm := may_mk k h1 h2
  rw [lg_eq] at hm
  have e1 : gen % 2 * ((sl k : Nat) : Int) = ((slotAt (sl k) gen : Nat) : Int) := by
    unfold slotAt
    rcases (by omega : gen % 2 = 0 ∧ gen.toNat % 2 = 0 ∨ gen % 2 = 1 ∧ gen.toNat % 2 = 1) with ⟨h, h'⟩ | ⟨h, h'⟩ <;> rw [h, h'] <;> omega
  have e2 : fromI (sl k : Nat) (2 * (sl k : Nat)) (lg k : Nat) gen = ((slotAt (sl k) gen : Nat) : Int) := by
    unfold fromI
    rw [if_neg (by rw [hm]; simp; omega), e1]
  have e3 : toI (sl k : Nat) (2 * (sl k : Nat)) (lg k : Nat) gen = ((slotAt (sl k) gen + sl k : Nat) : Int) := by
    unfold toI
    rw [if_neg (by rw [hm]; simp; omega), e1]
    omega
  refine (slot_any _ _ _ gen w hg).mono ?_
  rintro e w' ⟨rfl, hb⟩
  rw [e2, e3]
  exact ⟨rfl, hb⟩
theorem at_k (k i : Nat) (w : World) (h1 : 6 ≤ k) (h2 : k ≤ 1024) (hi : i < lg k) :
    Calls Try.prog 27 #[plV (sl k : Nat) (2 * (sl k : Nat)) (lg k : Nat), .int .i64 (i : Nat)] w fun e w' => e = .returned (.int .i64 (2 * sl k + i : Nat)) ∧ Below w.heap.size w w' := by
  have hm := may_mk k h1 h2
  rw [lg_eq] at hm
  have e2 : atI (sl k : Nat) (2 * (sl k : Nat)) (lg k : Nat) (i : Nat) = ((2 * sl k + i : Nat) : Int) := by
    unfold atI
    rw [if_neg (by rw [hm]; simp; omega)]
    omega
  refine (at_any _ _ _ _ w).mono ?_
  rintro e w' ⟨rfl, hb⟩
  rw [e2]
  exact ⟨rfl, hb⟩
def ofS (D : Nat → List Nat) (k : Nat) : List (List Nat) := (List.range k).map D
theorem ofS_len (D : Nat → List Nat) (k : Nat) : (ofS D k).length = k := by simp [ofS]
theorem ofS_get (D : Nat → List Nat) (k i : Nat) (h : i < k) : (ofS D k).getD i [] = D i := by simp [ofS, List.getD, h]
theorem ofS_mem {D : Nat → List Nat} {k : Nat} {s : List Nat} (h : s ∈ ofS D k) : ∃ i, i < k ∧ s = D i := by
  simp only [ofS, List.mem_map, List.mem_range] at h
  obtain ⟨i, hi, e⟩ := h
  exact ⟨i, hi, e.symm⟩
theorem ofS_cut (D : Nat → List Nat) {k i j : Nat} (hij : i ≤ j) (hj : j ≤ k) : ((ofS D k).drop i).take (j - i) = ofS (fun m => D (i + m)) (j - i) := by
  apply List.ext_getElem
  · simp [ofS]; omega
  · intro m h1 h2
    simp [ofS]
set_option maxRecDepth 20000 in
set_option maxHeartbeats 2000000 in
theorem wread_dead (g bs bw : Nat) (s : St) (w : World) (h : DiskAt w g bs bw s) (hd : s.dead = true) (hn : s.n ≤ 1000) :
    Calls Try.prog 19 #[ptr g] w fun e w' => e = .returned (.tuple #[.slice none 0 0, .int .i64 7]) ∧ Below w.heap.size w w' := by
  have h1 : 1 ≤ s.n := h.2.2.2.2.1
  have cs := Dsk.size_any g bs bw s w h
  have cr := fun (W : World) (hW : Below w.heap.size w W) => Dsk.read_dead g bs bw s 0 W (h.below hW) hd
  obtain ⟨n, hnn⟩ : ∃ n, n = s.n := ⟨_, rfl⟩
  rw [← hnn] at cs h1 hn
  have hmk := fun (W : World) => make_slices n hn W
  have CS := Lib.hid cs; clear cs
  have CR := Lib.hid cr; clear cr
  clear h hd hnn
  have HB0 := Lib.hid (palloc (Below.refl w.heap.size w) (.cells (List.replicate n (Value.slice none 0 0)).toArray 22))
  go_enter Try.func19, Try.ntmps19
  go_wp2_with (go_at_call 18; refine (CS.out).mono ?_; rintro e w' ⟨rfl, rfl⟩)
  go_loopw [13] (fun i wr => i = .int .i64 0 ∧ wr = w.alloc (.cells (List.replicate n (Value.slice none 0 0)).toArray 22)) (fun i _ => 0)
  case atStart => exact ⟨rfl, rfl⟩
  case round =>
    obtain ⟨rfl, rfl⟩ := hrel
    go_wp2_with (go_at_call 38; refine (CR.out _ HB0.out).mono ?_; rintro e w' ⟨rfl, rfl⟩)
    go_ret2
    exact ⟨rfl, HB0.out⟩
set_option maxRecDepth 20000 in
set_option maxHeartbeats 2000000 in
theorem wread_ok (g bs bw : Nat) (s : St) (w : World) (h : DiskAt w g bs bw s) (hd : s.dead = false) (hn : s.n ≤ 1000) :
    Calls Try.prog 19 #[ptr g] w fun e w' => ∃ b, e = .returned (.tuple #[.slice (some ⟨b, 0, none⟩) s.n s.n, .int .i64 0]) ∧ Sls w' w'.heap.size (.slice (some ⟨b, 0, none⟩) s.n s.n) (ofS s.get s.n) ∧ Below w.heap.size w w' := by
  have cs := Dsk.size_any g bs bw s w h
  have cr := fun (W : World) (i : Nat) (hi : i < s.n) (hW : Below w.heap.size w W) => Dsk.read_ok g bs bw s i W (h.below hW) hd hi
  obtain ⟨n, hnn⟩ : ∃ n, n = s.n := ⟨_, rfl⟩
  rw [← hnn] at cs cr hn ⊢
  obtain ⟨F, hF⟩ : ∃ F, F = s.get := ⟨_, rfl⟩
  rw [← hF] at cr ⊢
  have hmk := fun (W : World) => make_slices n hn W
  have hgt := fun i hi => ofS_get F n i hi
  have hln := ofS_len F n
  obtain ⟨L, hL⟩ : ∃ L, L = ofS F n := ⟨_, rfl⟩
  rw [← hL] at hgt hln ⊢
  have HGT := Lib.hid hgt; clear hgt
  have HLN := Lib.hid hln; clear hln
  have CS := Lib.hid cs; clear cs
  have CR := Lib.hid cr; clear cr
  clear h hd hnn hF hL
  go_enter Try.func19, Try.ntmps19
  go_wp2_with (go_at_call 18; refine (CS.out).mono ?_; rintro e w' ⟨rfl, rfl⟩)
  go_loopw [13] (fun i wr => ∃ k : Nat, k ≤ n ∧ i = .int .i64 k ∧ Made wr w.heap.size n k F ∧ Below w.heap.size w wr) (fun i _ => n - (intOf i).toNat)
  case atStart => exact ⟨0, Nat.zero_le _, rfl, made_new w n F, palloc (Below.refl _ _) _⟩
  case round =>
    obtain ⟨k, hk, rfl, hmd, hbw⟩ := hrel
    have HB := Lib.hid hbw; clear hbw
    have HMK := Lib.hid hmd; clear hmd
    by_cases hlt : k < n
    · go_wp2_with (go_at_call 38; refine (CR.out _ k hlt HB.out).mono ?_; rintro e w4 ⟨v4, rfl, hs4, hb4⟩; obtain ⟨A4, n4, c4, rfl, _⟩ := id hs4; have HS4 := Lib.hid hs4; have HM4 := Lib.hid (HMK.out.below hb4); have HB4 := Lib.hid (HB.out.trans (hb4.mono HB.out.size)); obtain ⟨⟨uk, huk, huo⟩, hfk4, hg4⟩ := HM4.out.cell hlt; clear hb4 hs4)
      go_roundw
      case rel => exact ⟨k + 1, by omega, by go_num, HM4.out.step hlt HS4.out, HB4.out.grown (grown_set w4 ⟨w.heap.size, k, none⟩ _) HB4.out.size (fun q hq => by cases hq; exact Nat.le_refl _)⟩
      case measure => simp [intOf]; omega
    · obtain rfl : k = n := by omega
      go_wp2
      go_ret2
      exact ⟨_, rfl, HMK.out.sls (by unfold maxLen; omega) HLN.out (fun i hi => HGT.out i hi), HB.out⟩
/-- a cut of slices of bytes -/
theorem sz32 (w : World) : (sizeOf (Try.prog.elem 29)).run Try.prog w = .ok 1 w := by kernel_rfl
theorem un32 : Try.prog.underlying 29 = some (.slice (Try.prog.elem 29)) := by kernel_rfl
theorem sls_sliced {w : World} {B n cap : Nat} {A : Option Addr} {ss : List (List Nat)} (h : Sls w B (.slice A n cap) ss) (i k : Nat) (hik : i ≤ k) (hk : k ≤ n) :
    ∃ A', (∀ W, (Instr.slice 29 (.slice A n cap) (some (.int .i64 (i : Nat))) (some (.int .i64 (k : Nat))) none).run Try.prog W = .ok (.slice A' (k - i) (cap - i)) W) ∧ Sls w B (.slice A' (k - i) (cap - i)) ((ss.drop i).take (k - i)) ∧ (A' = none → A = none) := by
  obtain ⟨hl, hnc, hcm⟩ := sls_len h
  have e : ∃ A', sliced A i k cap 1 = .slice A' (k - i) (cap - i) ∧ (i < n → A' = A.map (·.add (i * 1))) ∧ (A' = none → A = none) := by
    unfold sliced
    refine ⟨_, rfl, fun hi => ?_, fun e0 => ?_⟩
    · rw [if_neg (by omega)]
    · cases A with
      | none => rfl
      | some ad => split at e0 <;> simp_all
  obtain ⟨A', e1, e2, e3⟩ := e
  refine ⟨A', fun W => ?_, ⟨A', _, _, rfl, by simp; omega, by omega, by omega, fun h0 => ?_⟩, e3⟩
  · rw [run_slice_lh W _ A n cap un32 .i64 .i64 i k (by omega) (by omega) (by omega), sz32]
    simp only [Result.andThen, Int.toNat_natCast, e1]
  · obtain ⟨b, off, rfl, hb, hc⟩ := sls_at h (by omega)
    refine ⟨b, off + i, by rw [e2 (by omega)]; simp [add_plain], hb, fun j hj => ?_⟩
    obtain ⟨u, hu, hs⟩ := hc (i + j) (by omega)
    refine ⟨u, by rw [Nat.add_assoc]; exact hu, ?_⟩
    have : ((ss.drop i).take (k - i)).getD j [] = ss.getD (i + j) [] := by simp [List.getD, List.getElem?_drop, hj]
    rw [this]
    exact hs
set_option maxRecDepth 20000 in
set_option maxHeartbeats 2000000 in
theorem slotOf_any (k : Nat) (gen : Int) (A : Option Addr) (c : Nat) (D : Nat → List Nat) (w : World) (h1 : 6 ≤ k) (h2 : k ≤ 1000) (hg0 : 0 ≤ gen) (hg : gen ≤ 9223372036854775807) (h : Sls w w.heap.size (.slice A k c) (ofS D k)) :
    Calls Try.prog 41 #[plV (sl k : Nat) (2 * (sl k : Nat)) (lg k : Nat), .slice A k c, .int .i64 gen] w fun e w' => ∃ A' c', e = .returned (.slice A' (sl k) c') ∧ Sls w' w'.heap.size (.slice A' (sl k) c') (ofS (fun j => D (slotAt (sl k) gen + j)) (sl k)) ∧ (A' = none → A = none) ∧ Below w.heap.size w w' := by
  have hs := sl_le k
  have hlt := slotAt_lt (sl := sl k) (g := gen) (j := sl k - 1) (by have := sl_pos (k := k) (by omega); omega)
  have hp := sl_pos (k := k) (by omega)
  obtain ⟨A', hrun, hcut, hnil⟩ := sls_sliced h (slotAt (sl k) gen) (slotAt (sl k) gen + sl k) (by omega) (by omega)
  rw [ofS_cut D (by omega) (by omega)] at hcut
  have sk := fun (W : World) => slot_k k gen W h1 (by omega) hg0 hg
  rw [Nat.add_sub_cancel_left] at hcut hrun
  obtain ⟨f, hf⟩ : ∃ f, f = slotAt (sl k) gen := ⟨_, rfl⟩
  rw [← hf] at sk hrun hcut hlt ⊢
  obtain ⟨t, ht⟩ : ∃ t, t = f + sl k := ⟨_, rfl⟩
  rw [← ht] at sk hrun
  obtain ⟨c', hc'⟩ : ∃ c', c' = c - f := ⟨_, rfl⟩
  rw [← hc'] at hrun hcut
  generalize lg k = l at *
  generalize sl k = m at *
  have SK := Lib.hid sk; clear sk
  have HC := Lib.hid hcut; clear hcut
  clear h hf ht hc'
  have HB0 := Lib.hid (palloc (Below.refl w.heap.size w) (.cells #[.int .i64 (m : Nat), .int .i64 (2 * (m : Nat)), .int .i64 (l : Nat)] 40))
  go_enter Try.func41, Try.ntmps41
  go_wp2_with (go_at_call 53; refine (SK.out _).mono ?_; rintro e w' ⟨rfl, hb⟩; have HB := Lib.hid (HB0.out.trans (hb.mono HB0.out.size)); clear hb)
  go_ret
  exact ⟨_, _, rfl, HC.out.up HB.out, hnil, HB.out⟩
end Go.Proofs.Ytddhkajcakndlaa.Wl
