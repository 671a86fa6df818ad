/- The contracts of a disk's small calls (layer 3): isNone, has, Size, Dead, act, Arm, New, Read. -/
import Derived.Test.YtddhkajcakndlaaKept
import Derived.BigQuiet
import Derived.Deep.QuietTactic
namespace Go.Proofs.Ytddhkajcakndlaa.Dsk
open Go.RowKit Go.Maps Go.Proofs.Ytddhkajcakndlaa.Mem
set_option linter.unusedVariables false
set_option linter.unusedSimpArgs false
abbrev ptr (g : Nat) : Value := .pointer (some ⟨g, 0, none⟩)
section
variable {w : World} {g bs bw : Nat} {s : St}
theorem DiskAt.c0 (h : DiskAt w g bs bw s) : w.cell? ⟨g, 0, none⟩ = some (.int .i64 (s.n : Nat)) := by rw [h.1.cell]; rfl
theorem DiskAt.c1 (h : DiskAt w g bs bw s) : w.cell? ⟨g, 1, none⟩ = some (.map (some bs)) := by rw [h.1.cell]; rfl
theorem DiskAt.c2 (h : DiskAt w g bs bw s) : w.cell? ⟨g, 2, none⟩ = some (.map (some bw)) := by rw [h.1.cell]; rfl
theorem DiskAt.c3 (h : DiskAt w g bs bw s) : w.cell? ⟨g, 3, none⟩ = some (.int .i64 s.left) := by rw [h.1.cell]; rfl
theorem DiskAt.c4 (h : DiskAt w g bs bw s) : w.cell? ⟨g, 4, none⟩ = some (.bool s.dead) := by rw [h.1.cell]; rfl
end
set_option maxHeartbeats 400000 in
theorem isNone_no (g bs bw : Nat) (s : St) (w : World) (h : DiskAt w g bs bw s) :
    Calls Try.prog 35 #[ptr g] w fun e w' => e = .returned (.bool false) ∧ w = w' := by
  have c0 := h.c0
  have hn := h.2.2.2.2.1
  obtain ⟨n, fs, fw, L, dead⟩ := s
  simp only at c0 hn
  clear h
  have hz : ((n : Int) == 0) = false := beq_false_of_ne (by omega)
  go_enter Try.func35, Try.ntmps35
  go_wp2
  go_ret
  exact ⟨rfl, rfl⟩
set_option maxHeartbeats 400000 in
theorem has_any (g bs bw : Nat) (s : St) (i : Int) (w : World) (h : DiskAt w g bs bw s) :
    Calls Try.prog 31 #[ptr g, .int .i64 i] w fun e w' => e = .returned (.bool (decide (0 ≤ i ∧ i < s.n))) ∧ w = w' := by
  have c0 := h.c0
  obtain ⟨n, fs, fw, L, dead⟩ := s
  simp only at c0 ⊢
  clear h
  by_cases h0 : 0 ≤ i
  · have hd : decide ((0 : Int) ≤ i) = true := by simpa using h0
    go_enter Try.func31, Try.ntmps31
    go_wp2
    go_ret
    exact ⟨ret_bool (by simp [h0]), rfl⟩
  · have hd : decide ((0 : Int) ≤ i) = false := by simpa using h0
    go_enter Try.func31, Try.ntmps31
    go_wp2
    go_ret
    exact ⟨ret_bool (by simp [h0]), rfl⟩
set_option maxHeartbeats 400000 in
theorem size_any (g bs bw : Nat) (s : St) (w : World) (h : DiskAt w g bs bw s) :
    Calls Try.prog 18 #[ptr g] w fun e w' => e = .returned (.int .i64 (s.n : Nat)) ∧ w = w' := by
  have c0 := h.c0
  have C1 := Lib.hid (isNone_no g bs bw s w h)
  obtain ⟨n, fs, fw, L, dead⟩ := s
  simp only at c0 ⊢
  clear h
  go_enter Try.func18, Try.ntmps18
  go_wp2_with (go_at_call 35; refine (C1.out).mono ?_; rintro e w' ⟨rfl, rfl⟩)
  go_ret
  exact ⟨rfl, rfl⟩
set_option maxHeartbeats 400000 in
theorem dead_any (g bs bw : Nat) (s : St) (w : World) (h : DiskAt w g bs bw s) :
    Calls Try.prog 30 #[ptr g] w fun e w' => e = .returned (.bool s.dead) ∧ w = w' := by
  have c4 := h.c4
  have C1 := Lib.hid (isNone_no g bs bw s w h)
  obtain ⟨n, fs, fw, L, dead⟩ := s
  simp only at c4 ⊢
  clear h
  go_enter Try.func30, Try.ntmps30
  go_wp2_with (go_at_call 35; refine (C1.out).mono ?_; rintro e w' ⟨rfl, rfl⟩)
  go_ret
  exact ⟨rfl, rfl⟩
theorem disk_set {w : World} {g bs bw : Nat} {s s' : St} (h : DiskAt w g bs bw s) (i : Nat) (u : Value)
    (e : (#[.int .i64 (s.n : Nat), .map (some bs), .map (some bw), .int .i64 s.left, .bool s.dead] : Array Value).setIfInBounds i u = #[.int .i64 (s'.n : Nat), .map (some bs), .map (some bw), .int .i64 s'.left, .bool s'.dead])
    (h1 : s'.fs = s.fs) (h2 : s'.fw = s.fw) (h3 : s'.n = s.n) (h4 : -9223372036854775808 ≤ s'.left) (h5 : s'.left ≤ 9223372036854775807) : DiskAt (w.setCell ⟨g, i, none⟩ u) g bs bw s' := by
  obtain ⟨hg1, hg2, hg3⟩ := h.ne
  obtain ⟨hb, hs, hw, hne, hn1, hn2, hl1, hl2, hr⟩ := h
  have k := grown_set w ⟨g, i, none⟩ u
  refine ⟨?_, ?_, ?_, hne, by omega, by omega, h4, h5, by rw [h2, h3]; exact hr⟩
  · rw [← e]
    exact hb.set_ i u
  · rw [h1]
    exact hs.kept k (by simp; omega)
  · rw [h2]
    exact hw.kept k (by simp; omega)
set_option maxHeartbeats 400000 in
theorem act_any (g bs bw : Nat) (s : St) (w : World) (h : DiskAt w g bs bw s) :
    Calls Try.prog 32 #[ptr g] w fun e w' => e = .returned (.bool s.act.2) ∧ DiskAt w' g bs bw s.act.1 ∧ w.grownBy w' (some g) := by
  have c3 := h.c3
  have f3 := h.1.frozen 3
  have f4 := h.1.frozen 4
  have c4 := h.c4
  have hl1 := h.2.2.2.2.2.2.1
  have hl2 := h.2.2.2.2.2.2.2.1
  have H := Lib.hid h; clear h
  obtain ⟨n, fs, fw, L, dead⟩ := s
  simp only at c3 c4 hl1 hl2
  by_cases h0 : L = 0
  · subst h0
    go_enter Try.func32, Try.ntmps32
    go_wp2
    go_ret
    exact ⟨rfl, disk_set H.out 4 _ rfl rfl rfl rfl (by simp [St.act]) (by simp [St.act]), grown_set w ⟨g, 4, none⟩ _⟩
  · have hz : (L == 0) = false := beq_false_of_ne h0
    by_cases hp : 0 < L
    · have hd : decide ((0 : Int) < L) = true := by simpa using hp
      have hd2 : decide (L > (0 : Int)) = true := by simpa using hp
      have e : (St.mk n fs fw L dead).act = (St.mk n fs fw (L - 1) dead, true) := by simp [St.act, h0, hp]
      rw [e]
      go_enter Try.func32, Try.ntmps32
      go_wp2
      go_ret
      exact ⟨rfl, disk_set H.out 3 _ rfl rfl rfl rfl (by simp; omega) (by simp; omega), grown_set w ⟨g, 3, none⟩ _⟩
    · have hd : decide ((0 : Int) < L) = false := by simpa using hp
      have hd2 : decide (L > (0 : Int)) = false := by simpa using hp
      have e : (St.mk n fs fw L dead).act = (St.mk n fs fw L dead, true) := by simp [St.act, h0, hp]
      rw [e]
      go_enter Try.func32, Try.ntmps32
      go_wp2
      go_ret
      exact ⟨rfl, H.out, World.grownBy.refl w _⟩
end Go.Proofs.Ytddhkajcakndlaa.Dsk
