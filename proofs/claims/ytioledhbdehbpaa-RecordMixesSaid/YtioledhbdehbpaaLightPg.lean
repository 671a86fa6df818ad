/- Pages that came in, and whether they are light (layer 5). -/
import Derived.Test.YtioledhbdehbpaaPagesLaw
namespace Go.Proofs.Ytioledhbdehbpaa.Rcd
open Go.RowKit Go.Proofs.Ytioledhbdehbpaa.Mem Go.Proofs.Ytioledhbdehbpaa.Oct Go.Proofs.Ytioledhbdehbpaa.Pg
set_option linter.unusedVariables false
set_option linter.unusedSimpArgs false
def PgR (w : World) (j : Nat) (v : Value) : Prop := match j with
  | 0 => NumOf .i64 v | 1 => NumOf .i64 v | 2 => NumOf .i64 v | 3 => NumOf .i64 v | 4 => NumOf .i64 v | 5 => NumOf .i64 v | 6 => RowOf .u8 w v | _ => True
theorem in64_of {z : Int} (h : (Lit.int .i64 z).wf = true) : In64 z := by
  have h1 := Go.bounds_i64 h
  unfold In64
  omega
theorem page_in {w : World} {b o n1 c1 : Nat} {A1 : Option Addr} (h : ∀ j, j < 7 → ∃ v, w.cell? ⟨b, o + j, none⟩ = some v ∧ PgR w j v) (h6 : w.cell? ⟨b, o + 6, none⟩ = some (.slice A1 n1 c1)) (hl : n1 ≤ 600) :
    ∃ (p : P) (vb : Value), w.rangeAt b o (row p vb) ∧ Sb w w.heap.size vb p.b ∧ p.b.length ≤ 600 ∧ In64 p.index := by
  obtain ⟨v0, e0, z0, rfl, f0⟩ := h 0 (by omega)
  obtain ⟨v1, e1, z1, rfl, f1⟩ := h 1 (by omega)
  obtain ⟨v2, e2, z2, rfl, f2⟩ := h 2 (by omega)
  obtain ⟨v3, e3, z3, rfl, f3⟩ := h 3 (by omega)
  obtain ⟨v4, e4, z4, rfl, f4⟩ := h 4 (by omega)
  obtain ⟨v5, e5, z5, rfl, f5⟩ := h 5 (by omega)
  obtain ⟨v6, e6, A6, l6, c6, zs, rfl, hr⟩ := h 6 (by omega)
  rw [h6] at e6
  injection e6 with e6
  injection e6 with a1 a2 a3
  subst a1 a2 a3
  obtain ⟨xs, hxs, hlen⟩ := sl_of_row hr (by omega)
  refine ⟨⟨z0, z1, z2, z3, z4, z5, xs⟩, .slice A1 n1 c1, ?_, sb_of hxs, by simp only; omega, in64_of f3⟩
  intro j v hv
  match j, hv with
  | 0, hv => simp [row] at hv; subst hv; exact e0
  | 1, hv => simp [row] at hv; subst hv; exact e1
  | 2, hv => simp [row] at hv; subst hv; exact e2
  | 3, hv => simp [row] at hv; subst hv; exact e3
  | 4, hv => simp [row] at hv; subst hv; exact e4
  | 5, hv => simp [row] at hv; subst hv; exact e5
  | 6, hv => simp [row] at hv; subst hv; exact h6
  | j + 7, hv => simp [row] at hv
theorem pgs_in {w : World} {A : Option Addr} {n c : Nat} (h : IsRecs w A n c 7 (PgR w)) (hs : ∀ b off, A = some ⟨b, off, none⟩ → ∀ i, i < n → ∃ A1 n1 c1, w.cell? ⟨b, off + i * 7 + 6, none⟩ = some (.slice A1 n1 c1) ∧ n1 ≤ 600) :
    ∃ ps, Pgs w w.heap.size (.slice A n c) ps ∧ (∀ q ∈ ps, q.b.length ≤ 600) ∧ ∀ q ∈ ps, In64 q.index := by
  have hnc : n ≤ c ∧ c ≤ maxLen := by
    rcases h with ⟨rfl, rfl, rfl⟩ | ⟨x, rfl, h1, h2, _⟩
    · exact ⟨Nat.le_refl _, by unfold maxLen; omega⟩
    · exact ⟨h1, h2⟩
  by_cases h0 : n = 0
  · subst h0
    exact ⟨[], ⟨A, 0, c, rfl, rfl, hnc.1, hnc.2, fun h => absurd h (by omega)⟩, by simp, by simp⟩
  · obtain ⟨b, off, rfl, hb, hc⟩ := rec_at h (by omega) (by omega)
    have hch : ∀ i, i < n → ∃ (p : P) (vb : Value), w.rangeAt b (off + i * 7) (row p vb) ∧ Sb w w.heap.size vb p.b ∧ p.b.length ≤ 600 ∧ In64 p.index := fun i hi => by
      obtain ⟨A1, n1, c1, h6, hl⟩ := hs b off rfl i hi
      exact page_in (fun j hj => by rw [Nat.add_assoc]; exact hc i hi j hj) h6 hl
    obtain ⟨f, hf⟩ : ∃ f : Nat → P, ∀ i, i < n → ∃ vb, w.rangeAt b (off + i * 7) (row (f i) vb) ∧ Sb w w.heap.size vb (f i).b ∧ (f i).b.length ≤ 600 ∧ In64 (f i).index :=
      ⟨fun i => if h : i < n then Classical.choose (hch i h) else noP, fun i hi => by simp only [hi, dif_pos]; exact Classical.choose_spec (hch i hi)⟩
    have hg : ∀ i, i < n → ((List.range n).map f).getD i noP = f i := fun i hi => by simp [List.getD, hi]
    refine ⟨(List.range n).map f, ⟨_, n, c, rfl, by simp, hnc.1, hnc.2, fun _ => ⟨b, off, rfl, hb, fun i hi => ?_⟩⟩, fun q hq => ?_, fun q hq => ?_⟩
    · rw [hg i hi]
      obtain ⟨vb, h1, h2, _⟩ := hf i hi
      exact ⟨vb, h1, h2⟩
    · simp only [List.mem_map, List.mem_range] at hq
      obtain ⟨i, hi, rfl⟩ := hq
      obtain ⟨vb, _, _, h3, _⟩ := hf i hi
      exact h3
    · simp only [List.mem_map, List.mem_range] at hq
      obtain ⟨i, hi, rfl⟩ := hq
      obtain ⟨vb, _, _, _, h4⟩ := hf i hi
      exact h4
set_option maxRecDepth 20000 in
set_option maxHeartbeats 4000000 in
theorem light_any (A : Option Addr) (n c : Nat) (w : World) (h : IsRecs w A n c 7 (PgR w)) :
    Calls Try.prog 19 #[.slice A n c] w fun e w' => ∃ ok, e = .returned (.bool ok) ∧ (ok = true → n ≤ 20 ∧ ∀ b off, A = some ⟨b, off, none⟩ → ∀ i, i < n → ∃ A1 n1 c1, w.cell? ⟨b, off + i * 7 + 6, none⟩ = some (.slice A1 n1 c1) ∧ n1 ≤ 600) ∧ ∃ m, w' = w.drewN m := by
  have hc0 : n ≤ 9223372036854775807 := by
    rcases h with ⟨rfl, rfl, rfl⟩ | ⟨x, rfl, h1, h2, _⟩
    · omega
    · unfold maxLen at h2; omega
  have HR := Lib.hid h; clear h
  go_enter Try.func19, Try.ntmps19
  go_wp2
  go_loopw [3] (fun i wr => (∃ k : Nat, k ≤ n ∧ k ≤ 21 ∧ i = .int .i64 k ∧ ∀ b off, A = some ⟨b, off, none⟩ → ∀ j, j < k → ∃ A1 n1 c1, w.cell? ⟨b, off + j * 7 + 6, none⟩ = some (.slice A1 n1 c1) ∧ n1 ≤ 600) ∧ ∃ m, wr = w.drewN m) (fun i _ => n - (intOf i).toNat)
  case atStart => exact ⟨⟨0, Nat.zero_le _, by omega, rfl, fun _ _ _ j hj => absurd hj (by omega)⟩, 0, rfl⟩
  case round =>
    obtain ⟨⟨k, hk, hk21, rfl, hall⟩, m, rfl⟩ := hrel
    have HA := Lib.hid hall; clear hall
    by_cases hlt : k < n
    · by_cases h20 : k ≤ 20
      · obtain ⟨b, off, rfl, hb, hc⟩ := rec_at HR.out (by omega) (by omega)
        obtain ⟨v6, e6, A6, l6, c6, zs, rfl, hr⟩ := hc k hlt 6 (by omega)
        clear hc hr
        have e6' : (w.drewN m).cell? ⟨b, off + k * 7 + 6, none⟩ = some (.slice A6 l6 c6) := by rw [Nat.add_assoc]; exact e6
        have E6 := Lib.hid e6; clear e6
        by_cases hl : l6 ≤ 600
        · have hd : decide (600 < (l6 : Int)) = false := by simp only [decide_eq_false_iff_not]; omega
          have HL := Lib.hid hl; clear hl
          go_wp2
          go_roundw
          case rel =>
            refine ⟨⟨k + 1, by omega, by omega, by go_num, fun b' off' e j hj => ?_⟩, _, rfl⟩
            injection e with e
            injection e with e1 e2 _
            subst e1 e2
            by_cases e : j = k
            · subst e
              exact ⟨A6, l6, c6, by rw [Nat.add_assoc]; exact E6.out, HL.out⟩
            · exact HA.out b off rfl j (by omega)
          case measure => simp [intOf]; omega
        · have hd : decide (600 < (l6 : Int)) = true := by simp only [decide_eq_true_eq]; omega
          clear hl
          go_wp2
          go_ret
          exact ⟨false, rfl, fun h => absurd h (by simp), _, rfl⟩
      · have hd : decide ((k : Int) ≤ 20) = false := by simp only [decide_eq_false_iff_not]; omega
        have hd2 : decide ((n : Int) ≤ 20) = false := by simp only [decide_eq_false_iff_not]; omega
        go_wp2
        go_ret
        exact ⟨false, rfl, fun h => absurd h (by simp), _, rfl⟩
    · obtain rfl : k = n := by omega
      go_wp2
      go_ret
      exact ⟨_, rfl, fun h => ⟨by simp at h; omega, fun b off e i hi => HA.out b off e i hi⟩, _, rfl⟩
end Go.Proofs.Ytioledhbdehbpaa.Rcd
