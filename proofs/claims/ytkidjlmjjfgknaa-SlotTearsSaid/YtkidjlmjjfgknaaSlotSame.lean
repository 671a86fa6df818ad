/- Whether bases are the same, by the reference; and whether sectors that came in are light (layer 7). -/
import Derived.Test.YtkidjlmjjfgknaaSlotLoad
import Derived.Test.YtkidjlmjjfgknaaSame
namespace Go.Proofs.Ytkidjlmjjfgknaa.Slt
open Go.RowKit Go.Proofs.Ytkidjlmjjfgknaa.Mem Go.Proofs.Ytkidjlmjjfgknaa.Oct Go.Proofs.Ytkidjlmjjfgknaa.Pg Go.Proofs.Ytkidjlmjjfgknaa.Rcd
set_option linter.unusedVariables false
set_option linter.unusedSimpArgs false
set_option maxRecDepth 20000 in
set_option maxHeartbeats 4000000 in
theorem bsame_any (x y : Int) (A A' : Option Addr) (n n' c c' : Nat) (xs ys : List Nat) (w : World) (h : Bts w w.heap.size A n xs) (h' : Bts w w.heap.size A' n' ys) :
    Calls Try.prog 12 #[.agg #[.int .i64 x, .slice A n c], .agg #[.int .i64 y, .slice A' n' c']] w fun e w' => e = .returned (.bool (decide (((x, xs) : Bs) = (y, ys)))) ∧ Below w.heap.size w w' := by
  have HB := Lib.hid (palloc (palloc (Below.refl w.heap.size w) (Obj.cells #[.int .i64 x, .slice A n c] 27)) (Obj.cells #[.int .i64 y, .slice A' n' c'] 27))
  have cs := rsame_any A A' n n' c c' _ _ xs ys _ (h.below HB.out (Nat.le_refl _)) (h'.below HB.out (Nat.le_refl _))
  have CS := Lib.hid cs; clear cs h h'
  have he : decide (((x, xs) : Bs) = (y, ys)) = ((x == y) && decide (xs = ys)) := by
    rw [Bool.eq_iff_iff]
    simp
  rw [he]
  clear he
  cases h0 : (x == y)
  · go_enter Try.func12, Try.ntmps12
    go_wp2
    go_ret
    exact ⟨ret_bool (by simp [*]), HB.out⟩
  · go_enter Try.func12, Try.ntmps12
    go_wp2_with (go_at_call 17; refine (CS.out).mono ?_; rintro e w' ⟨rfl, q9, rfl⟩; have HB9 := Lib.hid (below_drewN HB.out q9))
    go_ret
    exact ⟨ret_bool (by simp [*]), HB9.out⟩
set_option maxRecDepth 20000 in
set_option maxHeartbeats 4000000 in
theorem slight_any (A : Option Addr) (n c : Nat) (w w0 : World) (h0 : Below w0.heap.size w0 w) (h : IsRecs w0 A n c 1 (fun _ v => RowOf .u8 w0 v)) :
    Calls Try.prog 6 #[.slice A n c] w fun e w' => ∃ ok, e = .returned (.bool ok) ∧ (ok = true → n ≤ 10 ∧ ∀ b off, A = some ⟨b, off, none⟩ → ∀ i, i < n → ∃ A1 n1 c1, w0.cell? ⟨b, off + i, none⟩ = some (.slice A1 n1 c1) ∧ n1 ≤ 600) ∧ ∃ m, w' = w.drewN m := by
  have hc0 : n ≤ 9223372036854775807 := by
    rcases h with ⟨rfl, rfl, rfl⟩ | ⟨x, rfl, h1, h2, _⟩
    · omega
    · unfold maxLen at h2; omega
  have HR := Lib.hid h; clear h
  go_enter Try.func6, Try.ntmps6
  go_wp2
  go_loopw [3] (fun i wr => (∃ k : Nat, k ≤ n ∧ k ≤ 11 ∧ i = .int .i64 k ∧ ∀ b off, A = some ⟨b, off, none⟩ → ∀ j, j < k → ∃ A1 n1 c1, w0.cell? ⟨b, off + j, none⟩ = some (.slice A1 n1 c1) ∧ n1 ≤ 600) ∧ ∃ m, wr = w.drewN m) (fun i _ => n - (intOf i).toNat)
  case atStart => exact ⟨⟨0, Nat.zero_le _, by omega, rfl, fun _ _ _ j hj => absurd hj (by omega)⟩, 0, rfl⟩
  case round =>
    obtain ⟨⟨k, hk, hk21, rfl, hall⟩, m, rfl⟩ := hrel
    have HA := Lib.hid hall; clear hall
    by_cases hlt : k < n
    · by_cases h20 : k ≤ 10
      · obtain ⟨b, off, rfl, hb, hc⟩ := rec_at HR.out (by omega) (by omega)
        obtain ⟨v6, e6, A6, l6, c6, zs, rfl, hr⟩ := hc k hlt 0 (by omega)
        clear hc hr
        have e7 : w0.cell? ⟨b, off + k, none⟩ = some (.slice A6 l6 c6) := by simpa using e6
        have e6' : (w.drewN m).cell? ⟨b, off + k, none⟩ = some (.slice A6 l6 c6) := (h0.cell (p := ⟨b, off + k, none⟩) hb).trans e7
        have E6 := Lib.hid e7; clear e6 e7
        by_cases hl : l6 ≤ 600
        · have hd : decide (600 < (l6 : Int)) = false := by simp only [decide_eq_false_iff_not]; omega
          have HL := Lib.hid hl; clear hl
          go_wp2
          go_roundw
          case rel =>
            refine ⟨⟨k + 1, by omega, by omega, by go_num, fun b' off' e j hj => ?_⟩, _, rfl⟩
            injection e with e
            injection e with e1 e2 _
            subst e1 e2
            by_cases e : j = k
            · subst e
              exact ⟨A6, l6, c6, E6.out, HL.out⟩
            · exact HA.out b off rfl j (by omega)
          case measure => simp [intOf]; omega
        · have hd : decide (600 < (l6 : Int)) = true := by simp only [decide_eq_true_eq]; omega
          clear hl
          go_wp2
          go_ret
          exact ⟨false, rfl, fun h => absurd h (by simp), _, rfl⟩
      · have hd : decide ((k : Int) ≤ 10) = false := by simp only [decide_eq_false_iff_not]; omega
        have hd2 : decide ((n : Int) ≤ 10) = false := by simp only [decide_eq_false_iff_not]; omega
        go_wp2
        go_ret
        exact ⟨false, rfl, fun h => absurd h (by simp), _, rfl⟩
    · obtain rfl : k = n := by omega
      go_wp2
      go_ret
      exact ⟨_, rfl, fun h => ⟨by simp at h; omega, fun b off e i hi => HA.out b off e i hi⟩, _, rfl⟩
theorem recs_none {w : World} {A : Option Addr} {n c nf : Nat} {R : Nat → Value → Prop} (h : IsRecs w A n c nf R) : A = none → c = 0 := by
  rcases h with ⟨_, _, h⟩ | ⟨x, rfl, _⟩
  · exact fun _ => h
  · exact fun h => by cases h
end Go.Proofs.Ytkidjlmjjfgknaa.Slt
