/- The law's own helper of layer 3: Light: are acts not too great? -/
import Derived.Test.YtpmkacpdmjnbjaaLike
import Derived.Test.YtpmkacpdmjnbjaaAwake
namespace Go.Proofs.Ytpmkacpdmjnbjaa.Dsk
open Go.RowKit Go.Maps Go.Shelf Go.Proofs.Ytpmkacpdmjnbjaa.Mem
set_option linter.unusedVariables false
set_option linter.unusedSimpArgs false
/-- the slices that act i holds -/
def ActLens (w : World) (b off i : Nat) : Prop :=
  ∃ (Ab : Option Addr) (nb cb : Nat) (At : Option Addr) (nt ct : Nat), w.cell? ⟨b, off + i * 5 + 2, none⟩ = some (.slice Ab nb cb) ∧ w.cell? ⟨b, off + i * 5 + 4, none⟩ = some (.slice At nt ct) ∧
    (0 < nt → ∃ bt ot, At = some ⟨bt, ot, none⟩ ∧ bt < w.heap.size ∧ ∀ k, k < nt → ∃ (Au : Option Addr) (nu cu : Nat), w.cell? ⟨bt, ot + k * 2 + 1, none⟩ = some (.slice Au nu cu))
/-- .. and that they are not too great -/
def ActFits (w : World) (b off i : Nat) : Prop :=
  ∀ (Ab : Option Addr) (nb cb : Nat) (At : Option Addr) (nt ct : Nat), w.cell? ⟨b, off + i * 5 + 2, none⟩ = some (.slice Ab nb cb) → w.cell? ⟨b, off + i * 5 + 4, none⟩ = some (.slice At nt ct) →
    nb ≤ 600 ∧ nt ≤ 40 ∧ ∀ bt ot, At = some ⟨bt, ot, none⟩ → ∀ k, k < nt → ∀ (Au : Option Addr) (nu cu : Nat), w.cell? ⟨bt, ot + k * 2 + 1, none⟩ = some (.slice Au nu cu) → nu ≤ 600
set_option maxRecDepth 20000 in
set_option maxHeartbeats 4000000 in
theorem light_any (A : Option Addr) (len cap : Nat) (w : World) (hlen : len ≤ 9223372036854775807) (h : 0 < len → ∃ b off, A = some ⟨b, off, none⟩ ∧ b < w.heap.size ∧ ∀ i, i < len → ActLens w b off i) :
    Calls Try.prog 10 #[.slice A len cap] w fun e w' => ∃ t, e = .returned (.bool t) ∧ w = w' ∧ (t = true ↔ len ≤ 40 ∧ ∀ b off, A = some ⟨b, off, none⟩ → ∀ i, i < len → ActFits w b off i) := by
  have H := Lib.hid h; clear h
  go_enter Try.func10, Try.ntmps10
  go_wp2
  go_loopw [3] (fun i wr => (∃ k : Nat, k ≤ len ∧ k ≤ 41 ∧ i = .int .i64 k ∧ ∀ b off, A = some ⟨b, off, none⟩ → ∀ j, j < k → ActFits w b off j) ∧ wr = w) (fun i _ => len - (intOf i).toNat)
  case atStart => exact ⟨⟨0, Nat.zero_le _, by omega, rfl, fun _ _ _ j hj => absurd hj (by omega)⟩, rfl⟩
  case round =>
    obtain ⟨⟨k, hk, hk41, rfl, hfit⟩, rfl⟩ := hrel
    have HF := Lib.hid hfit; clear hfit
    by_cases hlt : k < len ∧ k ≤ 40
    · obtain ⟨h1, h2⟩ := hlt
      obtain ⟨b, off, rfl, hb, hl⟩ := H.out (by omega)
      obtain ⟨Ab, nb, cb, At, nt, ct, c2, c4, ht⟩ := hl k h1
      have HT := Lib.hid ht; clear ht hl
      have C2 := Lib.hid c2
      have C4 := Lib.hid c4
      by_cases hnb : nb ≤ 600
      · by_cases hnt : nt ≤ 40
        · have hd1 : decide (600 < (nb : Int)) = false := by simp; omega
          have hd2 : decide (40 < (nt : Int)) = false := by simp; omega
          go_wp2
          go_loopw [4] (fun i wr' => (∃ q : Nat, q ≤ nt ∧ i = .int .i64 q ∧ ∀ bt ot, At = some ⟨bt, ot, none⟩ → ∀ j, j < q → ∀ (Au : Option Addr) (nu cu : Nat), wr.cell? ⟨bt, ot + j * 2 + 1, none⟩ = some (.slice Au nu cu) → nu ≤ 600) ∧ wr' = wr) (fun i _ => nt - (intOf i).toNat)
          case atStart => exact ⟨⟨0, Nat.zero_le _, rfl, fun _ _ _ j hj => absurd hj (by omega)⟩, rfl⟩
          case round =>
            obtain ⟨⟨q, hq, rfl, hqf⟩, rfl⟩ := hrel
            have HQ := Lib.hid hqf; clear hqf
            by_cases hqt : q < nt
            · obtain ⟨bt, ot, rfl, hbt, hct⟩ := HT.out (by omega)
              obtain ⟨Au, nu, cu, cq⟩ := hct q hqt
              have CQ := Lib.hid cq
              clear hct
              by_cases hnu : nu ≤ 600
              · have hd3 : decide (600 < (nu : Int)) = false := by simp; omega
                go_wp2
                go_roundw
                case rel =>
                  refine ⟨⟨q + 1, by omega, by go_num, fun bt' ot' e j hj Au' nu' cu' hc => ?_⟩, trivial⟩
                  by_cases hjq : j < q
                  · exact HQ.out bt' ot' e j hjq Au' nu' cu' hc
                  · obtain rfl : j = q := by omega
                    injection e with e
                    injection e with e1 e2 _
                    subst e1 e2
                    rw [CQ.out] at hc
                    injection hc with hc
                    injection hc with _ hc _
                    omega
                case measure => simp [intOf]; omega
              · have hd3 : decide (600 < (nu : Int)) = true := by simp; omega
                go_wp2
                go_ret
                exact ⟨false, rfl, rfl, fun e => (by cases e), fun ⟨_, hl⟩ => absurd ((hl b off rfl k h1 _ _ _ _ _ _ C2.out C4.out).2.2 bt ot rfl q hqt _ _ _ CQ.out) hnu⟩
            · obtain rfl : q = nt := by omega
              go_wp2
              go_roundw
              case rel =>
                refine ⟨⟨k + 1, by omega, by omega, by go_num, fun b' off' e j hj => ?_⟩, trivial⟩
                by_cases hjk : j < k
                · exact HF.out b' off' e j hjk
                · obtain rfl : j = k := by omega
                  injection e with e
                  injection e with e1 e2 _
                  subst e1 e2
                  intro Ab' nb' cb' At' nt' ct' h2' h4'
                  rw [C2.out] at h2'
                  rw [C4.out] at h4'
                  injection h2' with h2'
                  injection h2' with _ h2'' _
                  injection h4' with h4'
                  injection h4' with h4a h4b _
                  subst h4a h4b
                  exact ⟨by omega, by omega, fun bt ot e k hk Au nu cu hc => HQ.out bt ot e k hk Au nu cu hc⟩
              case measure => simp [intOf]; omega
        · have hd1 : decide (600 < (nb : Int)) = false := by simp; omega
          have hd2 : decide (40 < (nt : Int)) = true := by simp; omega
          go_wp2
          go_ret
          exact ⟨false, rfl, rfl, fun e => (by cases e), fun ⟨_, hl⟩ => absurd (hl b off rfl k h1 _ _ _ _ _ _ C2.out C4.out).2.1 hnt⟩
      · have hd1 : decide (600 < (nb : Int)) = true := by simp; omega
        go_wp2
        go_ret
        exact ⟨false, rfl, rfl, fun e => (by cases e), fun ⟨_, hl⟩ => absurd (hl b off rfl k h1 _ _ _ _ _ _ C2.out C4.out).1 hnb⟩
    · by_cases hkl : k < len
      · have hk40 : ¬ k ≤ 40 := by omega
        have hd : decide ((len : Int) ≤ 40) = false := by simp; omega
        clear hlt
        go_wp2
        go_ret
        exact ⟨false, rfl, rfl, fun e => (by cases e), fun ⟨hl, _⟩ => by omega⟩
      · obtain rfl : k = len := by omega
        clear hlt
        by_cases h40 : k ≤ 40
        · have hd : decide ((k : Int) ≤ 40) = true := by simp; omega
          go_wp2
          go_ret
          exact ⟨true, rfl, rfl, fun _ => ⟨h40, fun b off e i hi => HF.out b off e i hi⟩, fun _ => rfl⟩
        · have hd : decide ((k : Int) ≤ 40) = false := by simp; omega
          go_wp2
          go_ret
          exact ⟨false, rfl, rfl, fun e => (by cases e), fun ⟨hl, _⟩ => absurd hl h40⟩
end Go.Proofs.Ytpmkacpdmjnbjaa.Dsk
