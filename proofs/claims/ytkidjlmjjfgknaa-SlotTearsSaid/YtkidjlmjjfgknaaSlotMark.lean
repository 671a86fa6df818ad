/- The greatest mark of sectors (layer 7): the contracts of slot.Mark and the reference's. -/
import Derived.Test.YtkidjlmjjfgknaaSlotGet
import Derived.Test.YtkidjlmjjfgknaaSlot
import Derived.Test.YtkidjlmjjfgknaaSls
import Derived.Test.YtkidjlmjjfgknaaOwnApp
namespace Go.Proofs.Ytkidjlmjjfgknaa.Slt
open Go.RowKit Go.Proofs.Ytkidjlmjjfgknaa.Mem Go.Proofs.Ytkidjlmjjfgknaa.Oct Go.Proofs.Ytkidjlmjjfgknaa.Pg Go.Proofs.Ytkidjlmjjfgknaa.Rcd
set_option linter.unusedVariables false
set_option linter.unusedSimpArgs false
theorem sl_up {w w' : World} {v : Value} {xs : List Nat} (h : Sl w w.heap.size v xs) (hb : Below w.heap.size w w') : Sl w' w'.heap.size v xs := (h.below hb (Nat.le_refl _)).more hb.size
set_option maxRecDepth 20000 in
set_option maxHeartbeats 4000000 in
theorem mark_any (A : Option Addr) (n c : Nat) (ss : List (List Nat)) (w : World) (h : Sls w w.heap.size (.slice A n c) ss) (hn : n ≤ 1000) (hlen : ∀ s ∈ ss, s.length ≤ 600) :
    Calls Try.prog 13 #[.slice A n c] w fun e w' => e = .returned (.int .i64 (markOf ss)) ∧ Below w.heap.size w w' := by
  obtain ⟨hsl, hnc, hcm⟩ := sls_len h
  have HSL := Lib.hid hsl; clear hsl
  have HS := Lib.hid h; clear h
  have HLN := Lib.hid hlen; clear hlen
  go_enter Try.func13, Try.ntmps13
  go_wp2
  go_loopw [3, 10] (fun g i wr => ∃ k : Nat, k ≤ n ∧ i = .int .i64 k ∧ g = .int .i64 (markOf (ss.take k)) ∧ Below w.heap.size w wr) (fun _ i _ => n - (intOf i).toNat)
  case atStart => exact ⟨0, Nat.zero_le _, rfl, rfl, Below.refl _ _⟩
  case round =>
    obtain ⟨k, hk, rfl, rfl, hbw⟩ := hrel
    have HB := Lib.hid hbw; clear hbw
    by_cases hlt : k < n
    · obtain ⟨b, off, rfl, hb, hc⟩ := sls_at HS.out (by omega)
      obtain ⟨u, hu, hus⟩ := hc k hlt
      obtain ⟨A1, n1, c1, rfl, _⟩ := id hus
      have hu' : wr.cell? ⟨b, off + k, none⟩ = some (.slice A1 n1 c1) := by rw [HB.out.cell (p := ⟨b, off + k, none⟩) hb]; exact hu
      have hsl1 : (ss.getD k []).length ≤ 600 := HLN.out _ (getD_mem_sl (by have := HSL.out; omega))
      have hmt := mark_take (ss := ss) (k := k) (by have := HSL.out; omega)
      obtain ⟨s, hs⟩ : ∃ s, s = ss.getD k [] := ⟨_, rfl⟩
      rw [← hs] at hus hsl1 hmt
      have hup := sl_up hus HB.out
      have HUP := Lib.hid hup; clear hup hus hc hs hu
      obtain ⟨g0, hg0⟩ : ∃ g0, g0 = markOf (ss.take k) := ⟨_, rfl⟩
      rw [← hg0] at hmt ⊢
      cases hg : got s with
      | none =>
        have hm2 : markOf (ss.take (k + 1)) = g0 := by rw [hmt]; unfold markStep; rw [hg]; rfl
        have HM2 := Lib.hid hm2; clear hm2 hmt
        have gt := get_none _ s wr HUP.out (by omega) hg
        have GT := Lib.hid gt; clear gt hg hg0
        go_wp2_with (go_at_call 23; refine (GT.out).mono ?_; rintro e w4 ⟨A4, n4, c4, rfl, hb4⟩; have HB4 := Lib.hid (HB.out.trans (hb4.mono HB.out.size)); clear hb4)
        go_roundw
        case rel => exact ⟨k + 1, by omega, by go_num, by rw [HM2.out], palloc HB4.out _⟩
        case measure => simp [intOf]; omega
      | some p =>
        have hm2 : markOf (ss.take (k + 1)) = max g0 p.mark := by rw [hmt]; unfold markStep; rw [hg]; rfl
        have HM2 := Lib.hid hm2; clear hm2 hmt
        have gt := get_some _ s p wr HUP.out (by omega) hg
        have GT := Lib.hid gt; clear gt hg hg0
        go_wp2_with (go_at_call 23; refine (GT.out).mono ?_; rintro e w4 ⟨A4, n4, c4, rfl, hbt4, hb4⟩; have HB4 := Lib.hid (HB.out.trans (hb4.mono HB.out.size)); clear hb4 hbt4)
        go_roundw
        case rel => exact ⟨k + 1, by omega, by go_num, by rw [HM2.out], palloc HB4.out _⟩
        case measure => simp [intOf]; omega
    · obtain rfl : k = n := by omega
      have htk : ss.take k = ss := List.take_of_length_le (by have := HSL.out; omega)
      rw [htk]
      go_wp2
      go_ret
      exact ⟨rfl, HB.out⟩
set_option maxRecDepth 20000 in
set_option maxHeartbeats 4000000 in
theorem rmark_any (A : Option Addr) (n c : Nat) (ss : List (List Nat)) (w : World) (h : Sls w w.heap.size (.slice A n c) ss) (hn : n ≤ 1000) (hlen : ∀ s ∈ ss, s.length ≤ 600) :
    Calls Try.prog 14 #[.slice A n c] w fun e w' => e = .returned (.int .i64 (markOf ss)) ∧ Below w.heap.size w w' := by
  obtain ⟨hsl, hnc, hcm⟩ := sls_len h
  have HSL := Lib.hid hsl; clear hsl
  have HS := Lib.hid h; clear h
  have HLN := Lib.hid hlen; clear hlen
  go_enter Try.func14, Try.ntmps14
  go_wp2
  go_loopw [3, 4] (fun g i wr => ∃ k : Nat, k ≤ n ∧ i = .int .i64 k ∧ g = .int .i64 (markOf (ss.take k)) ∧ Below w.heap.size w wr) (fun _ i _ => n - (intOf i).toNat)
  case atStart => exact ⟨0, Nat.zero_le _, rfl, rfl, Below.refl _ _⟩
  case round =>
    obtain ⟨k, hk, rfl, rfl, hbw⟩ := hrel
    have HB := Lib.hid hbw; clear hbw
    by_cases hlt : k < n
    · obtain ⟨b, off, rfl, hb, hc⟩ := sls_at HS.out (by omega)
      obtain ⟨u, hu, hus⟩ := hc k hlt
      obtain ⟨A1, n1, c1, rfl, _⟩ := id hus
      have hu' : wr.cell? ⟨b, off + k, none⟩ = some (.slice A1 n1 c1) := by rw [HB.out.cell (p := ⟨b, off + k, none⟩) hb]; exact hu
      have hsl1 : (ss.getD k []).length ≤ 600 := HLN.out _ (getD_mem_sl (by have := HSL.out; omega))
      have hmt := mark_take (ss := ss) (k := k) (by have := HSL.out; omega)
      obtain ⟨s, hs⟩ : ∃ s, s = ss.getD k [] := ⟨_, rfl⟩
      rw [← hs] at hus hsl1 hmt
      have hup := sl_up hus HB.out
      have HUP := Lib.hid hup; clear hup hus hc hs hu
      obtain ⟨g0, hg0⟩ : ∃ g0, g0 = markOf (ss.take k) := ⟨_, rfl⟩
      rw [← hg0] at hmt ⊢
      cases hg : got s with
      | none =>
        have hm2 : markOf (ss.take (k + 1)) = g0 := by rw [hmt]; unfold markStep; rw [hg]; rfl
        have HM2 := Lib.hid hm2; clear hm2 hmt
        have gt := rget_none _ s wr HUP.out (by omega) hg
        have GT := Lib.hid gt; clear gt hg hg0
        go_wp2_with (go_at_call 18; refine (GT.out).mono ?_; rintro e w4 ⟨A4, n4, c4, rfl, hb4⟩; have HB4 := Lib.hid (HB.out.trans (hb4.mono HB.out.size)); clear hb4)
        go_roundw
        case rel => exact ⟨k + 1, by omega, by go_num, by rw [HM2.out], palloc HB4.out _⟩
        case measure => simp [intOf]; omega
      | some p =>
        have hm2 : markOf (ss.take (k + 1)) = max g0 p.mark := by rw [hmt]; unfold markStep; rw [hg]; rfl
        have HM2 := Lib.hid hm2; clear hm2 hmt
        have gt := rget_some _ s p wr HUP.out (by omega) hg
        have GT := Lib.hid gt; clear gt hg hg0
        go_wp2_with (go_at_call 18; refine (GT.out).mono ?_; rintro e w4 ⟨A4, n4, c4, rfl, hbt4, hb4⟩; have HB4 := Lib.hid (HB.out.trans (hb4.mono HB.out.size)); clear hb4 hbt4)
        · go_roundw
          case rel => exact ⟨k + 1, by omega, by go_num, by rw [HM2.out, Int.max_eq_right (by omega)], palloc HB4.out _⟩
          case measure => simp [intOf]; omega
        · go_roundw
          case rel => exact ⟨k + 1, by omega, by go_num, by rw [HM2.out, Int.max_eq_left (by omega)], palloc HB4.out _⟩
          case measure => simp [intOf]; omega
    · obtain rfl : k = n := by omega
      have htk : ss.take k = ss := List.take_of_length_le (by have := HSL.out; omega)
      rw [htk]
      go_wp2
      go_ret
      exact ⟨rfl, HB.out⟩
end Go.Proofs.Ytkidjlmjjfgknaa.Slt
