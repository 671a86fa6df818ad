/- The reference of layer 3, its small calls: Get, act, Waiting, Torn. -/
import Derived.Test.YtpmkacpdmjnbjaaRefW
import Derived.Deep.RegionHeld3
namespace Go.Proofs.Ytpmkacpdmjnbjaa.Dsk
open Go.RowKit Go.Maps Go.Proofs.Ytpmkacpdmjnbjaa.Mem
set_option linter.unusedVariables false
set_option linter.unusedSimpArgs false
theorem RowS.at_ {w : World} {S : List Nat} {v : Value} {n i : Nat} {us : Nat → Value} (h : RowS w S v n us) (hi : i < n) :
    ∃ b off c, v = .slice (some ⟨b, off, none⟩) n c ∧ b < w.heap.size ∧ b ∉ S ∧ w.cell? ⟨b, off + i, none⟩ = some (us i) := by
  obtain ⟨A, c, rfl, h4, h5, h6, h7⟩ := h
  obtain ⟨b, off, rfl, hb, hn, hc⟩ := h7 (by omega)
  exact ⟨b, off, c, rfl, hb, hn, hc i hi⟩
set_option maxHeartbeats 1000000 in
theorem ref_get (S : List Nat) (v : Value) (s : St) (i : Nat) (w : World) (hg : Good s) (h : RefAt w S v s) (hi : i < s.n) :
    Calls Try.prog 41 #[v, .int .i64 (i : Nat)] w fun e w' => ∃ u, e = .returned u ∧ SlS w S u (s.get i) ∧ Below w.heap.size w w' := by
  obtain ⟨v1, v2, us1, us2, rfl, h1, h2, h3, h4⟩ := h
  have hw := hg.fwl i
  unfold St.get
  obtain ⟨b1, o1, c1, rfl, hb1, _, g1⟩ := h1.at_ hi
  obtain ⟨b2, o2, c2, rfl, hb2, _, g2⟩ := h2.at_ hi
  have k1 := h3 i hi
  have k2 := h4 i hi
  obtain ⟨A', cc, e', _⟩ := k2.len
  rw [e'] at g2 k2
  have K1 := Lib.hid k1; clear k1
  have K2 := Lib.hid k2; clear k2
  clear h1 h2 h3 h4 e'
  generalize hm : ((s.fw i).getD []).length = m at *
  unfold refV
  generalize armedOf s.left = ar at *
  generalize s.dead = dd at *
  rcases hw with ⟨hf, rfl⟩ | ⟨hf, rfl⟩
  · rw [hf, Option.none_or]
    clear hm
    go_enter Try.func41, Try.ntmps41
    go_wp2
    go_ret
    exact ⟨_, rfl, K1.out, (Below.refl _ w).alloc (Nat.le_refl _) _⟩
  · obtain ⟨xs, hx⟩ := Option.isSome_iff_exists.1 hf
    rw [hx] at K2 ⊢
    rw [Option.some_or, Option.getD_some]
    rw [Option.getD_some] at K2
    clear hm hf hx
    go_enter Try.func41, Try.ntmps41
    go_wp2
    go_ret
    exact ⟨_, rfl, K2.out, (Below.refl _ w).alloc (Nat.le_refl _) _⟩
def St.ract (s : St) : St × Bool := if s.dead = true then (s, false) else s.act
set_option maxHeartbeats 1000000 in
theorem ref_act (A1 A2 : Option Addr) (n1 n2 c1 c2 : Nat) (s : St) (w : World) (hg : Good s) :
    Calls Try.prog 61 #[refV (.slice A1 n1 c1) (.slice A2 n2 c2) s] w fun e w' => e = .returned (.tuple #[refV (.slice A1 n1 c1) (.slice A2 n2 c2) s.ract.1, .bool s.ract.2]) ∧ Below w.heap.size w w' := by
  have hl1 := hg.2.2.2.2.1
  have hl2 := hg.2.2.2.2.2
  obtain ⟨n, fs, fw, L, dead⟩ := s
  clear hg
  unfold refV
  simp only at hl1 hl2 ⊢
  cases dead with
  | true =>
    have e : (St.mk n fs fw L true).ract = (St.mk n fs fw L true, false) := by simp [St.ract]
    rw [e]
    generalize armedOf L = ar at *
    go_enter Try.func61, Try.ntmps61
    go_wp2
    exact bodyPost_ret (v := .tuple #[.agg #[.slice A1 n1 c1, .slice A2 n2 c2, .int .i64 ar, .bool true], .bool false]) (by simp [results, Try.results61, go_sem]) rfl ⟨rfl, ((Below.refl _ _).alloc (Nat.le_refl _) _).alloc (by simp) _⟩
  | false =>
    by_cases h0 : L = 0
    · subst h0
      have e : (St.mk n fs fw 0 false).ract = (St.mk n fs fw 0 true, false) := by simp [St.ract, St.act]
      have ea : armedOf 0 = 0 := rfl
      rw [e]
      simp only [ea]
      go_enter Try.func61, Try.ntmps61
      go_wp2
      exact bodyPost_ret (v := .tuple #[.agg #[.slice A1 n1 c1, .slice A2 n2 c2, .int .i64 0, .bool true], .bool false]) (by simp [results, Try.results61, go_sem]) rfl ⟨rfl, ((Below.refl _ _).alloc (Nat.le_refl _) _).alloc (by simp) _⟩
    · by_cases hp : 0 < L
      · have e : (St.mk n fs fw L false).ract = (St.mk n fs fw (L - 1) false, true) := by simp [St.ract, St.act, h0, hp]
        have ea : armedOf L = L := by unfold armedOf; omega
        have eb : armedOf (L - 1) = L - 1 := by unfold armedOf; omega
        rw [e]
        simp only [ea, eb]
        have hz : (L == 0) = false := beq_false_of_ne h0
        have hd : decide ((0 : Int) < L) = true := by simpa using hp
        clear e ea eb
        go_enter Try.func61, Try.ntmps61
        go_wp2
        exact bodyPost_ret (v := .tuple #[.agg #[.slice A1 n1 c1, .slice A2 n2 c2, .int .i64 (L - 1), .bool false], .bool true]) (by simp [results, Try.results61, go_sem]) rfl ⟨rfl, ((Below.refl _ _).alloc (Nat.le_refl _) _).alloc (by simp) _⟩
      · have e : (St.mk n fs fw L false).ract = (St.mk n fs fw L false, true) := by simp [St.ract, St.act, h0, hp]
        have ea : armedOf L = -1 := by unfold armedOf; omega
        rw [e]
        simp only [ea]
        clear e ea
        go_enter Try.func61, Try.ntmps61
        go_wp2
        exact bodyPost_ret (v := .tuple #[.agg #[.slice A1 n1 c1, .slice A2 n2 c2, .int .i64 (-1), .bool false], .bool true]) (by simp [results, Try.results61, go_sem]) rfl ⟨rfl, ((Below.refl _ _).alloc (Nat.le_refl _) _).alloc (by simp) _⟩
end Go.Proofs.Ytpmkacpdmjnbjaa.Dsk
