/- The reference of layer 3: Torn. -/
import Derived.Test.YtpmkacpdmjnbjaaRefT
namespace Go.Proofs.Ytpmkacpdmjnbjaa.Dsk
open Go.RowKit Go.Maps Go.Proofs.Ytpmkacpdmjnbjaa.Mem
set_option linter.unusedVariables false
set_option linter.unusedSimpArgs false
def tornK (b xs : List Nat) (k : Nat) : List Nat := b.take k ++ xs.drop k
theorem tornK_len {b xs : List Nat} {k : Nat} (h1 : k ≤ b.length) (h2 : k ≤ xs.length) : (tornK b xs k).length = xs.length := by
  simp [tornK]
  omega
theorem tornK_set {b xs : List Nat} {k : Nat} (h1 : k < b.length) (h2 : k < xs.length) : (vals (tornK b xs k)).set k (.int .u8 (b.getD k 0 : Nat)) = vals (tornK b xs (k + 1)) := by
  unfold tornK
  rw [List.take_add_one, List.getElem?_eq_getElem h1, List.drop_eq_getElem_cons h2]
  simp only [vals_append, Option.toList_some]
  have hl : (vals (b.take k)).length = k := by rw [vals_length, List.length_take]; omega
  rw [List.set_append_right _ _ (by omega), hl, Nat.sub_self]
  simp only [vals, List.map_cons, List.set_cons_zero, List.map_append, List.map_nil, List.append_assoc, List.cons_append, List.nil_append]
  simp [List.getD, List.getElem?_eq_getElem h1]
theorem tornK_end {b xs : List Nat} {k : Nat} (hx : xs.length = 512) (h : k = min b.length 512) : tornK b xs k = torn b xs := by
  unfold tornK torn
  by_cases hb : b.length ≤ 512
  · rw [h, Nat.min_eq_left hb, List.take_of_length_le (Nat.le_refl _), List.take_of_length_le hb]
  · rw [h, Nat.min_eq_right (by omega), List.drop_eq_nil_of_le (by omega), List.drop_eq_nil_of_le (by omega)]
set_option maxRecDepth 20000 in
set_option maxHeartbeats 2000000 in
theorem ref_torn (vb vo : Value) (b xs : List Nat) (w : World) (hb : Sl w w.heap.size vb b) (ho : Sl w w.heap.size vo xs) (hx : IsSec xs) :
    Calls Try.prog 22 #[vb, vo] w fun e w' => ∃ v', e = .returned v' ∧ w'.ownsRow w.heap.size 5 1 v' 512 (vals (torn b xs)) ∧ Below w.heap.size w w' := by
  obtain ⟨i0, hi, hz0, hz1, hz2⟩ := info_parts Try.info5
  have HI := Lib.hid hi; clear hi
  have HZ0 := Lib.hid hz0; clear hz0
  have HZ1 := Lib.hid hz1; clear hz1
  have HZ2 := Lib.hid hz2; clear hz2
  have hend := fun k h => tornK_end (b := b) (xs := xs) (k := k) hx.1 h
  have HEND := Lib.hid hend; clear hend
  obtain ⟨N, hN⟩ : ∃ N, N = xs.length := ⟨_, rfl⟩
  have hN5 : N = 512 := by rw [hN]; exact hx.1
  rw [show (512 : Nat) = N from hN5.symm]
  clear hx
  obtain ⟨A1, m, cb, rfl, hb, _⟩ := hb
  obtain ⟨A2, N', co, rfl, ho, _⟩ := ho
  have hN' : N' = N := by have := ho.1; omega
  subst hN'
  have hbm := hb.1
  have hro := ho.reads
  have HRO := Lib.hid hro; clear hro
  have HB := Lib.hid hb; clear hb ho
  have hown0 : (w.alloc (.cells #[] 5)).ownsRow w.heap.size 5 1 (.slice (some ⟨w.heap.size, 0, none⟩) 0 0) 0 [] := World.ownsRow_lit w #[] 0 (Nat.le_refl _) (by unfold maxLen; omega) rfl
  have HO0 := Lib.hid hown0; clear hown0
  have hNm : N' ≤ maxLen := by unfold maxLen; omega
  have hNb : (0 + N') * 1 ≤ 140737488355328 := by omega
  have HNM := Lib.hid hNm; clear hNm
  have HNB := Lib.hid hNb; clear hNb
  have H0 : 0 < N' := by omega
  have hNle : N' ≤ 1000000 := by omega
  have HN5 := Lib.hid hN5; clear hN5
  have HNX := Lib.hid hN; clear hN
  have HBM := Lib.hid hbm; clear hbm
  go_enter Try.func22, Try.ntmps22
  go_wp2_with (at_builtin; (refine wpList_append_any _ rfl (.tmp 7) (.tmp 8) 35 rfl w.heap.size 5 i0 (.int .u8 0) 1 1 Try.underlying35 HI.out HZ0.out HZ1.out HZ2.out rfl (by decide) _ 0 [] rfl HO0.out w.heap.size A2 N' co (vals xs) rfl (HRO.out.alloc (Nat.le_refl _) _) (vals_one _) (by rw [Nat.zero_add]; exact HNM.out) HNB.out (by simp) ?_; intro v2 w2 hown2 hg2 _; rw [Nat.zero_add, List.nil_append] at hown2; obtain ⟨g, cap, rfl, hgl, hglt⟩ := hown2.form H0; have hb2 : Below w.heap.size w w2 := (((Below.refl _ w).alloc (Nat.le_refl _) _).grown hg2 (by simp) (fun q hq => (HO0.out.lt q hq).1)); have HO2 := Lib.hid hown2; clear hown2; have HB2 := Lib.hid hb2; clear hb2 hg2))
  go_loopw [6] (fun i wr => ∃ k : Nat, k ≤ m ∧ k ≤ N' ∧ i = .int .i64 k ∧ wr.ownsRow w.heap.size 5 1 (.slice (some ⟨g, 0, none⟩) N' cap) N' (vals (tornK b xs k)) ∧ Below w.heap.size w wr) (fun i _ => m - (intOf i).toNat)
  case atStart => exact ⟨0, Nat.zero_le _, Nat.zero_le _, rfl, HO2.out, HB2.out⟩
  case round =>
    obtain ⟨k, hk, hkN, rfl, hown, hbel⟩ := hrel
    have hglt2 := (hown.lt g rfl).2
    by_cases hlt : k < m ∧ k < N'
    · obtain ⟨h1, h2⟩ := hlt
      obtain ⟨b0, o0, rfl, hb0, hc0⟩ := (HB.out.below hbel (Nat.le_refl _)).2.2.2 (by omega)
      have g0 := hc0 k h1
      have hc := hown.cellAt k (by omega)
      have hq : (vals (tornK b xs k))[k]? = some (.int .u8 ((tornK b xs k).getD k 0 : Nat)) := vals_get _ k (by rw [tornK_len (by rw [HBM.out]; omega) (by rw [← HNX.out]; omega), ← HNX.out]; omega)
      rw [hq] at hc
      have hf := hown.frozenAt k
      have hb0w : b0 < wr.heap.size := Nat.lt_of_lt_of_le hb0 hbel.size
      obtain ⟨s1, s2⟩ := hown.stored k (.int .u8 (b.getD k 0 : Nat))
      rw [tornK_set (by rw [HBM.out]; omega) (by rw [← HNX.out]; omega)] at s1
      have S1 := Lib.hid s1; clear s1
      have S2 := Lib.hid (hbel.setCell (p := ⟨g, k, none⟩) hgl (.int .u8 (b.getD k 0 : Nat))); clear s2 hown hbel hc0 hq
      generalize b.getD k 0 = q at *
      generalize (tornK b xs k).getD k 0 = q2 at *
      go_wp2
      go_roundw
      case rel => exact ⟨k + 1, by omega, by omega, by go_num, S1.out, S2.out⟩
      case measure => simp [intOf]; omega
    · have hke : k = min m N' := by omega
      have HO := Lib.hid hown; clear hown
      have HBL := Lib.hid hbel; clear hbel
      have hfin := HEND.out k (by rw [HBM.out, ← HN5.out]; exact hke)
      rw [hfin] at HO
      clear hfin hke
      by_cases hm : k < m
      · have hn : ¬ k < N' := by omega
        clear hlt
        go_wp2
        go_ret
        exact ⟨_, rfl, HO.out, HBL.out⟩
      · clear hlt
        go_wp2
        go_ret
        exact ⟨_, rfl, HO.out, HBL.out⟩
end Go.Proofs.Ytpmkacpdmjnbjaa.Dsk
