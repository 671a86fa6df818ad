/- The law's awake (layer 5). -/
import Derived.Test.YtioledhbdehbpaaJoin
import Derived.Test.YtioledhbdehbpaaPageAwake
namespace Go.Proofs.Ytioledhbdehbpaa.Rcd
open Go.RowKit Go.Proofs.Ytioledhbdehbpaa.Mem Go.Proofs.Ytioledhbdehbpaa.Oct Go.Proofs.Ytioledhbdehbpaa.Pg
set_option linter.unusedVariables false
set_option linter.unusedSimpArgs false
theorem make489 (Z : List Nat) (hZ : Z = List.replicate 489 0) (w : World) : (Instr.makeSlice 22 (.int .i64 489) (.int .i64 489)).run Try.prog w = .ok (.slice (some ⟨w.heap.size, 0, none⟩) 489 489) (w.alloc (.cells (vals Z).toArray 5)) := by
  have := run_make_row' (P := Try.prog) 22 5 (.int .u8 0) 1 Try.underlying22 Try.info5 rfl .i64 .i64 489 (by omega) (by omega) w
  rw [made_all] at this
  rw [hZ]
  simp only [vals, List.map_replicate]
  exact this
theorem pgs_form {w : World} {B n : Nat} {v : Value} {ps : List P} (h : Pgs w B v ps) (hl : ps.length = n) : ∃ A c, v = .slice A n c := by
  obtain ⟨A, n', c, e, h1, _⟩ := h
  exact ⟨A, c, by rw [e, ← h1, hl]⟩
theorem sl_form {w : World} {B n : Nat} {v : Value} {xs : List Nat} (h : Sl w B v xs) (hl : xs.length = n) : ∃ A c, v = .slice A n c := by
  obtain ⟨A, n', c, e, h1, _⟩ := h
  exact ⟨A, c, by rw [e, ← h1.1, hl]⟩
def p0 : P := ⟨1, 0, 0, 3, 0, 0, []⟩
theorem p0_may (Z : List Nat) (j : Nat) (hj : j < 2) : (nth p0 Z 2 j).may = true := by
  rw [may_iff]
  refine ⟨rfl, rfl, rfl, win_of ?_ ?_, rfl, win_of ?_ ?_, ?_⟩
  · simp only [nth, p0]; omega
  · simp only [nth, p0]; omega
  · simp only [nth]; omega
  · simp only [nth]; omega
  · simp only [nth, List.length_take]; omega
theorem p0_fits {Z : List Nat} (hZ : Z.length = 489) : fits p0 Z = true := by
  have h2 : parts Z.length = 2 := by rw [hZ]; rfl
  exact fits_yes (by rw [h2]; omega) (fun j hj => by rw [h2] at hj ⊢; exact p0_may Z j hj)
theorem fits_mem {p q : P} {b : List Nat} (h : fits p b = true) (hq : q ∈ pages p b) : q.b.length ≤ 600 ∧ In64 q.index := by
  simp only [fits, Bool.and_eq_true] at h
  have h1 := (may_iff q).1 (List.all_eq_true.1 h.2 q hq)
  have h2 := h1.l
  have h3 := win_yes h1.i
  unfold In64
  omega
set_option maxRecDepth 20000 in
set_option maxHeartbeats 2000000 in
theorem awake5_any (w : World) : Calls Try.prog 20 #[] w fun e w' => e = .returned (.bool true) ∧ Below w.heap.size w w' := by
  obtain ⟨Z, hZ⟩ : ∃ Z : List Nat, Z = List.replicate 489 0 := ⟨_, rfl⟩
  have hmk := make489 Z hZ
  have hZl : Z.length = 489 := by rw [hZ, List.length_replicate]
  have hZx : ∀ x ∈ Z, x < 256 := by rw [hZ]; exact zeros_lt 489
  have hbt := blk_bts (Blk.new w 5 (vals Z).toArray) hZx (by omega)
  have hf := p0_fits hZl
  have hb0 := palloc (Below.refl w.heap.size w) (Obj.cells (vals Z).toArray 5)
  have hsl := sl_of (c := 489) hbt (by omega) (by unfold maxLen; omega) (fun e => by cases e)
  rw [hZl] at hsl
  have sp := split_any p0 (.slice none 0 0) (some ⟨w.heap.size, 0, none⟩) 489 489 Z _ hsl hZl (by unfold In64 p0; simp only; omega)
  rw [if_neg (by omega), hf, if_pos rfl, if_pos rfl] at sp
  have e0 : pgV p0 (.slice none 0 0) = .agg #[.int .i64 1, .int .i64 0, .int .i64 0, .int .i64 3, .int .i64 0, .int .i64 0, .slice none 0 0] := rfl
  rw [e0] at sp
  clear e0
  have hjn : joined (pages p0 Z) = some (Z, 2) := by
    have h := join_pages (p := p0) (b := Z) [] hf
    rw [List.append_nil] at h
    rw [h, hZl]
    rfl
  have hjb : jb (pages p0 Z) = (Z, 2) := by unfold jb; rw [hjn]; rfl
  have hpl : (pages p0 Z).length = 2 := by rw [pages_length, hZl]; rfl
  have hp1 : ((pages p0 Z).getD 1 noP).index = 4 := by
    rw [pages_getD _ _ _ (by rw [hZl]; decide)]
    rfl
  have jn := fun (A1 : Option Addr) (c1 : Nat) (W : World) (h : Pgs W W.heap.size (.slice A1 2 c1) (pages p0 Z)) => join_any A1 2 c1 (pages p0 Z) W h (by omega) (fun q hq => (fits_mem hf hq).1) (fun q hq => (fits_mem hf hq).2)
  rw [hjn, hjb] at jn
  have pa := fun (W : World) => parts_any 489 W
  have hpi : ((partsI 489 : Nat) : Int) = 2 := by rfl
  rw [hpi] at pa
  have PA := Lib.hid pa; clear pa hpi
  have JN := Lib.hid jn; clear jn
  have SP := Lib.hid sp; clear sp
  have HB0 := Lib.hid hb0; clear hb0
  have HPL := Lib.hid hpl; clear hpl
  have HP1 := Lib.hid hp1; clear hp1
  have HZL := Lib.hid hZl; clear hZl
  clear hjn hjb hf hbt hsl hZx hZ
  go_enter Try.func20, Try.ntmps20
  go_wp2_with (first
    | (go_at_call 23; refine (SP.out).mono ?_; rintro e w1 ⟨v1, rfl, hpg, hb1⟩; have hn1 : ∃ A1 c1, v1 = .slice A1 2 c1 := pgs_form hpg HPL.out; obtain ⟨A1, c1, rfl⟩ := hn1; have HPG := Lib.hid hpg; have HB1 := Lib.hid (below_up (w := w) hb1 HB0.out); clear hpg hb1)
    | (go_at_call 26; refine (JN.out A1 c1 _ HPG.out).mono ?_; rintro e w2 ⟨v2, rfl, hs2, hb2⟩; have HPG2 := Lib.hid ((HPG.out.below hb2 (Nat.le_refl _)).more hb2.size); have HB2 := Lib.hid (below_up (w := w) hb2 HB1.out); have hv2 : ∃ A2 c2, v2 = .slice A2 489 c2 := sl_form hs2 HZL.out; obtain ⟨A2, c2, rfl⟩ := hv2; obtain ⟨b1, o1, rfl, _, hc1⟩ := pgs_at HPG2.out (by omega); obtain ⟨vb, hr, _⟩ := hc1 1 (by omega); have e3 := hr 3 _ rfl; rw [HP1.out] at e3; have e3' : w2.cell? ⟨b1, o1 + 10, none⟩ = some (.int .i64 4) := e3; have e3'' : w2.cell? ⟨b1, o1 + 7 + 3, none⟩ = some (.int .i64 4) := e3; clear e3 hr hc1 hs2 hb2)
    | (go_at_call 21; refine (PA.out _).mono ?_; rintro e w' ⟨rfl, rfl⟩))
  go_ret
  exact ⟨rfl, HB2.out⟩
end Go.Proofs.Ytioledhbdehbpaa.Rcd
