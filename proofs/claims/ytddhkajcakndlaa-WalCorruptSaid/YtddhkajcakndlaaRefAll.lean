/- RefAll: the texts RefW, RefS, RefT, RefU, RefN, RefX, RefF, RefC in one. (Printed by tools/mergeall.py.) -/
import Derived.Test.YtddhkajcakndlaaCrash
import Derived.Deep.CutRange
import Derived.Deep.OwnRows
import Derived.Deep.RegionHeld3
import Derived.Deep.RegionLaw
import Derived.Shelf.Abstract
/- The reference's disk by value (layer 3): two rows of slices of bytes, how many acts are done, whether it is dead; all in blocks that are not among S. -/
namespace Go.Proofs.Ytddhkajcakndlaa.Dsk
open Go.RowKit Go.Maps Go.Proofs.Ytddhkajcakndlaa.Mem
set_option linter.unusedVariables false
set_option linter.unusedSimpArgs false
def SlS (w : World) (S : List Nat) (u : Value) (xs : List Nat) : Prop :=
  ∃ (A : Option Addr) (n c : Nat), u = .slice A n c ∧ xs.length = n ∧ (∀ x ∈ xs, x < 256) ∧ n ≤ 1000000 ∧ n ≤ c ∧ c ≤ maxLen ∧ (A = none → c = 0) ∧
    (0 < n → ∃ b off, A = some ⟨b, off, none⟩ ∧ b < w.heap.size ∧ b ∉ S ∧ ∀ i, i < n → w.cell? ⟨b, off + i, none⟩ = some (.int .u8 (xs.getD i 0 : Nat)))
def RowS (w : World) (S : List Nat) (v : Value) (n : Nat) (us : Nat → Value) : Prop :=
  ∃ (A : Option Addr) (c : Nat), v = .slice A n c ∧ n ≤ c ∧ c ≤ maxLen ∧ (A = none → c = 0) ∧
    (0 < n → ∃ b off, A = some ⟨b, off, none⟩ ∧ b < w.heap.size ∧ b ∉ S ∧ ∀ i, i < n → w.cell? ⟨b, off + i, none⟩ = some (us i))
section
variable {w w' : World} {S : List Nat} {u v : Value} {xs : List Nat} {n : Nat} {us : Nat → Value}
theorem SlS.sl (h : SlS w S u xs) : Sl w w.heap.size u xs := by
  obtain ⟨A, n, c, rfl, h1, h2, h3, h4, h5, h6, h7⟩ := h
  refine ⟨A, n, c, rfl, ⟨h1, h2, h3, fun h0 => ?_⟩, h4, h5, h6⟩
  obtain ⟨b, off, e, hb, _, hc⟩ := h7 h0
  exact ⟨b, off, e, hb, hc⟩
theorem SlS.kept (h : SlS w S u xs) (k : KeptBut w w' S) : SlS w' S u xs := by
  obtain ⟨A, n, c, rfl, h1, h2, h3, h4, h5, h6, h7⟩ := h
  refine ⟨A, n, c, rfl, h1, h2, h3, h4, h5, h6, fun h0 => ?_⟩
  obtain ⟨b, off, e, hb, hn, hc⟩ := h7 h0
  exact ⟨b, off, e, Nat.lt_of_lt_of_le hb k.size, hn, fun i hi => (k.cell (p := ⟨b, off + i, none⟩) hb hn).trans (hc i hi)⟩
theorem RowS.kept (h : RowS w S v n us) (k : KeptBut w w' S) : RowS w' S v n us := by
  obtain ⟨A, c, rfl, h4, h5, h6, h7⟩ := h
  refine ⟨A, c, rfl, h4, h5, h6, fun h0 => ?_⟩
  obtain ⟨b, off, e, hb, hn, hc⟩ := h7 h0
  exact ⟨b, off, e, Nat.lt_of_lt_of_le hb k.size, hn, fun i hi => (k.cell (p := ⟨b, off + i, none⟩) hb hn).trans (hc i hi)⟩
theorem SlS.len (h : SlS w S u xs) : ∃ A c, u = .slice A xs.length c ∧ xs.length ≤ 1000000 := by
  obtain ⟨A, n, c, rfl, h1, h2, h3, h4⟩ := h
  subst h1
  exact ⟨A, c, rfl, h3⟩
theorem SlS.lt (h : SlS w S u xs) : ∀ x ∈ xs, x < 256 := by
  obtain ⟨A, n, c, rfl, h1, h2, h3, h4⟩ := h
  exact h2
theorem SlS.more {S' : List Nat} (h : SlS w S u xs) (hs : ∀ x ∈ S', x ∈ S) : SlS w S' u xs := by
  obtain ⟨A, n, c, rfl, h1, h2, h3, h4, h5, h6, h7⟩ := h
  refine ⟨A, n, c, rfl, h1, h2, h3, h4, h5, h6, fun h0 => ?_⟩
  obtain ⟨b, off, e, hb, hn, hc⟩ := h7 h0
  exact ⟨b, off, e, hb, fun hm => hn (hs b hm), hc⟩
theorem slS_nil (w : World) (S : List Nat) : SlS w S (.slice none 0 0) [] := ⟨none, 0, 0, rfl, rfl, by simp, by omega, Nat.le_refl _, by unfold maxLen; omega, fun _ => rfl, fun h => absurd h (by omega)⟩
theorem slS_own {base : Nat} (h : w.ownsRow base 5 1 v n (vals xs)) (hx : ∀ x ∈ xs, x < 256) (hn : n ≤ 1000000) (hS : ∀ x ∈ S, x < base) : SlS w S v xs := by
  have hl : xs.length = n := by have := h.1; rw [vals_length] at this; omega
  rcases h.2 with ⟨rfl, rfl⟩ | ⟨g, cap, cur, rfl, hg, hh, hnc, hm, hs, ht⟩
  · exact ⟨none, 0, 0, rfl, hl, hx, by omega, by omega, by unfold maxLen; omega, fun _ => rfl, fun h => absurd h (by omega)⟩
  · have hlt : g < w.heap.size := (h.lt g rfl).2
    exact ⟨_, n, cap, rfl, hl, hx, hn, hnc, hm, fun e => (by cases e), fun _ => ⟨g, 0, rfl, hlt, fun hm => by have := hS g hm; omega, fun i hi => by rw [Nat.zero_add, h.cellAt i (by omega), vals_get xs i (by omega)]⟩⟩
theorem rowS_own {base : Nat} {zs : List Value} (h : w.ownsRow base 22 1 v n zs) (hS : ∀ x ∈ S, x < base) : RowS w S v n (fun i => zs.getD i (.slice none 0 0)) := by
  have hl : zs.length = n := by have := h.1; omega
  rcases h.2 with ⟨rfl, rfl⟩ | ⟨g, cap, cur, rfl, hg, hh, hnc, hm, hs, ht⟩
  · exact ⟨none, 0, rfl, by omega, by unfold maxLen; omega, fun _ => rfl, fun h => absurd h (by omega)⟩
  · have hlt : g < w.heap.size := (h.lt g rfl).2
    exact ⟨_, cap, rfl, hnc, hm, fun e => (by cases e), fun _ => ⟨g, 0, rfl, hlt, fun hm => by have := hS g hm; omega, fun i hi => by rw [Nat.zero_add, h.cellAt i (by omega)]; simp [List.getD, List.getElem?_eq_getElem (show i < zs.length by omega)]⟩⟩
theorem RowS.ext {us' : Nat → Value} (h : RowS w S v n us) (e : ∀ i, i < n → us i = us' i) : RowS w S v n us' := by
  obtain ⟨A, c, rfl, h4, h5, h6, h7⟩ := h
  refine ⟨A, c, rfl, h4, h5, h6, fun h0 => ?_⟩
  obtain ⟨b, off, e1, hb, hn, hc⟩ := h7 h0
  exact ⟨b, off, e1, hb, hn, fun i hi => by rw [hc i hi, e i hi]⟩
theorem RowS.reads (h : RowS w S v n us) : ∃ A c, v = .slice A n c ∧ Reads w w.heap.size 1 A n ((List.range n).map us) := by
  obtain ⟨A, c, rfl, h4, h5, h6, h7⟩ := h
  refine ⟨A, c, rfl, by simp, fun h0 => ?_⟩
  obtain ⟨b, off, rfl, hb, hn, hc⟩ := h7 h0
  refine ⟨_, rfl, hb, fun j u hu => ?_⟩
  rw [add_plain]
  have hj : j < n := by
    have := (List.getElem?_eq_some_iff.1 hu).1
    simpa using this
  rw [hc j hj]
  simpa [List.getElem?_map, List.getElem?_range hj] using hu
end
theorem RowS.more {w : World} {S S' : List Nat} {v : Value} {n : Nat} {us : Nat → Value} (h : RowS w S v n us) (hs : ∀ x ∈ S', x ∈ S) : RowS w S' v n us := by
  obtain ⟨A, c, rfl, h4, h5, h6, h7⟩ := h
  refine ⟨A, c, rfl, h4, h5, h6, fun h0 => ?_⟩
  obtain ⟨b, off, e, hb, hn, hc⟩ := h7 h0
  exact ⟨b, off, e, hb, fun hm => hn (hs b hm), hc⟩
def armedOf (L : Int) : Int := if L < 0 then -1 else L
def refV (v1 v2 : Value) (s : St) : Value := .agg #[v1, v2, .int .i64 (armedOf s.left), .bool s.dead]
/-- the reference's disk, by value -/
def RefAt (w : World) (S : List Nat) (v : Value) (s : St) : Prop :=
  ∃ (v1 v2 : Value) (us1 us2 : Nat → Value), v = refV v1 v2 s ∧ RowS w S v1 s.n us1 ∧ RowS w S v2 s.n us2 ∧ (∀ i, i < s.n → SlS w S (us1 i) ((s.fs i).getD noughts)) ∧ (∀ i, i < s.n → SlS w S (us2 i) ((s.fw i).getD []))
theorem RefAt.kept {w w' : World} {S : List Nat} {v : Value} {s : St} (h : RefAt w S v s) (k : KeptBut w w' S) : RefAt w' S v s := by
  obtain ⟨v1, v2, us1, us2, rfl, h1, h2, h3, h4⟩ := h
  exact ⟨v1, v2, us1, us2, rfl, h1.kept k, h2.kept k, fun i hi => (h3 i hi).kept k, fun i hi => (h4 i hi).kept k⟩
theorem RefAt.more {w : World} {S S' : List Nat} {v : Value} {s : St} (h : RefAt w S v s) (hs : ∀ x ∈ S', x ∈ S) : RefAt w S' v s := by
  obtain ⟨v1, v2, us1, us2, rfl, h1, h2, h3, h4⟩ := h
  exact ⟨v1, v2, us1, us2, rfl, h1.more hs, h2.more hs, fun i hi => (h3 i hi).more hs, fun i hi => (h4 i hi).more hs⟩
theorem RefAt.below {w w' : World} {S : List Nat} {v : Value} {s : St} (h : RefAt w S v s) (k : Below w.heap.size w w') : RefAt w' S v s := h.kept (kept_of_below k (Nat.le_refl _))
/-- what is written down has a sector's bytes -/
def Good (s : St) : Prop := 1 ≤ s.n ∧ s.n ≤ 1024 ∧ (∀ i xs, s.fs i = some xs → IsSec xs) ∧ (∀ i xs, s.fw i = some xs → IsSec xs) ∧ -9223372036854775808 ≤ s.left ∧ s.left ≤ 9223372036854775807
theorem DiskAt.good {w : World} {g bs bw : Nat} {s : St} (h : DiskAt w g bs bw s) : Good s :=
  ⟨h.2.2.2.2.1, h.2.2.2.2.2.1, fun i xs e => (h.2.1.sec e).1, fun i xs e => (h.2.2.1.sec e).1, h.2.2.2.2.2.2.1, h.2.2.2.2.2.2.2.1⟩
theorem Good.fwl {s : St} (h : Good s) (i : Nat) : (s.fw i = none ∧ ((s.fw i).getD []).length = 0) ∨ ((s.fw i).isSome = true ∧ ((s.fw i).getD []).length = 512) := by
  cases e : s.fw i with
  | none => exact .inl ⟨rfl, rfl⟩
  | some xs => exact .inr ⟨rfl, (h.2.2.2.1 i xs e).1⟩
abbrev set4 (w : World) (g : Nat) (a b c d : Value) : World := (((w.setCell ⟨g, 0, none⟩ a).setCell ⟨g, 1, none⟩ b).setCell ⟨g, 2, none⟩ c).setCell ⟨g, 3, none⟩ d
theorem kept_set (w : World) {g i : Nat} (u : Value) {S : List Nat} (h : g ∈ S) : KeptBut w (w.setCell ⟨g, i, none⟩ u) S := kept_of_grown (grown_set w ⟨g, i, none⟩ u) h
theorem set4_kept {w w1 : World} {g : Nat} {a b c d : Value} {S : List Nat} (h : KeptBut w w1 S) (hg : g ∈ S) : KeptBut w (set4 w1 g a b c d) S :=
  (((h.trans (kept_set _ _ hg)).trans (kept_set _ _ hg)).trans (kept_set _ _ hg)).trans (kept_set _ _ hg)
theorem set4_below {B : Nat} {w w1 : World} {g : Nat} {a b c d : Value} (h : Below B w w1) (hg : B ≤ g) : Below B w (set4 w1 g a b c d) := (((h.setCell hg _).setCell hg _).setCell hg _).setCell hg _
theorem Try.info35 : (Try.prog.info? 22).map (fun i => (i.zero, i.size, i.bytes)) = some (some (.slice none 0 0), 1, 24) := by kernel_rfl
theorem Try.info3i : (Try.prog.info? 3).map (fun i => (i.zero, i.size, i.bytes)) = some (some (.int .i64 0), 1, 8) := by kernel_rfl
end Go.Proofs.Ytddhkajcakndlaa.Dsk
/- The reference of layer 3, its small calls: Get, act, Waiting, Torn. -/
namespace Go.Proofs.Ytddhkajcakndlaa.Dsk
open Go.RowKit Go.Maps Go.Proofs.Ytddhkajcakndlaa.Mem
set_option linter.unusedVariables false
set_option linter.unusedSimpArgs false
theorem RowS.at_ {w : World} {S : List Nat} {v : Value} {n i : Nat} {us : Nat → Value} (h : RowS w S v n us) (hi : i < n) :
    ∃ b off c, v = .slice (some ⟨b, off, none⟩) n c ∧ b < w.heap.size ∧ b ∉ S ∧ w.cell? ⟨b, off + i, none⟩ = some (us i) := by
  obtain ⟨A, c, rfl, h4, h5, h6, h7⟩ := h
  obtain ⟨b, off, rfl, hb, hn, hc⟩ := h7 (by omega)
  exact ⟨b, off, c, rfl, hb, hn, hc i hi⟩
def St.ract (s : St) : St × Bool := if s.dead = true then (s, false) else s.act
end Go.Proofs.Ytddhkajcakndlaa.Dsk
/- The reference of layer 3: Waiting, Torn. -/
namespace Go.Proofs.Ytddhkajcakndlaa.Dsk
open Go.RowKit Go.Maps Go.Proofs.Ytddhkajcakndlaa.Mem
set_option linter.unusedVariables false
set_option linter.unusedSimpArgs false
theorem own_form {w : World} {base n size : Nat} {e : TypeId} {v : Value} {xs : List Value} (h : w.ownsRow base e size v n xs) : ∃ A c, v = .slice A n c := by
  rcases h.2 with ⟨rfl, rfl⟩ | ⟨g, cap, cur, rfl, hg, hh, hnc, hm, hs, ht⟩
  · exact ⟨none, 0, rfl⟩
  · exact ⟨_, cap, rfl⟩
def wt (s : St) (k : Nat) : List Nat := (List.range k).filter fun i => (s.fw i).isSome
theorem wt_yes {s : St} {k : Nat} (h : (s.fw k).isSome = true) : wt s (k + 1) = wt s k ++ [k] := by
  unfold wt
  rw [List.range_succ, List.filter_append]
  simp [h]
theorem wt_no {s : St} {k : Nat} (h : s.fw k = none) : wt s (k + 1) = wt s k := by
  unfold wt
  rw [List.range_succ, List.filter_append]
  simp [h]
theorem wt_le (s : St) (k : Nat) : (wt s k).length ≤ k := by
  have := List.length_filter_le (fun i => (s.fw i).isSome) (List.range k)
  rw [List.length_range] at this
  exact this
theorem ints_append (xs ys : List Nat) : ints (xs ++ ys) = ints xs ++ ints ys := by simp [ints]
theorem ints_one (xs : List Nat) : ∀ u ∈ ints xs, u.oneCell' = true := by
  intro u hu
  simp only [ints, List.mem_map] at hu
  obtain ⟨x, _, rfl⟩ := hu
  rfl
end Go.Proofs.Ytddhkajcakndlaa.Dsk
/- The reference of layer 3: Torn. -/
namespace Go.Proofs.Ytddhkajcakndlaa.Dsk
open Go.RowKit Go.Maps Go.Proofs.Ytddhkajcakndlaa.Mem
set_option linter.unusedVariables false
set_option linter.unusedSimpArgs false
def tornK (b xs : List Nat) (k : Nat) : List Nat := b.take k ++ xs.drop k
theorem tornK_len {b xs : List Nat} {k : Nat} (h1 : k ≤ b.length) (h2 : k ≤ xs.length) : (tornK b xs k).length = xs.length := by
  simp [tornK]
  omega
theorem tornK_set {b xs : List Nat} {k : Nat} (h1 : k < b.length) (h2 : k < xs.length) : (vals (tornK b xs k)).set k (.int .u8 (b.getD k 0 : Nat)) = vals (tornK b xs (k + 1)) := by
  unfold tornK
  rw [List.take_add_one, List.getElem?_eq_getElem h1, List.drop_eq_getElem_cons h2]
  simp only [vals_append, Option.toList_some]
  have hl : (vals (b.take k)).length = k := by rw [vals_length, List.length_take]; omega
  rw [List.set_append_right _ _ (by omega), hl, Nat.sub_self]
  simp only [vals, List.map_cons, List.set_cons_zero, List.map_append, List.map_nil, List.append_assoc, List.cons_append, List.nil_append]
  simp [List.getD, List.getElem?_eq_getElem h1]
theorem tornK_end {b xs : List Nat} {k : Nat} (hx : xs.length = 512) (h : k = min b.length 512) : tornK b xs k = torn b xs := by
  unfold tornK torn
  by_cases hb : b.length ≤ 512
  · rw [h, Nat.min_eq_left hb, List.take_of_length_le (Nat.le_refl _), List.take_of_length_le hb]
  · rw [h, Nat.min_eq_right (by omega), List.drop_eq_nil_of_le (by omega), List.drop_eq_nil_of_le (by omega)]
end Go.Proofs.Ytddhkajcakndlaa.Dsk
/- The reference of layer 3: New. -/
namespace Go.Proofs.Ytddhkajcakndlaa.Dsk
open Go.RowKit Go.Maps Go.Proofs.Ytddhkajcakndlaa.Mem
set_option linter.unusedVariables false
set_option linter.unusedSimpArgs false
abbrev nilS : Value := .slice none 0 0
theorem made_all (z : Value) (n : Nat) : madeCells #[z] n = (List.replicate n z).toArray := by
  apply Array.ext
  · simp [madeCells]
  · intro i h1 h2
    simp [madeCells, Nat.mod_one]
theorem made512 : madeCells #[.int .u8 0] 512 = (vals noughts).toArray := by
  rw [made_all]
  simp only [vals, noughts, List.map_replicate]
  rfl
theorem make512 (w : World) : (Instr.makeSlice 22 (.int .i64 512) (.int .i64 512)).run Try.prog w = .ok (.slice (some ⟨w.heap.size, 0, none⟩) 512 512) (w.alloc (.cells (vals noughts).toArray 5)) := by
  have := run_make_row' (P := Try.prog) 22 5 (.int .u8 0) 1 Try.underlying22 Try.info5 rfl .i64 .i64 512 (by omega) (by omega) w
  rw [made512] at this
  exact this
theorem make_rows (n : Nat) (hn : n ≤ 1024) (w : World) : (Instr.makeSlice 29 (.int .i64 (n : Nat)) (.int .i64 (n : Nat))).run Try.prog w = .ok (.slice (some ⟨w.heap.size, 0, none⟩) n n) (w.alloc (.cells (madeCells #[nilS] n) 22)) :=
  run_make_row' (P := Try.prog) 29 22 nilS 24 Try.underlying29 Try.info35 rfl .i64 .i64 n (by omega) (by omega) w
/-- a new row of noughts -/
def NewSec (w : World) (base : Nat) (u : Value) : Prop := ∃ b, u = .slice (some ⟨b, 0, none⟩) 512 512 ∧ base ≤ b ∧ Blk w b 5 (vals noughts).toArray
theorem NewSec.slS {w : World} {base : Nat} {u : Value} {S : List Nat} (h : NewSec w base u) (hS : ∀ x ∈ S, x < base) : SlS w S u noughts := by
  obtain ⟨b, rfl, hb, hk⟩ := h
  refine ⟨_, 512, 512, rfl, isSec_noughts.1, isSec_noughts.2, by omega, Nat.le_refl _, by unfold maxLen; omega, fun e => (by cases e), fun _ => ⟨b, 0, rfl, hk.lt, fun hm => by have := hS b hm; omega, fun i hi => ?_⟩⟩
  rw [Nat.zero_add, hk.cell]
  simpa using vals_get noughts i (by rw [isSec_noughts.1]; omega)
theorem NewSec.grown {w w' : World} {base : Nat} {u : Value} {row : Option Nat} (h : NewSec w base u) (hg : w.grownBy w' row) (hr : ∀ b cs, Blk w b 5 cs → some b ≠ row) : NewSec w' base u := by
  obtain ⟨b, e, hb, hk⟩ := h
  exact ⟨b, e, hb, hk.grown hg (hr b _ hk)⟩
theorem NewSec.far {w : World} {base g : Nat} {i : Nat} {u x : Value} (h : NewSec w base u) {t : TypeId} {cs : Array Value} (hk : Blk w g t cs) (ht : t ≠ 5) : NewSec (w.setCell ⟨g, i, none⟩ x) base u := by
  obtain ⟨b, e, hb, hk'⟩ := h
  exact ⟨b, e, hb, hk'.far (p := ⟨g, i, none⟩) (hk'.ne_ hk (fun e => ht e.symm)) x⟩
theorem madeRow {w : World} {S : List Nat} (n : Nat) (hn : n ≤ 1024) {b : Nat} (hb : Blk w b 22 (madeCells #[nilS] n)) (hS : ∀ x ∈ S, x < b) : RowS w S (.slice (some ⟨b, 0, none⟩) n n) n (fun _ => nilS) := by
  refine ⟨_, n, rfl, Nat.le_refl _, by unfold maxLen; omega, fun e => (by cases e), fun _ => ⟨b, 0, rfl, hb.lt, fun hm => by have := hS b hm; omega, fun i hi => ?_⟩⟩
  rw [Nat.zero_add, hb.cell]
  simp [made_all, hi]
end Go.Proofs.Ytddhkajcakndlaa.Dsk
/- The reference of layer 3: Write. -/
namespace Go.Proofs.Ytddhkajcakndlaa.Dsk
open Go.RowKit Go.Maps Go.Proofs.Ytddhkajcakndlaa.Mem
set_option linter.unusedVariables false
set_option linter.unusedSimpArgs false
theorem SlS.raise {w : World} {S S' : List Nat} {u : Value} {xs : List Nat} (h : SlS w S u xs) (hs : ∀ x ∈ S', x ∈ S ∨ w.heap.size ≤ x) : SlS w S' u xs := by
  obtain ⟨A, n, c, rfl, h1, h2, h3, h4, h5, h6, h7⟩ := h
  refine ⟨A, n, c, rfl, h1, h2, h3, h4, h5, h6, fun h0 => ?_⟩
  obtain ⟨b, off, e, hb, hn, hc⟩ := h7 h0
  exact ⟨b, off, e, hb, fun hm => by rcases hs b hm with h | h; exact hn h; omega, hc⟩
theorem RowS.raise {w : World} {S S' : List Nat} {v : Value} {n : Nat} {us : Nat → Value} (h : RowS w S v n us) (hs : ∀ x ∈ S', x ∈ S ∨ w.heap.size ≤ x) : RowS w S' v n us := by
  obtain ⟨A, c, rfl, h4, h5, h6, h7⟩ := h
  refine ⟨A, c, rfl, h4, h5, h6, fun h0 => ?_⟩
  obtain ⟨b, off, e, hb, hn, hc⟩ := h7 h0
  exact ⟨b, off, e, hb, fun hm => by rcases hs b hm with h | h; exact hn h; omega, hc⟩
theorem RefAt.raise {w : World} {S S' : List Nat} {v : Value} {s : St} (h : RefAt w S v s) (hs : ∀ x ∈ S', x ∈ S ∨ w.heap.size ≤ x) : RefAt w S' v s := by
  obtain ⟨v1, v2, us1, us2, rfl, h1, h2, h3, h4⟩ := h
  exact ⟨v1, v2, us1, us2, rfl, h1.raise hs, h2.raise hs, fun i hi => (h3 i hi).raise hs, fun i hi => (h4 i hi).raise hs⟩
theorem raise_cons {S : List Nat} {B x : Nat} (h : B ≤ x) : ∀ y ∈ x :: S, y ∈ S ∨ B ≤ y := by
  intro y hy
  rcases List.mem_cons.1 hy with rfl | hy
  · exact .inr h
  · exact .inl hy
theorem cons_lt {S : List Nat} {B x C : Nat} (hS : ∀ y ∈ S, y < B) (hB : B ≤ C) (h : x < C) : ∀ y ∈ x :: S, y < C := by
  intro y hy
  rcases List.mem_cons.1 hy with rfl | hy
  · exact h
  · have := hS y hy; omega
theorem set_map_at (us : Nat → Value) (n i j : Nat) (u : Value) (hj : j < n) : (((List.range n).map us).set i u).getD j nilS = if j = i then u else us j := by
  rw [List.getD_eq_getElem?_getD, List.getElem?_set]
  by_cases e : j = i
  · subst e
    simp [hj]
  · rw [if_neg (fun h => e h.symm), if_neg e]
    simp [hj]
theorem ract_live {s : St} (h : s.dead = false) : s.ract = s.act := by simp [St.ract, h]
theorem act_n (s : St) : s.act.1.n = s.n := by unfold St.act; split <;> rfl
theorem act_fs (s : St) : s.act.1.fs = s.fs := by unfold St.act; split <;> rfl
theorem act_fw (s : St) : s.act.1.fw = s.fw := by unfold St.act; split <;> rfl
theorem refV_cells (A1 A2 : Option Addr) (n1 n2 c1 c2 : Nat) (s : St) : refV (.slice A1 n1 c1) (.slice A2 n2 c2) s = .agg #[.slice A1 n1 c1, .slice A2 n2 c2, .int .i64 (armedOf s.left), .bool s.dead] := rfl
end Go.Proofs.Ytddhkajcakndlaa.Dsk
/- The reference of layer 3: Flush. -/
namespace Go.Proofs.Ytddhkajcakndlaa.Dsk
open Go.RowKit Go.Maps Go.Shelf Go.Proofs.Ytddhkajcakndlaa.Mem
set_option linter.unusedVariables false
set_option linter.unusedSimpArgs false
theorem step_calls {P : Program} {ops : Array Oper} {o : Oper} {a : Act} {w : World} {K : Act → World → Prop} {Q : Exit → Act → World → Prop} {E : Prop} (hgd : o.guard = none) (f : FuncId) (args : Array Operand) (tys : Array TypeId)
    (ho : o.op = .call { callee := .value (.func f), args := args, argTypes := tys }) (vs : Array Value) (hv : args.map a.eval = vs) (hen : ∀ (args : Array Value) (w : World), (callFunc f args).run P w = .ok (.enter f args) w)
    {R : Ending → World → Prop} (hc : Calls P f vs w R) (h : ∀ e w', R e w' → ∃ v, e = .returned v ∧ K (a.put o.dst v) w') : if Region.wanted o (yielded ops a.tmps) = true then Oper.wp P o a w K Q else E := by
  have hw : Region.wanted o (yielded ops a.tmps) = true := by simp [Region.wanted, hgd]
  rw [if_pos hw]
  have hrun : (execOp a.eval o).run P w = .ok (.enter f vs) w := by
    unfold execOp
    simp [ho, resolve, invoke, Act.eval, Deferred.ofValue, Result.andThen]
    have hv' : Array.map (fun x => a.eval x) args = vs := hv
    rw [hv']
    exact hen vs w
  unfold Oper.wp
  rw [hrun]
  show Calls P f vs w _
  refine hc.mono fun e w' hr => ?_
  obtain ⟨v, rfl, hk⟩ := h e w' hr
  exact hk
theorem KeptBut.grownAbove {w w1 w2 : World} {S : List Nat} {row : Option Nat} (h : KeptBut w w1 S) (hg : w1.grownBy w2 row) (hr : ∀ g, row = some g → w.heap.size ≤ g) : KeptBut w w2 S :=
  ⟨hg.os.trans h.os, hg.tape.trans h.tape, hg.output.trans h.output, Nat.le_trans h.size hg.size, fun g hg' hn => (hg.block g (Nat.lt_of_lt_of_le hg' h.size) (fun e => by have := hr g e.symm; omega)).trans (h.block g hg' hn)⟩
theorem lit_reads (W : World) (u : Value) (t : TypeId) : Reads (W.alloc (.cells #[u] t)) (W.heap.size + 1) 1 (some ⟨W.heap.size, 0, none⟩) 1 [u] := by
  refine ⟨by simp, fun _ => ⟨_, rfl, by simp, fun j v hv => ?_⟩⟩
  have hj : j = 0 := by
    have := (List.getElem?_eq_some_iff.1 hv).1
    simp at this
    omega
  subst hj
  simp at hv
  subst hv
  rw [add_plain]
  exact (Blk.new W t #[u]).cell 0
def getU (s : St) (us1 us2 : Nat → Value) (i : Nat) : Value := if (s.fw i).isSome = true then us2 i else us1 i
end Go.Proofs.Ytddhkajcakndlaa.Dsk
/- The reference of layer 3: Crash. -/
namespace Go.Proofs.Ytddhkajcakndlaa.Dsk
open Go.RowKit Go.Maps Go.Shelf Go.Proofs.Ytddhkajcakndlaa.Mem
set_option linter.unusedVariables false
set_option linter.unusedSimpArgs false
theorem tears_fs (l : List (Nat × Int × List Nat)) (j : Nat) : ∀ (s : St), (∀ p ∈ l, p.1 ≠ j) → (s.tears l).fs j = s.fs j := by
  induction l with
  | nil => exact fun s _ => rfl
  | cons p r ih =>
    intro s h
    have h1 : (s.tear p.1 p.2.1 p.2.2).fs j = s.fs j := by
      have hp := h p (List.mem_cons_self ..)
      unfold St.tear
      split
      · show (if j = p.1 then _ else _) = _
        rw [if_neg (fun e => hp e.symm)]
      · split
        · show (if j = p.1 then _ else _) = _
          rw [if_neg (fun e => hp e.symm)]
        · rfl
    exact (ih (s.tear p.1 p.2.1 p.2.2) (fun q hq => h q (List.mem_cons_of_mem _ hq))).trans h1
theorem waiting_nodup (s : St) : s.waiting.Nodup := (List.nodup_range).filter _
theorem tears_at (s : St) (l : List (Int × List Nat)) (k : Nat) (hk : k < s.waiting.length) : (s.tears ((s.waiting.zip l).take k)).fs (s.waiting.getD k 0) = s.fs (s.waiting.getD k 0) := by
  refine tears_fs _ _ s fun p hp e => ?_
  obtain ⟨j, hpj⟩ := List.getElem?_of_mem hp
  rw [List.getElem?_take] at hpj
  split at hpj
  · rename_i hjk
    rw [List.getElem?_zip_eq_some] at hpj
    have h1 := hpj.1
    have h2 : s.waiting[k]? = some (s.waiting.getD k 0) := by simp [List.getD, List.getElem?_eq_getElem hk]
    rw [e, ← h2] at h1
    have := (List.getElem?_inj (by omega) (waiting_nodup s)).1 h1
    omega
  · cases hpj
theorem map_set (us : Nat → Value) (n i : Nat) (u : Value) : ((List.range n).map us).set i u = (List.range n).map (fun j => if j = i then u else us j) := by
  apply List.ext_getElem?
  intro j
  by_cases hj : j < n
  · rw [List.getElem?_set]
    by_cases e : i = j
    · subst e; simp [hj]
    · have e' : ¬ j = i := fun h => e h.symm
      simp [e, e', hj]
  · rw [List.getElem?_eq_none (by simp; omega), List.getElem?_eq_none (by simp; omega)]
theorem step_sls {w w' : World} {S : List Nat} {n i : Nat} {us : Nat → Value} {f : Nat → Option (List Nat)} {u : Value} {ys : List Nat} (h : ∀ j, j < n → SlS w S (us j) ((f j).getD noughts)) (k : KeptBut w w' S) (hu : SlS w' S u ys) :
    ∀ j, j < n → SlS w' S (if j = i then u else us j) ((upd1 f i ys j).getD noughts) := by
  intro j hj
  unfold upd1
  by_cases e : j = i
  · rw [if_pos e, if_pos e]
    exact hu
  · rw [if_neg e, if_neg e]
    exact (h j hj).kept k
theorem getD_some_any {o : Option (List Nat)} (h : o.isSome = true) (a b : List Nat) : o.getD a = o.getD b := by
  obtain ⟨x, rfl⟩ := Option.isSome_iff_exists.1 h
  rfl
theorem far_cell {g i b o : Nat} {u : Value} (w : World) (h : b ≠ g) : (w.setCell ⟨g, i, none⟩ u).cell? ⟨b, o, none⟩ = w.cell? ⟨b, o, none⟩ :=
  World.cell?_setCell_other w _ _ _ (fun e => h (by injection e with e1; exact e1.symm))
theorem blk_of_own {w : World} {base n cap gr size : Nat} {e : TypeId} {xs : List Value} (h : w.ownsRow base e size (.slice (some ⟨gr, 0, none⟩) n cap) n xs) : ∃ cs, Blk w gr e cs := by
  rcases h.2 with ⟨h', _⟩ | ⟨g', cap', cur, h', _, hg, _⟩
  · cases h'
  · injection h' with h1 _ _
    injection h1 with h1
    injection h1 with h1
    subst h1
    exact ⟨cur, hg⟩
theorem blk_c0 {w : World} {g : Nat} {t : TypeId} {a b c d : Value} (h : Blk w g t #[a, b, c, d]) : w.cell? ⟨g, 0, none⟩ = some a := by rw [h.cell]; rfl
theorem blk_last {w : World} {g : Nat} {t : TypeId} {cs : Array Value} (hg : g = w.heap.size) : Blk (w.alloc (.cells cs t)) g t cs := by subst hg; exact Blk.new _ _ _
theorem lit_last {w : World} {g base : Nat} (hg : g = w.heap.size) (hb : base ≤ w.heap.size) : (w.alloc (.cells #[] 22)).ownsRow base 22 1 (.slice (some ⟨g, 0, none⟩) 0 0) 0 [] := by
  subst hg
  exact World.ownsRow_lit w #[] 0 hb (by unfold maxLen; omega) rfl
theorem set4_blk {w : World} {g : Nat} {t : TypeId} {a b c d a' b' c' d' : Value} (h : Blk w g t #[a, b, c, d]) : Blk (set4 w g a' b' c' d') g t #[a', b', c', d'] := (((h.set_ 0 a').set_ 1 b').set_ 2 c').set_ 3 d'
theorem set4_far {w : World} {g g' : Nat} {t : TypeId} {cs : Array Value} {a' b' c' d' : Value} (h : Blk w g t cs) (hn : g ≠ g') : Blk (set4 w g' a' b' c' d') g t cs :=
  (((h.far (p := ⟨g', 0, none⟩) hn _).far (p := ⟨g', 1, none⟩) hn _).far (p := ⟨g', 2, none⟩) hn _).far (p := ⟨g', 3, none⟩) hn _
theorem set4_own {w : World} {base g size n : Nat} {e t : TypeId} {v : Value} {xs : List Value} {cs : Array Value} {a' b' c' d' : Value} (h : w.ownsRow base e size v n xs) (hb : Blk w g t cs) (ht : e ≠ t) : (set4 w g a' b' c' d').ownsRow base e size v n xs := by
  have hn : v.ownBlock ≠ some g := own_blk_ne h hb ht
  have k : w.grownBy (set4 w g a' b' c' d') (some g) := grown_trans (grown_trans (grown_trans (grown_set w ⟨g, 0, none⟩ a') (grown_set _ ⟨g, 1, none⟩ b')) (grown_set _ ⟨g, 2, none⟩ c')) (grown_set _ ⟨g, 3, none⟩ d')
  exact h.kept k (.inr hn)
end Go.Proofs.Ytddhkajcakndlaa.Dsk
