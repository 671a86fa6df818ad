/- Appends of whole slices of pages onto a row of the call's own (layer 5). -/
import Derived.Test.YtkidjlmjjfgknaaRefSplit
namespace Go.Proofs.Ytkidjlmjjfgknaa.Rcd
open Go.RowKit Go.Proofs.Ytkidjlmjjfgknaa.Mem Go.Proofs.Ytkidjlmjjfgknaa.Oct Go.Proofs.Ytkidjlmjjfgknaa.Pg
set_option linter.unusedVariables false
set_option linter.unusedSimpArgs false
theorem blk_up {w w' : World} {g : Nat} {t : TypeId} {cs : Array Value} (hb : Below w.heap.size w w') (h : Blk w g t cs) : Blk w' g t cs := h.below hb h.lt
theorem pgs_up {w w' : World} {v : Value} {ps : List P} (hb : Below w.heap.size w w') (h : Pgs w w.heap.size v ps) : Pgs w' w'.heap.size v ps := (h.below hb (Nat.le_refl _)).more hb.size
theorem flat_ones : ∀ (ps : List P) (us : List Value), (∀ u ∈ us, u.oneCell' = true) → ∀ u ∈ flat ps us, u.oneCell' = true
  | [], us, _, u, hu => by cases us <;> simp [flat] at hu
  | p :: ps, [], _, u, hu => by simp [flat] at hu
  | p :: ps, v :: us, h, u, hu => by
    rw [flat, List.mem_append] at hu
    rcases hu with hu | hu
    · have hv := h v (by simp)
      simp only [row, List.mem_cons, List.not_mem_nil, or_false] at hu
      rcases hu with rfl | rfl | rfl | rfl | rfl | rfl | rfl
      · rfl
      · rfl
      · rfl
      · rfl
      · rfl
      · rfl
      · exact hv
    · exact flat_ones ps us (fun x hx => h x (by simp [hx])) u hu
/-- what a slice of pages gives to an append -/
structure Src (w : World) (B : Nat) (A : Option Addr) (n : Nat) (ps : List P) (us : List Value) : Prop where
  len : us.length = ps.length
  num : ps.length = n
  reads : Reads w B 7 A n (flat ps us)
  sb : ∀ i, i < ps.length → Sb w B (us.getD i undef) (ps.getD i noP).b
  ones : ∀ u ∈ flat ps us, u.oneCell' = true
theorem src_of {w : World} {B n c : Nat} {A : Option Addr} {ps : List P} (h : Pgs w B (.slice A n c) ps) : ∃ us, Src w B A n ps us := by
  obtain ⟨us, h1, h2, h3⟩ := pgs_reads h
  refine ⟨us, h1, (pgs_len h).1, h2, h3, flat_ones _ _ fun u hu => ?_⟩
  obtain ⟨i, hi, rfl⟩ := List.mem_iff_getElem.1 hu
  obtain ⟨A', n', c', e, _⟩ := h3 i (by omega)
  simp only [List.getD, List.getElem?_eq_getElem hi, Option.getD_some] at e
  rw [e]
  rfl
theorem Src.below {w w' : World} {B n : Nat} {A : Option Addr} {ps : List P} {us : List Value} (h : Src w B A n ps us) (hb : Below B w w') : Src w' B A n ps us :=
  ⟨h.len, h.num, h.reads.below hb, fun i hi => (h.sb i hi).below hb (Nat.le_refl _), h.ones⟩
theorem own_lit24 (w : World) (base : Nat) (hb : base ≤ w.heap.size) : (w.alloc (.cells #[] 43)).ownsRow base 43 7 (.slice (some ⟨w.heap.size, 0, none⟩) 0 0) 0 [] :=
  World.ownsRow_lit w #[] 0 hb (by unfold maxLen; omega) rfl
theorem app_first {w5 w6 : World} {v6 : Value} {A : Option Addr} {n : Nat} {ps : List P} {us : List Value} (hp : Src w5 w5.heap.size A n ps us) (hown : w6.ownsRow w5.heap.size 43 7 v6 (0 + n) ([] ++ flat ps us))
    (hg : (w5.alloc (.cells #[] 43)).grownBy w6 (Value.slice (some ⟨w5.heap.size, 0, none⟩) 0 0).ownBlock) (hv : v6.ownBlock = (Value.slice (some ⟨w5.heap.size, 0, none⟩) 0 0).ownBlock ∨ v6.ownBlock = some (w5.alloc (.cells #[] 43)).heap.size) :
    OwnPgs w6 w5.heap.size v6 ps ∧ Below w5.heap.size w5 w6 := by
  have hb := palloc (Below.refl w5.heap.size w5) (.cells #[] 43)
  refine ⟨?_, hb.grown hg hb.size (fun q hq => by simp [Value.ownBlock] at hq; omega)⟩
  have h := own_app (w := w5.alloc (.cells #[] 43)) (w' := w6) (base := w5.heap.size) (v := .slice (some ⟨w5.heap.size, 0, none⟩) 0 0) (v' := v6) (ps := []) (qs := ps) (vs := []) (us := us) rfl hp.len (fun i hi => absurd hi (by simp))
    (fun i hi => sba_of ((hp.sb i hi).below hb (Nat.le_refl _)) hb.size (fun k hk => by simp [Value.ownBlock] at hk; omega)) (by rw [List.length_nil, hp.num]; exact hown) hg hv
  exact h
theorem app_next {w6 w7 : World} {v6 v7 : Value} {B n : Nat} {A : Option Addr} {ps qs : List P} {vs us : List Value} (hl : vs.length = ps.length) (hown : w6.ownsRow B 43 7 v6 ps.length (flat ps vs))
    (hs : ∀ i, i < ps.length → SbA w6 v6.ownBlock (vs.getD i undef) (ps.getD i noP).b) (hB : B ≤ w6.heap.size) (hq : Src w6 B A n qs us) (hown7 : w7.ownsRow B 43 7 v7 (ps.length + n) (flat ps vs ++ flat qs us))
    (hg : w6.grownBy w7 v6.ownBlock) (hv : v7.ownBlock = v6.ownBlock ∨ v7.ownBlock = some w6.heap.size) : OwnPgs w7 B v7 (ps ++ qs) :=
  own_app hl hq.len hs (fun i hi => sba_of (hq.sb i hi) hB (fun k hk => (hown.lt k hk).1)) (by rw [hq.num]; exact hown7) hg hv
end Go.Proofs.Ytkidjlmjjfgknaa.Rcd
