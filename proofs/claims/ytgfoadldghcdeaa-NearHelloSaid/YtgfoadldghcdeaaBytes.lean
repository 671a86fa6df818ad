/- Slices of bytes in memory: how they read, are kept, cut, appended to; and what a law is told of one that came in. No program is named here. -/
import Derived.Test.YtgfoadldghcdeaaMem
import Derived.Test.YtgfoadldghcdeaaOpen
import Derived.WalkKit
import Derived.WalkSpells
import Derived.WalkLawsBesides
import Derived.WalkSmall
import Derived.Lib.Hide
import Derived.Lib.SmallJoins
import Derived.OpenShut
import Derived.Laws.AppendOwnNone
namespace Go.Proofs.Ytgfoadldghcdeaa.Mem
open Go.RowKit
set_option linter.unusedVariables false
/-- bytes in memory: the slice of address A and length n reads as xs, below block B -/
def Bts (w : World) (B : Nat) (A : Option Addr) (n : Nat) (xs : List Nat) : Prop :=
  xs.length = n ∧ (∀ x ∈ xs, x < 256) ∧ n ≤ 1000000 ∧ (0 < n → ∃ b off, A = some ⟨b, off, none⟩ ∧ b < B ∧ ∀ i, i < n → w.cell? ⟨b, off + i, none⟩ = some (.int .u8 (xs.getD i 0 : Nat)))
def u8s (xs : List Nat) : Array Value := (xs.map fun (x : Nat) => Value.int .u8 (x : Int)).toArray
theorem u8s_get (xs : List Nat) (i : Nat) (h : i < xs.length) : (u8s xs)[i]? = some (.int .u8 (xs.getD i 0 : Nat)) := by
  simp [u8s, List.getD, List.getElem?_eq_getElem h]
theorem bts_row {w : World} {B g n : Nat} {xs : List Nat} (hg : g < B) (hx : ∀ x ∈ xs, x < 256) (hn : n ≤ 1000000) (hl : xs.length = n)
    (hc : ∀ i, i < n → w.cell? ⟨g, i, none⟩ = some (.int .u8 (xs.getD i 0 : Nat))) : Bts w B (some ⟨g, 0, none⟩) n xs :=
  ⟨hl, hx, hn, fun _ => ⟨g, 0, rfl, hg, fun i hi => by rw [Nat.zero_add]; exact hc i hi⟩⟩
theorem getD_lt {a : List Nat} (h : ∀ x ∈ a, x < 256) (i : Nat) : a.getD i 0 < 256 := by
  rcases Nat.lt_or_ge i a.length with hl | hl
  · simp only [List.getD, List.getElem?_eq_getElem hl, Option.getD_some]; exact h _ (List.getElem_mem hl)
  · simp [List.getD, List.getElem?_eq_none hl]
theorem take_lt {xs : List Nat} (h : ∀ x ∈ xs, x < 256) (j : Nat) : ∀ x ∈ xs.take j, x < 256 := fun x hx => h x (List.mem_of_mem_take hx)
theorem drop_lt {xs : List Nat} (h : ∀ x ∈ xs, x < 256) (j : Nat) : ∀ x ∈ xs.drop j, x < 256 := fun x hx => h x (List.mem_of_mem_drop hx)
theorem ret_bool {a b : Bool} (h : a = b) : Ending.returned (.bool a) = .returned (.bool b) := by rw [h]
theorem ret_int {k : IntKind} {a b : Int} (h : a = b) : Ending.returned (.int k a) = .returned (.int k b) := by rw [h]
theorem val_int {k : IntKind} {a b : Int} (h : a = b) : Value.int k a = .int k b := by rw [h]
/-- what the walk is told of a slice of integers that came in: it is nil; or it leads to a row of numbers, each fitting its kind -/
def IsRow (k : IntKind) (w : World) (a : Option Addr) (len cap : Nat) (zs : List Int) : Prop :=
  (a = none ∧ len = 0 ∧ cap = 0 ∧ zs = []) ∨
  ∃ x, a = some x ∧ len ≤ cap ∧ cap ≤ maxLen ∧ zs.length = cap ∧ (∀ i, i < zs.length → w.cell? (x.add i) = some (.int k (zs.getD i 0))) ∧ ∀ n ∈ zs, (Lit.int k n).wf = true
def natsOf (zs : List Int) (n : Nat) : List Nat := (zs.take n).map Int.toNat
theorem natsOf_getD (zs : List Int) (n i : Nat) (hi : i < n) (hz : n ≤ zs.length) (h0 : 0 ≤ zs.getD i 0) : (((natsOf zs n).getD i 0 : Nat) : Int) = zs.getD i 0 := by
  have hl : i < zs.length := by omega
  have e : zs.getD i 0 = zs[i] := by simp [List.getD, List.getElem?_eq_getElem hl]
  rw [e] at h0 ⊢
  simp only [natsOf, List.getD, List.getElem?_map, List.getElem?_take, if_pos hi, List.getElem?_eq_getElem hl, Option.map_some, Option.getD_some]
  exact Int.toNat_of_nonneg h0
theorem bts_of_row {w : World} {a : Option Addr} {len cap : Nat} {zs : List Int} (h : IsRow .u8 w a len cap zs) (hl : len ≤ 1000000) :
    ∃ xs, Bts w w.heap.size a len xs ∧ len ≤ cap ∧ cap ≤ maxLen := by
  rcases h with ⟨rfl, rfl, rfl, rfl⟩ | ⟨x, rfl, hlc, hm, hz, hcell, hwz⟩
  · exact ⟨[], ⟨rfl, by simp, by omega, fun h => absurd h (by omega)⟩, by omega, by unfold maxLen; omega⟩
  · have hr := Go.range_u8 hwz
    refine ⟨natsOf zs len, ⟨by simp [natsOf]; omega, ?_, hl, fun h0 => ?_⟩, hlc, hm⟩
    · intro y hy
      simp only [natsOf, List.mem_map] at hy
      obtain ⟨n, hn, rfl⟩ := hy
      have := Go.bounds_u8 (hwz n (List.mem_of_mem_take hn))
      omega
    · obtain ⟨b, off, spot⟩ := x
      have h1 := hcell 0 (by omega)
      have hs : spot = none := by simpa [Addr.add] using World.cell?_spot h1
      subst hs
      have hb : b < w.heap.size := by
        have := block_lt_of_cell h1
        simpa [Addr.add] using this
      refine ⟨b, off, rfl, hb, fun i hi => ?_⟩
      have hc := hcell i (by omega)
      have ea : (⟨b, off, none⟩ : Addr).add i = ⟨b, off + i, none⟩ := by
        unfold Addr.add
        split
        · rename_i h; subst h; rfl
        · rfl
      rw [ea] at hc
      rw [hc, natsOf_getD zs len i hi (by omega) (hr i).1]
theorem Bts.keep {w w' : World} {B n : Nat} {A : Option Addr} {xs : List Nat} (h : Bts w B A n xs) (hk : ∀ p : Addr, p.block < B → w'.cell? p = w.cell? p) : Bts w' B A n xs :=
  ⟨h.1, h.2.1, h.2.2.1, fun h0 => by
    obtain ⟨b, off, e, hb, hc⟩ := h.2.2.2 h0
    exact ⟨b, off, e, hb, fun i hi => (hk ⟨b, off + i, none⟩ hb).trans (hc i hi)⟩⟩
theorem Bts.more {w : World} {B B' n : Nat} {A : Option Addr} {xs : List Nat} (h : Bts w B A n xs) (hB : B ≤ B') : Bts w B' A n xs :=
  ⟨h.1, h.2.1, h.2.2.1, fun h0 => by
    obtain ⟨b, off, e, hb, hc⟩ := h.2.2.2 h0
    exact ⟨b, off, e, by omega, hc⟩⟩
theorem Bts.drew {w : World} {B n : Nat} {A : Option Addr} {xs : List Nat} (h : Bts w B A n xs) : Bts w.drew B A n xs := h
theorem Bts.alloc {w : World} {B n : Nat} {A : Option Addr} {xs : List Nat} (h : Bts w B A n xs) (hB : B ≤ w.heap.size) (o : Obj) : Bts (w.alloc o) B A n xs :=
  h.keep fun p hp => World.cell?_alloc_lt w o p (by omega)
theorem Bts.below {w w' : World} {B B' n : Nat} {A : Option Addr} {xs : List Nat} (h : Bts w B A n xs) (hb : Below B' w w') (hB : B ≤ B') : Bts w' B A n xs :=
  h.keep fun p hp => hb.cell (by omega)
def vals (xs : List Nat) : List Value := xs.map fun (x : Nat) => Value.int .u8 (x : Int)
theorem vals_length (xs : List Nat) : (vals xs).length = xs.length := by simp [vals]
theorem vals_one (xs : List Nat) : ∀ u ∈ vals xs, u.oneCell' = true := by
  intro u hu
  simp only [vals, List.mem_map] at hu
  obtain ⟨x, _, rfl⟩ := hu
  rfl
theorem vals_append (xs ys : List Nat) : vals (xs ++ ys) = vals xs ++ vals ys := by simp [vals]
theorem vals_at {xs : List Nat} {j : Nat} {u : Value} (h : (vals xs)[j]? = some u) : j < xs.length ∧ u = .int .u8 (xs.getD j 0 : Nat) := by
  have hl : j < xs.length := by
    have := (List.getElem?_eq_some_iff.1 h).1
    rwa [vals_length] at this
  refine ⟨hl, ?_⟩
  simp only [vals, List.getElem?_map, List.getElem?_eq_getElem hl, Option.map_some, Option.some.injEq] at h
  rw [← h]
  simp [List.getD, List.getElem?_eq_getElem hl]
theorem vals_get (xs : List Nat) (j : Nat) (h : j < xs.length) : (vals xs)[j]? = some (.int .u8 (xs.getD j 0 : Nat)) := by
  simp [vals, List.getD, List.getElem?_eq_getElem h]
/-- where the address is given, the cells lie there -/
theorem bts_cells {w : World} {B n : Nat} {ad : Addr} {xs : List Nat} (h : Bts w B (some ad) n xs) : ∀ j u, (vals xs)[j]? = some u → w.cell? (ad.add j) = some u := by
  intro j u hu
  obtain ⟨hl, rfl⟩ := vals_at hu
  have hn := h.1
  obtain ⟨b, off, e, _, hc⟩ := h.2.2.2 (by omega)
  injection e with e
  subst e
  rw [← hc j (by omega)]
  congr 1
  unfold Addr.add
  split
  · rename_i h0; subst h0; rfl
  · rfl
theorem bts_own {w : World} {base n : Nat} {v : Value} {xs : List Nat} (h : w.ownsRow base 5 1 v n (vals xs)) (hx : ∀ x ∈ xs, x < 256) (hn : n ≤ 1000000) :
    ∃ A c, v = .slice A n c ∧ Bts w w.heap.size A n xs ∧ n ≤ c ∧ c ≤ maxLen := by
  have hl : xs.length = n := by have := h.1; rw [vals_length] at this; omega
  rcases h.2 with ⟨rfl, rfl⟩ | ⟨g, cap, cur, rfl, hg, hh, hnc, hm, hs, ht⟩
  · exact ⟨none, 0, rfl, ⟨hl, hx, hn, fun h0 => absurd h0 (by omega)⟩, by omega, by unfold maxLen; omega⟩
  · have hlt : g < w.heap.size := (h.lt g rfl).2
    exact ⟨_, cap, rfl, bts_row hlt hx hn hl fun i hi => by rw [h.cellAt i (by omega), vals_get xs i (by omega)], hnc, hm⟩
theorem Try.info5 : (Try.prog.info? 5).map (fun i => (i.zero, i.size, i.bytes)) = some (some (.int .u8 0), 1, 1) := by kernel_rfl
theorem add_plain (b off j : Nat) : (⟨b, off, none⟩ : Addr).add j = ⟨b, off + j, none⟩ := by
  unfold Addr.add
  split
  · rename_i h0; subst h0; rfl
  · rfl
/-- a cut of bytes, whatever the address -/
theorem bts_sliced {w : World} {B n cap : Nat} {A : Option Addr} {xs : List Nat} (h : Bts w B A n xs) (i k : Nat) (hik : i ≤ k) (hk : k ≤ n) (hc : n ≤ cap) :
    ∃ A', sliced A i k cap 1 = .slice A' (k - i) (cap - i) ∧ Bts w B A' (k - i) ((xs.drop i).take (k - i)) := by
  refine ⟨_, rfl, ?_⟩
  obtain ⟨hl, hx, hn, hA⟩ := h
  refine ⟨by simp; omega, fun x hxx => hx x (List.mem_of_mem_drop (List.mem_of_mem_take hxx)), by omega, fun h0 => ?_⟩
  obtain ⟨b, off, rfl, hb, hcell⟩ := hA (by omega)
  rw [if_neg (by omega)]
  refine ⟨b, off + i, by simp [add_plain], hb, fun j hj => ?_⟩
  rw [Nat.add_assoc, hcell (i + j) (by omega)]
  have : ((xs.drop i).take (k - i)).getD j 0 = xs.getD (i + j) 0 := by simp [List.getD, List.getElem?_drop, hj]
  rw [this]
theorem Bts.take {w : World} {B n k : Nat} {A : Option Addr} {xs : List Nat} (h : Bts w B A n xs) (hk : k ≤ n) : Bts w B A k (xs.take k) := by
  obtain ⟨hl, hx, hn, hA⟩ := h
  refine ⟨by simp; omega, take_lt hx k, by omega, fun h0 => ?_⟩
  obtain ⟨b, off, e, hb, hc⟩ := hA (by omega)
  refine ⟨b, off, e, hb, fun i hi => ?_⟩
  rw [hc i (by omega)]
  have : (xs.take k).getD i 0 = xs.getD i 0 := by simp [List.getD, hi]
  rw [this]
theorem Bts.some_ {w : World} {B n : Nat} {A : Option Addr} {xs : List Nat} (h : Bts w B A n xs) (hn : 0 < n) : ∃ ad, A = some ad := by
  obtain ⟨b, off, e, _⟩ := h.2.2.2 hn
  exact ⟨_, e⟩
theorem bts_nil (w : World) (B : Nat) (A : Option Addr) : Bts w B A 0 [] := ⟨rfl, by simp, by omega, fun h => absurd h (by omega)⟩
theorem Bts.cast {w : World} {B n n' : Nat} {A : Option Addr} {xs xs' : List Nat} (h : Bts w B A n xs) (hn : n = n') (hx : xs = xs') : Bts w B A n' xs' := by subst hn; subst hx; exact h
theorem Bts.grown {w w' : World} {B n : Nat} {A : Option Addr} {xs : List Nat} {row : Option Nat} (h : Bts w B A n xs) (hg : w.grownBy w' row) (hB : B ≤ w.heap.size) (hr : ∀ g, row = some g → B ≤ g) : Bts w' B A n xs :=
  h.keep fun p hp => World.cell?_of_block (hg.block p.block (by omega) (fun e => by have := hr _ e.symm; omega))
theorem Bts.drewN {w : World} {B n : Nat} {A : Option Addr} {xs : List Nat} (h : Bts w B A n xs) (m : Nat) : Bts (w.drewN m) B A n xs := h
theorem below_drewN {B : Nat} {w w' : World} (h : Below B w w') (n : Nat) : Below B w (w'.drewN n) := ⟨h.os, h.tape, h.output, h.size, h.block⟩
/-- as a row of cells -/
theorem Bts.reads {w : World} {B n : Nat} {A : Option Addr} {xs : List Nat} (h : Bts w B A n xs) : Reads w B 1 A n (vals xs) := by
  refine ⟨by rw [vals_length, h.1, Nat.mul_one], fun hn => ?_⟩
  obtain ⟨b, off, rfl, hb, _⟩ := h.2.2.2 hn
  exact ⟨_, rfl, hb, bts_cells h⟩
theorem row_none {k : IntKind} {w : World} {a : Option Addr} {len cap : Nat} {zs : List Int} (h : IsRow k w a len cap zs) : a = none → cap = 0 := by
  intro e
  rcases h with ⟨_, _, h, _⟩ | ⟨x, h, _⟩
  · exact h
  · rw [h] at e; cases e
theorem row_at {k : IntKind} {w : World} {A : Option Addr} {n c : Nat} {zs : List Int} (h : IsRow k w A n c zs) (i : Nat) (hi : i < n) :
    ∃ b off, A = some ⟨b, off, none⟩ ∧ b < w.heap.size ∧ w.cell? ⟨b, off + i, none⟩ = some (.int k (zs.getD i 0)) ∧ (Lit.int k (zs.getD i 0)).wf = true := by
  rcases h with ⟨rfl, rfl, rfl, rfl⟩ | ⟨x, rfl, hlc, hm, hz, hcell, hwz⟩
  · omega
  · obtain ⟨b, off, spot⟩ := x
    have h1 := hcell 0 (by omega)
    have hs : spot = none := by simpa [Addr.add] using World.cell?_spot h1
    subst hs
    have hc := hcell i (by omega)
    rw [add_plain] at hc
    refine ⟨b, off, rfl, block_lt_of_cell hc, hc, ?_⟩
    have hl : i < zs.length := by omega
    have e : zs.getD i 0 = zs[i] := by simp [List.getD, List.getElem?_eq_getElem hl]
    rw [e]
    exact hwz _ (List.getElem_mem hl)
section
open Go.ChangeShapes Go.WideShapes Go.ChangeAt
variable {H : Type} {enc : TypeId × Value → H} {P : Program} {w : World} {base : Nat} {spare : Nat → Bool} {held : Bool} {fuel : Nat} {v : Value} {y : DataW H × List MemPlace}
/-- a field, or an element, that is a slice of integers -/
theorem open_row_at {t e : TypeId} {k : IntKind} (ht : P.underlying t = some (.slice e)) (he : P.underlying e = some (.int k)) (hc : P.cellsOf e = 1) (h : DataW.trod enc P w base (fun _ => true) held fuel t [v] = some y) :
    ∃ A len cap zs, v = .slice A len cap ∧ IsRow k w A len cap zs := by
  rcases open_ints ht he hc h with ⟨hcs, _⟩ | ⟨x, l, c, zs, hcs, _, hl, hm, hz, _, hcell, hwz⟩
  · simp at hcs
    subst hcs
    exact ⟨none, 0, 0, [], rfl, .inl ⟨rfl, rfl, rfl, rfl⟩⟩
  · simp at hcs
    subst hcs
    exact ⟨some x, l, c, zs, rfl, .inr ⟨x, rfl, hl, hm, by simpa using hz, hcell, hwz⟩⟩
end
/-- a slice of bytes, as a value -/
def Sl (w : World) (B : Nat) (v : Value) (xs : List Nat) : Prop :=
  ∃ (A : Option Addr) (n c : Nat), v = .slice A n c ∧ Bts w B A n xs ∧ n ≤ c ∧ c ≤ maxLen ∧ (A = none → c = 0)
section
variable {w w' : World} {B B' : Nat} {v : Value} {xs : List Nat}
theorem Sl.keep (h : Sl w B v xs) (hk : ∀ p : Addr, p.block < B → w'.cell? p = w.cell? p) : Sl w' B v xs := by
  obtain ⟨A, n, c, rfl, hb, h1⟩ := h
  exact ⟨A, n, c, rfl, hb.keep hk, h1⟩
theorem Sl.more (h : Sl w B v xs) (hB : B ≤ B') : Sl w B' v xs := by
  obtain ⟨A, n, c, rfl, hb, h1⟩ := h
  exact ⟨A, n, c, rfl, hb.more hB, h1⟩
theorem Sl.below (h : Sl w B v xs) (hb : Below B' w w') (hB : B ≤ B') : Sl w' B v xs := h.keep fun p hp => hb.cell (by omega)
theorem Sl.alloc (h : Sl w B v xs) (hB : B ≤ w.heap.size) (o : Obj) : Sl (w.alloc o) B v xs := h.keep fun p hp => World.cell?_alloc_lt w o p (by omega)
theorem Sl.drew (h : Sl w B v xs) : Sl w.drew B v xs := h
theorem Sl.drewN (h : Sl w B v xs) (m : Nat) : Sl (w.drewN m) B v xs := h
theorem Sl.grown {row : Option Nat} (h : Sl w B v xs) (hg : w.grownBy w' row) (hB : B ≤ w.heap.size) (hr : ∀ g, row = some g → B ≤ g) : Sl w' B v xs :=
  h.keep fun p hp => World.cell?_of_block (hg.block p.block (by omega) (fun e => by have := hr _ e.symm; omega))
theorem Sl.lt (h : Sl w B v xs) : ∀ x ∈ xs, x < 256 := by
  obtain ⟨A, n, c, rfl, hb, h1⟩ := h
  exact hb.2.1
theorem Sl.len (h : Sl w B v xs) : ∃ A c, v = .slice A xs.length c ∧ xs.length ≤ 1000000 := by
  obtain ⟨A, n, c, rfl, hb, h1⟩ := h
  have := hb.1
  subst this
  exact ⟨A, c, rfl, hb.2.2.1⟩
theorem sl_nil (w : World) (B : Nat) : Sl w B (.slice none 0 0) [] := ⟨none, 0, 0, rfl, bts_nil _ _ _, Nat.le_refl _, by unfold maxLen; omega, fun _ => rfl⟩
theorem sl_own {base n : Nat} (h : w.ownsRow base 5 1 v n (vals xs)) (hx : ∀ x ∈ xs, x < 256) (hn : n ≤ 1000000) : Sl w w.heap.size v xs := by
  have hl : xs.length = n := by have := h.1; rw [vals_length] at this; omega
  rcases h.2 with ⟨rfl, rfl⟩ | ⟨g, cap, cur, rfl, hg, hh, hnc, hm, hs, ht⟩
  · exact ⟨none, 0, 0, rfl, ⟨hl, hx, hn, fun h0 => absurd h0 (by omega)⟩, by omega, by unfold maxLen; omega, fun _ => rfl⟩
  · have hlt : g < w.heap.size := (h.lt g rfl).2
    exact ⟨_, n, cap, rfl, bts_row hlt hx hn hl fun i hi => by rw [h.cellAt i (by omega), vals_get xs i (by omega)], hnc, hm, fun e => by cases e⟩
theorem sl_of_row {a : Option Addr} {len cap : Nat} {zs : List Int} (h : IsRow .u8 w a len cap zs) (hl : len ≤ 1000000) : ∃ xs, Sl w w.heap.size (.slice a len cap) xs ∧ xs.length = len := by
  obtain ⟨xs, hb, h1, h2⟩ := bts_of_row h hl
  exact ⟨xs, ⟨a, len, cap, rfl, hb, h1, h2, row_none h⟩, hb.1⟩
theorem sl_of {A : Option Addr} {n c : Nat} (hb : Bts w B A n xs) (h1 : n ≤ c) (h2 : c ≤ maxLen) (h3 : A = none → c = 0) : Sl w B (.slice A n c) xs := ⟨A, n, c, rfl, hb, h1, h2, h3⟩
end
end Go.Proofs.Ytgfoadldghcdeaa.Mem
