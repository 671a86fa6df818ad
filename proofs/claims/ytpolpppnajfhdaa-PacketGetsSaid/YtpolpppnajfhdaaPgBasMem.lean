/- States in memory (layer 11): Lsas in a row, wherever it lies; rows of Lsas and of epochs of the call's own; a state by value. -/
import Derived.Test.YtpolpppnajfhdaaPgChgMem
import Derived.Test.YtpolpppnajfhdaaPgLsaRead
import Derived.Test.YtpolpppnajfhdaaPgPureAll
import Derived.Test.YtpolpppnajfhdaaPgSplice
namespace Go.Proofs.Ytpolpppnajfhdaa.Bas
open Go.RowKit Go.Proofs.Ytpolpppnajfhdaa.Mem Go.Proofs.Ytpolpppnajfhdaa.Oct Go.Proofs.Ytpolpppnajfhdaa.Lsa Go.Proofs.Ytpolpppnajfhdaa.Chg
set_option linter.unusedVariables false
set_option linter.unusedSimpArgs false
def rowL (a : La) (u : Value) : List Value := [.int .i64 a.o, .int .i64 a.s, u]
theorem rowL_length (a : La) (u : Value) : (rowL a u).length = 3 := rfl
/-- a slice of Lsas -/
def Las (w : World) (B : Nat) (v : Value) (l : List La) : Prop :=
  ∃ (A : Option Addr) (n c : Nat), v = .slice A n c ∧ l.length = n ∧ n ≤ c ∧ c ≤ maxLen ∧ (A = none → c = 0) ∧
    (0 < n → ∃ b off, A = some ⟨b, off, none⟩ ∧ b < B ∧ ∀ i, i < n → ∃ u, w.rangeAt b (off + i * 3) (rowL (l.getD i zeroL) u) ∧ Lks w B u (l.getD i zeroL).ls)
section
variable {w w' : World} {B B' : Nat} {v : Value} {l : List La}
theorem Las.keep (h : Las w B v l) (hb : Below B w w') : Las w' B v l := by
  obtain ⟨A, n, c, e, h1, h2, h3, h0, h4⟩ := h
  refine ⟨A, n, c, e, h1, h2, h3, h0, fun hn => ?_⟩
  obtain ⟨b, off, e1, hlt, h5⟩ := h4 hn
  refine ⟨b, off, e1, hlt, fun i hi => ?_⟩
  obtain ⟨u, h6, h7⟩ := h5 i hi
  exact ⟨u, rangeC_below h6 hb hlt, h7.below hb (Nat.le_refl _)⟩
theorem Las.more (h : Las w B v l) (hB : B ≤ B') : Las w B' v l := by
  obtain ⟨A, n, c, e, h1, h2, h3, h0, h4⟩ := h
  refine ⟨A, n, c, e, h1, h2, h3, h0, fun hn => ?_⟩
  obtain ⟨b, off, e1, hlt, h5⟩ := h4 hn
  refine ⟨b, off, e1, by omega, fun i hi => ?_⟩
  obtain ⟨u, h6, h7⟩ := h5 i hi
  exact ⟨u, h6, h7.more hB⟩
theorem Las.up (h : Las w w.heap.size v l) (hb : Below w.heap.size w w') : Las w' w'.heap.size v l := (h.keep hb).more hb.size
theorem las_nil (w : World) (B : Nat) : Las w B (.slice none 0 0) [] := ⟨none, 0, 0, rfl, rfl, Nat.le_refl _, by unfold maxLen; omega, fun _ => rfl, fun h => absurd h (by omega)⟩
theorem las_len {A : Option Addr} {n c : Nat} (h : Las w B (.slice A n c) l) : l.length = n ∧ n ≤ c ∧ c ≤ maxLen ∧ (A = none → c = 0) := by
  obtain ⟨A', n', c', e, h1, h2, h3, h0, h4⟩ := h
  injection e with e1 e2 e3
  subst e1 e2 e3
  exact ⟨h1, h2, h3, h0⟩
theorem las_at {A : Option Addr} {n c : Nat} (h : Las w B (.slice A n c) l) (hn : 0 < n) :
    ∃ b off, A = some ⟨b, off, none⟩ ∧ b < B ∧ ∀ i, i < n → ∃ u, w.rangeAt b (off + i * 3) (rowL (l.getD i zeroL) u) ∧ Lks w B u (l.getD i zeroL).ls := by
  obtain ⟨A', n', c', e, h1, h2, h3, h0, h4⟩ := h
  injection e with e1 e2 e3
  subst e1 e2 e3
  exact h4 hn
end
/-! ### a row of one's own -/
def flatL : List La → List Value → List Value
  | a :: l, u :: us => rowL a u ++ flatL l us
  | _, _ => []
theorem flatL_app : ∀ (l m : List La) (us vs : List Value), us.length = l.length → flatL (l ++ m) (us ++ vs) = flatL l us ++ flatL m vs
  | [], m, [], vs, _ => rfl
  | a :: l, m, u :: us, vs, h => by
    rw [List.cons_append, List.cons_append, flatL, flatL, flatL_app l m us vs (by simpa using h), List.append_assoc]
theorem flatL_get : ∀ (l : List La) (us : List Value) (i j : Nat), us.length = l.length → i < l.length → j < 3 → (flatL l us)[i * 3 + j]? = (rowL (l.getD i zeroL) (us.getD i undef))[j]?
  | [], _, i, j, _, hi, _ => absurd hi (by simp)
  | a :: l, u :: us, 0, j, h, hi, hj => by
    rw [flatL, Nat.zero_mul, Nat.zero_add, List.getElem?_append_left (by rw [rowL_length]; exact hj)]
    rfl
  | a :: l, u :: us, i + 1, j, h, hi, hj => by
    rw [flatL, List.getElem?_append_right (by rw [rowL_length]; omega), rowL_length, show (i + 1) * 3 + j - 3 = i * 3 + j by omega, flatL_get l us i j (by simpa using h) (by simpa using hi) hj]
    rfl
theorem flatL_one (a : La) (u : Value) : flatL [a] [u] = rowL a u := by simp [flatL]
/-- a value that one cell holds -/
def isSl : Value → Bool
  | .slice _ _ _ => true
  | _ => false
theorem rowL_one (a : La) (u : Value) (h : isSl u = true) : ∀ x ∈ rowL a u, x.oneCell' = true := by
  intro x hx
  simp only [rowL, List.mem_cons, List.not_mem_nil, or_false] at hx
  rcases hx with rfl | rfl | rfl
  · rfl
  · rfl
  · cases x <;> first | rfl | cases h
/-- two rows of the call's own, of unlike elements, lie apart -/
theorem own_apart {w : World} {b b' : Nat} {e e' : TypeId} {sz sz' n n' : Nat} {v v' : Value} {xs xs' : List Value} (h : w.ownsRow b e sz v n xs) (h' : w.ownsRow b' e' sz' v' n' xs') (hne : e ≠ e') : v.ownBlock = none ∨ v.ownBlock ≠ v'.ownBlock := by
  rcases h.2 with ⟨rfl, _⟩ | ⟨g, cap, cur, rfl, _, hh, _⟩
  · exact .inl rfl
  · right
    rcases h'.2 with ⟨rfl, _⟩ | ⟨g', cap', cur', rfl, _, hh', _⟩
    · intro h; cases h
    · intro h
      have h : g = g' := by injection h
      subst h
      exact Blk.ne_ (t := e) (t' := e') hh hh' hne rfl
/-- links in a row of one's own -/
def LkT (w : World) (lo : Nat) (u : Value) (ls : List Lk) : Prop := ∃ n, w.ownsRow lo 85 2 u n (lkCells ls)
theorem LkT.below {w w' : World} {lo : Nat} {u : Value} {ls : List Lk} (h : LkT w lo u ls) (hb : Below w.heap.size w w') : LkT w' lo u ls := by
  obtain ⟨n, h⟩ := h
  exact ⟨n, own_below h hb⟩
theorem LkT.row {w w' : World} {lo b e sz n : Nat} {u v : Value} {xs : List Value} {ls : List Lk} (h : LkT w lo u ls) (hv : w.ownsRow b e sz v n xs) (hne : 85 ≠ e) (hg : w.grownBy w' v.ownBlock) : LkT w' lo u ls := by
  obtain ⟨m, h⟩ := h
  exact ⟨m, h.kept hg (own_apart h hv hne)⟩
theorem LkT.lks {w : World} {lo : Nat} {u : Value} {ls : List Lk} (h : LkT w lo u ls) : Lks w w.heap.size u ls := by
  obtain ⟨m, h⟩ := h
  exact lks_own h
theorem LkT.more {w : World} {lo lo' : Nat} {u : Value} {ls : List Lk} (h : LkT w lo u ls) (hl : lo' ≤ lo) : LkT w lo' u ls := by
  obtain ⟨m, h⟩ := h
  exact ⟨m, own_mono h hl⟩
def OwnL (w : World) (base : Nat) (v : Value) (l : List La) : Prop :=
  ∃ us : List Value, us.length = l.length ∧ w.ownsRow base 49 3 v l.length (flatL l us) ∧ ∀ i, i < l.length → LkT w base (us.getD i undef) (l.getD i zeroL).ls
theorem OwnL.below {w w' : World} {base : Nat} {v : Value} {l : List La} (h : OwnL w base v l) (hb : Below w.heap.size w w') : OwnL w' base v l := by
  obtain ⟨us, h1, h2, h3⟩ := h
  exact ⟨us, h1, own_below h2 hb, fun i hi => (h3 i hi).below hb⟩
/-- behind a change of another row -/
theorem OwnL.row {w w' : World} {base b e sz n : Nat} {v v' : Value} {xs : List Value} {l : List La} (h : OwnL w base v l) (hv : w.ownsRow b e sz v' n xs) (h1 : 85 ≠ e) (h2 : 49 ≠ e) (hg : w.grownBy w' v'.ownBlock) : OwnL w' base v l := by
  obtain ⟨us, k1, k2, k3⟩ := h
  exact ⟨us, k1, k2.kept hg (own_apart k2 hv h2), fun i hi => (k3 i hi).row hv h1 hg⟩
theorem OwnL.form {w : World} {base : Nat} {v : Value} {l : List La} (h : OwnL w base v l) : ∃ A c, v = .slice A l.length c := by
  obtain ⟨us, h1, h2, h3⟩ := h
  rcases h2.2 with ⟨rfl, h0⟩ | ⟨g, cap, cur, rfl, _⟩
  · rw [h0]; exact ⟨none, 0, rfl⟩
  · exact ⟨_, _, rfl⟩
theorem ownL_nil (w : World) (base : Nat) : OwnL w base (.slice none 0 0) [] := ⟨[], rfl, World.ownsRow_nil _ _ _ _, fun i hi => absurd hi (by simp)⟩
theorem OwnL.las {w : World} {base : Nat} {v : Value} {l : List La} (h : OwnL w base v l) : Las w w.heap.size v l := by
  obtain ⟨us, hl, hown, hs⟩ := h
  by_cases h0 : l.length = 0
  · have : l = [] := List.eq_nil_of_length_eq_zero h0
    subst this
    rcases hown.2 with ⟨rfl, _⟩ | ⟨g, cap, cur, rfl, _, _, h3, h4, _⟩
    · exact las_nil _ _
    · exact ⟨_, _, _, rfl, rfl, h3, h4, (fun e => by cases e), fun h => absurd h (by simp)⟩
  · rcases hown.2 with ⟨_, h⟩ | ⟨g, cap, cur, rfl, _, hg, h3, h4, h5, h6⟩
    · exact absurd h h0
    · refine ⟨_, _, _, rfl, rfl, h3, h4, (fun e => by cases e), fun _ => ⟨g, 0, rfl, (hown.lt g rfl).2, fun i hi => ⟨us.getD i undef, fun j u hu => ?_, (hs i hi).lks⟩⟩⟩
      have hj : j < 3 := (List.getElem?_eq_some_iff.1 hu).1
      rw [Nat.zero_add, hown.cellAt (i * 3 + j) (by have := Nat.mul_le_mul_right 3 (Nat.succ_le_of_lt hi); rw [Nat.succ_mul] at this; omega), flatL_get l us i j hl hi hj]
      exact hu
/-- behind an append of one -/
theorem ownL_push {w w' : World} {base : Nat} {v v' u : Value} {l : List La} {us : List Value} {a : La} (hl : us.length = l.length) (hv0 : w.ownsRow base 49 3 v l.length (flatL l us)) (h : ∀ i, i < l.length → LkT w base (us.getD i undef) (l.getD i zeroL).ls) (hu : LkT w base u a.ls)
    (hown : w'.ownsRow base 49 3 v' (l.length + 1) (flatL l us ++ rowL a u)) (hg : w.grownBy w' v.ownBlock) : OwnL w' base v' (l ++ [a]) := by
  refine ⟨us ++ [u], by simp [hl], ?_, fun i hi => ?_⟩
  · rw [List.length_append, flatL_app l [a] us [u] hl, flatL_one]
    exact hown
  · by_cases hc : i < l.length
    · rw [getD_app_l _ _ _ _ hc, getD_app_l _ _ _ _ (by omega)]
      exact (h i hc).row hv0 (by decide) hg
    · have hi' : i = l.length := by rw [List.length_append, List.length_singleton] at hi; omega
      subst hi'
      rw [getD_app_r _ _ _ _ (by omega), getD_app_r _ _ _ _ (by omega), hl, Nat.sub_self]
      exact hu.row hv0 (by decide) hg
/-- the two lists of a state, wherever they lie -/
def StM (w : World) (B : Nat) (dv ev : Value) (s : Sta) : Prop := Las w B dv s.db ∧ Lks w B ev s.ep
theorem StM.up {w w' : World} {dv ev : Value} {s : Sta} (h : StM w w.heap.size dv ev s) (hb : Below w.heap.size w w') : StM w' w'.heap.size dv ev s := ⟨h.1.up hb, h.2.up hb⟩
end Go.Proofs.Ytpolpppnajfhdaa.Bas
