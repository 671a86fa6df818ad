/- States in memory (layer 11): Lsas in a row, wherever it lies; rows of Lsas and of epochs of the call's own; a state by value. -/
import Derived.Test.YtpolpppnajfhdaaBaseStand
import Derived.Test.YtpolpppnajfhdaaChgMem
import Derived.Test.YtpolpppnajfhdaaLsaRead
import Derived.Test.YtpolpppnajfhdaaSplice
namespace Go.Proofs.Ytpolpppnajfhdaa.Bas
open Go.RowKit Go.Proofs.Ytpolpppnajfhdaa.Mem Go.Proofs.Ytpolpppnajfhdaa.Oct Go.Proofs.Ytpolpppnajfhdaa.Lsa Go.Proofs.Ytpolpppnajfhdaa.Chg
set_option linter.unusedVariables false
set_option linter.unusedSimpArgs false
def rowL (a : La) (u : Value) : List Value := [.int .i64 a.o, .int .i64 a.s, u]
theorem rowL_length (a : La) (u : Value) : (rowL a u).length = 3 := rfl
theorem sizeL : (Try.prog.info? 49).map (·.size) = some 3 := by kernel_rfl
theorem infoL : (Try.prog.info? 49).map (fun i => (i.zero, i.size, i.bytes)) = some (some (.agg #[.int .i64 0, .int .i64 0, .slice none 0 0]), 3, 40) := by kernel_rfl
/-- an Lsa's value -/
abbrev laV (a : La) (u : Value) : Value := .agg #[.int .i64 a.o, .int .i64 a.s, u]
/-- a slice of Lsas -/
def Las (w : World) (B : Nat) (v : Value) (l : List La) : Prop :=
  ∃ (A : Option Addr) (n c : Nat), v = .slice A n c ∧ l.length = n ∧ n ≤ c ∧ c ≤ maxLen ∧ (A = none → c = 0) ∧
    (0 < n → ∃ b off, A = some ⟨b, off, none⟩ ∧ b < B ∧ ∀ i, i < n → ∃ u, w.rangeAt b (off + i * 3) (rowL (l.getD i zeroL) u) ∧ Lks w B u (l.getD i zeroL).ls)
section
variable {w w' : World} {B B' : Nat} {v : Value} {l : List La}
theorem Las.keep (h : Las w B v l) (hb : Below B w w') : Las w' B v l := by
  obtain ⟨A, n, c, e, h1, h2, h3, h0, h4⟩ := h
  refine ⟨A, n, c, e, h1, h2, h3, h0, fun hn => ?_⟩
  obtain ⟨b, off, e1, hlt, h5⟩ := h4 hn
  refine ⟨b, off, e1, hlt, fun i hi => ?_⟩
  obtain ⟨u, h6, h7⟩ := h5 i hi
  exact ⟨u, rangeC_below h6 hb hlt, h7.below hb (Nat.le_refl _)⟩
theorem Las.more (h : Las w B v l) (hB : B ≤ B') : Las w B' v l := by
  obtain ⟨A, n, c, e, h1, h2, h3, h0, h4⟩ := h
  refine ⟨A, n, c, e, h1, h2, h3, h0, fun hn => ?_⟩
  obtain ⟨b, off, e1, hlt, h5⟩ := h4 hn
  refine ⟨b, off, e1, by omega, fun i hi => ?_⟩
  obtain ⟨u, h6, h7⟩ := h5 i hi
  exact ⟨u, h6, h7.more hB⟩
theorem Las.up (h : Las w w.heap.size v l) (hb : Below w.heap.size w w') : Las w' w'.heap.size v l := (h.keep hb).more hb.size
theorem las_nil (w : World) (B : Nat) : Las w B (.slice none 0 0) [] := ⟨none, 0, 0, rfl, rfl, Nat.le_refl _, by unfold maxLen; omega, fun _ => rfl, fun h => absurd h (by omega)⟩
theorem las_len {A : Option Addr} {n c : Nat} (h : Las w B (.slice A n c) l) : l.length = n ∧ n ≤ c ∧ c ≤ maxLen ∧ (A = none → c = 0) := by
  obtain ⟨A', n', c', e, h1, h2, h3, h0, h4⟩ := h
  injection e with e1 e2 e3
  subst e1 e2 e3
  exact ⟨h1, h2, h3, h0⟩
theorem las_at {A : Option Addr} {n c : Nat} (h : Las w B (.slice A n c) l) (hn : 0 < n) :
    ∃ b off, A = some ⟨b, off, none⟩ ∧ b < B ∧ ∀ i, i < n → ∃ u, w.rangeAt b (off + i * 3) (rowL (l.getD i zeroL) u) ∧ Lks w B u (l.getD i zeroL).ls := by
  obtain ⟨A', n', c', e, h1, h2, h3, h0, h4⟩ := h
  injection e with e1 e2 e3
  subst e1 e2 e3
  exact h4 hn
end
/-! ### a row of one's own -/
def flatL : List La → List Value → List Value
  | a :: l, u :: us => rowL a u ++ flatL l us
  | _, _ => []
theorem flatL_len : ∀ (l : List La) (us : List Value), us.length = l.length → (flatL l us).length = l.length * 3
  | [], [], _ => rfl
  | a :: l, u :: us, h => by
    rw [flatL, List.length_append, flatL_len l us (by simpa using h), rowL_length, List.length_cons]
    omega
theorem flatL_app : ∀ (l m : List La) (us vs : List Value), us.length = l.length → flatL (l ++ m) (us ++ vs) = flatL l us ++ flatL m vs
  | [], m, [], vs, _ => rfl
  | a :: l, m, u :: us, vs, h => by
    rw [List.cons_append, List.cons_append, flatL, flatL, flatL_app l m us vs (by simpa using h), List.append_assoc]
theorem flatL_get : ∀ (l : List La) (us : List Value) (i j : Nat), us.length = l.length → i < l.length → j < 3 → (flatL l us)[i * 3 + j]? = (rowL (l.getD i zeroL) (us.getD i undef))[j]?
  | [], _, i, j, _, hi, _ => absurd hi (by simp)
  | a :: l, u :: us, 0, j, h, hi, hj => by
    rw [flatL, Nat.zero_mul, Nat.zero_add, List.getElem?_append_left (by rw [rowL_length]; exact hj)]
    rfl
  | a :: l, u :: us, i + 1, j, h, hi, hj => by
    rw [flatL, List.getElem?_append_right (by rw [rowL_length]; omega), rowL_length, show (i + 1) * 3 + j - 3 = i * 3 + j by omega, flatL_get l us i j (by simpa using h) (by simpa using hi) hj]
    rfl
theorem flatL_one (a : La) (u : Value) : flatL [a] [u] = rowL a u := by simp [flatL]
theorem flatL_take : ∀ (l : List La) (us : List Value) (i : Nat), us.length = l.length → i ≤ l.length → (flatL l us).take (i * 3) = flatL (l.take i) (us.take i)
  | l, us, 0, _, _ => by simp [flatL]
  | [], _, i + 1, _, hi => absurd hi (by simp)
  | a :: l, u :: us, i + 1, h, hi => by
    rw [flatL, List.take_succ_cons, List.take_succ_cons, flatL, List.take_append, rowL_length, List.take_of_length_le (by rw [rowL_length]; omega), show (i + 1) * 3 - 3 = i * 3 by omega, flatL_take l us i (by simpa using h) (by simpa using hi)]
theorem flatL_drop : ∀ (l : List La) (us : List Value) (i : Nat), us.length = l.length → i ≤ l.length → (flatL l us).drop (i * 3) = flatL (l.drop i) (us.drop i)
  | l, us, 0, _, _ => by simp
  | [], _, i + 1, _, hi => absurd hi (by simp)
  | a :: l, u :: us, i + 1, h, hi => by
    rw [flatL, List.drop_succ_cons, List.drop_succ_cons, List.drop_append, rowL_length, List.drop_of_length_le (by rw [rowL_length]; omega), show (i + 1) * 3 - 3 = i * 3 by omega, List.nil_append, flatL_drop l us i (by simpa using h) (by simpa using hi)]
/-- a value that one cell holds -/
def isSl : Value → Bool
  | .slice _ _ _ => true
  | _ => false
theorem rowL_one (a : La) (u : Value) (h : isSl u = true) : ∀ x ∈ rowL a u, x.oneCell' = true := by
  intro x hx
  simp only [rowL, List.mem_cons, List.not_mem_nil, or_false] at hx
  rcases hx with rfl | rfl | rfl
  · rfl
  · rfl
  · cases x <;> first | rfl | cases h
theorem flatL_one' : ∀ (l : List La) (us : List Value), (∀ u ∈ us, isSl u = true) → ∀ x ∈ flatL l us, x.oneCell' = true
  | [], _, _, x, hx => by simp [flatL] at hx
  | a :: l, [], _, x, hx => by simp [flatL] at hx
  | a :: l, u :: us, h, x, hx => by
    rw [flatL, List.mem_append] at hx
    rcases hx with hx | hx
    · exact rowL_one a u (h u (by simp)) x hx
    · exact flatL_one' l us (fun y hy => h y (by simp [hy])) x hx
/-- two rows of the call's own, of unlike elements, lie apart -/
theorem own_apart {w : World} {b b' : Nat} {e e' : TypeId} {sz sz' n n' : Nat} {v v' : Value} {xs xs' : List Value} (h : w.ownsRow b e sz v n xs) (h' : w.ownsRow b' e' sz' v' n' xs') (hne : e ≠ e') : v.ownBlock = none ∨ v.ownBlock ≠ v'.ownBlock := by
  rcases h.2 with ⟨rfl, _⟩ | ⟨g, cap, cur, rfl, _, hh, _⟩
  · exact .inl rfl
  · right
    rcases h'.2 with ⟨rfl, _⟩ | ⟨g', cap', cur', rfl, _, hh', _⟩
    · intro h; cases h
    · intro h
      have h : g = g' := by injection h
      subst h
      exact Blk.ne_ (t := e) (t' := e') hh hh' hne rfl
/-- a row of one's own and a block of another type lie apart -/
theorem own_off {w : World} {b g : Nat} {e t : TypeId} {sz n : Nat} {v : Value} {xs : List Value} {cs : Array Value} (h : w.ownsRow b e sz v n xs) (h' : Blk w g t cs) (hne : e ≠ t) : v.ownBlock = none ∨ v.ownBlock ≠ some g := .inr (own_blk_ne h h' hne)
/-- links in a row of one's own -/
def LkT (w : World) (lo : Nat) (u : Value) (ls : List Lk) : Prop := ∃ n, w.ownsRow lo 85 2 u n (lkCells ls)
theorem LkT.below {w w' : World} {lo : Nat} {u : Value} {ls : List Lk} (h : LkT w lo u ls) (hb : Below w.heap.size w w') : LkT w' lo u ls := by
  obtain ⟨n, h⟩ := h
  exact ⟨n, own_below h hb⟩
theorem LkT.row {w w' : World} {lo b e sz n : Nat} {u v : Value} {xs : List Value} {ls : List Lk} (h : LkT w lo u ls) (hv : w.ownsRow b e sz v n xs) (hne : 85 ≠ e) (hg : w.grownBy w' v.ownBlock) : LkT w' lo u ls := by
  obtain ⟨m, h⟩ := h
  exact ⟨m, h.kept hg (own_apart h hv hne)⟩
theorem LkT.blk {w w' : World} {lo g t : Nat} {u : Value} {cs : Array Value} {ls : List Lk} (h : LkT w lo u ls) (hv : Blk w g t cs) (hne : 85 ≠ t) (hg : w.grownBy w' (some g)) : LkT w' lo u ls := by
  obtain ⟨m, h⟩ := h
  exact ⟨m, h.kept hg (own_off h hv hne)⟩
theorem LkT.lks {w : World} {lo : Nat} {u : Value} {ls : List Lk} (h : LkT w lo u ls) : Lks w w.heap.size u ls := by
  obtain ⟨m, h⟩ := h
  exact lks_own h
theorem LkT.more {w : World} {lo lo' : Nat} {u : Value} {ls : List Lk} (h : LkT w lo u ls) (hl : lo' ≤ lo) : LkT w lo' u ls := by
  obtain ⟨m, h⟩ := h
  exact ⟨m, own_mono h hl⟩
theorem lkT_sl {w : World} {lo : Nat} {u : Value} {ls : List Lk} (h : LkT w lo u ls) : isSl u = true := by
  obtain ⟨A, n, c, rfl, _⟩ := h.lks
  rfl
def OwnL (w : World) (base : Nat) (v : Value) (l : List La) : Prop :=
  ∃ us : List Value, us.length = l.length ∧ w.ownsRow base 49 3 v l.length (flatL l us) ∧ ∀ i, i < l.length → LkT w base (us.getD i undef) (l.getD i zeroL).ls
theorem OwnL.below {w w' : World} {base : Nat} {v : Value} {l : List La} (h : OwnL w base v l) (hb : Below w.heap.size w w') : OwnL w' base v l := by
  obtain ⟨us, h1, h2, h3⟩ := h
  exact ⟨us, h1, own_below h2 hb, fun i hi => (h3 i hi).below hb⟩
/-- behind a change of another row -/
theorem OwnL.row {w w' : World} {base b e sz n : Nat} {v v' : Value} {xs : List Value} {l : List La} (h : OwnL w base v l) (hv : w.ownsRow b e sz v' n xs) (h1 : 85 ≠ e) (h2 : 49 ≠ e) (hg : w.grownBy w' v'.ownBlock) : OwnL w' base v l := by
  obtain ⟨us, k1, k2, k3⟩ := h
  exact ⟨us, k1, k2.kept hg (own_apart k2 hv h2), fun i hi => (k3 i hi).row hv h1 hg⟩
theorem OwnL.blk {w w' : World} {base g t : Nat} {v : Value} {cs : Array Value} {l : List La} (h : OwnL w base v l) (hv : Blk w g t cs) (h1 : 85 ≠ t) (h2 : 49 ≠ t) (hg : w.grownBy w' (some g)) : OwnL w' base v l := by
  obtain ⟨us, k1, k2, k3⟩ := h
  exact ⟨us, k1, k2.kept hg (own_off k2 hv h2), fun i hi => (k3 i hi).blk hv h1 hg⟩
theorem OwnL.ownLt {w : World} {base : Nat} {v : Value} {l : List La} (h : OwnL w base v l) : ∀ k, v.ownBlock = some k → base ≤ k ∧ k < w.heap.size := by
  obtain ⟨us, h1, h2, h3⟩ := h
  exact fun k hk => h2.lt k hk
theorem OwnL.form {w : World} {base : Nat} {v : Value} {l : List La} (h : OwnL w base v l) : ∃ A c, v = .slice A l.length c := by
  obtain ⟨us, h1, h2, h3⟩ := h
  rcases h2.2 with ⟨rfl, h0⟩ | ⟨g, cap, cur, rfl, _⟩
  · rw [h0]; exact ⟨none, 0, rfl⟩
  · exact ⟨_, _, rfl⟩
theorem ownL_nil (w : World) (base : Nat) : OwnL w base (.slice none 0 0) [] := ⟨[], rfl, World.ownsRow_nil _ _ _ _, fun i hi => absurd hi (by simp)⟩
theorem OwnL.las {w : World} {base : Nat} {v : Value} {l : List La} (h : OwnL w base v l) : Las w w.heap.size v l := by
  obtain ⟨us, hl, hown, hs⟩ := h
  by_cases h0 : l.length = 0
  · have : l = [] := List.eq_nil_of_length_eq_zero h0
    subst this
    rcases hown.2 with ⟨rfl, _⟩ | ⟨g, cap, cur, rfl, _, _, h3, h4, _⟩
    · exact las_nil _ _
    · exact ⟨_, _, _, rfl, rfl, h3, h4, (fun e => by cases e), fun h => absurd h (by simp)⟩
  · rcases hown.2 with ⟨_, h⟩ | ⟨g, cap, cur, rfl, _, hg, h3, h4, h5, h6⟩
    · exact absurd h h0
    · refine ⟨_, _, _, rfl, rfl, h3, h4, (fun e => by cases e), fun _ => ⟨g, 0, rfl, (hown.lt g rfl).2, fun i hi => ⟨us.getD i undef, fun j u hu => ?_, (hs i hi).lks⟩⟩⟩
      have hj : j < 3 := (List.getElem?_eq_some_iff.1 hu).1
      rw [Nat.zero_add, hown.cellAt (i * 3 + j) (by have := Nat.mul_le_mul_right 3 (Nat.succ_le_of_lt hi); rw [Nat.succ_mul] at this; omega), flatL_get l us i j hl hi hj]
      exact hu
/-- behind an append of one -/
theorem ownL_push {w w' : World} {base : Nat} {v v' u : Value} {l : List La} {us : List Value} {a : La} (hl : us.length = l.length) (hv0 : w.ownsRow base 49 3 v l.length (flatL l us)) (h : ∀ i, i < l.length → LkT w base (us.getD i undef) (l.getD i zeroL).ls) (hu : LkT w base u a.ls)
    (hown : w'.ownsRow base 49 3 v' (l.length + 1) (flatL l us ++ rowL a u)) (hg : w.grownBy w' v.ownBlock) : OwnL w' base v' (l ++ [a]) := by
  refine ⟨us ++ [u], by simp [hl], ?_, fun i hi => ?_⟩
  · rw [List.length_append, flatL_app l [a] us [u] hl, flatL_one]
    exact hown
  · by_cases hc : i < l.length
    · rw [getD_app_l _ _ _ _ hc, getD_app_l _ _ _ _ (by omega)]
      exact (h i hc).row hv0 (by decide) hg
    · have hi' : i = l.length := by rw [List.length_append, List.length_singleton] at hi; omega
      subst hi'
      rw [getD_app_r _ _ _ _ (by omega), getD_app_r _ _ _ _ (by omega), hl, Nat.sub_self]
      exact hu.row hv0 (by decide) hg
/-- the element at a place -/
theorem getD_mem_all {α : Type} {P : α → Prop} {l : List α} {d : α} (h : ∀ i, i < l.length → P (l.getD i d)) : ∀ x ∈ l, P x := by
  intro x hx
  obtain ⟨i, hi, rfl⟩ := List.mem_iff_getElem.1 hx
  have := h i hi
  rwa [show l.getD i d = l[i] by simp [List.getD, List.getElem?_eq_getElem hi]] at this
/-- with one more, in the midst -/
theorem ownL_insert {w w' : World} {base : Nat} {v v' u : Value} {l : List La} {us : List Value} {a : La} {i : Nat} (hi : i ≤ l.length) (hl : us.length = l.length) (hv0 : w.ownsRow base 49 3 v l.length (flatL l us)) (h : ∀ i, i < l.length → LkT w base (us.getD i undef) (l.getD i zeroL).ls) (hu : LkT w base u a.ls)
    (hown : w'.ownsRow base 49 3 v' (l.length + 1) ((flatL l us).take (i * 3) ++ (rowL a u ++ (flatL l us).drop (i * 3)))) (hg : w.grownBy w' v.ownBlock) : OwnL w' base v' (l.take i ++ (a :: l.drop i)) := by
  have htl : (us.take i).length = (l.take i).length := by simp [hl]
  refine ⟨us.take i ++ (u :: us.drop i), by simp [hl], ?_, fun j hj => ?_⟩
  · rw [flatL_take l us i hl hi, flatL_drop l us i hl hi] at hown
    rw [flatL_app _ _ _ _ htl, flatL]
    have : (l.take i ++ (a :: l.drop i)).length = l.length + 1 := by simp; omega
    rw [this]
    exact hown
  · have hti : (l.take i).length = i := by rw [List.length_take]; omega
    have hti' : (us.take i).length = i := by rw [List.length_take]; omega
    by_cases hc : j < i
    · rw [getD_app_l _ _ _ _ (by omega), getD_app_l _ _ _ _ (by omega)]
      have e1 : (us.take i).getD j undef = us.getD j undef := by simp [List.getD, List.getElem?_take, hc]
      have e2 : (l.take i).getD j zeroL = l.getD j zeroL := by simp [List.getD, List.getElem?_take, hc]
      rw [e1, e2]
      exact (h j (by omega)).row hv0 (by decide) hg
    · rw [getD_app_r _ _ _ _ (by omega), getD_app_r _ _ _ _ (by omega), hti, hti']
      by_cases hz : j = i
      · subst hz
        rw [Nat.sub_self]
        exact hu.row hv0 (by decide) hg
      · obtain ⟨q, hq⟩ : ∃ q, j - i = q + 1 := ⟨j - i - 1, by omega⟩
        rw [hq]
        have hjl : j < l.length + 1 := by simp at hj; omega
        have e1 : (u :: us.drop i).getD (q + 1) undef = us.getD (i + q) undef := by simp [List.getD, List.getElem?_drop]
        have e2 : (a :: l.drop i).getD (q + 1) zeroL = l.getD (i + q) zeroL := by simp [List.getD, List.getElem?_drop]
        rw [e1, e2]
        exact (h (i + q) (by omega)).row hv0 (by decide) hg
/-- one of them replaced, in its place -/
theorem set_cut {α : Type} (l : List α) (i : Nat) (a : α) (h : i < l.length) : l.set i a = l.take i ++ (a :: l.drop (i + 1)) := by
  rw [List.set_eq_take_append_cons_drop, if_pos h]
theorem ownL_set {w : World} {base g n c : Nat} {u : Value} {l : List La} {us : List Value} {a : La} {i : Nat} (hi : i < l.length) (hl : us.length = l.length) (h : ∀ i, i < l.length → LkT w base (us.getD i undef) (l.getD i zeroL).ls) (hu : LkT w base u a.ls) (hn : n = l.length)
    (hown : w.ownsRow base 49 3 (.slice (some ⟨g, 0, none⟩) n c) n (flatL l us)) : OwnL (w.setCells g (i * 3) (rowL a u)) base (.slice (some ⟨g, 0, none⟩) n c) (l.set i a) := by
  subst hn
  have hg := grown_setCells g (rowL a u) (i * 3) w
  have h3 : i * 3 + 3 ≤ l.length * 3 := by omega
  have hs := own_splice hown (o := i * 3) (vs := rowL a u) h3
  have e : splice (flatL l us) (i * 3) (rowL a u) = flatL (l.set i a) (us.set i u) := by
    unfold splice
    rw [flatL_take l us i hl (by omega), show i * 3 + (rowL a u).length = (i + 1) * 3 by rw [rowL_length]; omega, flatL_drop l us (i + 1) hl (by omega)]
    rw [set_cut _ _ _ hi, set_cut _ _ _ (by omega : i < us.length), flatL_app _ _ _ _ (by simp [hl]), flatL]
  rw [e] at hs
  refine ⟨us.set i u, by simp [hl], by rw [List.length_set]; exact hs, fun j hj => ?_⟩
  rw [List.length_set] at hj
  by_cases hji : j = i
  · subst hji
    have e1 : (us.set j u).getD j undef = u := by simp [List.getD, hl, hj]
    have e2 : (l.set j a).getD j zeroL = a := by simp [List.getD, hj]
    rw [e1, e2]
    exact hu.row hown (by decide) hg
  · have e1 : (us.set i u).getD j undef = us.getD j undef := by simp [List.getD, List.getElem?_set, Ne.symm hji]
    have e2 : (l.set i a).getD j zeroL = l.getD j zeroL := by simp [List.getD, List.getElem?_set, Ne.symm hji]
    rw [e1, e2]
    exact (h j hj).row hown (by decide) hg
/-! ### epochs: cells as those of links -/
theorem lkCells_take : ∀ (l : List (Int × Int)) (i : Nat), (lkCells l).take (i * 2) = lkCells (l.take i)
  | l, 0 => by simp [lkCells]
  | [], i + 1 => by simp [lkCells]
  | a :: l, i + 1 => by
    rw [List.take_succ_cons, lkCells_cons, lkCells_cons, show (i + 1) * 2 = i * 2 + 1 + 1 by omega, List.take_succ_cons, List.take_succ_cons, lkCells_take l i]
theorem lkCells_drop : ∀ (l : List (Int × Int)) (i : Nat), (lkCells l).drop (i * 2) = lkCells (l.drop i)
  | l, 0 => by simp
  | [], i + 1 => by simp [lkCells]
  | a :: l, i + 1 => by
    rw [List.drop_succ_cons, lkCells_cons, show (i + 1) * 2 = i * 2 + 1 + 1 by omega, List.drop_succ_cons, List.drop_succ_cons, lkCells_drop l i]
abbrev stV (s : Sta) (dv ev : Value) : Value := .agg #[dv, .int .i64 s.up, .int .i64 s.bo, ev]
/-- the two lists of a state, wherever they lie -/
def StM (w : World) (B : Nat) (dv ev : Value) (s : Sta) : Prop := Las w B dv s.db ∧ Lks w B ev s.ep
theorem StM.up {w w' : World} {dv ev : Value} {s : Sta} (h : StM w w.heap.size dv ev s) (hb : Below w.heap.size w w') : StM w' w'.heap.size dv ev s := ⟨h.1.up hb, h.2.up hb⟩
theorem stM_nil (w : World) (B : Nat) (u b : Int) : StM w B (.slice none 0 0) (.slice none 0 0) ⟨[], u, b, []⟩ := ⟨las_nil _ _, lks_nil _ _⟩
theorem blk_cells4 {w : World} {g : Nat} {t : TypeId} {a b c d : Value} (h : Blk w g t #[a, b, c, d]) : w.cell? ⟨g, 0, none⟩ = some a ∧ w.cell? ⟨g, 1, none⟩ = some b ∧ w.cell? ⟨g, 2, none⟩ = some c ∧ w.cell? ⟨g, 3, none⟩ = some d ∧ g < w.heap.size :=
  ⟨by rw [h.cell]; rfl, by rw [h.cell]; rfl, by rw [h.cell]; rfl, by rw [h.cell]; rfl, h.lt⟩
theorem blk_fz4 {w : World} {g : Nat} {t : TypeId} {cs : Array Value} (h : Blk w g t cs) : w.frozen? ⟨g, 0, none⟩ = false ∧ w.frozen? ⟨g, 1, none⟩ = false ∧ w.frozen? ⟨g, 2, none⟩ = false ∧ w.frozen? ⟨g, 3, none⟩ = false := ⟨h.frozen 0, h.frozen 1, h.frozen 2, h.frozen 3⟩
end Go.Proofs.Ytpolpppnajfhdaa.Bas
