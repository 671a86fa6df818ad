/- Links in memory (layer 9): a slice of links, wherever it lies; a row of links of the call's own. -/
import Derived.Test.YtpolpppnajfhdaaPgOwnN
import Derived.Test.YtpolpppnajfhdaaPgPureAll
import Derived.Test.YtpolpppnajfhdaaPgRecs
namespace Go.Proofs.Ytpolpppnajfhdaa.Lsa
open Go.RowKit Go.Proofs.Ytpolpppnajfhdaa.Mem Go.Proofs.Ytpolpppnajfhdaa.Oct
set_option linter.unusedVariables false
set_option linter.unusedSimpArgs false
/-- a slice of the links ls, below block B -/
def Lks (w : World) (B : Nat) (v : Value) (ls : List Lk) : Prop :=
  ∃ (A : Option Addr) (n c : Nat), v = .slice A n c ∧ ls.length = n ∧ n ≤ c ∧ c ≤ maxLen ∧ (A = none → c = 0) ∧
    (0 < n → ∃ b off, A = some ⟨b, off, none⟩ ∧ b < B ∧ ∀ i, i < n → w.cell? ⟨b, off + i * 2, none⟩ = some (.int .i64 (ls.getD i (0, 0)).1) ∧ w.cell? ⟨b, off + i * 2 + 1, none⟩ = some (.int .i64 (ls.getD i (0, 0)).2))
section
variable {w w' : World} {B B' : Nat} {v : Value} {ls : List Lk}
theorem Lks.keep (h : Lks w B v ls) (hk : ∀ p : Addr, p.block < B → w'.cell? p = w.cell? p) : Lks w' B v ls := by
  obtain ⟨A, n, c, rfl, hl, hn, hc, h0, hcell⟩ := h
  refine ⟨A, n, c, rfl, hl, hn, hc, h0, fun hp => ?_⟩
  obtain ⟨b, off, e, hb, hi⟩ := hcell hp
  exact ⟨b, off, e, hb, fun i hlt => ⟨(hk ⟨b, off + i * 2, none⟩ hb).trans (hi i hlt).1, (hk ⟨b, off + i * 2 + 1, none⟩ hb).trans (hi i hlt).2⟩⟩
theorem Lks.more (h : Lks w B v ls) (hB : B ≤ B') : Lks w B' v ls := by
  obtain ⟨A, n, c, rfl, hl, hn, hc, h0, hcell⟩ := h
  refine ⟨A, n, c, rfl, hl, hn, hc, h0, fun hp => ?_⟩
  obtain ⟨b, off, e, hb, hi⟩ := hcell hp
  exact ⟨b, off, e, by omega, hi⟩
theorem Lks.below (h : Lks w B v ls) (hb : Below B' w w') (hB : B ≤ B') : Lks w' B v ls := h.keep fun p hp => hb.cell (by omega)
theorem Lks.up (h : Lks w w.heap.size v ls) (hb : Below w.heap.size w w') : Lks w' w'.heap.size v ls := (h.below hb (Nat.le_refl _)).more hb.size
theorem Lks.alloc (h : Lks w B v ls) (hB : B ≤ w.heap.size) (o : Obj) : Lks (w.alloc o) B v ls := h.keep fun p hp => World.cell?_alloc_lt w o p (by omega)
theorem Lks.drew (h : Lks w B v ls) : Lks w.drew B v ls := h
theorem Lks.drewN (h : Lks w B v ls) (m : Nat) : Lks (w.drewN m) B v ls := h
theorem Lks.grown {row : Option Nat} (h : Lks w B v ls) (hg : w.grownBy w' row) (hB : B ≤ w.heap.size) (hr : ∀ g, row = some g → B ≤ g) : Lks w' B v ls :=
  h.keep fun p hp => World.cell?_of_block (hg.block p.block (by omega) (fun e => by have := hr _ e.symm; omega))
theorem lks_nil (w : World) (B : Nat) : Lks w B (.slice none 0 0) [] := ⟨none, 0, 0, rfl, rfl, Nat.le_refl _, by unfold maxLen; omega, fun _ => rfl, fun h => absurd h (by omega)⟩
theorem Lks.slice (h : Lks w B v ls) : ∃ A c, v = .slice A ls.length c ∧ ls.length ≤ c ∧ c ≤ maxLen ∧ (A = none → c = 0) := by
  obtain ⟨A, n, c, rfl, rfl, hn, hc, h0, hcell⟩ := h
  exact ⟨A, c, rfl, hn, hc, h0⟩
theorem lks_len {A : Option Addr} {n c : Nat} (h : Lks w B (.slice A n c) ls) : ls.length = n ∧ n ≤ c ∧ c ≤ maxLen ∧ (A = none → c = 0) := by
  obtain ⟨A', n', c', e, hl, hn, hc, h0, hcell⟩ := h
  injection e with e1 e2 e3
  subst e1 e2 e3
  exact ⟨hl, hn, hc, h0⟩
theorem lks_at {A : Option Addr} {n c : Nat} (h : Lks w B (.slice A n c) ls) (h0 : 0 < n) :
    ∃ b off, A = some ⟨b, off, none⟩ ∧ b < B ∧ ∀ i, i < n → w.cell? ⟨b, off + i * 2, none⟩ = some (.int .i64 (ls.getD i (0, 0)).1) ∧ w.cell? ⟨b, off + i * 2 + 1, none⟩ = some (.int .i64 (ls.getD i (0, 0)).2) := by
  obtain ⟨A', n', c', e, hl, hn, hc, hz, hcell⟩ := h
  injection e with e1 e2 e3
  subst e1 e2 e3
  exact hcell h0
end
/-- the cells of links, one behind the other -/
def lkCells (ls : List Lk) : List Value := ls.flatMap fun k => [.int .i64 k.1, .int .i64 k.2]
theorem lkCells_cons (k : Lk) (r : List Lk) : lkCells (k :: r) = .int .i64 k.1 :: .int .i64 k.2 :: lkCells r := by simp [lkCells]
theorem lkCells_app (a b : List Lk) : lkCells (a ++ b) = lkCells a ++ lkCells b := by simp [lkCells]
theorem lkCells_length : ∀ ls : List Lk, (lkCells ls).length = ls.length * 2
  | [] => rfl
  | k :: r => by rw [lkCells_cons, List.length_cons, List.length_cons, lkCells_length r, List.length_cons]; omega
theorem lkCells_at : ∀ (ls : List Lk) (i : Nat), i < ls.length → (lkCells ls)[i * 2]? = some (.int .i64 (ls.getD i (0, 0)).1) ∧ (lkCells ls)[i * 2 + 1]? = some (.int .i64 (ls.getD i (0, 0)).2)
  | [], i, h => absurd h (by simp)
  | k :: r, 0, _ => by rw [lkCells_cons]; exact ⟨rfl, rfl⟩
  | k :: r, i + 1, h => by
    have ih := lkCells_at r i (by simpa using h)
    rw [lkCells_cons, show (i + 1) * 2 = i * 2 + 1 + 1 by omega]
    exact ⟨ih.1, ih.2⟩
theorem lkCells_one' (ls : List Lk) : ∀ u ∈ lkCells ls, u.oneCell' = true := by
  intro u hu
  simp only [lkCells, List.mem_flatMap, List.mem_cons, List.not_mem_nil, or_false] at hu
  obtain ⟨k, _, rfl | rfl⟩ := hu <;> rfl
section
variable {w w' : World} {B base n : Nat} {v : Value} {ls : List Lk}
theorem lks_own (h : w.ownsRow base 85 2 v n (lkCells ls)) : Lks w w.heap.size v ls := by
  have hl : ls.length = n := by have := h.1; rw [lkCells_length] at this; omega
  rcases h.2 with ⟨rfl, h0⟩ | ⟨g, cap, cur, rfl, hg, hh, hnc, hm, hs, ht⟩
  · have : ls = [] := List.eq_nil_of_length_eq_zero (by omega)
    subst this
    exact lks_nil _ _
  · have hlt : g < w.heap.size := (h.lt g rfl).2
    refine ⟨_, n, cap, rfl, hl, hnc, hm, (fun e => by cases e), fun _ => ⟨g, 0, rfl, hlt, fun i hi => ?_⟩⟩
    have hc := lkCells_at ls i (by omega)
    have l2 := lkCells_length ls
    rw [Nat.zero_add, h.cellAt (i * 2) (by omega), h.cellAt (i * 2 + 1) (by omega)]
    exact hc
theorem own_none (w : World) (base : Nat) : w.ownsRow base 85 2 (.slice none 0 0) 0 (lkCells []) := World.ownsRow_nil _ _ _ _
theorem reads_link (w : World) (a b : Int) (g : Nat) (hg : g = w.heap.size) : Reads (w.alloc (.cells #[.int .i64 a, .int .i64 b] 85)) (w.heap.size + 1) 2 (some ⟨g, 0, none⟩) 1 (lkCells [(a, b)]) := by
  subst hg
  refine ⟨rfl, fun _ => ⟨_, rfl, Nat.lt_succ_self _, fun j u hu => ?_⟩⟩
  have hk := Blk.new w 85 #[.int .i64 a, .int .i64 b]
  rw [add_plain, Nat.zero_add, hk.cell]
  simpa [lkCells] using hu
end
theorem info_link : (Try.prog.info? 85).map (fun i => (i.zero, i.size, i.bytes)) = some (some (.agg #[.int .i64 0, .int .i64 0]), 2, 16) := by kernel_rfl
/-- an Lsa as a value -/
abbrev lsaV (o s : Int) (v : Value) : Value := .agg #[.int .i64 o, .int .i64 s, v]
end Go.Proofs.Ytpolpppnajfhdaa.Lsa
