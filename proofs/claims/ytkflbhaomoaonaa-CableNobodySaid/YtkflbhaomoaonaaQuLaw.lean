/- What holds at the head of the law's loop (layer 15): the queue and the law's own list. -/
import Derived.Test.YtkflbhaomoaonaaQuAwake
namespace Go.Proofs.Ytkflbhaomoaonaa.Que
open Go.RowKit Go.Proofs.Ytkflbhaomoaonaa.Mem
set_option linter.unusedVariables false
set_option linter.unusedSimpArgs false
/-- what the texts are at the loop's head -/
def Small (ts : List (List Nat)) : Prop := ts.length ≤ 32 ∧ ∀ t ∈ ts, t.length ≤ 200
theorem small_put {ts : List (List Nat)} {xs : List Nat} (h : Small ts) (hx : xs.length ≤ 200) : Small (putQ ts xs) := by
  unfold putQ
  split
  · refine ⟨by simp; omega, fun t ht => ?_⟩
    rcases List.mem_append.1 ht with h1 | h1
    · exact h.2 t h1
    · simp at h1; subst h1; exact hx
  · exact h
theorem small_erase {ts : List (List Nat)} (h : Small ts) (k : Nat) : Small (ts.eraseIdx k) :=
  ⟨Nat.le_trans (List.length_eraseIdx_le _ _) h.1, fun t ht => h.2 t (List.mem_of_mem_eraseIdx ht)⟩
theorem Small.up {ts : List (List Nat)} (h : Small ts) : ∀ t ∈ ts, t.length ≤ 200000 := fun t ht => by have := h.2 t ht; omega
/-- the queue in block g has ts, the law's list lv has ls; they lie apart -/
structure LQ (w0 w : World) (g : Nat) (v lv : Value) (ts ls : List (List Nat)) : Prop where
  q : QAt w w0.heap.size g v ts
  l : SlRow w w0.heap.size lv ls
  sep : ∀ q, lv.ownBlock = some q → q ≠ g ∧ some q ≠ v.ownBlock
  low : Below w0.heap.size w0 w
section
variable {w0 w w' : World} {g : Nat} {v lv : Value} {ts ls ts' ls' : List (List Nat)}
theorem LQ.up (h : LQ w0 w g v lv ts ls) (hb : Below w.heap.size w w') : LQ w0 w' g v lv ts ls := ⟨h.q.below hb, h.l.below hb, h.sep, h.low.trans (hb.mono h.low.size)⟩
theorem LQ.did (h : LQ w0 w g v lv ts ls) (o : QOut w w0.heap.size g v w' ts') : ∃ v', LQ w0 w' g v' lv ts' ls ∧ KQ w w' g v.ownBlock := by
  obtain ⟨v', h1, h2, h3⟩ := o
  refine ⟨v', ⟨h1, row_kq h.l h2 h.q.nob (slRow_nob h.q.row) h.sep, fun q e => ⟨(h.sep q e).1, fun e2 => ?_⟩, h2.low h.low h.low.size h.q.low h.q.from_⟩, h2⟩
  rcases h3 q e2.symm with h4 | h4
  · exact (h.sep q e).2 h4.symm
  · have := (slRow_lt h.l q e).2
    omega
theorem LQ.told (h : LQ w0 w g v lv ts ls) {lv' : Value} (hb : Below w.heap.size w w') (hl : SlRow w' w.heap.size lv' ls') : LQ w0 w' g v lv' ts ls' := by
  refine ⟨h.q.below hb, slRow_mono hl h.low.size, fun q e => ?_, h.low.trans (hb.mono h.low.size)⟩
  have h1 := (slRow_lt hl q e).1
  have h2 := h.q.blk.lt
  exact ⟨by omega, fun e2 => by have := (slRow_lt h.q.row q e2.symm).2; omega⟩
/-- a block of another kind outlasts what is done with the queue -/
theorem LQ.blk {y : Nat} {t : TypeId} {cs : Array Value} (h : LQ w0 w g v lv ts ls) (k : KQ w w' g v.ownBlock) (hy : Blk w y t cs) (h1 : t ≠ 64) (h2 : 33 ≠ t) : Blk w' y t cs := by
  obtain ⟨vs, _, hown, _⟩ := h.q.row
  exact k.blk hy (Blk.ne_ hy h.q.blk h1) (fun e => own_blk_ne hown.1 hy h2 e.symm)
theorem LQ.sl {u : Value} {xs : List Nat} (h : LQ w0 w g v lv ts ls) (k : KQ w w' g v.ownBlock) (hs : Sl w w.heap.size u xs) : Sl w' w'.heap.size u xs := (sl_kq hs k (Nat.le_refl _) h.q.nob (slRow_nob h.q.row)).more k.size
end
section
variable {w0 w w' : World} {g y : Nat} {v lv u : Value} {ts ls ts' ls' : List (List Nat)} {cs : Array Value} {xs : List Nat}
end
/-- an act that came in -/
def ActR (w : World) (j : Nat) (v : Value) : Prop := match j with | 0 => NumOf .i64 v | 1 => RowOf .u8 w v | 2 => NumOf .i64 v | _ => True
theorem act_at {w : World} {A : Option Addr} {n c k : Nat} (h : IsRecs w A n c 3 (ActR w)) (hk : k < n) : ∃ (b off : Nat) (d : Int) (B : Option Addr) (m cb : Nat) (q : Int), A = some ⟨b, off, none⟩ ∧ b < w.heap.size ∧ w.cell? ⟨b, off + k * 3, none⟩ = some (.int .i64 d) ∧ w.cell? ⟨b, off + k * 3 + 1, none⟩ = some (.slice B m cb) ∧ w.cell? ⟨b, off + k * 3 + 2, none⟩ = some (.int .i64 q) ∧
    (m ≤ 200 → ∃ xs, Sl w w.heap.size (.slice B m cb) xs ∧ xs.length = m) := by
  obtain ⟨b, off, rfl, hb, hc⟩ := rec_at h (by omega) (by omega)
  obtain ⟨v0, h0, d, rfl, _⟩ := hc k hk 0 (by omega)
  obtain ⟨v1, h1, B, m, cb, zs, rfl, hr⟩ := hc k hk 1 (by omega)
  obtain ⟨v2, h2, q, rfl, _⟩ := hc k hk 2 (by omega)
  exact ⟨b, off, d, B, m, cb, q, rfl, hb, h0, h1, h2, fun hm => sl_of_row hr (by omega)⟩
theorem recs_cap {w : World} {A : Option Addr} {n c nf : Nat} {R : Nat → Value → Prop} (h : IsRecs w A n c nf R) : n ≤ 9223372036854775807 := by
  rcases h with ⟨_, rfl, _⟩ | ⟨_, _, h1, h2, _⟩
  · omega
  · unfold maxLen at h2
    omega
end Go.Proofs.Ytkflbhaomoaonaa.Que
