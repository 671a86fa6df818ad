/- A wal in memory (layer 8), and what stays where a disk or a wal turns: bytes, and slices of them, lie elsewhere. -/
import Derived.Test.YtddhkajcakndlaaMeth
import Derived.Test.YtddhkajcakndlaaPlotAt
import Derived.Test.YtddhkajcakndlaaSlotAll
import Derived.Test.YtddhkajcakndlaaWalKeep
import Derived.Test.YtddhkajcakndlaaWalLog
namespace Go.Proofs.Ytddhkajcakndlaa.Wl
open Go.RowKit Go.Proofs.Ytddhkajcakndlaa.Mem Go.Proofs.Ytddhkajcakndlaa.Pg Go.Proofs.Ytddhkajcakndlaa.Rcd Go.Proofs.Ytddhkajcakndlaa.Slt
open Go.Proofs.Ytddhkajcakndlaa.Dsk (KeptBut SMap DiskAt St ptr kept_of_below kept_of_grown)
open Go.Proofs.Ytddhkajcakndlaa.Plt (sl plV sl_le sl_pos)
set_option linter.unusedVariables false
set_option linter.unusedSimpArgs false
/-- how many places the log of a disk of k sectors has -/
def lg (k : Nat) : Nat := k - 2 * sl k
theorem lg_eq (k : Nat) : (k : Int) - 2 * (sl k : Nat) = (lg k : Nat) := by
  have := sl_le k
  unfold lg
  omega
/-- a wal's own numbers -/
structure Wn where
  gen : Int
  mark : Int
  next : Nat
  br : Bool
abbrev walCs (g k : Nat) (v : Wn) : Array Value := #[ptr g, .int .i64 (sl k : Nat), .int .i64 (2 * (sl k : Nat)), .int .i64 (lg k : Nat), .int .i64 v.gen, .int .i64 v.mark, .int .i64 (v.next : Nat), .bool v.br]
/-- a wal in block x, of a disk of k sectors in block g -/
def WalAt (w : World) (x g k : Nat) (v : Wn) : Prop := Blk w x 42 (walCs g k v)
def isSlc : Value → Bool
  | .slice _ _ _ => true
  | _ => false
/-- no cell of such blocks is a byte, or a slice -/
def Odd (w : World) (S : List Nat) : Prop := ∀ g ∈ S, ∀ i u, w.cell? ⟨g, i, none⟩ = some u → isBy u = false ∧ isSlc u = false
theorem odd_cells {w : World} {g : Nat} {t : TypeId} {cs : Array Value} (h : Blk w g t cs) (hc : ∀ u ∈ cs.toList, isBy u = false ∧ isSlc u = false) : Odd w [g] := by
  intro g' hg i u hu
  obtain rfl := List.mem_singleton.1 hg
  rw [h.cell] at hu
  obtain ⟨hi, he⟩ := Array.getElem?_eq_some_iff.1 hu
  exact hc u (by rw [← he, ← Array.getElem_toList]; exact List.getElem_mem _)
theorem Odd.app {w : World} {S T : List Nat} (h : Odd w S) (k : Odd w T) : Odd w (S ++ T) := fun g hg => (List.mem_append.1 hg).elim (h g) (k g)
theorem odd_map {w : World} {b : Nat} {f : Nat → Option (List Nat)} (h : SMap w b f) : Odd w [b] := by
  obtain ⟨D, n, ⟨es, clock, hbb, F, hs, hD⟩, h1⟩ := h
  intro g' hg i u hu
  obtain rfl := List.mem_singleton.1 hg
  exfalso
  simp [World.cell?, hbb] at hu
theorem odd_disk {w : World} {g bs bw : Nat} {s : St} (h : DiskAt w g bs bw s) : Odd w [g, bs, bw] := by
  have h1 := odd_cells h.1 (by intro u hu; simp at hu; rcases hu with rfl | rfl | rfl | rfl | rfl <;> exact ⟨rfl, rfl⟩)
  exact (h1.app (odd_map h.2.1)).app (odd_map h.2.2.1)
theorem odd_wal {w : World} {x g k : Nat} {v : Wn} (h : WalAt w x g k v) : Odd w [x] :=
  odd_cells h (by intro u hu; simp at hu; rcases hu with rfl | rfl | rfl | rfl | rfl | rfl | rfl | rfl <;> exact ⟨rfl, rfl⟩)
theorem odd_both {w : World} {x g bs bw k : Nat} {v : Wn} {s : St} (h : WalAt w x g k v) (hd : DiskAt w g bs bw s) : Odd w [x, g, bs, bw] := (odd_wal h).app (odd_disk hd)
section
variable {w w' : World} {B : Nat} {S : List Nat}
theorem bts_kept {A : Option Addr} {n : Nat} {xs : List Nat} (h : Bts w B A n xs) (hk : KeptBut w w' S) (ho : Odd w S) (hB : B ≤ w.heap.size) : Bts w' B A n xs := by
  obtain ⟨h1, h2, h3, h4⟩ := h
  refine ⟨h1, h2, h3, fun h0 => ?_⟩
  obtain ⟨b, off, e1, hb, hc⟩ := h4 h0
  refine ⟨b, off, e1, hb, fun i hi => ?_⟩
  have hn : b ∉ S := fun hm => by
    have := (ho b hm (off + 0) _ (hc 0 h0)).1
    simp [isBy] at this
  rw [← hc i hi]
  exact hk.cell (p := ⟨b, off + i, none⟩) (by show b < _; omega) hn
theorem sl_kept {v : Value} {xs : List Nat} (h : Sl w B v xs) (hk : KeptBut w w' S) (ho : Odd w S) (hB : B ≤ w.heap.size) : Sl w' B v xs := by
  obtain ⟨A, n, c, e, h1, h2⟩ := h
  exact ⟨A, n, c, e, bts_kept h1 hk ho hB, h2⟩
theorem sls_kept {v : Value} {ss : List (List Nat)} (h : Sls w B v ss) (hk : KeptBut w w' S) (ho : Odd w S) (hB : B ≤ w.heap.size) : Sls w' B v ss := by
  obtain ⟨A, n, c, e, h1, h2, h3, h4⟩ := h
  refine ⟨A, n, c, e, h1, h2, h3, fun h0 => ?_⟩
  obtain ⟨b, off, e1, hb, hc⟩ := h4 h0
  refine ⟨b, off, e1, hb, fun i hi => ?_⟩
  have hn : b ∉ S := fun hm => by
    obtain ⟨u, hu, A', n', c', rfl, _⟩ := hc 0 h0
    have := (ho b hm (off + 0) _ hu).2
    simp [isSlc] at this
  obtain ⟨u, hu, hs⟩ := hc i hi
  exact ⟨u, (hk.cell (p := ⟨b, off + i, none⟩) (by show b < _; omega) hn).trans hu, sl_kept hs hk ho hB⟩
theorem WalAt.kept {x g k : Nat} {v : Wn} (h : WalAt w x g k v) (hk : KeptBut w w' S) (hn : x ∉ S) : WalAt w' x g k v := hk.blk h hn
theorem WalAt.up {x g k : Nat} {v : Wn} (h : WalAt w x g k v) (hb : Below w.heap.size w w') : WalAt w' x g k v := h.kept (S := []) (kept_of_below hb (Nat.le_refl _)) (by simp)
theorem WalAt.lt {x g k : Nat} {v : Wn} (h : WalAt w x g k v) : x < w.heap.size := Blk.lt h
theorem WalAt.set_br {x g k : Nat} {v : Wn} (h : WalAt w x g k v) (b : Bool) : WalAt (w.setCell ⟨x, 7, none⟩ (.bool b)) x g k { v with br := b } := by
  have := Blk.set_ h 7 (.bool b)
  exact this
theorem WalAt.set_next {x g k : Nat} {v : Wn} (h : WalAt w x g k v) (n : Nat) : WalAt (w.setCell ⟨x, 6, none⟩ (.int .i64 (n : Nat))) x g k { v with next := n } := by
  have := Blk.set_ h 6 (.int .i64 (n : Nat))
  exact this
theorem WalAt.set_gen {x g k : Nat} {v : Wn} (h : WalAt w x g k v) (n : Int) : WalAt (w.setCell ⟨x, 4, none⟩ (.int .i64 n)) x g k { v with gen := n } := by
  have := Blk.set_ h 4 (.int .i64 n)
  exact this
theorem kept_set1 {x i : Nat} (u : Value) : KeptBut w (w.setCell ⟨x, i, none⟩ u) [x] := kept_of_grown (grown_set w ⟨x, i, none⟩ u) (by simp)
theorem DiskAt.set_far {g bs bw x i : Nat} {s : St} (h : DiskAt w g bs bw s) (u : Value) (h1 : x ≠ g) (h2 : x ≠ bs) (h3 : x ≠ bw) : DiskAt (w.setCell ⟨x, i, none⟩ u) g bs bw s :=
  h.kept (kept_set1 (i := i) u) (by simpa using Ne.symm h1) (by simpa using Ne.symm h2) (by simpa using Ne.symm h3)
end
theorem wal_ne {w : World} {x g bs bw k : Nat} {v : Wn} {s : St} (h : WalAt w x g k v) (hd : DiskAt w g bs bw s) : x ≠ g ∧ x ≠ bs ∧ x ≠ bw :=
  ⟨Blk.ne_ h hd.1 (by decide), Dsk.smap_ne_blk hd.2.1 h, Dsk.smap_ne_blk hd.2.2.1 h⟩
section
variable {w : World} {x g k : Nat} {v : Wn}
theorem WalAt.c0 (h : WalAt w x g k v) : w.cell? ⟨x, 0, none⟩ = some (ptr g) := by rw [Blk.cell h]; rfl
theorem WalAt.c1 (h : WalAt w x g k v) : w.cell? ⟨x, 1, none⟩ = some (.int .i64 (sl k : Nat)) := by rw [Blk.cell h]; rfl
theorem WalAt.c2 (h : WalAt w x g k v) : w.cell? ⟨x, 2, none⟩ = some (.int .i64 (2 * (sl k : Nat))) := by rw [Blk.cell h]; rfl
theorem WalAt.c3 (h : WalAt w x g k v) : w.cell? ⟨x, 3, none⟩ = some (.int .i64 (lg k : Nat)) := by rw [Blk.cell h]; rfl
theorem WalAt.c4 (h : WalAt w x g k v) : w.cell? ⟨x, 4, none⟩ = some (.int .i64 v.gen) := by rw [Blk.cell h]; rfl
theorem WalAt.c5 (h : WalAt w x g k v) : w.cell? ⟨x, 5, none⟩ = some (.int .i64 v.mark) := by rw [Blk.cell h]; rfl
theorem WalAt.c6 (h : WalAt w x g k v) : w.cell? ⟨x, 6, none⟩ = some (.int .i64 (v.next : Nat)) := by rw [Blk.cell h]; rfl
theorem WalAt.c7 (h : WalAt w x g k v) : w.cell? ⟨x, 7, none⟩ = some (.bool v.br) := by rw [Blk.cell h]; rfl
theorem WalAt.fz (h : WalAt w x g k v) (i : Nat) : w.frozen? ⟨x, i, none⟩ = false := Blk.frozen h i
end
end Go.Proofs.Ytddhkajcakndlaa.Wl
