/- What stays where some named blocks may have turned: the frame of a value that lies in several blocks. And the disk's plain state (layer 3). -/
import Derived.Test.YtddhkajcakndlaaSect
namespace Go.Proofs.Ytddhkajcakndlaa.Dsk
open Go.RowKit Go.Maps Go.Proofs.Ytddhkajcakndlaa.Mem
set_option linter.unusedVariables false
set_option linter.unusedSimpArgs false
/-- nothing of before has turned but blocks of S -/
structure KeptBut (w w' : World) (S : List Nat) : Prop where
  os : w'.os = w.os
  tape : w'.tape = w.tape
  output : w'.output = w.output
  size : w.heap.size ≤ w'.heap.size
  block : ∀ g, g < w.heap.size → g ∉ S → w'.heap[g]? = w.heap[g]?
section
variable {w w' w'' : World} {S : List Nat}
theorem KeptBut.refl (w : World) (S : List Nat) : KeptBut w w S := ⟨rfl, rfl, rfl, Nat.le_refl _, fun _ _ _ => rfl⟩
theorem KeptBut.trans (h : KeptBut w w' S) (k : KeptBut w' w'' S) : KeptBut w w'' S :=
  ⟨k.os.trans h.os, k.tape.trans h.tape, k.output.trans h.output, Nat.le_trans h.size k.size, fun g hg hn => (k.block g (Nat.lt_of_lt_of_le hg h.size) hn).trans (h.block g hg hn)⟩
theorem KeptBut.more {S' : List Nat} (h : KeptBut w w' S) (hs : ∀ g ∈ S, g ∈ S') : KeptBut w w' S' :=
  ⟨h.os, h.tape, h.output, h.size, fun g hg hn => h.block g hg fun hm => hn (hs g hm)⟩
theorem kept_of_grown {g : Nat} (h : w.grownBy w' (some g)) (hg : g ∈ S) : KeptBut w w' S :=
  ⟨h.os, h.tape, h.output, h.size, fun k hk hn => h.block k hk fun e => by injection e with e; subst e; exact hn hg⟩
theorem kept_of_below {B : Nat} (h : Below B w w') (hB : w.heap.size ≤ B) : KeptBut w w' S :=
  ⟨h.os, h.tape, h.output, h.size, fun k hk _ => h.block k (by omega)⟩
theorem kept_drew : KeptBut w w.drew S := ⟨rfl, rfl, rfl, Nat.le_refl _, fun _ _ _ => rfl⟩
theorem kept_alloc (o : Obj) : KeptBut w (w.alloc o) S := kept_of_below ((Below.refl _ w).alloc (Nat.le_refl _) o) (Nat.le_refl _)
theorem KeptBut.below {B : Nat} (h : KeptBut w w' S) (hS : ∀ g ∈ S, B ≤ g) (hB : B ≤ w.heap.size) : Below B w w' :=
  ⟨h.os, h.tape, h.output, h.size, fun g hg => h.block g (by omega) fun hm => by have := hS g hm; omega⟩
theorem KeptBut.cell (h : KeptBut w w' S) {p : Addr} (hp : p.block < w.heap.size) (hn : p.block ∉ S) : w'.cell? p = w.cell? p := World.cell?_of_block (h.block p.block hp hn)
theorem KeptBut.blk {g : Nat} {t : TypeId} {cs : Array Value} (h : KeptBut w w' S) (hb : Blk w g t cs) (hn : g ∉ S) : Blk w' g t cs := (h.block g hb.lt hn).trans hb
theorem KeptBut.smap {b : Nat} {f : Nat → Option (List Nat)} (h : KeptBut w w' S) (hb : SMap w b f) (hn : b ∉ S) : SMap w' b f := by
  have hlt := hb.lt
  obtain ⟨D, n, ⟨es, clock, hbb, F, hs, hD⟩, h1⟩ := hb
  exact ⟨D, n, ⟨es, clock, (h.block b hlt hn).trans hbb, F, hs, hD⟩, h1⟩
end
theorem smap_ne_blk {w : World} {b g : Nat} {f : Nat → Option (List Nat)} {t : TypeId} {cs : Array Value} (h : SMap w b f) (hb : Blk w g t cs) : g ≠ b := by
  rintro rfl
  obtain ⟨D, n, ⟨es, clock, hbb, F, hs, hD⟩, h1⟩ := h
  unfold Blk at hb
  rw [hbb] at hb
  cases hb
/-- a disk's state: how many sectors, what is safe, what waits, acts left, whether it is dead -/
structure St where
  n : Nat
  fs : Nat → Option (List Nat)
  fw : Nat → Option (List Nat)
  left : Int
  dead : Bool
/-- a disk in block g; its maps in blocks bs and bw -/
def DiskAt (w : World) (g bs bw : Nat) (s : St) : Prop :=
  Blk w g 38 #[.int .i64 (s.n : Nat), .map (some bs), .map (some bw), .int .i64 s.left, .bool s.dead] ∧ SMap w bs s.fs ∧ SMap w bw s.fw ∧ bs ≠ bw ∧ 1 ≤ s.n ∧ s.n ≤ 1024 ∧
    -9223372036854775808 ≤ s.left ∧ s.left ≤ 9223372036854775807 ∧ (∀ i, s.n ≤ i → s.fw i = none)
section
variable {w w' : World} {g bs bw : Nat} {s : St} {S : List Nat}
theorem DiskAt.kept (h : DiskAt w g bs bw s) (hk : KeptBut w w' S) (h1 : g ∉ S) (h2 : bs ∉ S) (h3 : bw ∉ S) : DiskAt w' g bs bw s := by
  obtain ⟨hb, hs, hw, hne, hr⟩ := h
  exact ⟨hk.blk hb h1, hk.smap hs h2, hk.smap hw h3, hne, hr⟩
theorem DiskAt.below (h : DiskAt w g bs bw s) (hb : Below w.heap.size w w') : DiskAt w' g bs bw s := h.kept (S := []) (kept_of_below hb (Nat.le_refl _)) (by simp) (by simp) (by simp)
theorem DiskAt.drew (h : DiskAt w g bs bw s) : DiskAt w.drew g bs bw s := h.kept (S := []) kept_drew (by simp) (by simp) (by simp)
theorem DiskAt.alloc (h : DiskAt w g bs bw s) (o : Obj) : DiskAt (w.alloc o) g bs bw s := h.kept (S := []) (kept_alloc o) (by simp) (by simp) (by simp)
theorem DiskAt.lt (h : DiskAt w g bs bw s) : g < w.heap.size ∧ bs < w.heap.size ∧ bw < w.heap.size := ⟨h.1.lt, h.2.1.lt, h.2.2.1.lt⟩
theorem DiskAt.ne (h : DiskAt w g bs bw s) : g ≠ bs ∧ g ≠ bw ∧ bs ≠ bw := ⟨smap_ne_blk h.2.1 h.1, smap_ne_blk h.2.2.1 h.1, h.2.2.2.1⟩
end
def St.get (s : St) (i : Nat) : List Nat := ((s.fw i).or (s.fs i)).getD noughts
def St.act (s : St) : St × Bool := if s.left = 0 then ({ s with dead := true }, false) else ({ s with left := if 0 < s.left then s.left - 1 else s.left }, true)
def upd1 (f : Nat → Option (List Nat)) (i : Nat) (xs : List Nat) : Nat → Option (List Nat) := fun j => if j = i then some xs else f j
def St.write (s : St) (i : Int) (xs : List Nat) : St × Int :=
  if s.dead = true then (s, 7) else if 0 ≤ i ∧ i < s.n ∧ xs.length = 512 then (if s.act.2 = true then ({ s.act.1 with fw := upd1 s.act.1.fw i.toNat xs }, 0) else (s.act.1, 7)) else (s, 1)
def St.flush (s : St) : St × Int :=
  if s.dead = true then (s, 7) else if s.act.2 = true then ({ s.act.1 with fs := fun i => (s.fw i).or (s.fs i), fw := fun _ => none }, 0) else (s.act.1, 7)
def torn (b s : List Nat) : List Nat := b.take 512 ++ s.drop b.length
def St.tear (s : St) (i : Nat) (k : Int) (b : List Nat) : St :=
  if k = 1 then { s with fs := upd1 s.fs i ((s.fw i).getD noughts) } else if k = 2 then { s with fs := upd1 s.fs i (torn b ((s.fs i).getD noughts)) } else s
def St.waiting (s : St) : List Nat := (List.range s.n).filter fun i => (s.fw i).isSome
def St.tears (s : St) (l : List (Nat × Int × List Nat)) : St := l.foldl (fun s p => s.tear p.1 p.2.1 p.2.2) s
def St.crash (s : St) (l : List (Int × List Nat)) : St := { s.tears (s.waiting.zip l) with fw := fun _ => none, left := -1, dead := false }
theorem tear_same (s : St) (i : Nat) (k : Int) (b : List Nat) : (s.tear i k b).n = s.n ∧ (s.tear i k b).fw = s.fw ∧ (s.tear i k b).left = s.left ∧ (s.tear i k b).dead = s.dead := by
  unfold St.tear
  split
  · exact ⟨rfl, rfl, rfl, rfl⟩
  · split <;> exact ⟨rfl, rfl, rfl, rfl⟩
theorem tears_same (l : List (Nat × Int × List Nat)) : ∀ (s : St), (s.tears l).n = s.n ∧ (s.tears l).fw = s.fw := by
  induction l with
  | nil => exact fun s => ⟨rfl, rfl⟩
  | cons p r ih =>
    intro s
    obtain ⟨h1, h2⟩ := ih (s.tear p.1 p.2.1 p.2.2)
    obtain ⟨h3, h4, _, _⟩ := tear_same s p.1 p.2.1 p.2.2
    exact ⟨h1.trans h3, h2.trans h4⟩
theorem tears_step (s : St) (l : List (Nat × Int × List Nat)) (k : Nat) (p : Nat × Int × List Nat) (h : l[k]? = some p) : s.tears (l.take (k + 1)) = (s.tears (l.take k)).tear p.1 p.2.1 p.2.2 := by
  rw [List.take_add_one, h]
  simp [St.tears, List.foldl_append]
theorem waiting_lt (s : St) : ∀ i ∈ s.waiting, i < s.n := fun i h => List.mem_range.1 (List.mem_filter.1 h).1
theorem torn_sec {b s : List Nat} (hb : ∀ x ∈ b, x < 256) (hs : IsSec s) : IsSec (torn b s) := by
  refine ⟨by simp [torn, hs.1]; omega, fun x hx => ?_⟩
  rcases List.mem_append.1 hx with h | h
  · exact hb x (List.mem_of_mem_take h)
  · exact hs.2 x (List.mem_of_mem_drop h)
end Go.Proofs.Ytddhkajcakndlaa.Dsk
