/- DiskAll: the texts Sect, Kept, Meth, Read, Write, Copy, Flush, None, Waits, Tear, Crash, RefW, RefS, RefT, RefU, RefN, RefX, RefF, RefC, Ones, Clone, Fine, Ac, Like, Light, LightIn in one. (Printed by tools/mergeall.py.) -/
import Derived.Test.YtnenbocjfekmfaaGreatKeys
import Derived.Test.YtnenbocjfekmfaaGreatLowAll
import Derived.BigQuiet
import Derived.Deep.CutRange
import Derived.Deep.OwnRows
import Derived.Deep.QuietTactic
import Derived.Deep.RegionHeld3
import Derived.Deep.RegionLaw
import Derived.Deep.WholeRow
import Derived.Laws.CopyOwn
import Derived.Maps.Ext
import Derived.Maps.OwnOps
import Derived.Maps.OwnSet
import Derived.Maps.RangeWalk
import Derived.Shelf.Abstract
import Derived.Shelf.SlMaps.Clone
import Derived.StillTailTactics
/- Sectors, as values, and maps of them (layer 3): what a map[int]sector holds, as a plain function of the sector's number. Condition: the numbers lie below 1024. -/
namespace Go.Proofs.YtnenbocjfekmfaaGreat.Dsk
open Go.RowKit Go.Maps Go.MapKept Go.ChangeMaps Go.Proofs.YtnenbocjfekmfaaGreat.Mem
set_option linter.unusedVariables false
set_option linter.unusedSimpArgs false
def IsSec (xs : List Nat) : Prop := xs.length = 512 ∧ ∀ x ∈ xs, x < 256
abbrev secV (xs : List Nat) : Value := .agg (vals xs).toArray
def noughts : List Nat := List.replicate 512 0
theorem isSec_noughts : IsSec noughts := ⟨List.length_replicate, fun x hx => by rw [List.eq_of_mem_replicate hx]; decide⟩
def byteOf : Value → Option Nat
  | .int .u8 x => if 0 ≤ x ∧ x < 256 then some x.toNat else none
  | _ => none
def secOf : Value → Option (List Nat)
  | .agg cs => cs.toList.mapM byteOf
  | _ => none
def secR (v : Value) : Option (DataW (List Nat) × List MemPlace) :=
  match secOf v with
  | some xs => if xs.length = 512 then some (.held xs, []) else none
  | none => none
theorem byteOf_mk {x : Nat} (h : x < 256) : byteOf (.int .u8 (x : Int)) = some x := by
  simp [byteOf]
  omega
theorem byteOf_inv {v : Value} {x : Nat} (h : byteOf v = some x) : v = .int .u8 (x : Int) ∧ x < 256 := by
  unfold byteOf at h
  split at h
  · split at h
    · rename_i y hy
      injection h with h
      subst h
      refine ⟨by congr 1; omega, by omega⟩
    · cases h
  · cases h
theorem mapM_byte : ∀ {xs : List Nat}, (∀ x ∈ xs, x < 256) → (vals xs).mapM byteOf = some xs
  | [], _ => rfl
  | x :: r, h => by
    have h1 := byteOf_mk (h x (List.mem_cons_self ..))
    have h2 := mapM_byte (xs := r) (fun y hy => h y (List.mem_cons_of_mem _ hy))
    simp only [vals, List.map_cons] at h2 ⊢
    simp [h1, h2]
theorem mapM_byte_inv : ∀ {l : List Value} {xs : List Nat}, l.mapM byteOf = some xs → l = vals xs ∧ ∀ x ∈ xs, x < 256
  | [], xs, h => by
    simp at h
    subst h
    exact ⟨rfl, by simp⟩
  | v :: r, xs, h => by
    rw [List.mapM_cons] at h
    cases hv : byteOf v with
    | none => simp [hv] at h
    | some x =>
      cases hr : r.mapM byteOf with
      | none => simp [hv, hr] at h
      | some ys =>
        simp [hv, hr] at h
        subst h
        obtain ⟨rfl, hx⟩ := byteOf_inv hv
        obtain ⟨rfl, hy⟩ := mapM_byte_inv hr
        exact ⟨rfl, by intro z hz; rcases List.mem_cons.1 hz with rfl | hz; exact hx; exact hy z hz⟩
theorem secR_mk {xs : List Nat} (h : IsSec xs) : secR (secV xs) = some (.held xs, []) := by
  simp [secR, secOf, mapM_byte h.2, h.1]
theorem secR_inv {v : Value} {y : DataW (List Nat) × List MemPlace} (h : secR v = some y) : ∃ xs, IsSec xs ∧ v = secV xs ∧ y = (.held xs, []) := by
  unfold secR at h
  split at h
  · rename_i xs hx
    split at h
    · rename_i hl
      injection h with h
      subst h
      unfold secOf at hx
      split at hx
      · rename_i cs
        obtain ⟨e, hlt⟩ := mapM_byte_inv hx
        refine ⟨xs, ⟨hl, hlt⟩, ?_, rfl⟩
        rw [secV, ← e]
      · cases hx
    · cases h
  · cases h
theorem keyed : Keyed Tryz.prog 3 := int_keyed Tryz.underlying3
theorem info72 : (Tryz.prog.info? 118).map (fun i => (i.zero, i.size)) = some (some (secV noughts), 512) := by kernel_rfl
theorem zero72 (w : World) : (zeroValue 118).run Tryz.prog w = .ok (secV noughts) w := (zero_of_info info72).1 w
theorem size72 : (Tryz.prog.info? 118).map (·.size) = some 512 := (zero_of_info info72).2
theorem key_mk {i : Nat} (hi : i < 1024) : keyOf Tryz.prog 3 (.int .i64 (i : Int)) = some (.int .i64 (i : Int)) :=
  keyOf_int_mk Tryz.underlying3 (WalkArith.wf_i64 (by omega))
theorem nodup_le : ∀ (N : Nat) (l : List Nat), l.Nodup → (∀ x ∈ l, x < N) → l.length ≤ N
  | 0, l, _, h => by
    cases l with
    | nil => simp
    | cons x r => exact absurd (h x (List.mem_cons_self ..)) (by omega)
  | N + 1, l, hn, h => by
    have ih := nodup_le N (l.erase N) (hn.erase N) (fun x hx => by
      have h1 := (hn.mem_erase_iff).1 hx
      have h2 := h x h1.2
      have h3 := h1.1
      omega)
    rw [List.length_erase] at ih
    split at ih <;> omega
def natKey : Lit → Nat
  | .int _ x => x.toNat
  | _ => 0
theorem size_bound {es : List (Lit × DataW (List Nat))} {N : Nat} (hp : es.Pairwise (fun p q => p.1 ≠ q.1)) (hk : ∀ p ∈ es, ∃ i : Nat, i < N ∧ p.1 = .int .i64 (i : Int)) : es.length ≤ N := by
  have h := nodup_le N (es.map fun p => natKey p.1) (by
    rw [List.Nodup, List.pairwise_map]
    refine List.Pairwise.imp_of_mem (fun {p q} hpm hqm hne he => hne ?_) hp
    obtain ⟨i, _, hi⟩ := hk p hpm
    obtain ⟨j, _, hj⟩ := hk q hqm
    rw [hi, hj] at he ⊢
    simp [natKey] at he
    rw [he]) (by
    intro x hx
    obtain ⟨p, hpm, rfl⟩ := List.mem_map.1 hx
    obtain ⟨i, hi, e⟩ := hk p hpm
    rw [e]
    simpa [natKey] using hi)
  simpa using h
/-- a map of sectors, as a function of the sector's number -/
def SMap (w : World) (b : Nat) (f : Nat → Option (List Nat)) : Prop :=
  ∃ (D : DataW (List Nat)) (n : Nat), w.ownsMap Tryz.prog 3 secR b n D ∧ n ≤ 1024 ∧ (∀ kl, Maps.has D kl = true → ∃ i : Nat, i < 1024 ∧ kl = .int .i64 (i : Int)) ∧
    ∀ i : Nat, (f i = none ∧ Maps.has D (.int .i64 (i : Int)) = false) ∨ ∃ xs, f i = some xs ∧ IsSec xs ∧ ∀ zd, D.atKey (.int .i64 (i : Int)) zd = .held xs
theorem owns_size {w : World} {b n : Nat} {D : DataW (List Nat)} (h : w.ownsMap Tryz.prog 3 secR b n D) (hk : ∀ kl, Maps.has D kl = true → ∃ i : Nat, i < 1024 ∧ kl = .int .i64 (i : Int)) :
    w.ownsMap Tryz.prog 3 secR b 1024 D := by
  obtain ⟨es', hD', hp, hkl⟩ := h.entries keyed
  obtain ⟨es, clock, hb, F, hs, hD⟩ := h
  refine ⟨es, clock, hb, F, ?_, hD⟩
  have e1 : es'.length = es.size := by
    rw [hD'] at hD
    injection hD with hD
    rw [hD, length_sorted]
    simp
  rw [← e1]
  refine size_bound hp fun p hpm => hk _ ?_
  rw [hD', has_eq, List.any_eq_true]
  refine ⟨p, hpm, ?_⟩
  have := hkl p hpm
  obtain ⟨l, d⟩ := p
  cases l <;> simp_all [Lit.sameKey, WideAt.IsKeyLit]
section
variable {w w' : World} {b : Nat} {f : Nat → Option (List Nat)}
theorem SMap.made (w : World) : SMap (w.alloc (.map #[] 0)) w.heap.size (fun _ => none) :=
  ⟨_, 0, World.ownsMap_made w _ _ _, by omega, fun kl h => by simp [Maps.has] at h, fun i => .inl ⟨rfl, by simp [Maps.has]⟩⟩
theorem SMap.lt (h : SMap w b f) : b < w.heap.size := by
  obtain ⟨D, n, hown, _⟩ := h
  exact hown.lt
theorem SMap.kept {row : Option Nat} (h : SMap w b f) (hg : w.grownBy w' row) (hne : some b ≠ row) : SMap w' b f := by
  obtain ⟨D, n, hown, h1⟩ := h
  exact ⟨D, n, hown.kept hg hne, h1⟩
theorem SMap.ext {f' : Nat → Option (List Nat)} (h : SMap w b f) (e : ∀ i, f i = f' i) : SMap w b f' := by
  have : f = f' := funext e
  rwa [← this]
theorem SMap.sec {i : Nat} {xs : List Nat} (h : SMap w b f) (hf : f i = some xs) : IsSec xs ∧ i < 1024 := by
  obtain ⟨D, n, hown, hn, hk, hat⟩ := h
  rcases hat i with ⟨h0, _⟩ | ⟨ys, h1, h2, h3⟩
  · rw [h0] at hf; cases hf
  · rw [h1] at hf
    injection hf with hf
    subst hf
    obtain ⟨j, hj, e⟩ := hk _ (has_true_of_atKey h3)
    injection e with _ e
    exact ⟨h2, by omega⟩
theorem SMap.secD (h : SMap w b f) (i : Nat) : IsSec ((f i).getD noughts) := by
  cases hf : f i with
  | none => exact isSec_noughts
  | some xs => exact (h.sec hf).1
theorem SMap.look (h : SMap w b f) {i : Nat} (hi : i < 1024) :
    (Instr.lookup 66 (.map (some b)) (.int .i64 (i : Int)) false).run Tryz.prog w = .ok (secV ((f i).getD noughts)) w := by
  obtain ⟨D, n, hown, hn, hk, hat⟩ := h
  obtain ⟨v, ps, hrun, hv⟩ := hown.lookup keyed Tryz.underlying66 (zero72 w) (secR_mk isSec_noughts) (key_mk hi)
  rw [hrun]
  obtain ⟨ys, _, rfl, hy⟩ := secR_inv hv
  rcases hat i with ⟨h0, h1⟩ | ⟨xs, h1, h2, h3⟩
  · rw [atKey_of_not_has h1] at hy
    simp at hy
    rw [h0, ← hy.1]
    rfl
  · rw [h3] at hy
    simp at hy
    rw [h1, ← hy.1]
    rfl
theorem SMap.look_ok (h : SMap w b f) {i : Nat} (hi : i < 1024) :
    (Instr.lookup 66 (.map (some b)) (.int .i64 (i : Int)) true).run Tryz.prog w = .ok (.tuple #[secV ((f i).getD noughts), .bool (f i).isSome]) w := by
  obtain ⟨D, n, hown, hn, hk, hat⟩ := h
  obtain ⟨v, ps, hrun, hv⟩ := hown.look_ok keyed Tryz.underlying66 (zero72 w) (secR_mk isSec_noughts) (key_mk hi)
  rw [hrun]
  obtain ⟨ys, _, rfl, hy⟩ := secR_inv hv
  rcases hat i with ⟨h0, h1⟩ | ⟨xs, h1, h2, h3⟩
  · rw [atKey_of_not_has h1] at hy
    simp at hy
    rw [h0, h1, ← hy.1]
    rfl
  · rw [h3] at hy
    simp at hy
    rw [h1, has_true_of_atKey h3, ← hy.1]
    rfl
theorem lit_ne {i j : Nat} (h : j ≠ i) : (Lit.int .i64 (j : Int)) ≠ .int .i64 (i : Int) := by
  intro e
  injection e with _ e
  omega
theorem isKeyLit (i : Nat) : WideAt.IsKeyLit (.int .i64 (i : Int)) := by simp [WideAt.IsKeyLit]
theorem owns_put {n : Nat} {D : DataW (List Nat)} {i : Nat} {xs : List Nat} (hm : IsMap D) (hi : i < 1024) (hx : IsSec xs)
    (hk : ∀ kl, Maps.has D kl = true → ∃ i : Nat, i < 1024 ∧ kl = .int .i64 (i : Int))
    (hat : ∀ i : Nat, (f i = none ∧ Maps.has D (.int .i64 (i : Int)) = false) ∨ ∃ xs, f i = some xs ∧ IsSec xs ∧ ∀ zd, D.atKey (.int .i64 (i : Int)) zd = .held xs)
    (hown : w.ownsMap Tryz.prog 3 secR b n (D.put (.int .i64 (i : Int)) (.held xs))) : SMap w b (fun j => if j = i then some xs else f j) := by
  have hk' : ∀ kl, Maps.has (D.put (.int .i64 (i : Int)) (.held xs)) kl = true → ∃ i : Nat, i < 1024 ∧ kl = .int .i64 (i : Int) := by
    intro kl h
    by_cases e : kl = .int .i64 (i : Int)
    · exact ⟨i, hi, e⟩
    · rw [has_put_other e] at h
      exact hk kl h
  refine ⟨_, 1024, owns_size hown hk', Nat.le_refl _, hk', fun j => ?_⟩
  by_cases e : j = i
  · subst e
    exact .inr ⟨xs, by simp, hx, fun zd => atKey_put_same hm (isKeyLit j) _ _⟩
  · rcases hat j with ⟨h0, h1⟩ | ⟨ys, h1, h2, h3⟩
    · exact .inl ⟨by simp [e, h0], by rw [has_put_other (lit_ne e)]; exact h1⟩
    · exact .inr ⟨ys, by simp [e, h1], h2, fun zd => by rw [atKey_put_other (lit_ne e)]; exact h3 zd⟩
theorem SMap.put (h : SMap w b f) {i : Nat} {xs : List Nat} (hi : i < 1024) (hx : IsSec xs) :
    ∃ w', (Instr.mapUpdate 66 (.map (some b)) (.int .i64 (i : Int)) (secV xs)).run Tryz.prog w = .ok () w' ∧ SMap w' b (fun j => if j = i then some xs else f j) ∧ w.grownBy w' (some b) := by
  obtain ⟨D, n, hown, hn, hk, hat⟩ := h
  obtain ⟨w', hrun, hown', hg⟩ := hown.update keyed Tryz.underlying66 (by unfold maxLen; omega) (key_mk hi) (secR_mk hx)
  exact ⟨w', hrun, owns_put hown.isMap hi hx hk hat hown', hg⟩
theorem SMap.wipe (h : SMap w b f) (ty : TypeId) :
    ∃ w', (Builtin.clear_ #[66] ty #[.map (some b)]).run Tryz.prog w = .ok (.tuple #[]) w' ∧ SMap w' b (fun _ => none) ∧ w.grownBy w' (some b) := by
  obtain ⟨D, n, ⟨es, clock, hb, F, hs, hD⟩, hn, hk, hat⟩ := h
  refine ⟨setBlock w b (.map #[] clock), ?_, ⟨.map [], 0, ⟨#[], clock, heap_setBlock_same hb _, ⟨by simp, stamped_empty _, by simp⟩, by simp, rfl⟩, by omega, fun kl h => by simp [Maps.has] at h, fun i => .inl ⟨rfl, by simp [Maps.has]⟩⟩, ⟨rfl, rfl, rfl, by simp [setBlock], fun i _ hi => heap_setBlock_other hb _ (fun e => hi (by rw [e]))⟩⟩
  simp [Builtin.clear_, run_underlying Tryz.underlying66, MapKept.run_getObj_map hb, MapKept.run_setObj_map _ hb, Result.andThen]
  rfl
end
end Go.Proofs.YtnenbocjfekmfaaGreat.Dsk
/- What stays where some named blocks may have turned: the frame of a value that lies in several blocks. And the disk's plain state (layer 3). -/
namespace Go.Proofs.YtnenbocjfekmfaaGreat.Dsk
open Go.RowKit Go.Maps Go.Proofs.YtnenbocjfekmfaaGreat.Mem
set_option linter.unusedVariables false
set_option linter.unusedSimpArgs false
/-- nothing of before has turned but blocks of S -/
structure KeptBut (w w' : World) (S : List Nat) : Prop where
  os : w'.os = w.os
  tape : w'.tape = w.tape
  output : w'.output = w.output
  size : w.heap.size ≤ w'.heap.size
  block : ∀ g, g < w.heap.size → g ∉ S → w'.heap[g]? = w.heap[g]?
section
variable {w w' w'' : World} {S : List Nat}
theorem KeptBut.refl (w : World) (S : List Nat) : KeptBut w w S := ⟨rfl, rfl, rfl, Nat.le_refl _, fun _ _ _ => rfl⟩
theorem KeptBut.trans (h : KeptBut w w' S) (k : KeptBut w' w'' S) : KeptBut w w'' S :=
  ⟨k.os.trans h.os, k.tape.trans h.tape, k.output.trans h.output, Nat.le_trans h.size k.size, fun g hg hn => (k.block g (Nat.lt_of_lt_of_le hg h.size) hn).trans (h.block g hg hn)⟩
theorem KeptBut.more {S' : List Nat} (h : KeptBut w w' S) (hs : ∀ g ∈ S, g ∈ S') : KeptBut w w' S' :=
  ⟨h.os, h.tape, h.output, h.size, fun g hg hn => h.block g hg fun hm => hn (hs g hm)⟩
theorem kept_of_grown {g : Nat} (h : w.grownBy w' (some g)) (hg : g ∈ S) : KeptBut w w' S :=
  ⟨h.os, h.tape, h.output, h.size, fun k hk hn => h.block k hk fun e => by injection e with e; subst e; exact hn hg⟩
theorem kept_of_below {B : Nat} (h : Below B w w') (hB : w.heap.size ≤ B) : KeptBut w w' S :=
  ⟨h.os, h.tape, h.output, h.size, fun k hk _ => h.block k (by omega)⟩
theorem kept_drew : KeptBut w w.drew S := ⟨rfl, rfl, rfl, Nat.le_refl _, fun _ _ _ => rfl⟩
theorem kept_alloc (o : Obj) : KeptBut w (w.alloc o) S := kept_of_below ((Below.refl _ w).alloc (Nat.le_refl _) o) (Nat.le_refl _)
theorem KeptBut.below {B : Nat} (h : KeptBut w w' S) (hS : ∀ g ∈ S, B ≤ g) (hB : B ≤ w.heap.size) : Below B w w' :=
  ⟨h.os, h.tape, h.output, h.size, fun g hg => h.block g (by omega) fun hm => by have := hS g hm; omega⟩
theorem KeptBut.cell (h : KeptBut w w' S) {p : Addr} (hp : p.block < w.heap.size) (hn : p.block ∉ S) : w'.cell? p = w.cell? p := World.cell?_of_block (h.block p.block hp hn)
theorem KeptBut.blk {g : Nat} {t : TypeId} {cs : Array Value} (h : KeptBut w w' S) (hb : Blk w g t cs) (hn : g ∉ S) : Blk w' g t cs := (h.block g hb.lt hn).trans hb
theorem KeptBut.smap {b : Nat} {f : Nat → Option (List Nat)} (h : KeptBut w w' S) (hb : SMap w b f) (hn : b ∉ S) : SMap w' b f := by
  have hlt := hb.lt
  obtain ⟨D, n, ⟨es, clock, hbb, F, hs, hD⟩, h1⟩ := hb
  exact ⟨D, n, ⟨es, clock, (h.block b hlt hn).trans hbb, F, hs, hD⟩, h1⟩
end
theorem smap_ne_blk {w : World} {b g : Nat} {f : Nat → Option (List Nat)} {t : TypeId} {cs : Array Value} (h : SMap w b f) (hb : Blk w g t cs) : g ≠ b := by
  rintro rfl
  obtain ⟨D, n, ⟨es, clock, hbb, F, hs, hD⟩, h1⟩ := h
  unfold Blk at hb
  rw [hbb] at hb
  cases hb
/-- a disk's state: how many sectors, what is safe, what waits, acts left, whether it is dead -/
structure St where
  n : Nat
  fs : Nat → Option (List Nat)
  fw : Nat → Option (List Nat)
  left : Int
  dead : Bool
/-- a disk in block g; its maps in blocks bs and bw -/
def DiskAt (w : World) (g bs bw : Nat) (s : St) : Prop :=
  Blk w g 68 #[.int .i64 (s.n : Nat), .map (some bs), .map (some bw), .int .i64 s.left, .bool s.dead] ∧ SMap w bs s.fs ∧ SMap w bw s.fw ∧ bs ≠ bw ∧ 1 ≤ s.n ∧ s.n ≤ 1024 ∧
    -9223372036854775808 ≤ s.left ∧ s.left ≤ 9223372036854775807 ∧ (∀ i, s.n ≤ i → s.fw i = none)
section
variable {w w' : World} {g bs bw : Nat} {s : St} {S : List Nat}
theorem DiskAt.kept (h : DiskAt w g bs bw s) (hk : KeptBut w w' S) (h1 : g ∉ S) (h2 : bs ∉ S) (h3 : bw ∉ S) : DiskAt w' g bs bw s := by
  obtain ⟨hb, hs, hw, hne, hr⟩ := h
  exact ⟨hk.blk hb h1, hk.smap hs h2, hk.smap hw h3, hne, hr⟩
theorem DiskAt.below (h : DiskAt w g bs bw s) (hb : Below w.heap.size w w') : DiskAt w' g bs bw s := h.kept (S := []) (kept_of_below hb (Nat.le_refl _)) (by simp) (by simp) (by simp)
theorem DiskAt.drew (h : DiskAt w g bs bw s) : DiskAt w.drew g bs bw s := h.kept (S := []) kept_drew (by simp) (by simp) (by simp)
theorem DiskAt.alloc (h : DiskAt w g bs bw s) (o : Obj) : DiskAt (w.alloc o) g bs bw s := h.kept (S := []) (kept_alloc o) (by simp) (by simp) (by simp)
theorem DiskAt.lt (h : DiskAt w g bs bw s) : g < w.heap.size ∧ bs < w.heap.size ∧ bw < w.heap.size := ⟨h.1.lt, h.2.1.lt, h.2.2.1.lt⟩
theorem DiskAt.ne (h : DiskAt w g bs bw s) : g ≠ bs ∧ g ≠ bw ∧ bs ≠ bw := ⟨smap_ne_blk h.2.1 h.1, smap_ne_blk h.2.2.1 h.1, h.2.2.2.1⟩
end
def St.get (s : St) (i : Nat) : List Nat := ((s.fw i).or (s.fs i)).getD noughts
def St.act (s : St) : St × Bool := if s.left = 0 then ({ s with dead := true }, false) else ({ s with left := if 0 < s.left then s.left - 1 else s.left }, true)
def upd1 (f : Nat → Option (List Nat)) (i : Nat) (xs : List Nat) : Nat → Option (List Nat) := fun j => if j = i then some xs else f j
def St.write (s : St) (i : Int) (xs : List Nat) : St × Int :=
  if s.dead = true then (s, 7) else if 0 ≤ i ∧ i < s.n ∧ xs.length = 512 then (if s.act.2 = true then ({ s.act.1 with fw := upd1 s.act.1.fw i.toNat xs }, 0) else (s.act.1, 7)) else (s, 1)
def St.flush (s : St) : St × Int :=
  if s.dead = true then (s, 7) else if s.act.2 = true then ({ s.act.1 with fs := fun i => (s.fw i).or (s.fs i), fw := fun _ => none }, 0) else (s.act.1, 7)
def torn (b s : List Nat) : List Nat := b.take 512 ++ s.drop b.length
def St.tear (s : St) (i : Nat) (k : Int) (b : List Nat) : St :=
  if k = 1 then { s with fs := upd1 s.fs i ((s.fw i).getD noughts) } else if k = 2 then { s with fs := upd1 s.fs i (torn b ((s.fs i).getD noughts)) } else s
def St.waiting (s : St) : List Nat := (List.range s.n).filter fun i => (s.fw i).isSome
def St.tears (s : St) (l : List (Nat × Int × List Nat)) : St := l.foldl (fun s p => s.tear p.1 p.2.1 p.2.2) s
def St.crash (s : St) (l : List (Int × List Nat)) : St := { s.tears (s.waiting.zip l) with fw := fun _ => none, left := -1, dead := false }
theorem tear_same (s : St) (i : Nat) (k : Int) (b : List Nat) : (s.tear i k b).n = s.n ∧ (s.tear i k b).fw = s.fw ∧ (s.tear i k b).left = s.left ∧ (s.tear i k b).dead = s.dead := by
  unfold St.tear
  split
  · exact ⟨rfl, rfl, rfl, rfl⟩
  · split <;> exact ⟨rfl, rfl, rfl, rfl⟩
theorem tears_same (l : List (Nat × Int × List Nat)) : ∀ (s : St), (s.tears l).n = s.n ∧ (s.tears l).fw = s.fw := by
  induction l with
  | nil => exact fun s => ⟨rfl, rfl⟩
  | cons p r ih =>
    intro s
    obtain ⟨h1, h2⟩ := ih (s.tear p.1 p.2.1 p.2.2)
    obtain ⟨h3, h4, _, _⟩ := tear_same s p.1 p.2.1 p.2.2
    exact ⟨h1.trans h3, h2.trans h4⟩
theorem tears_step (s : St) (l : List (Nat × Int × List Nat)) (k : Nat) (p : Nat × Int × List Nat) (h : l[k]? = some p) : s.tears (l.take (k + 1)) = (s.tears (l.take k)).tear p.1 p.2.1 p.2.2 := by
  rw [List.take_add_one, h]
  simp [St.tears, List.foldl_append]
theorem waiting_lt (s : St) : ∀ i ∈ s.waiting, i < s.n := fun i h => List.mem_range.1 (List.mem_filter.1 h).1
theorem torn_sec {b s : List Nat} (hb : ∀ x ∈ b, x < 256) (hs : IsSec s) : IsSec (torn b s) := by
  refine ⟨by simp [torn, hs.1]; omega, fun x hx => ?_⟩
  rcases List.mem_append.1 hx with h | h
  · exact hb x (List.mem_of_mem_take h)
  · exact hs.2 x (List.mem_of_mem_drop h)
end Go.Proofs.YtnenbocjfekmfaaGreat.Dsk
/- The contracts of a disk's small calls (layer 3): isNone, has, Size, Dead, act, Arm, New, Read. -/
namespace Go.Proofs.YtnenbocjfekmfaaGreat.Dsk
open Go.RowKit Go.Maps Go.Proofs.YtnenbocjfekmfaaGreat.Mem
set_option linter.unusedVariables false
set_option linter.unusedSimpArgs false
abbrev ptr (g : Nat) : Value := .pointer (some ⟨g, 0, none⟩)
section
variable {w : World} {g bs bw : Nat} {s : St}
theorem DiskAt.c0 (h : DiskAt w g bs bw s) : w.cell? ⟨g, 0, none⟩ = some (.int .i64 (s.n : Nat)) := by rw [h.1.cell]; rfl
theorem DiskAt.c1 (h : DiskAt w g bs bw s) : w.cell? ⟨g, 1, none⟩ = some (.map (some bs)) := by rw [h.1.cell]; rfl
theorem DiskAt.c2 (h : DiskAt w g bs bw s) : w.cell? ⟨g, 2, none⟩ = some (.map (some bw)) := by rw [h.1.cell]; rfl
theorem DiskAt.c3 (h : DiskAt w g bs bw s) : w.cell? ⟨g, 3, none⟩ = some (.int .i64 s.left) := by rw [h.1.cell]; rfl
theorem DiskAt.c4 (h : DiskAt w g bs bw s) : w.cell? ⟨g, 4, none⟩ = some (.bool s.dead) := by rw [h.1.cell]; rfl
end
set_option maxHeartbeats 400000 in
theorem isNone_no (g bs bw : Nat) (s : St) (w : World) (h : DiskAt w g bs bw s) :
    Calls Tryz.prog 56 #[ptr g] w fun e w' => e = .returned (.bool false) ∧ w = w' := by
  have c0 := h.c0
  have hn := h.2.2.2.2.1
  obtain ⟨n, fs, fw, L, dead⟩ := s
  simp only at c0 hn
  clear h
  have hz : ((n : Int) == 0) = false := beq_false_of_ne (by omega)
  go_enter Tryz.func56, Tryz.ntmps56
  go_wp2
  go_ret
  exact ⟨rfl, rfl⟩
set_option maxHeartbeats 400000 in
theorem has_any (g bs bw : Nat) (s : St) (i : Int) (w : World) (h : DiskAt w g bs bw s) :
    Calls Tryz.prog 91 #[ptr g, .int .i64 i] w fun e w' => e = .returned (.bool (decide (0 ≤ i ∧ i < s.n))) ∧ w = w' := by
  have c0 := h.c0
  obtain ⟨n, fs, fw, L, dead⟩ := s
  simp only at c0 ⊢
  clear h
  by_cases h0 : 0 ≤ i
  · have hd : decide ((0 : Int) ≤ i) = true := by simpa using h0
    go_enter Tryz.func91, Tryz.ntmps91
    go_wp2
    go_ret
    exact ⟨ret_bool (by simp [h0]), rfl⟩
  · have hd : decide ((0 : Int) ≤ i) = false := by simpa using h0
    go_enter Tryz.func91, Tryz.ntmps91
    go_wp2
    go_ret
    exact ⟨ret_bool (by simp [h0]), rfl⟩
set_option maxHeartbeats 400000 in
theorem size_any (g bs bw : Nat) (s : St) (w : World) (h : DiskAt w g bs bw s) :
    Calls Tryz.prog 33 #[ptr g] w fun e w' => e = .returned (.int .i64 (s.n : Nat)) ∧ w = w' := by
  have c0 := h.c0
  have C1 := Lib.hid (isNone_no g bs bw s w h)
  obtain ⟨n, fs, fw, L, dead⟩ := s
  simp only at c0 ⊢
  clear h
  go_enter Tryz.func33, Tryz.ntmps33
  go_wp2_with (go_at_call 56; refine (C1.out).mono ?_; rintro e w' ⟨rfl, rfl⟩)
  go_ret
  exact ⟨rfl, rfl⟩
set_option maxHeartbeats 400000 in
theorem dead_any (g bs bw : Nat) (s : St) (w : World) (h : DiskAt w g bs bw s) :
    Calls Tryz.prog 28 #[ptr g] w fun e w' => e = .returned (.bool s.dead) ∧ w = w' := by
  have c4 := h.c4
  have C1 := Lib.hid (isNone_no g bs bw s w h)
  obtain ⟨n, fs, fw, L, dead⟩ := s
  simp only at c4 ⊢
  clear h
  go_enter Tryz.func28, Tryz.ntmps28
  go_wp2_with (go_at_call 56; refine (C1.out).mono ?_; rintro e w' ⟨rfl, rfl⟩)
  go_ret
  exact ⟨rfl, rfl⟩
theorem disk_set {w : World} {g bs bw : Nat} {s s' : St} (h : DiskAt w g bs bw s) (i : Nat) (u : Value)
    (e : (#[.int .i64 (s.n : Nat), .map (some bs), .map (some bw), .int .i64 s.left, .bool s.dead] : Array Value).setIfInBounds i u = #[.int .i64 (s'.n : Nat), .map (some bs), .map (some bw), .int .i64 s'.left, .bool s'.dead])
    (h1 : s'.fs = s.fs) (h2 : s'.fw = s.fw) (h3 : s'.n = s.n) (h4 : -9223372036854775808 ≤ s'.left) (h5 : s'.left ≤ 9223372036854775807) : DiskAt (w.setCell ⟨g, i, none⟩ u) g bs bw s' := by
  obtain ⟨hg1, hg2, hg3⟩ := h.ne
  obtain ⟨hb, hs, hw, hne, hn1, hn2, hl1, hl2, hr⟩ := h
  have k := grown_set w ⟨g, i, none⟩ u
  refine ⟨?_, ?_, ?_, hne, by omega, by omega, h4, h5, by rw [h2, h3]; exact hr⟩
  · rw [← e]
    exact hb.set_ i u
  · rw [h1]
    exact hs.kept k (by simp; omega)
  · rw [h2]
    exact hw.kept k (by simp; omega)
set_option maxHeartbeats 400000 in
theorem act_any (g bs bw : Nat) (s : St) (w : World) (h : DiskAt w g bs bw s) :
    Calls Tryz.prog 114 #[ptr g] w fun e w' => e = .returned (.bool s.act.2) ∧ DiskAt w' g bs bw s.act.1 ∧ w.grownBy w' (some g) := by
  have c3 := h.c3
  have f3 := h.1.frozen 3
  have f4 := h.1.frozen 4
  have c4 := h.c4
  have hl1 := h.2.2.2.2.2.2.1
  have hl2 := h.2.2.2.2.2.2.2.1
  have H := Lib.hid h; clear h
  obtain ⟨n, fs, fw, L, dead⟩ := s
  simp only at c3 c4 hl1 hl2
  by_cases h0 : L = 0
  · subst h0
    go_enter Tryz.func114, Tryz.ntmps114
    go_wp2
    go_ret
    exact ⟨rfl, disk_set H.out 4 _ rfl rfl rfl rfl (by simp [St.act]) (by simp [St.act]), grown_set w ⟨g, 4, none⟩ _⟩
  · have hz : (L == 0) = false := beq_false_of_ne h0
    by_cases hp : 0 < L
    · have hd : decide ((0 : Int) < L) = true := by simpa using hp
      have hd2 : decide (L > (0 : Int)) = true := by simpa using hp
      have e : (St.mk n fs fw L dead).act = (St.mk n fs fw (L - 1) dead, true) := by simp [St.act, h0, hp]
      rw [e]
      go_enter Tryz.func114, Tryz.ntmps114
      go_wp2
      go_ret
      exact ⟨rfl, disk_set H.out 3 _ rfl rfl rfl rfl (by simp; omega) (by simp; omega), grown_set w ⟨g, 3, none⟩ _⟩
    · have hd : decide ((0 : Int) < L) = false := by simpa using hp
      have hd2 : decide (L > (0 : Int)) = false := by simpa using hp
      have e : (St.mk n fs fw L dead).act = (St.mk n fs fw L dead, true) := by simp [St.act, h0, hp]
      rw [e]
      go_enter Tryz.func114, Tryz.ntmps114
      go_wp2
      go_ret
      exact ⟨rfl, H.out, World.grownBy.refl w _⟩
set_option maxHeartbeats 400000 in
theorem arm_any (g bs bw : Nat) (s : St) (k : Int) (w : World) (h : DiskAt w g bs bw s) (h1 : -9223372036854775808 ≤ k) (h2 : k ≤ 9223372036854775807) :
    Calls Tryz.prog 18 #[ptr g, .int .i64 k] w fun e w' => e = .returned (.tuple #[]) ∧ DiskAt w' g bs bw { s with left := k } ∧ w.grownBy w' (some g) := by
  have c3 := h.c3
  have f3 := h.1.frozen 3
  have C1 := Lib.hid (isNone_no g bs bw s w h)
  have H := Lib.hid h; clear h
  obtain ⟨n, fs, fw, L, dead⟩ := s
  simp only at c3
  go_enter Tryz.func18, Tryz.ntmps18
  go_wp2_with (go_at_call 56; refine (C1.out).mono ?_; rintro e w' ⟨rfl, rfl⟩)
  go_end0
  exact ⟨rfl, disk_set H.out 3 _ rfl rfl rfl rfl h1 h2, grown_set w ⟨g, 3, none⟩ _⟩
end Go.Proofs.YtnenbocjfekmfaaGreat.Dsk
/- The contracts of a disk's New and Read (layer 3). -/
namespace Go.Proofs.YtnenbocjfekmfaaGreat.Dsk
open Go.RowKit Go.Maps Go.Proofs.YtnenbocjfekmfaaGreat.Mem
set_option linter.unusedVariables false
set_option linter.unusedSimpArgs false
def St.new (n : Nat) : St := ⟨n, fun _ => none, fun _ => none, -1, false⟩
set_option maxHeartbeats 400000 in
theorem new_ok (n : Nat) (w : World) (h1 : 1 ≤ n) (h2 : n ≤ 1024) :
    Calls Tryz.prog 8 #[.int .i64 (n : Nat)] w fun e w' => ∃ g bs bw, e = .returned (.tuple #[ptr g, .int .i64 0]) ∧ DiskAt w' g bs bw (St.new n) ∧ Below w.heap.size w w' ∧ (∀ x ∈ [g, bs, bw], w.heap.size ≤ x) := by
  have hmm := @run_makeMap Tryz.prog
  have hd1 : decide ((n : Int) < 1) = false := by simp; omega
  have hd2 : decide ((1024 : Int) < n) = false := by simp; omega
  go_enter Tryz.func8, Tryz.ntmps8
  go_wp2
  go_ret2
  have m1 := (SMap.made w).kept (World.grownBy_alloc (w.alloc (.map #[] 0)) (.map #[] 0) none) (by simp)
  have m2 := SMap.made (w.alloc (.map #[] 0))
  have es : (w.alloc (.map #[] 0)).heap.size = w.heap.size + 1 := by simp
  rw [es] at m2
  have k := World.grownBy_alloc ((w.alloc (.map #[] 0)).alloc (.map #[] 0)) (.cells #[.int .i64 (n : Nat), .map (some w.heap.size), .map (some (w.heap.size + 1)), .int .i64 (-1), .bool false] 68) none
  refine ⟨w.heap.size + 2, w.heap.size, w.heap.size + 1, by simp, ⟨?_, m1.kept k (by simp), m2.kept k (by simp), by simp, h1, h2, by simp [St.new], by simp [St.new], by simp [St.new]⟩, ?_, by simp⟩
  · have := Blk.new ((w.alloc (.map #[] 0)).alloc (.map #[] 0)) 68 #[.int .i64 (n : Nat), .map (some w.heap.size), .map (some (w.heap.size + 1)), .int .i64 (-1), .bool false]
    simpa [St.new] using this
  · exact (((Below.refl _ w).alloc (Nat.le_refl _) (.map #[] 0)).alloc (by simp) (.map #[] 0)).alloc (by simp; omega) _
def St.read (s : St) (i : Int) : List Nat × Int := if s.dead = true then ([], 7) else if 0 ≤ i ∧ i < s.n then (s.get i.toNat, 0) else ([], 1)
theorem cut72 (g : Nat) (w : World) : (Instr.sliceAt 118 (.pointer (some ⟨g, 0, none⟩)) none none none).run Tryz.prog w = .ok (.slice (some ⟨g, 0, none⟩) 512 512) w := by kernel_rfl
theorem row_sl {w : World} {g : Nat} {t : TypeId} {xs : List Nat} (h : Blk w g t (vals xs).toArray) (hx : IsSec xs) : Sl w w.heap.size (.slice (some ⟨g, 0, none⟩) 512 512) xs := by
  refine ⟨_, 512, 512, rfl, bts_row h.lt hx.2 (by omega) hx.1 fun i hi => ?_, Nat.le_refl _, by unfold maxLen; omega, fun e => by cases e⟩
  rw [h.cell]
  simpa using vals_get xs i (by rw [hx.1]; omega)
theorem vals_all (xs : List Nat) : (vals xs).toArray.all (·.oneCell') = true := by
  rw [Array.all_eq_true_iff_forall_mem]
  intro v hv
  exact vals_one xs v (by simpa using hv)
set_option maxHeartbeats 1000000 in
theorem read_dead (g bs bw : Nat) (s : St) (i : Int) (w : World) (h : DiskAt w g bs bw s) (hd : s.dead = true) :
    Calls Tryz.prog 60 #[ptr g, .int .i64 i] w fun e w' => e = .returned (.tuple #[.slice none 0 0, .int .i64 7]) ∧ w = w' := by
  have c1 := dead_any g bs bw s w h
  rw [hd] at c1
  have C1 := Lib.hid c1; clear c1
  clear h
  go_enter Tryz.func60, Tryz.ntmps60
  go_wp2_with (go_at_call 28; refine (C1.out).mono ?_; rintro e w' ⟨rfl, rfl⟩)
  go_ret2
  exact ⟨rfl, rfl⟩
set_option maxHeartbeats 1000000 in
theorem read_arg (g bs bw : Nat) (s : St) (i : Int) (w : World) (h : DiskAt w g bs bw s) (hd : s.dead = false) (hi : ¬ (0 ≤ i ∧ i < s.n)) :
    Calls Tryz.prog 60 #[ptr g, .int .i64 i] w fun e w' => e = .returned (.tuple #[.slice none 0 0, .int .i64 1]) ∧ w = w' := by
  have c1 := dead_any g bs bw s w h
  have c2 := has_any g bs bw s i w h
  rw [hd] at c1
  rw [decide_eq_false hi] at c2
  have C1 := Lib.hid c1; clear c1
  have C2 := Lib.hid c2; clear c2
  clear h hi
  go_enter Tryz.func60, Tryz.ntmps60
  go_wp2_with (first
    | (go_at_call 28; refine (C1.out).mono ?_; rintro e w' ⟨rfl, rfl⟩)
    | (go_at_call 91; refine (C2.out).mono ?_; rintro e w' ⟨rfl, rfl⟩))
  go_ret2
  exact ⟨rfl, rfl⟩
set_option maxHeartbeats 1000000 in
theorem read_ok (g bs bw : Nat) (s : St) (i : Nat) (w : World) (h : DiskAt w g bs bw s) (hd : s.dead = false) (hi : i < s.n) :
    Calls Tryz.prog 60 #[ptr g, .int .i64 (i : Nat)] w fun e w' => ∃ v, e = .returned (.tuple #[v, .int .i64 0]) ∧ Sl w' w'.heap.size v (s.get i) ∧ Below w.heap.size w w' := by
  have c1 := dead_any g bs bw s w h
  have c2 := has_any g bs bw s i w h
  rw [hd] at c1
  rw [decide_eq_true ⟨by omega, by omega⟩] at c2
  have C1 := Lib.hid c1; clear c1
  have C2 := Lib.hid c2; clear c2
  have k1 := h.c1
  have k2 := h.c2
  have hw := h.2.2.1
  have hs := h.2.1
  have hi2 : i < 1024 := by have := h.2.2.2.2.2.1; omega
  have hlw := hw.look_ok hi2
  have hls := fun (o : Obj) => (hs.kept (World.grownBy_alloc w o none) (by simp)).look hi2
  have hsw := hw.secD i
  have hss := hs.secD i
  have hz := zero72
  have hcut := cut72
  have hg1 := h.1.lt
  have HI := Lib.hid hi; clear hi
  have HI2 := Lib.hid hi2; clear hi2
  clear h hw hs
  have HSW := Lib.hid hsw; clear hsw
  have HSS := Lib.hid hss; clear hss
  unfold St.get
  generalize s.fw i = fw at *
  generalize s.fs i = fs at *
  cases fw with
  | none =>
    simp only [Option.getD_none, Option.isSome_none] at hlw
    obtain ⟨zs, hzs⟩ : ∃ zs, zs = noughts := ⟨_, rfl⟩
    rw [Option.none_or]
    obtain ⟨xs, hxs⟩ : ∃ xs, xs = fs.getD noughts := ⟨_, rfl⟩
    rw [← hxs]
    simp only [← hxs] at hls HSS
    simp only [← hzs] at hlw hz
    have HZS := Lib.hid (hzs ▸ isSec_noughts); clear hzs
    clear hxs HSW
    go_enter Tryz.func60, Tryz.ntmps60
    go_wp2_with (first
      | (go_at_call 28; refine (C1.out).mono ?_; rintro e w' ⟨rfl, rfl⟩)
      | (go_at_call 91; refine (C2.out).mono ?_; rintro e w' ⟨rfl, rfl⟩)
      | (refine wpList_store_row rfl 118 (.tmp 6) (.tmp 21) rfl w.heap.size (vals zs).toArray rfl rfl 118 (vals zs).toArray (heap_alloc_new w _) (by rw [size72]; simp [vals_length, HZS.out.1]) rfl (vals_all _) ?_; rw [World.setRow_alloc_new])
      | (refine wpList_store_row rfl 118 (.tmp 6) (.tmp 30) rfl w.heap.size (vals xs).toArray rfl rfl 118 (vals zs).toArray (heap_alloc_new w _) (by rw [size72]; simp [vals_length, HSS.out.1]) (by simp [vals_length, HSS.out.1, HZS.out.1]) (vals_all _) ?_; rw [World.setRow_alloc_new]))
    go_ret2
    exact ⟨_, rfl, row_sl (Blk.new w 118 _) HSS.out, (Below.refl _ w).alloc (Nat.le_refl _) _⟩
  | some ys =>
    simp only [Option.getD_some, Option.isSome_some] at hlw HSW
    obtain ⟨zs, hzs⟩ : ∃ zs, zs = noughts := ⟨_, rfl⟩
    simp only [← hzs] at hz
    rw [Option.some_or, Option.getD_some]
    have HZS := Lib.hid (hzs ▸ isSec_noughts); clear hzs
    clear HSS hls
    go_enter Tryz.func60, Tryz.ntmps60
    go_wp2_with (first
      | (go_at_call 28; refine (C1.out).mono ?_; rintro e w' ⟨rfl, rfl⟩)
      | (go_at_call 91; refine (C2.out).mono ?_; rintro e w' ⟨rfl, rfl⟩)
      | (refine wpList_store_row rfl 118 (.tmp 6) (.tmp 21) rfl w.heap.size (vals ys).toArray rfl rfl 118 (vals zs).toArray (heap_alloc_new w _) (by rw [size72]; simp [vals_length, HSW.out.1]) (by simp [vals_length, HSW.out.1, HZS.out.1]) (vals_all _) ?_; rw [World.setRow_alloc_new]))
    go_ret2
    exact ⟨_, rfl, row_sl (Blk.new w 118 _) HSW.out, (Below.refl _ w).alloc (Nat.le_refl _) _⟩
theorem read_any (g bs bw : Nat) (s : St) (i : Int) (w : World) (h : DiskAt w g bs bw s) :
    Calls Tryz.prog 60 #[ptr g, .int .i64 i] w fun e w' => ∃ v, e = .returned (.tuple #[v, .int .i64 (s.read i).2]) ∧ Sl w' w'.heap.size v (s.read i).1 ∧ Below w.heap.size w w' := by
  cases hd : s.dead with
  | true =>
    have e : s.read i = ([], 7) := by simp [St.read, hd]
    rw [e]
    refine (read_dead g bs bw s i w h hd).mono ?_
    rintro e w' ⟨rfl, rfl⟩
    exact ⟨_, rfl, sl_nil _ _, Below.refl _ _⟩
  | false =>
    by_cases hi : 0 ≤ i ∧ i < s.n
    · have e : s.read i = (s.get i.toNat, 0) := by simp [St.read, hd, hi]
      rw [e]
      have := read_ok g bs bw s i.toNat w h hd (by omega)
      rw [Int.toNat_of_nonneg hi.1] at this
      exact this
    · have e : s.read i = ([], 1) := by simp only [St.read, hd, if_neg hi]; rfl
      rw [e]
      refine (read_arg g bs bw s i w h hd hi).mono ?_
      rintro e w' ⟨rfl, rfl⟩
      exact ⟨_, rfl, sl_nil _ _, Below.refl _ _⟩
end Go.Proofs.YtnenbocjfekmfaaGreat.Dsk
/- The contract of a disk's Write (layer 3). -/
namespace Go.Proofs.YtnenbocjfekmfaaGreat.Dsk
open Go.RowKit Go.Maps Go.Proofs.YtnenbocjfekmfaaGreat.Mem
set_option linter.unusedVariables false
set_option linter.unusedSimpArgs false
theorem wpList_mapUpdate_sec (w : World) {ops : Array Oper} {rest : List Oper} {o : Oper} {a : Act} {Q : Exit → Act → World → Prop} (hg : o.guard = none) (m x v : Operand)
    (hop : o.op = Op.mapUpdate 66 m x v) (b : Nat) (f : Nat → Option (List Nat)) (i : Nat) (xs : List Nat) (hm : a.eval m = .map (some b)) (hx : a.eval x = .int .i64 (i : Nat)) (hv : a.eval v = secV xs)
    (h : SMap w b f) (hi : i < 1024) (hs : IsSec xs) (hK : ∀ w', Hid (SMap w' b (upd1 f i xs)) → w.grownBy w' (some b) → wpList Tryz.prog ops Q rest (a.put o.dst undef) w') : wpList Tryz.prog ops Q (o :: rest) a w := by
  refine wpList_plain hg fun K' hK' => ?_
  obtain ⟨w', hrun, r1, r2⟩ := h.put hi hs
  unfold Oper.wp
  simp [execOp, hop, hm, hx, hv, hrun, Result.andThen]
  exact hK' _ _ (hK w' r1 r2)
section
variable {P : Program} {ops : Array Oper} {rest : List Oper} {o : Oper} {a : Act} {w : World} {Q : Act → Prop}
theorem still_run (hgd : o.guard = none) (v : Value) (hrun : (execOp a.eval o).run P w = .ok (.value v) w) (h : wpStill P ops w Q rest (a.put o.dst v)) : wpStill P ops w Q (o :: rest) a := by
  refine wpStill_step fun K hK => ?_
  have hw : Region.wanted o (yielded ops a.tmps) = true := by simp [Region.wanted, hgd]
  rw [if_pos hw]
  unfold Oper.still
  rw [hrun]
  exact ⟨rfl, hK _ h⟩
theorem still_load_row (hgd : o.guard = none) (ty : TypeId) (x : Operand) (ho : o.op = .load ty x)
    (g : Nat) (hx : a.eval x = .pointer (some ⟨g, 0, none⟩)) (t : TypeId) (cs : Array Value) (fr : Nat × Nat) (d : TypeDesc) (hg : w.heap[g]? = some (.cells cs t fr))
    (hu : P.underlying ty = some d) (hd : (match d with | .struct _ | .array _ _ => true | _ => false) = true) (hi : (P.info? ty).map (·.size) = some cs.size)
    (h : wpStill P ops w Q rest (a.put o.dst (.agg cs))) : wpStill P ops w Q (o :: rest) a := by
  refine still_run hgd (.agg cs) ?_ h
  unfold execOp
  simp only [ho, hx, Instr.loadAt, Instr.sureAddr, Sem.run_bind, Sem.run_pure, Result.andThen_ok, run_loadVar_row w g t ty cs fr d hg hu hd hi]
theorem still_lookup (hgd : o.guard = none) (t : TypeId) (m x : Operand) (c : Bool) (ho : o.op = .lookup t m x c) (mv xv v : Value) (hm : a.eval m = mv) (hx : a.eval x = xv)
    (hrun : (Instr.lookup t mv xv c).run P w = .ok v w) (h : wpStill P ops w Q rest (a.put o.dst v)) : wpStill P ops w Q (o :: rest) a := by
  refine still_run hgd v ?_ h
  unfold execOp
  simp [ho, hm, hx, hrun, Result.andThen]
end
theorem u8_size1 : (Tryz.prog.info? 5).map (·.size) = some 1 := by kernel_rfl
theorem splice_all (zs xs : List Nat) (h : zs.length = xs.length) : splice (vals zs) 0 (vals xs) = vals xs := by
  simp [splice, vals_length, h]
theorem splice_torn (zs b : List Nat) (hz : zs.length = 512) : splice (vals zs) 0 (vals (b.take 512)) = vals (torn b zs) := by
  simp only [splice, List.take_zero, List.nil_append, Nat.zero_add, vals_length, List.length_take, torn, vals_append]
  congr 1
  simp only [vals, List.map_drop]
  by_cases h : b.length ≤ 512
  · rw [Nat.min_eq_right h]
  · rw [Nat.min_eq_left (by omega), List.drop_eq_nil_of_le (by simp; omega), List.drop_eq_nil_of_le (by simp; omega)]
set_option maxHeartbeats 1000000 in
theorem write_dead (g bs bw : Nat) (s : St) (i : Int) (v : Value) (w : World) (h : DiskAt w g bs bw s) (hd : s.dead = true) :
    Calls Tryz.prog 85 #[ptr g, .int .i64 i, v] w fun e w' => e = .returned (.int .i64 7) ∧ w = w' := by
  have c1 := dead_any g bs bw s w h
  rw [hd] at c1
  have C1 := Lib.hid c1; clear c1
  clear h
  go_enter Tryz.func85, Tryz.ntmps85
  go_wp2_with (go_at_call 28; refine (C1.out).mono ?_; rintro e w' ⟨rfl, rfl⟩)
  go_ret
  exact ⟨rfl, rfl⟩
set_option maxHeartbeats 1000000 in
theorem write_arg (g bs bw : Nat) (s : St) (i : Int) (A : Option Addr) (n c : Nat) (w : World) (h : DiskAt w g bs bw s) (hd : s.dead = false) (hi : ¬ (0 ≤ i ∧ i < s.n ∧ n = 512)) :
    Calls Tryz.prog 85 #[ptr g, .int .i64 i, .slice A n c] w fun e w' => e = .returned (.int .i64 1) ∧ w = w' := by
  have c1 := dead_any g bs bw s w h
  have c2 := has_any g bs bw s i w h
  rw [hd] at c1
  have C1 := Lib.hid c1; clear c1
  by_cases hh : 0 ≤ i ∧ i < s.n
  · rw [decide_eq_true hh] at c2
    have C2 := Lib.hid c2; clear c2
    have hne : ((n : Int) != 512) = true := by rw [bne_iff_ne]; omega
    clear h hi hh
    go_enter Tryz.func85, Tryz.ntmps85
    go_wp2_with (first
      | (go_at_call 28; refine (C1.out).mono ?_; rintro e w' ⟨rfl, rfl⟩)
      | (go_at_call 91; refine (C2.out).mono ?_; rintro e w' ⟨rfl, rfl⟩))
    go_ret
    exact ⟨rfl, rfl⟩
  · rw [decide_eq_false hh] at c2
    have C2 := Lib.hid c2; clear c2
    clear h hi hh
    go_enter Tryz.func85, Tryz.ntmps85
    go_wp2_with (first
      | (go_at_call 28; refine (C1.out).mono ?_; rintro e w' ⟨rfl, rfl⟩)
      | (go_at_call 91; refine (C2.out).mono ?_; rintro e w' ⟨rfl, rfl⟩))
    go_ret
    exact ⟨rfl, rfl⟩
set_option maxHeartbeats 1000000 in
theorem write_dies (g bs bw : Nat) (s : St) (i : Int) (A : Option Addr) (n c : Nat) (w : World) (h : DiskAt w g bs bw s) (hd : s.dead = false) (hi : 0 ≤ i ∧ i < s.n) (hn : n = 512) (ha : s.act.2 = false) :
    Calls Tryz.prog 85 #[ptr g, .int .i64 i, .slice A n c] w fun e w' => e = .returned (.int .i64 7) ∧ DiskAt w' g bs bw s.act.1 ∧ w.grownBy w' (some g) := by
  have c1 := dead_any g bs bw s w h
  have c2 := has_any g bs bw s i w h
  have c3 := act_any g bs bw s w h
  rw [hd] at c1
  rw [decide_eq_true hi] at c2
  rw [ha] at c3
  have C1 := Lib.hid c1; clear c1
  have C2 := Lib.hid c2; clear c2
  have C3 := Lib.hid c3; clear c3
  subst hn
  clear h hi
  go_enter Tryz.func85, Tryz.ntmps85
  go_wp2_with (first
    | (go_at_call 28; refine (C1.out).mono ?_; rintro e w' ⟨rfl, rfl⟩)
    | (go_at_call 91; refine (C2.out).mono ?_; rintro e w' ⟨rfl, rfl⟩)
    | (go_at_call 114; refine (C3.out).mono ?_; rintro e w' ⟨rfl, hD, hG⟩))
  go_ret
  exact ⟨rfl, hD, hG⟩
theorem disk_put {w w' : World} {g bs bw : Nat} {s : St} (h : DiskAt w g bs bw s) (i : Nat) (xs : List Nat) (hi : i < s.n) (hm : SMap w' bw (upd1 s.fw i xs)) (hg : w.grownBy w' (some bw)) : DiskAt w' g bs bw { s with fw := upd1 s.fw i xs } := by
  obtain ⟨h1, h2, h3⟩ := h.ne
  obtain ⟨hb, hs, hw, hne, hn1, hn2, hl1, hl2, hr⟩ := h
  refine ⟨hb.grown hg (by simp; omega), hs.kept hg (by simp; omega), hm, hne, hn1, hn2, hl1, hl2, fun j hj => ?_⟩
  simp only at hj
  simp only [upd1]
  rw [if_neg (by omega)]
  exact hr j hj
theorem disk_put_safe {w w' : World} {g bs bw : Nat} {s : St} (h : DiskAt w g bs bw s) (i : Nat) (xs : List Nat) (hm : SMap w' bs (upd1 s.fs i xs)) (hg : w.grownBy w' (some bs)) : DiskAt w' g bs bw { s with fs := upd1 s.fs i xs } := by
  obtain ⟨h1, h2, h3⟩ := h.ne
  obtain ⟨hb, hs, hw, hne, hn1, hn2, hl1, hl2, hr⟩ := h
  exact ⟨hb.grown hg (by simp; omega), hm, hw.kept hg (by simp; omega), hne, hn1, hn2, hl1, hl2, hr⟩
set_option maxRecDepth 20000 in
set_option maxHeartbeats 2000000 in
theorem write_ok (g bs bw : Nat) (s : St) (i : Nat) (A : Option Addr) (n c : Nat) (xs : List Nat) (w : World) (h : DiskAt w g bs bw s) (hd : s.dead = false) (hi : i < s.n) (ha : s.act.2 = true) (hN : n = 512)
    (hsec : IsSec xs) (hx : ∀ w1, w.grownBy w1 (some g) → Bts w1 w1.heap.size A n xs) :
    Calls Tryz.prog 85 #[ptr g, .int .i64 (i : Nat), .slice A n c] w fun e w' => e = .returned (.int .i64 0) ∧ DiskAt w' g bs bw { s.act.1 with fw := upd1 s.act.1.fw i xs } ∧ KeptBut w w' [g, bs, bw] := by
  have c1 := dead_any g bs bw s w h
  have c2 := has_any g bs bw s i w h
  have c3 := act_any g bs bw s w h
  have hn := h.2.2.2.2.2.1
  rw [hd] at c1
  rw [decide_eq_true ⟨by omega, by omega⟩] at c2
  rw [ha] at c3
  have hz := zero72
  have hcut := cut72
  have hne : ((n : Int) != 512) = false := by simp; omega
  rw [← hN] at hcut
  have HN := Lib.hid hN; clear hN
  obtain ⟨zs, hzs⟩ : ∃ zs, zs = noughts := ⟨_, rfl⟩
  simp only [← hzs] at hz
  have HZS := Lib.hid (hzs ▸ isSec_noughts); clear hzs
  have HSEC := Lib.hid hsec; clear hsec
  have HX := Lib.hid hx; clear hx
  have C1 := Lib.hid c1; clear c1
  have C2 := Lib.hid c2; clear c2
  have C3 := Lib.hid c3; clear c3
  have hi2 : i < 1024 := by omega
  have hn1 : s.act.1.n = s.n := by unfold St.act; split <;> rfl
  rw [← hn1] at hi
  have HI := Lib.hid hi; clear hi
  clear hn1 hn ha hd h
  obtain ⟨s1, hs1⟩ : ∃ s1, s1 = s.act.1 := ⟨_, rfl⟩
  rw [← hs1] at C3 HI ⊢
  clear hs1
  go_enter Tryz.func85, Tryz.ntmps85
  go_wp2_with (first
    | (go_at_call 28; refine (C1.out).mono ?_; rintro e w' ⟨rfl, rfl⟩)
    | (go_at_call 91; refine (C2.out).mono ?_; rintro e w' ⟨rfl, rfl⟩)
    | (go_at_call 114; refine (C3.out).mono ?_; rintro e w1 ⟨rfl, hD, hG⟩; have k1 := hD.c1; have k2 := hD.c2; have hlt1 := hD.1.lt; have HD := Lib.hid hD; clear hD; have HB := Lib.hid (HX.out w1 hG); have HG := Lib.hid hG; clear hG)
    | ((refine wpList_copy_splice rfl (.tmp 22) (.tmp 23) 31 31 rfl 5 Tryz.underlying31 u8_size1 _ _ n n n c rfl rfl w1.heap.size 0 (vals zs) 118 (heap_alloc_new w1 _) (vals xs) (by simp [vals_length, HSEC.out.1, HN.out]) (fun h0 => ⟨rfl, by obtain ⟨b, off, e, _⟩ := HB.out.2.2.2 (by rw [HN.out]; omega); exact ⟨_, e, bts_cells ((e ▸ HB.out).alloc (Nat.le_refl _) _)⟩⟩) (by simp [vals_length, HSEC.out.1, HZS.out.1]) (vals_one xs) w1.heap.size w1 ((Below.refl _ w1).alloc (Nat.le_refl _) _) (Nat.le_refl _) ?_; intro w2 HG2 hB2; have HB2 := Lib.hid hB2; clear hB2; have m1 := ((Below.cell HB2.out (p := ⟨g, 1, none⟩) hlt1).trans k1); have m2 := ((Below.cell HB2.out (p := ⟨g, 2, none⟩) hlt1).trans k2); rw [splice_all zs xs (by rw [HZS.out.1, HSEC.out.1])] at HG2)))
  go_frame
  have hlt2 : g < w2.heap.size := Nat.lt_of_lt_of_le hlt1 HB2.out.size
  have HD2 : Hid (DiskAt w2.drew g bs bw s1) := (HD.out.below (HB2.out)).drew
  have HG3 : Hid (w2.drew.heap[w1.heap.size]? = some (.cells (vals xs).toArray 118 (0, 0))) := HG2
  have HK2 : Hid (KeptBut w w2.drew [g, bs, bw]) := ((kept_of_grown HG.out (by simp)).trans (kept_of_below HB2.out (Nat.le_refl _))).trans kept_drew
  go_still_tail 6, (by kernel_rfl)
  refine still_load_row rfl 118 (.tmp 7) rfl w1.heap.size rfl 118 (vals xs).toArray (0, 0) _ HG3.out Tryz.underlying118 rfl (by rw [size72]; simp [vals_length, HSEC.out.1]) ?_
  refine wpStill_nil ?_
  change wpList _ _ _ _ _ w2.drew
  clear HG2 HB2 HD HG m1 m2
  generalize w2.drew = w3 at *
  go_wp2_with (refine wpList_mapUpdate_sec _ rfl (.tmp 28) (.tmp 29) (.tmp 30) rfl bw s1.fw i xs rfl rfl rfl HD2.out.2.2.1 hi2 HSEC.out ?_; intro w4 hm4 hg4)
  go_ret
  exact ⟨rfl, disk_put HD2.out i xs HI.out hm4.out hg4, HK2.out.trans (kept_of_grown hg4 (by simp))⟩
end Go.Proofs.YtnenbocjfekmfaaGreat.Dsk
/- The contracts of maps.Copy and maps.Clone at maps of sectors (layer 3). -/
namespace Go.Proofs.YtnenbocjfekmfaaGreat.Dsk
open Go.RowKit Go.Maps Go.Proofs.YtnenbocjfekmfaaGreat.Mem
set_option linter.unusedVariables false
set_option linter.unusedSimpArgs false
theorem wpList_next_sec (w : World) {ops : Array Oper} {rest : List Oper} {o : Oper} {a : Act} {Q : Exit → Act → World → Prop} (hg : o.guard = none) (it : Operand) (hop : o.op = Op.next it false)
    (b r n : Nat) (D : DataW (List Nat)) (left : Lit → Bool) (cnt : Nat) (hit : a.eval it = .pointer (some ⟨r, 0, none⟩)) (h : w.ranges Tryz.prog 3 secR b r n D left cnt)
    (hk : ∀ kl, Maps.has D kl = true → ∃ i : Nat, i < 1024 ∧ kl = .int .i64 (i : Int))
    (hDone : (∀ kl, left kl = false) → wpList Tryz.prog ops Q rest (a.put o.dst (.tuple #[.bool false])) w)
    (hMore : ∀ (i : Nat) (xs : List Nat) (w' : World) (cnt' : Nat), i < 1024 → IsSec xs → (∀ zd, D.atKey (.int .i64 (i : Int)) zd = .held xs) → w'.ranges Tryz.prog 3 secR b r n D (fun z => left z && !z.sameKey (.int .i64 (i : Int))) cnt' → cnt' < cnt →
      w.grownBy w' (some r) → w'.heap.size = w.heap.size → (Instr.entry (.pointer (some ⟨r, 0, none⟩))).run Tryz.prog w' = .ok (.tuple #[.int .i64 (i : Int), secV xs]) w' → wpList Tryz.prog ops Q rest (a.put o.dst (.tuple #[.bool true, .int .i64 (i : Int), secV xs])) w') :
    wpList Tryz.prog ops Q (o :: rest) a w := by
  refine wpList_plain hg fun K' hK' => ?_
  unfold Oper.wp
  rcases h.next keyed o.type with ⟨h0, hl, hrun⟩ | ⟨key, v, kl, y, w', cnt', hkey, hlk, hv, hat, hrun, hrg, hlt, hgr, hsz, hen⟩
  · simp [execOp, hop, hit, hrun, Result.andThen]
    exact hK' _ _ (hDone hl)
  · obtain ⟨xs, hxs, rfl, rfl⟩ := secR_inv hv
    obtain ⟨i, hi, rfl⟩ := hk kl (has_true_of_atKey hat)
    obtain ⟨x, rfl, e, _⟩ := Maps.keyOf_int_inv Tryz.underlying3 hkey
    injection e with _ e
    subst e
    simp [execOp, hop, hit, hrun, Result.andThen]
    exact hK' _ _ (hMore i xs w' cnt' hi hxs hat hrg hlt hgr hsz hen)
def mix (fd fs : Nat → Option (List Nat)) (left : Lit → Bool) : Nat → Option (List Nat) := fun i => if ((fs i).isSome && !left (.int .i64 (i : Int))) = true then fs i else fd i
theorem same_key (i j : Nat) : (Lit.int .i64 (j : Int)).sameKey (.int .i64 (i : Int)) = decide (j = i) := by
  simp [Lit.sameKey]
  by_cases h : j = i
  · subst h; simp
  · simp [h]
    omega
theorem mix_step {fd fs : Nat → Option (List Nat)} {left : Lit → Bool} {i : Nat} {xs : List Nat} (h : fs i = some xs) : upd1 (mix fd fs left) i xs = mix fd fs (fun z => left z && !z.sameKey (.int .i64 (i : Int))) := by
  funext j
  unfold upd1 mix
  simp only [same_key]
  by_cases e : j = i
  · subst e; simp [h]
  · simp [e]
theorem mix_end {fd fs : Nat → Option (List Nat)} {left : Lit → Bool} (h : ∀ kl, left kl = false) : mix fd fs left = fun i => (fs i).or (fd i) := by
  funext i
  unfold mix
  rw [h]
  cases fs i <;> simp
set_option maxRecDepth 20000 in
set_option maxRecDepth 20000 in
set_option maxHeartbeats 2000000 in
theorem copy_any (bd bs : Nat) (fd fs : Nat → Option (List Nat)) (w : World) (hd : SMap w bd fd) (hs : SMap w bs fs) (hne : bd ≠ bs) :
    Calls Tryz.prog 115 #[.map (some bd), .map (some bs)] w fun e w' => e = .returned (.tuple #[]) ∧ SMap w' bd (fun i => (fs i).or (fd i)) ∧ w.grownBy w' (some bd) := by
  have hbd := hd.lt
  obtain ⟨D, n, hown, hn, hk, hat⟩ := hs
  have hbs := hown.lt
  have hfs : ∀ (i : Nat) (xs : List Nat), (∀ zd, D.atKey (.int .i64 (i : Int)) zd = .held xs) → fs i = some xs := by
    intro i xs h
    rcases hat i with ⟨_, h1⟩ | ⟨ys, h1, _, h2⟩
    · rw [has_true_of_atKey h] at h1; cases h1
    · have := (h .nil).symm.trans (h2 .nil)
      injection this with this
      rw [h1, this]
  have hm0 : mix fd fs (Maps.has D) = fd := by
    funext i
    unfold mix
    rcases hat i with ⟨h0, h1⟩ | ⟨ys, h1, _, h2⟩
    · simp [h0]
    · simp [has_true_of_atKey h2]
  have HFS := Lib.hid hfs; clear hfs
  have HM0 := Lib.hid hm0; clear hm0
  have HK := Lib.hid hk; clear hk
  have HD := Lib.hid hd; clear hd
  have HO := Lib.hid hown; clear hown
  clear hat
  have hz := zero72
  obtain ⟨zs, hzs⟩ : ∃ zs, zs = noughts := ⟨_, rfl⟩
  simp only [← hzs] at hz
  have HZS := Lib.hid (hzs ▸ isSec_noughts); clear hzs
  go_enter Tryz.func115, Tryz.ntmps115
  go_wp2_with (at_range; refine wpList_range_own _ rfl _ 66 rfl 3 118 keyed Tryz.underlying66 secR bs n D rfl HO.out ?_; intro w0 hrg0 hg0 hs0)
  go_frame
  go_loopw [8] (fun _ wr => ∃ (left : Lit → Bool) (cnt : Nat), wr.ranges Tryz.prog 3 secR bs w.heap.size n D left cnt ∧ SMap wr bd (mix fd fs left) ∧ w.grownBy wr (some bd))
    (fun _ wr => wr.rangeLeft bs w.heap.size)
  case atStart => exact ⟨_, _, hrg0, by rw [HM0.out]; exact HD.out.kept hg0 (by simp), hg0.but _⟩
  case round =>
    obtain ⟨left, cnt, hrg, hout, hgw⟩ := hrel
    have HR := Lib.hid hrg; clear hrg
    have HOUT := Lib.hid hout; clear hout
    have HGW := Lib.hid hgw; clear hgw
    clear hrg0 hg0 hs0
    go_wp2_with (at_next; refine wpList_next_sec _ rfl _ rfl bs w.heap.size n D left cnt rfl HR.out HK.out ?_ ?_)
    · intro hl0
      go_wp2
      go_end0
      rw [← mix_end hl0]
      exact ⟨rfl, HOUT.out, HGW.out⟩
    · intro i xs w1 cnt1 hi hx hat hrg1 hlt hg1 hs1 hen
      have HE := Lib.hid (HFS.out i xs hat); clear hat
      have HX := Lib.hid hx; clear hx
      have HR1 := Lib.hid hrg1; clear hrg1
      have HLT := Lib.hid hlt; clear hlt
      have HO1 := Lib.hid (HOUT.out.kept hg1 (fun e => by have := Option.some.inj e; omega))
      have HG1 := Lib.hid hg1; clear hg1
      clear hs1
      go_wp2_with (first
        | (refine wpList_store_row rfl 118 (.tmp 5) (.tmp 12) rfl w1.heap.size (vals xs).toArray rfl rfl 118 (vals zs).toArray (heap_alloc_new w1 _) (by rw [size72]; simp [vals_length, HX.out.1]) (by simp [vals_length, HX.out.1, HZS.out.1]) (vals_all _) ?_; rw [World.setRow_alloc_new])
        | (refine wpList_load_row rfl 118 (.tmp 5) rfl w1.heap.size rfl 118 (vals xs).toArray (0, 0) _ (heap_alloc_new w1 _) Tryz.underlying118 rfl (by rw [size72]; simp [vals_length, HX.out.1]) ?_)
        | (refine wpList_mapUpdate_sec _ rfl (.tmp 13) (.tmp 14) (.tmp 15) rfl bd (mix fd fs left) i xs rfl rfl rfl (HO1.out.kept (World.grownBy_alloc w1 _ none) (by simp)) hi HX.out ?_; intro w2 hm2 hg2; go_frame))
      have k2 := World.grownBy_alloc w1 (.cells (vals xs).toArray 118) none
      have hr2 := (HR1.out.kept k2 (by simp) (by simp)).kept hg2 (fun e => hne (Option.some.inj e).symm) (fun e => by have := Option.some.inj e; omega)
      have HR2 := Lib.hid hr2; clear hr2
      go_roundw
      case rel =>
        refine ⟨_, cnt1, HR2.out, mix_step HE.out ▸ hm2.out, ?_⟩
        exact ((HGW.out.andThen HG1.out (fun j hj => .inl (by cases hj; exact Nat.le_refl _))).andThen k2 (fun j hj => by cases hj)).andThen hg2 (fun j hj => .inr hj)
      case measure => rw [HR2.out.left_eq, HR.out.left_eq]; exact HLT.out
set_option maxRecDepth 20000 in
set_option maxHeartbeats 2000000 in
theorem clone_map (b : Nat) (f : Nat → Option (List Nat)) (w : World) (h : SMap w b f) :
    Calls Tryz.prog 92 #[.map (some b)] w fun e w' => e = .returned (.map (some w.heap.size)) ∧ SMap w' w.heap.size f ∧ Below w.heap.size w w' := by
  have hq := fun w => run_eql_map_nil_sl (P := Tryz.prog) w 66 _ _ (some b) Tryz.underlying66
  obtain ⟨D, n, ⟨es, clock, hb, F, hs, hD⟩, h1⟩ := h
  have H1 := Lib.hid h1; clear h1
  have HD := Lib.hid hD; clear hD
  have HF := Lib.hid F; clear F
  go_enter Tryz.func92, Tryz.ntmps92
  go_wp2
  rw [run_callFunc_extern Tryz.func116 (by kernel_rfl) (by kernel_rfl) (by kernel_rfl) (e := Extern.MapsClone.clone) (by kernel_rfl), run_maps_clone_sl w 66 hb]
  simp only [Result.andThen]
  rw [Oper.upon_value]
  go_wp2
  rw [run_typeAssert_map_sl _ 66 20 _ _ _ Tryz.underlying66]
  simp only [Result.andThen]
  rw [Oper.upon_value]
  go_wp2
  go_ret
  exact ⟨rfl, ⟨D, n, ⟨es, clock, (MapKept.heap_alloc w _).1, HF.out, hs, HD.out⟩, H1.out⟩, (Below.refl _ w).alloc (Nat.le_refl _) _⟩
end Go.Proofs.YtnenbocjfekmfaaGreat.Dsk
/- The contract of a disk's Flush (layer 3). -/
namespace Go.Proofs.YtnenbocjfekmfaaGreat.Dsk
open Go.RowKit Go.Maps Go.Proofs.YtnenbocjfekmfaaGreat.Mem
set_option linter.unusedVariables false
set_option linter.unusedSimpArgs false
theorem wpList_clear_sec (w : World) {ops : Array Oper} {rest : List Oper} {o : Oper} {a : Act} {Q : Exit → Act → World → Prop} (hg : o.guard = none) (m : Operand)
    (hop : o.op = Op.call { callee := Callee.builtin Builtin.clear, args := #[m], argTypes := #[66] }) (b : Nat) (f : Nat → Option (List Nat)) (hm : a.eval m = .map (some b))
    (h : SMap w b f) (hK : ∀ w', Hid (SMap w' b (fun _ => none)) → w.grownBy w' (some b) → wpList Tryz.prog ops Q rest (a.put o.dst (.tuple #[])) w') : wpList Tryz.prog ops Q (o :: rest) a w := by
  refine wpList_plain hg fun K' hK' => ?_
  obtain ⟨w', hrun, r1, r2⟩ := h.wipe o.type
  unfold Oper.wp
  simp [execOp, hop, resolve, invoke, builtin, hm, hrun, Result.andThen]
  exact hK' _ _ (hK w' r1 r2)
theorem disk_flushed {w w1 w2 : World} {g bs bw : Nat} {s : St} (h : DiskAt w g bs bw s) (h1 : SMap w1 bs (fun i => (s.fw i).or (s.fs i))) (g1 : w.grownBy w1 (some bs)) (h2 : SMap w2 bw (fun _ => none)) (g2 : w1.grownBy w2 (some bw)) :
    DiskAt w2 g bs bw { s with fs := fun i => (s.fw i).or (s.fs i), fw := fun _ => none } := by
  obtain ⟨e1, e2, e3⟩ := h.ne
  obtain ⟨hb, hs, hw, hne, hn1, hn2, hl1, hl2, hr⟩ := h
  exact ⟨(hb.grown g1 (by simp; omega)).grown g2 (by simp; omega), h1.kept g2 (by simp; omega), h2, hne, hn1, hn2, hl1, hl2, fun _ _ => rfl⟩
set_option maxRecDepth 20000 in
set_option maxHeartbeats 1000000 in
theorem flush_dead (g bs bw : Nat) (s : St) (w : World) (h : DiskAt w g bs bw s) (hd : s.dead = true) :
    Calls Tryz.prog 86 #[ptr g] w fun e w' => e = .returned (.int .i64 7) ∧ w = w' := by
  have c1 := dead_any g bs bw s w h
  rw [hd] at c1
  have C1 := Lib.hid c1; clear c1
  clear h
  go_enter Tryz.func86, Tryz.ntmps86
  go_wp2_with (go_at_call 28; refine (C1.out).mono ?_; rintro e w' ⟨rfl, rfl⟩)
  go_ret
  exact ⟨rfl, rfl⟩
set_option maxRecDepth 20000 in
set_option maxHeartbeats 1000000 in
theorem flush_dies (g bs bw : Nat) (s : St) (w : World) (h : DiskAt w g bs bw s) (hd : s.dead = false) (ha : s.act.2 = false) :
    Calls Tryz.prog 86 #[ptr g] w fun e w' => e = .returned (.int .i64 7) ∧ DiskAt w' g bs bw s.act.1 ∧ w.grownBy w' (some g) := by
  have c1 := dead_any g bs bw s w h
  have c3 := act_any g bs bw s w h
  rw [hd] at c1
  rw [ha] at c3
  have C1 := Lib.hid c1; clear c1
  have C3 := Lib.hid c3; clear c3
  clear h
  go_enter Tryz.func86, Tryz.ntmps86
  go_wp2_with (first
    | (go_at_call 28; refine (C1.out).mono ?_; rintro e w' ⟨rfl, rfl⟩)
    | (go_at_call 114; refine (C3.out).mono ?_; rintro e w' ⟨rfl, hD, hG⟩))
  go_ret
  exact ⟨rfl, hD, hG⟩
set_option maxRecDepth 20000 in
set_option maxHeartbeats 1000000 in
theorem flush_ok (g bs bw : Nat) (s : St) (w : World) (h : DiskAt w g bs bw s) (hd : s.dead = false) (ha : s.act.2 = true) :
    Calls Tryz.prog 86 #[ptr g] w fun e w' => e = .returned (.int .i64 0) ∧ DiskAt w' g bs bw { s.act.1 with fs := fun i => (s.act.1.fw i).or (s.act.1.fs i), fw := fun _ => none } ∧ KeptBut w w' [g, bs, bw] := by
  have c1 := dead_any g bs bw s w h
  have c3 := act_any g bs bw s w h
  have c4 := fun (W : World) (hW : DiskAt W g bs bw s.act.1) => copy_any bs bw s.act.1.fs s.act.1.fw W hW.2.1 hW.2.2.1 hW.2.2.2.1
  rw [hd] at c1
  rw [ha] at c3
  have C1 := Lib.hid c1; clear c1
  have C3 := Lib.hid c3; clear c3
  have C4 := Lib.hid c4; clear c4
  clear h
  obtain ⟨s1, hs1⟩ : ∃ s1, s1 = s.act.1 := ⟨_, rfl⟩
  rw [← hs1] at C3 C4 ⊢
  clear hs1 ha hd
  go_enter Tryz.func86, Tryz.ntmps86
  go_wp2_with (first
    | (go_at_call 28; refine (C1.out).mono ?_; rintro e w' ⟨rfl, rfl⟩)
    | (go_at_call 114; refine (C3.out).mono ?_; rintro e w1 ⟨rfl, hD, hG⟩; have k1 := hD.c1; have k2 := hD.c2; have hlt1 := hD.1.lt; have HD := Lib.hid hD; clear hD; have HG := Lib.hid hG; clear hG))
  go_still_tail 8, (by kernel_rfl)
  change wpList _ _ _ _ _ w1.drew
  have HD2 : Hid (DiskAt w1.drew g bs bw s1) := HD.out.drew
  have HK2 : Hid (KeptBut w w1.drew [g, bs, bw]) := (kept_of_grown HG.out (by simp)).trans kept_drew
  have k3 : w1.drew.cell? ⟨g, 2, none⟩ = some (.map (some bw)) := k2
  have hlt3 : g < w1.drew.heap.size := hlt1
  clear k1 k2 hlt1 HD HG
  generalize w1.drew = w2 at *
  go_wp2_with (first
    | (go_at_call 115; refine (C4.out w2 HD2.out).mono ?_; rintro e w3 ⟨rfl, hm3, hg3⟩; have k4 := (World.cell?_of_block (hg3.block g hlt3 (by simp; exact HD2.out.ne.1))).trans k3; have hm4 := HD2.out.2.2.1.kept hg3 (by simp; exact fun e => HD2.out.ne.2.2 e.symm); have HM3 := Lib.hid hm3; clear hm3; have HG3 := Lib.hid hg3; clear hg3; have HM4 := Lib.hid hm4; clear hm4)
    | (refine wpList_clear_sec _ rfl (.tmp 22) rfl bw s1.fw rfl HM4.out ?_; intro w4 hm5 hg5))
  go_ret
  exact ⟨rfl, disk_flushed HD2.out HM3.out HG3.out hm5.out hg5, (HK2.out.trans (kept_of_grown HG3.out (by simp))).trans (kept_of_grown hg5 (by simp))⟩
theorem flush_any (g bs bw : Nat) (s : St) (w : World) (h : DiskAt w g bs bw s) :
    Calls Tryz.prog 86 #[ptr g] w fun e w' => e = .returned (.int .i64 s.flush.2) ∧ DiskAt w' g bs bw s.flush.1 ∧ KeptBut w w' [g, bs, bw] := by
  cases hd : s.dead with
  | true =>
    have e : s.flush = (s, 7) := by simp [St.flush, hd]
    rw [e]
    refine (flush_dead g bs bw s w h hd).mono ?_
    rintro e w' ⟨rfl, rfl⟩
    exact ⟨rfl, h, KeptBut.refl _ _⟩
  | false =>
    cases ha : s.act.2 with
    | false =>
      have e : s.flush = (s.act.1, 7) := by simp [St.flush, hd, ha]
      rw [e]
      refine (flush_dies g bs bw s w h hd ha).mono ?_
      rintro e w' ⟨rfl, h1, h2⟩
      exact ⟨rfl, h1, kept_of_grown h2 (by simp)⟩
    | true =>
      have e1 : s.act.1.fs = s.fs := by unfold St.act; split <;> rfl
      have e2 : s.act.1.fw = s.fw := by unfold St.act; split <;> rfl
      have e : s.flush = ({ s.act.1 with fs := fun i => (s.act.1.fw i).or (s.act.1.fs i), fw := fun _ => none }, 0) := by simp [St.flush, hd, ha, e1, e2]
      rw [e]
      exact flush_ok g bs bw s w h hd ha
theorem write_any (g bs bw : Nat) (s : St) (i : Int) (A : Option Addr) (n c : Nat) (xs : List Nat) (w : World) (h : DiskAt w g bs bw s) (hl : xs.length = n) (hb : ∀ x ∈ xs, x < 256) (hx : ∀ w1, w.grownBy w1 (some g) → Bts w1 w1.heap.size A n xs) :
    Calls Tryz.prog 85 #[ptr g, .int .i64 i, .slice A n c] w fun e w' => e = .returned (.int .i64 (s.write i xs).2) ∧ DiskAt w' g bs bw (s.write i xs).1 ∧ KeptBut w w' [g, bs, bw] := by
  cases hd : s.dead with
  | true =>
    have e : s.write i xs = (s, 7) := by simp [St.write, hd]
    rw [e]
    refine (write_dead g bs bw s i _ w h hd).mono ?_
    rintro e w' ⟨rfl, rfl⟩
    exact ⟨rfl, h, KeptBut.refl _ _⟩
  | false =>
    by_cases hi : 0 ≤ i ∧ i < s.n ∧ n = 512
    · cases ha : s.act.2 with
      | false =>
        have e : s.write i xs = (s.act.1, 7) := by simp [St.write, hd, ha, hl, hi]
        rw [e]
        refine (write_dies g bs bw s i A n c w h hd ⟨hi.1, hi.2.1⟩ hi.2.2 ha).mono ?_
        rintro e w' ⟨rfl, h1, h2⟩
        exact ⟨rfl, h1, kept_of_grown h2 (by simp)⟩
      | true =>
        have e : s.write i xs = ({ s.act.1 with fw := upd1 s.act.1.fw i.toNat xs }, 0) := by simp [St.write, hd, ha, hl, hi]
        rw [e]
        have := write_ok g bs bw s i.toNat A n c xs w h hd (by omega) ha hi.2.2 ⟨hl.trans hi.2.2, hb⟩ hx
        rw [Int.toNat_of_nonneg hi.1] at this
        exact this
    · have e : s.write i xs = (s, 1) := by
        unfold St.write
        rw [hd, if_neg (by simp), if_neg (by rw [hl]; exact hi)]
      rw [e]
      refine (write_arg g bs bw s i A n c w h hd hi).mono ?_
      rintro e w' ⟨rfl, rfl⟩
      exact ⟨rfl, h, KeptBut.refl _ _⟩
end Go.Proofs.YtnenbocjfekmfaaGreat.Dsk
/- The calls at no disk (layer 3): nil, or one that New did not make. -/
namespace Go.Proofs.YtnenbocjfekmfaaGreat.Dsk
open Go.RowKit Go.Maps Go.Proofs.YtnenbocjfekmfaaGreat.Mem
set_option linter.unusedVariables false
set_option linter.unusedSimpArgs false
def NoneAt (w : World) (z : Value) : Prop := z = .pointer none ∨ ∃ g, z = ptr g ∧ Blk w g 68 #[.int .i64 0, .map none, .map none, .int .i64 0, .bool false]
end Go.Proofs.YtnenbocjfekmfaaGreat.Dsk
/- The contract of a disk's Waits (layer 3): the numbers of those that wait, rising. -/
namespace Go.Proofs.YtnenbocjfekmfaaGreat.Dsk
open Go.RowKit Go.Maps Go.Sort Go.Shelf Go.Proofs.YtnenbocjfekmfaaGreat.Mem
set_option linter.unusedVariables false
set_option linter.unusedSimpArgs false
def ints (xs : List Nat) : List Value := xs.map fun (x : Nat) => Value.int .i64 (x : Int)
theorem sortsA (m : Nat) : AnyZI.SortsIn Tryz.prog Tryz.sortedA_ren Fence.wide m :=
  ⟨fun blk off cap ss W hH hblk hsz => callsIn_wide.2 (AnyM.slices_Sort_int Tryz.sortA blk off cap ss W hH hblk hsz),
   fun p cap W => callsIn_wide.2 (AnyM.slices_Sort_int_none Tryz.sortA p cap W)⟩
theorem keys_perm {es : List (Lit × DataW (List Nat))} {f : Nat → Option (List Nat)} {n : Nat} (hp : es.Pairwise (fun p q => p.1 ≠ q.1)) (hkl : ∀ p ∈ es, WideAt.IsKeyLit p.1)
    (hk : ∀ kl, Maps.has (.map es) kl = true → ∃ i : Nat, i < 1024 ∧ kl = .int .i64 (i : Int))
    (hat : ∀ i : Nat, (f i = none ∧ Maps.has (.map es) (.int .i64 (i : Int)) = false) ∨ ∃ xs, f i = some xs ∧ IsSec xs ∧ ∀ zd, (DataW.map es).atKey (.int .i64 (i : Int)) zd = .held xs)
    (hr : ∀ i, n ≤ i → f i = none) : (intKeys (.map es)).Perm (((List.range n).filter fun i => (f i).isSome).map fun (i : Nat) => (i : Int)) := by
  have hself : ∀ p ∈ es, Maps.has (.map es) p.1 = true := by
    intro p hpm
    rw [has_eq, List.any_eq_true]
    refine ⟨p, hpm, ?_⟩
    have := hkl p hpm
    obtain ⟨l, d⟩ := p
    cases l <;> simp_all [Lit.sameKey, WideAt.IsKeyLit]
  have hnat : ∀ p ∈ es, ∃ i : Nat, i < n ∧ p.1 = .int .i64 (i : Int) ∧ (f i).isSome = true := by
    intro p hpm
    have h1 := hself p hpm
    obtain ⟨i, hi, e⟩ := hk _ h1
    rw [e] at h1
    rcases hat i with ⟨_, h2⟩ | ⟨xs, h2, _, _⟩
    · rw [h1] at h2; cases h2
    · refine ⟨i, ?_, e, by rw [h2]; rfl⟩
      rcases Nat.lt_or_ge i n with h | h
      · exact h
      · rw [hr i h] at h2; cases h2
  rw [List.perm_iff_count]
  intro x
  have n1 : (intKeys (.map es)).Nodup := by
    simp only [intKeys]
    rw [List.Nodup, List.pairwise_map]
    refine List.Pairwise.imp_of_mem (fun {p q} hpm hqm hne he => hne ?_) hp
    obtain ⟨i, _, hi, _⟩ := hnat p hpm
    obtain ⟨j, _, hj, _⟩ := hnat q hqm
    rw [hi, hj] at he ⊢
    have he' : (i : Int) = (j : Int) := he
    rw [he']
  have n2 : (((List.range n).filter fun i => (f i).isSome).map fun (i : Nat) => (i : Int)).Nodup := by
    rw [List.Nodup, List.pairwise_map]
    refine List.Pairwise.imp (fun {a b} h e => h (by omega)) ((List.nodup_range).filter _)
  rw [n1.count, n2.count]
  congr 1
  rw [eq_iff_iff]
  constructor
  · intro h
    simp only [intKeys, List.mem_map] at h
    obtain ⟨p, hpm, rfl⟩ := h
    obtain ⟨i, hi, e, hs⟩ := hnat p hpm
    rw [e]
    exact List.mem_map.2 ⟨i, List.mem_filter.2 ⟨List.mem_range.2 hi, hs⟩, rfl⟩
  · intro h
    obtain ⟨i, hm, rfl⟩ := List.mem_map.1 h
    obtain ⟨hi, hs⟩ := List.mem_filter.1 hm
    rcases hat i with ⟨h0, _⟩ | ⟨xs, h1, _, h2⟩
    · rw [h0] at hs; cases hs
    · have h3 := has_true_of_atKey h2
      rw [has_eq, List.any_eq_true] at h3
      obtain ⟨p, hpm, hsame⟩ := h3
      obtain ⟨j, _, e, _⟩ := hnat p hpm
      rw [e, same_key] at hsame
      simp at hsame
      subst hsame
      simp only [intKeys, List.mem_map]
      exact ⟨p, hpm, by rw [e]; rfl⟩
theorem sort_waiting (s : St) {ss : List Int} (h : ss.Perm (s.waiting.map fun (i : Nat) => (i : Int))) : (ss.mergeSort (fun x y => decide (x ≤ y))).map encZ = ints s.waiting ∧ ss.length = s.waiting.length := by
  have e := mergeSort_of_perm_i h
  refine ⟨?_, by rw [h.length_eq, List.length_map]⟩
  show (ss.mergeSort leI).map encZ = _
  rw [e, List.mergeSort_of_pairwise]
  · simp only [ints, List.map_map]
    rfl
  · rw [List.pairwise_map]
    refine List.Pairwise.imp (fun {a b} h => ?_) ((List.pairwise_lt_range).filter _)
    simp [leI]
    omega
set_option maxRecDepth 20000 in
set_option maxHeartbeats 2000000 in
theorem waits_any (g bs bw : Nat) (s : St) (w : World) (h : DiskAt w g bs bw s) :
    Calls Tryz.prog 30 #[ptr g] w fun e w' => ∃ v, e = .returned v ∧ w'.ownsRow w.heap.size 3 1 v s.waiting.length (ints s.waiting) ∧ Below w.heap.size w w' := by
  have c1 := isNone_no g bs bw s w h
  have k2 := h.c2
  have hr := h.2.2.2.2.2.2.2.2
  obtain ⟨D, n, hown, hn, hk, hat⟩ := h.2.2.1
  obtain ⟨es, rfl, hp, hkl⟩ := hown.entries keyed
  have hperm := keys_perm hp hkl hk hat hr
  have hsz := hown.size_le
  have HP : Hid ((intKeys (.map es)).Perm (s.waiting.map fun (i : Nat) => (i : Int))) := hperm
  clear hperm hp hkl hk hat hr h
  refine (callsIn_wide (n := 6)).1 ?_
  have hbl := hown.lt
  have hmax : Maps.size (.map es) ≤ maxLen := by unfold maxLen; omega
  have hbytes : Maps.size (.map es) * 8 ≤ 140737488355328 := by omega
  have hseq : SeqGives Fence.wide 2 Tryz.prog 97 #[.pointer (some ⟨w.heap.size, 0, none⟩)] encZ (fun ss => ss.Perm (intKeys (.map es))) (Maps.size (.map es)) (w.alloc (.cells #[.map (some bw)] 66)) :=
    AnyZI.keys_gives (ρ := Tryz.keysA_ren) { Tryz.keysA with } Fence.wide _ trivial rfl (by omega) w.heap.size bw n (.map es) _ (by simp) (by simp) (by
      obtain ⟨es, clock, hb, Ft, hs, hD⟩ := hown
      exact ⟨es, clock, (Below.heap_alloc _ _ bw hbl).trans hb, Ft, hs, hD⟩)
  have cK : ∀ mb W, CallsIn Fence.wide 5 Tryz.prog 65 #[.map mb] W fun e w' => e = .returned (.func (.func 97) #[] #[.pointer (some ⟨W.heap.size, 0, none⟩)]) ∧ w' = W.alloc (.cells #[.map mb] 66) := fun mb W => AnyZI.keys_in Tryz.keysA Fence.wide 5 trivial rfl mb W
  have cS := AnyZI.sorted_in Tryz.sortedA Fence.wide 5 trivial trivial trivial trivial rfl (by omega) (sortsA _) (enters_of Tryz.func96 (by kernel_rfl) rfl) 97 #[.pointer (some ⟨w.heap.size, 0, none⟩)] trivial (enters_of Tryz.func97 (by kernel_rfl) rfl) _ _ hmax hbytes _ hseq
  change CallsIn _ _ Tryz.prog 64 _ _ _ at cS
  have cN : CallsIn Fence.wide 5 Tryz.prog 56 #[ptr g] w fun e w' => e = .returned (.bool false) ∧ w = w' := callsIn_wide.2 c1
  have hfK : Fence.wide.fn 65 := trivial
  have hfS : Fence.wide.fn 64 := trivial
  have hfN : Fence.wide.fn 56 := trivial
  clear c1 hseq hown
  refine callsIn_of_wp Tryz.func30 rfl trivial ?_ rfl
  simp only [Tryz.ntmps30, List.size_toArray, List.length_cons, List.length_nil, Nat.reduceAdd, Nat.reduceSub, Array.replicate_succ, Array.replicate_zero, List.push_toArray, List.append_toArray, List.nil_append, List.cons_append]
  gi_wp2_with (first
    | (gi_at_call 56; refine cN.mono ?_; rintro e w' ⟨rfl, rfl⟩)
    | (gi_at_call 65; refine (cK _ _).mono ?_; rintro e w' ⟨rfl, rfl⟩)
    | (gi_at_call 64; refine cS.mono ?_; rintro e w' ⟨v, ss, rfl, hS, hrow, hnil, hb⟩))
  go_ret
  obtain ⟨e1, e2⟩ := sort_waiting s (hS.trans HP.out)
  rw [e1, e2] at hrow
  exact ⟨v, rfl, ownsRow_base_a hrow (by simp), ((Below.refl _ w).alloc (Nat.le_refl _) _).trans (hb.mono (by simp))⟩
end Go.Proofs.YtnenbocjfekmfaaGreat.Dsk
/- The contract of a disk's tear (layer 3). -/
namespace Go.Proofs.YtnenbocjfekmfaaGreat.Dsk
open Go.RowKit Go.Maps Go.Proofs.YtnenbocjfekmfaaGreat.Mem
set_option linter.unusedVariables false
set_option linter.unusedSimpArgs false
theorem KeptBut.thenBelow {w w1 w2 : World} {S : List Nat} {B : Nat} (h : KeptBut w w1 S) (hb : Below B w1 w2) (hB : w.heap.size ≤ B) : KeptBut w w2 S :=
  ⟨hb.os.trans h.os, hb.tape.trans h.tape, hb.output.trans h.output, Nat.le_trans h.size hb.size, fun k hk hn => (hb.block k (by omega)).trans (h.block k hk hn)⟩
theorem DiskAt.belowB {w w' : World} {g bs bw B : Nat} {s : St} (h : DiskAt w g bs bw s) (hb : Below B w w') (h1 : g < B) (h2 : bs < B) (h3 : bw < B) : DiskAt w' g bs bw s := by
  obtain ⟨k1, ⟨D, n, ⟨es, clock, hbb, F, hs, hD⟩, r1⟩, ⟨D', n', ⟨es', clock', hbb', F', hs', hD'⟩, r2⟩, r⟩ := h
  exact ⟨k1.below hb h1, ⟨D, n, ⟨es, clock, (hb.block bs h2).trans hbb, F, hs, hD⟩, r1⟩, ⟨D', n', ⟨es', clock', (hb.block bw h3).trans hbb', F', hs', hD'⟩, r2⟩, r⟩
abbrev tearV (k : Int) (v : Value) : Value := .agg #[.int .i64 k, v]
set_option maxRecDepth 20000 in
set_option maxHeartbeats 2000000 in
theorem tear_kept (g bs bw : Nat) (s : St) (i : Nat) (v : Value) (w : World) (h : DiskAt w g bs bw s) (hi : i < 1024) :
    Calls Tryz.prog 57 #[ptr g, .int .i64 (i : Nat), tearV 1 v] w fun e w' => e = .returned (.tuple #[]) ∧ DiskAt w' g bs bw { s with fs := upd1 s.fs i ((s.fw i).getD noughts) } ∧ KeptBut w w' [g, bs, bw] := by
  have h1 := h.alloc (.cells #[.int .i64 1, v] 106)
  have HK : Hid (KeptBut w (w.alloc (.cells #[.int .i64 1, v] 106)) [g, bs, bw]) := kept_alloc _
  have HS := Lib.hid (h.2.2.1.secD i)
  obtain ⟨xs, hxs⟩ : ∃ xs, xs = (s.fw i).getD noughts := ⟨_, rfl⟩
  rw [← hxs] at HS ⊢
  have HX := Lib.hid hxs; clear hxs
  have HD := Lib.hid h1; clear h1 h
  go_enter Tryz.func57, Tryz.ntmps57
  go_wp2
  generalize w.alloc (.cells #[.int .i64 1, v] 106) = w1 at *
  have k1 := HD.out.c1
  have k2 := HD.out.c2
  have hlt := HD.out.1.lt
  have hl := HD.out.2.2.1.look hi
  rw [← HX.out] at hl
  have HL : Hid ((Instr.lookup 66 (.map (some bw)) (.int .i64 (i : Int)) false).run Tryz.prog w1.drew = .ok (secV xs) w1.drew) := by
    have := HD.out.drew.2.2.1.look hi
    rw [← HX.out] at this
    exact this
  clear hl
  go_still_tail 11, (by kernel_rfl)
  refine still_lookup rfl 66 (.tmp 19) (.tmp 20) false rfl _ _ _ rfl rfl HL.out ?_
  refine wpStill_nil ?_
  change wpList _ _ _ _ _ w1.drew
  have HD2 : Hid (DiskAt w1.drew g bs bw s) := HD.out.drew
  have HK2 : Hid (KeptBut w w1.drew [g, bs, bw]) := HK.out.trans kept_drew
  clear HD HK k1 k2 hlt HL
  generalize w1.drew = w3 at *
  go_wp2_with (refine wpList_mapUpdate_sec _ rfl (.tmp 14) (.tmp 15) (.tmp 21) rfl bs s.fs i xs rfl rfl rfl HD2.out.2.1 hi HS.out ?_; intro w4 hm4 hg4)
  go_end0
  exact ⟨rfl, disk_put_safe HD2.out i xs hm4.out hg4, HK2.out.trans (kept_of_grown hg4 (by simp))⟩
set_option maxRecDepth 20000 in
set_option maxHeartbeats 2000000 in
theorem tear_lost (g bs bw : Nat) (s : St) (i : Nat) (k : Int) (v : Value) (w : World) (h : DiskAt w g bs bw s) (h1 : k ≠ 1) (h2 : k ≠ 2) :
    Calls Tryz.prog 57 #[ptr g, .int .i64 (i : Nat), tearV k v] w fun e w' => e = .returned (.tuple #[]) ∧ DiskAt w' g bs bw s ∧ KeptBut w w' [g, bs, bw] := by
  have e1 : (k == 1) = false := beq_false_of_ne h1
  have e2 : (k == 2) = false := beq_false_of_ne h2
  have HD := Lib.hid (h.alloc (.cells #[.int .i64 k, v] 106))
  clear h h1 h2
  go_enter Tryz.func57, Tryz.ntmps57
  go_wp2
  go_end0
  exact ⟨rfl, HD.out, kept_alloc _⟩
set_option maxRecDepth 20000 in
set_option maxHeartbeats 4000000 in
theorem tear_torn (g bs bw : Nat) (s : St) (i : Nat) (v : Value) (b : List Nat) (w : World) (h : DiskAt w g bs bw s) (hi : i < 1024) (hv : Sl w w.heap.size v b) :
    Calls Tryz.prog 57 #[ptr g, .int .i64 (i : Nat), tearV 2 v] w fun e w' => e = .returned (.tuple #[]) ∧ DiskAt w' g bs bw { s with fs := upd1 s.fs i (torn b ((s.fs i).getD noughts)) } ∧ KeptBut w w' [g, bs, bw] := by
  obtain ⟨A, n, c, rfl, hb, hnc, hcm, _⟩ := hv
  have hbl := hb.1
  have hblt := hb.2.1
  have h1 := h.alloc (.cells #[.int .i64 2, .slice A n c] 106)
  have hl := h1.2.1.look hi
  have HLT := Lib.hid h.lt
  have HS := Lib.hid (h.2.1.secD i)
  obtain ⟨xs, hxs⟩ : ∃ xs, xs = (s.fs i).getD noughts := ⟨_, rfl⟩
  rw [← hxs] at HS hl ⊢
  have HT := Lib.hid (torn_sec hblt HS.out)
  have HSP := Lib.hid (splice_torn xs b HS.out.1)
  have kt : (w.alloc (.cells #[.int .i64 2, .slice A n c] 106)).cell? ⟨w.heap.size, 1, none⟩ = some (.slice A n c) := (Blk.new w 106 #[.int .i64 2, .slice A n c]).cell 1
  have HB : Hid (Bts (w.alloc (.cells #[.int .i64 2, .slice A n c] 106)) w.heap.size A n b) := hb.alloc (Nat.le_refl _) _
  have HK : Hid (KeptBut w (w.alloc (.cells #[.int .i64 2, .slice A n c] 106)) [g, bs, bw]) := kept_alloc _
  have hsz : w.heap.size < (w.alloc (.cells #[.int .i64 2, .slice A n c] 106)).heap.size := by simp
  have HD := Lib.hid h1
  have hz := zero72
  have hcut := cut72
  obtain ⟨N, hN⟩ : ∃ N, N = 512 := ⟨_, rfl⟩
  rw [← hN] at hcut HSP
  obtain ⟨zs, hzs⟩ : ∃ zs, zs = noughts := ⟨_, rfl⟩
  simp only [← hzs] at hz
  have HZS := Lib.hid (hzs ▸ isSec_noughts); clear hzs
  have hbt : (b.take N).length = Nat.min n N := by rw [List.length_take, hbl]; exact Nat.min_comm ..
  have hb0 : (b.take N).length ≤ 512 := by rw [List.length_take, hN]; omega
  have hbc : 0 < (vals (b.take N)).length → ∃ ad, A = some ad ∧ ∀ W, Bts W w.heap.size A n b → ∀ j u, (vals (b.take N))[j]? = some u → W.cell? (ad.add j) = some u := by
    intro h0
    rw [vals_length] at h0
    obtain ⟨b0, o0, e, h3, _⟩ := hb.2.2.2 (by rw [hbt] at h0; exact Nat.lt_of_lt_of_le h0 (Nat.min_le_left ..))
    refine ⟨_, e, fun W hW j u hu => ?_⟩
    rw [show vals (b.take N) = (vals b).take N from by simp [vals, List.map_take], List.getElem?_take] at hu
    split at hu
    · exact bts_cells (e ▸ hW) j u hu
    · cases hu
  obtain ⟨w2, hw2⟩ : ∃ w2, w2 = ((w.alloc (.cells #[.int .i64 2, .slice A n c] 106)).alloc (.cells (vals zs).toArray 118)).setRow (w.heap.size + 1) (vals xs).toArray := ⟨_, rfl⟩
  have kz : ((w.alloc (.cells #[.int .i64 2, .slice A n c] 106)).alloc (.cells (vals zs).toArray 118)).heap[w.heap.size + 1]? = some (.cells (vals zs).toArray 118 (0, 0)) := by
    simpa using heap_alloc_new (w.alloc (.cells #[.int .i64 2, .slice A n c] 106)) (.cells (vals zs).toArray 118)
  have hbel : Below (w.heap.size + 1) (w.alloc (.cells #[.int .i64 2, .slice A n c] 106)) w2 := by
    rw [hw2]
    exact below_setRow ((Below.refl _ _).alloc (by simp) _) (Nat.le_refl _) _
  have hg2 : w2.heap[w.heap.size + 1]? = some (.cells (vals xs).toArray 118 (0, 0)) := by
    rw [hw2]
    exact setRow_heap _ _ _ _ _ _ kz
  have kt2 : w2.cell? ⟨w.heap.size, 1, none⟩ = some (.slice A n c) := (hbel.cell (by simp)).trans kt
  have HD2 : Hid (DiskAt w2 g bs bw s) := h1.below (hbel.mono (by simp))
  have k1 := h1.c1
  have k2 := HD2.out.c1
  have hlt := h1.1.lt
  have hlt2 := HD2.out.1.lt
  have hs2 : w.heap.size + 1 < w2.heap.size := (Array.getElem?_eq_some_iff.1 hg2).1
  have HK2 : Hid (KeptBut w w2 [g, bs, bw]) := HK.out.trans (kept_of_below hbel (by simp))
  have HB2 : Hid (Bts w2 w.heap.size A n b) := HB.out.below hbel (by omega)
  have HKZ := Lib.hid kz; clear kz
  have HG2 := Lib.hid hg2; clear hg2
  have HW2 := Lib.hid hw2; clear hw2
  have HBC := Lib.hid hbc; clear hbc
  have HBT := Lib.hid hbt; clear hbt
  have HB0 := Lib.hid hb0; clear hb0
  have HN := Lib.hid hN; clear hN
  have HBL := Lib.hid hbl; clear hbl
  have HBLT := Lib.hid hblt; clear hblt
  clear h h1 hxs hnc hcm hb hbel HB HK HD kt
  go_enter Tryz.func57, Tryz.ntmps57
  go_wp2_with (refine wpList_store_row rfl 118 (.tmp 6) (.tmp 29) rfl (w.heap.size + 1) (vals xs).toArray rfl rfl 118 (vals zs).toArray HKZ.out (by rw [size72]; simp [vals_length, HS.out.1]) (by simp [vals_length, HS.out.1, HZS.out.1]) (vals_all _) ?_; rw [← HW2.out]; clear k1 hlt)
  go_frame
  have HG3 : Hid (w2.drew.heap[w.heap.size + 1]? = some (.cells (vals xs).toArray 118 (0, 0))) := HG2
  have HD3 : Hid (DiskAt w2.drew g bs bw s) := HD2.out.drew
  have HK3 : Hid (KeptBut w w2.drew [g, bs, bw]) := HK2.out.trans kept_drew
  have HB3 : Hid (Bts w2.drew w.heap.size A n b) := HB2.out.drew
  go_still_tail 3, (by kernel_rfl)
  change wpList _ _ _ _ _ w2.drew
  have hlt3 : g < w2.drew.heap.size := hlt2
  clear HG2 HD2 HK2 HB2 kt2 k2 hlt2 hs2 HW2 HKZ
  generalize w2.drew = w3 at *
  go_wp2_with (refine wpList_copy_splice rfl (.tmp 30) (.tmp 32) 31 31 rfl 5 Tryz.underlying31 u8_size1 _ _ N N n c rfl rfl (w.heap.size + 1) 0 (vals xs) 118 HG3.out (vals (b.take N)) (by rw [vals_length]; exact HBT.out) (fun h0 => ⟨rfl, by obtain ⟨ad, e, hc⟩ := HBC.out h0; exact ⟨ad, e, hc w3 HB3.out⟩⟩) (by rw [vals_length, vals_length, HS.out.1]; have := HB0.out; omega) (vals_one _) (w.heap.size + 1) w3 (Below.refl _ _) (Nat.le_refl _) ?_; intro w4 HG4 hb4; rw [HSP.out] at HG4; have HD4 : Hid (DiskAt w4 g bs bw s) := HD3.out.belowB hb4 (by have := HLT.out; omega) (by have := HLT.out; omega) (by have := HLT.out; omega); have HK4 := Lib.hid (HK3.out.thenBelow hb4 (by omega)); clear hb4)
  go_frame
  have k5 := HD4.out.c1
  have hlt5 := HD4.out.1.lt
  have HG5 : Hid (w4.drew.heap[w.heap.size + 1]? = some (.cells (vals (torn b xs)).toArray 118 (0, 0))) := HG4
  have HD5 : Hid (DiskAt w4.drew g bs bw s) := HD4.out.drew
  have HK5 : Hid (KeptBut w w4.drew [g, bs, bw]) := HK4.out.trans kept_drew
  go_still_tail 6, (by kernel_rfl)
  refine still_load_row rfl 118 (.tmp 6) rfl (w.heap.size + 1) rfl 118 (vals (torn b xs)).toArray (0, 0) _ HG5.out Tryz.underlying118 rfl (by rw [size72]; simp [vals_length, HT.out.1]) ?_
  refine wpStill_nil ?_
  change wpList _ _ _ _ _ w4.drew
  clear HG4 HD4 HK4 k5 hlt5
  generalize w4.drew = w5 at *
  go_wp2_with (refine wpList_mapUpdate_sec _ rfl (.tmp 37) (.tmp 38) (.tmp 39) rfl bs s.fs i (torn b xs) rfl rfl rfl HD5.out.2.1 hi HT.out ?_; intro w6 hm6 hg6)
  go_end0
  exact ⟨rfl, disk_put_safe HD5.out i (torn b xs) hm6.out hg6, HK5.out.trans (kept_of_grown hg6 (by simp))⟩
theorem tear_any (g bs bw : Nat) (s : St) (i : Nat) (k : Int) (v : Value) (b : List Nat) (w : World) (h : DiskAt w g bs bw s) (hi : i < 1024) (hv : Sl w w.heap.size v b) :
    Calls Tryz.prog 57 #[ptr g, .int .i64 (i : Nat), tearV k v] w fun e w' => e = .returned (.tuple #[]) ∧ DiskAt w' g bs bw (s.tear i k b) ∧ KeptBut w w' [g, bs, bw] := by
  unfold St.tear
  by_cases h1 : k = 1
  · subst h1
    rw [if_pos rfl]
    exact tear_kept g bs bw s i v w h hi
  · by_cases h2 : k = 2
    · subst h2
      rw [if_neg h1, if_pos rfl]
      exact tear_torn g bs bw s i v b w h hi hv
    · rw [if_neg h1, if_neg h2]
      exact tear_lost g bs bw s i k v w h h1 h2
end Go.Proofs.YtnenbocjfekmfaaGreat.Dsk
/- The contract of a disk's Crash (layer 3). -/
namespace Go.Proofs.YtnenbocjfekmfaaGreat.Dsk
open Go.RowKit Go.Maps Go.Proofs.YtnenbocjfekmfaaGreat.Mem
set_option linter.unusedVariables false
set_option linter.unusedSimpArgs false
/-- a slice of tears -/
def TearsAt (w : World) (B : Nat) (v : Value) (l : List (Int × List Nat)) : Prop :=
  ∃ (A : Option Addr) (n c : Nat), v = .slice A n c ∧ l.length = n ∧ n ≤ 1000000 ∧ (0 < n → ∃ b off, A = some ⟨b, off, none⟩ ∧ b < B ∧
    ∀ i, i < n → ∃ k u xs, l[i]? = some (k, xs) ∧ w.cell? ⟨b, off + i * 2, none⟩ = some (.int .i64 k) ∧ w.cell? ⟨b, off + i * 2 + 1, none⟩ = some u ∧ Sl w B u xs ∧ (Lit.int .i64 k).wf = true)
theorem TearsAt.below {w w' : World} {B B' : Nat} {v : Value} {l : List (Int × List Nat)} (h : TearsAt w B v l) (hb : Below B' w w') (hB : B ≤ B') : TearsAt w' B v l := by
  obtain ⟨A, n, c, rfl, hl, hn, h⟩ := h
  refine ⟨A, n, c, rfl, hl, hn, fun h0 => ?_⟩
  obtain ⟨b, off, e, hbB, hc⟩ := h h0
  refine ⟨b, off, e, hbB, fun i hi => ?_⟩
  obtain ⟨k, u, xs, h1, h2, h3, h4, h5⟩ := hc i hi
  exact ⟨k, u, xs, h1, (hb.cell (p := ⟨b, off + i * 2, none⟩) (Nat.lt_of_lt_of_le hbB hB)).trans h2, (hb.cell (p := ⟨b, off + i * 2 + 1, none⟩) (Nat.lt_of_lt_of_le hbB hB)).trans h3, h4.below hb hB, h5⟩
theorem tears_nil (w : World) (B : Nat) : TearsAt w B (.slice none 0 0) [] := ⟨none, 0, 0, rfl, rfl, by omega, fun h => absurd h (by omega)⟩
theorem own_ints {w : World} {base n : Nat} {v : Value} {xs : List Nat} (h : w.ownsRow base 3 1 v n (ints xs)) (hn : xs.length = n) :
    ∃ A c, v = .slice A n c ∧ (0 < n → ∃ b, A = some ⟨b, 0, none⟩ ∧ base ≤ b ∧ b < w.heap.size ∧ ∀ i, i < n → w.cell? ⟨b, i, none⟩ = some (.int .i64 (xs.getD i 0 : Nat))) := by
  rcases h.2 with ⟨rfl, rfl⟩ | ⟨g, cap, cur, rfl, hg, hh, hnc, hm, hs, ht⟩
  · exact ⟨none, 0, rfl, fun h0 => absurd h0 (by omega)⟩
  · refine ⟨_, cap, rfl, fun _ => ⟨g, rfl, hg, (h.lt g rfl).2, fun i hi => ?_⟩⟩
    rw [h.cellAt i (by omega)]
    simp [ints, List.getElem?_eq_getElem (show i < xs.length by omega), List.getD]
theorem zip_at {ws : List Nat} {l : List (Int × List Nat)} {k : Nat} {t : Int × List Nat} (hk : k < ws.length) (ht : l[k]? = some t) : (ws.zip l)[k]? = some (ws.getD k 0, t) := by
  rw [List.getElem?_zip_eq_some]
  exact ⟨by simp [List.getD, List.getElem?_eq_getElem hk], ht⟩
theorem getD_mem {ws : List Nat} {k : Nat} (hk : k < ws.length) : ws.getD k 0 ∈ ws := by
  simp [List.getD, List.getElem?_eq_getElem hk]
theorem disk_crashed {w w1 : World} {g bs bw : Nat} {s : St} (h : DiskAt w g bs bw s) (h1 : SMap w1 bw (fun _ => none)) (g1 : w.grownBy w1 (some bw)) : DiskAt w1 g bs bw { s with fw := fun _ => none } := by
  obtain ⟨e1, e2, e3⟩ := h.ne
  obtain ⟨hb, hs, hw, hne, hn1, hn2, hl1, hl2, hr⟩ := h
  exact ⟨hb.grown g1 (by simp; omega), hs.kept g1 (by simp; omega), h1, hne, hn1, hn2, hl1, hl2, fun _ _ => rfl⟩
set_option maxRecDepth 20000 in
set_option maxHeartbeats 4000000 in
theorem crash_any (g bs bw B : Nat) (s : St) (v : Value) (l : List (Int × List Nat)) (w : World) (h : DiskAt w g bs bw s) (hv : TearsAt w B v l) (hB : ∀ x ∈ [g, bs, bw], B ≤ x) :
    Calls Tryz.prog 19 #[ptr g, v] w fun e w' => e = .returned (.tuple #[]) ∧ DiskAt w' g bs bw (s.crash l) ∧ KeptBut w w' [g, bs, bw] := by
  have c1 := isNone_no g bs bw s w h
  have c2 := waits_any g bs bw s w h
  have C1 := Lib.hid c1; clear c1
  have C2 := Lib.hid c2; clear c2
  have hlt := h.lt
  have hw1024 := h.2.2.2.2.2.1
  obtain ⟨A, n, c, rfl, hl, hn, hcell⟩ := hv
  have hws : s.waiting.length ≤ 1024 := by
    unfold St.waiting
    have := List.length_filter_le (fun i => (s.fw i).isSome) (List.range s.n)
    rw [List.length_range] at this
    omega
  obtain ⟨m, hm⟩ : ∃ m, m = s.waiting.length := ⟨_, rfl⟩
  rw [← hm] at hws C2
  have HH := Lib.hid h; clear h
  have HM := Lib.hid hm; clear hm
  have HC := Lib.hid hcell; clear hcell
  have HL := Lib.hid hl; clear hl
  have HB := Lib.hid hB; clear hB
  go_enter Tryz.func19, Tryz.ntmps19
  go_wp2_with (first
    | (go_at_call 56; refine (C1.out).mono ?_; rintro e w' ⟨rfl, rfl⟩)
    | (go_at_call 30; refine (C2.out).mono ?_; rintro e w1 ⟨v1, rfl, hrow, hb1⟩; obtain ⟨A1, c1, rfl, hc1⟩ := own_ints hrow HM.out.symm; have HROW := Lib.hid hrow; clear hrow; have HC1 := Lib.hid hc1; clear hc1; have HD1 := Lib.hid (HH.out.below hb1); have HB1 := Lib.hid hb1; clear hb1))
  obtain ⟨K, hK⟩ : ∃ K : Nat, K = min m n := ⟨_, rfl⟩
  have e : min (m : Int) (n : Int) = (K : Int) := by omega
  rw [e]
  have hKm : K ≤ m := by omega
  have hKn : K ≤ n := by omega
  have HKE := Lib.hid hK; clear hK e
  go_loopw [15] (fun i wr => ∃ k : Nat, k ≤ K ∧ i = .int .i64 k ∧ DiskAt wr g bs bw (s.tears ((s.waiting.zip l).take k)) ∧ KeptBut w1 wr [g, bs, bw]) (fun i _ => K - (intOf i).toNat)
  case atStart => exact ⟨0, Nat.zero_le _, rfl, HD1.out, KeptBut.refl _ _⟩
  case round =>
    obtain ⟨k, hk, rfl, hd, hkept⟩ := hrel
    have HD := Lib.hid hd; clear hd
    have HKP := Lib.hid hkept; clear hkept
    clear hlt
    by_cases hlt : k < K
    · have hkm : k < m := by omega
      have hkn : k < n := by omega
      obtain ⟨b1, rfl, hb1, hb2, hcell1⟩ := HC1.out (by omega)
      obtain ⟨b0, o0, rfl, hb0, hcell0⟩ := HC.out (by omega)
      obtain ⟨kd, u, xs, hlk, g0, g1, hsl, hwf⟩ := hcell0 k hkn
      have hbel : Below B w w1 := HB1.out.mono (by have := HB.out g (by simp); have := HH.out.1.lt; omega)
      have hbel2 : Below B w1 wr := HKP.out.below HB.out (by have := HB.out g (by simp); have := HD1.out.1.lt; omega)
      have g0' := (hbel2.cell (p := ⟨b0, o0 + k * 2, none⟩) hb0).trans ((hbel.cell (p := ⟨b0, o0 + k * 2, none⟩) hb0).trans g0)
      have g1' := (hbel2.cell (p := ⟨b0, o0 + k * 2 + 1, none⟩) hb0).trans ((hbel.cell (p := ⟨b0, o0 + k * 2 + 1, none⟩) hb0).trans g1)
      have g2 := (HKP.out.cell (p := ⟨b1, k, none⟩) hb2 (by have := HH.out.lt; simp; omega)).trans (hcell1 k hkm)
      have hsl2 : Hid (Sl wr wr.heap.size u xs) := ((hsl.below hbel (Nat.le_refl _)).below hbel2 (Nat.le_refl _)).more (by have := HB.out g (by simp); have := HD.out.1.lt; omega)
      have hz := Lib.hid (zip_at (ws := s.waiting) (by rw [← HM.out]; exact hkm) hlk)
      have hi := waiting_lt s _ (getD_mem (ws := s.waiting) (k := k) (by rw [← HM.out]; exact hkm))
      have hbw : b0 < wr.heap.size := by have := HB.out g (by simp); have := HD.out.1.lt; omega
      have hbw1 : b1 < wr.heap.size := Nat.lt_of_lt_of_le hb2 HKP.out.size
      generalize s.waiting.getD k 0 = i at *
      have t1 := tear_any g bs bw _ i kd u xs wr.drew HD.out.drew (by omega) hsl2.out.drew
      have T1 := Lib.hid t1; clear t1
      clear hcell0 hcell1 g0 g1 hbel hbel2 hsl hwf hlk
      go_wp2
      go_still_tail 9, (by kernel_rfl)
      change wpList _ _ _ _ _ wr.drew
      go_wp2_with (go_at_call 57; refine (T1.out).mono ?_; rintro e w2 ⟨rfl, hD2, hK2⟩; have HD2 := Lib.hid hD2; clear hD2; have HK2 := Lib.hid hK2; clear hK2)
      go_roundw
      case rel => exact ⟨k + 1, by omega, by go_num, by rw [tears_step s _ k _ hz.out]; exact HD2.out, (HKP.out.trans kept_drew).trans HK2.out⟩
      case measure => simp [intOf]; omega
    · have hkK : k = K := by omega
      subst hkK
      have hfull : (s.waiting.zip l).take k = s.waiting.zip l := List.take_of_length_le (by rw [List.length_zip, ← HM.out, HL.out, HKE.out]; exact Nat.le_refl _)
      rw [hfull] at HD
      clear hfull
      have k2 := HD.out.c2
      have hglt := HD.out.1.lt
      go_wp2_with (refine wpList_clear_sec _ rfl (.tmp 32) rfl bw (s.tears (s.waiting.zip l)).fw rfl HD.out.2.2.1 ?_; intro w4 hm5 hg5; have hD5 := disk_crashed HD.out hm5.out hg5; have k3 := hD5.c3; have k4 := hD5.c4; have f3 := hD5.1.frozen 3; have f4 := hD5.1.frozen 4; have hglt5 := hD5.1.lt; have HD5 := Lib.hid hD5; clear hD5; have HG5 := Lib.hid hg5; clear hg5 hm5)
      go_end0
      obtain ⟨e1, e2⟩ := tears_same (s.waiting.zip l) s
      refine ⟨rfl, ?_, ?_⟩
      · refine disk_set (s := { s.tears (s.waiting.zip l) with fw := fun _ => none, dead := false }) (disk_set HD5.out 4 _ rfl rfl rfl rfl ?_ ?_) 3 _ rfl rfl rfl rfl ?_ ?_
        · exact HD.out.2.2.2.2.2.2.1
        · exact HD.out.2.2.2.2.2.2.2.1
        · simp [St.crash]
        · simp [St.crash]
      · refine ((((kept_of_below HB1.out (Nat.le_refl _)).trans HKP.out).trans (kept_of_grown HG5.out (by simp))).trans (kept_of_grown (grown_set w4 ⟨g, 4, none⟩ _) (by simp))).trans (kept_of_grown (grown_set _ ⟨g, 3, none⟩ _) (by simp))
end Go.Proofs.YtnenbocjfekmfaaGreat.Dsk
/- The reference's disk by value (layer 3): two rows of slices of bytes, how many acts are done, whether it is dead; all in blocks that are not among S. -/
namespace Go.Proofs.YtnenbocjfekmfaaGreat.Dsk
open Go.RowKit Go.Maps Go.Proofs.YtnenbocjfekmfaaGreat.Mem
set_option linter.unusedVariables false
set_option linter.unusedSimpArgs false
def SlS (w : World) (S : List Nat) (u : Value) (xs : List Nat) : Prop :=
  ∃ (A : Option Addr) (n c : Nat), u = .slice A n c ∧ xs.length = n ∧ (∀ x ∈ xs, x < 256) ∧ n ≤ 1000000 ∧ n ≤ c ∧ c ≤ maxLen ∧ (A = none → c = 0) ∧
    (0 < n → ∃ b off, A = some ⟨b, off, none⟩ ∧ b < w.heap.size ∧ b ∉ S ∧ ∀ i, i < n → w.cell? ⟨b, off + i, none⟩ = some (.int .u8 (xs.getD i 0 : Nat)))
def RowS (w : World) (S : List Nat) (v : Value) (n : Nat) (us : Nat → Value) : Prop :=
  ∃ (A : Option Addr) (c : Nat), v = .slice A n c ∧ n ≤ c ∧ c ≤ maxLen ∧ (A = none → c = 0) ∧
    (0 < n → ∃ b off, A = some ⟨b, off, none⟩ ∧ b < w.heap.size ∧ b ∉ S ∧ ∀ i, i < n → w.cell? ⟨b, off + i, none⟩ = some (us i))
section
variable {w w' : World} {S : List Nat} {u v : Value} {xs : List Nat} {n : Nat} {us : Nat → Value}
theorem SlS.sl (h : SlS w S u xs) : Sl w w.heap.size u xs := by
  obtain ⟨A, n, c, rfl, h1, h2, h3, h4, h5, h6, h7⟩ := h
  refine ⟨A, n, c, rfl, ⟨h1, h2, h3, fun h0 => ?_⟩, h4, h5, h6⟩
  obtain ⟨b, off, e, hb, _, hc⟩ := h7 h0
  exact ⟨b, off, e, hb, hc⟩
theorem SlS.kept (h : SlS w S u xs) (k : KeptBut w w' S) : SlS w' S u xs := by
  obtain ⟨A, n, c, rfl, h1, h2, h3, h4, h5, h6, h7⟩ := h
  refine ⟨A, n, c, rfl, h1, h2, h3, h4, h5, h6, fun h0 => ?_⟩
  obtain ⟨b, off, e, hb, hn, hc⟩ := h7 h0
  exact ⟨b, off, e, Nat.lt_of_lt_of_le hb k.size, hn, fun i hi => (k.cell (p := ⟨b, off + i, none⟩) hb hn).trans (hc i hi)⟩
theorem RowS.kept (h : RowS w S v n us) (k : KeptBut w w' S) : RowS w' S v n us := by
  obtain ⟨A, c, rfl, h4, h5, h6, h7⟩ := h
  refine ⟨A, c, rfl, h4, h5, h6, fun h0 => ?_⟩
  obtain ⟨b, off, e, hb, hn, hc⟩ := h7 h0
  exact ⟨b, off, e, Nat.lt_of_lt_of_le hb k.size, hn, fun i hi => (k.cell (p := ⟨b, off + i, none⟩) hb hn).trans (hc i hi)⟩
theorem SlS.len (h : SlS w S u xs) : ∃ A c, u = .slice A xs.length c ∧ xs.length ≤ 1000000 := by
  obtain ⟨A, n, c, rfl, h1, h2, h3, h4⟩ := h
  subst h1
  exact ⟨A, c, rfl, h3⟩
theorem SlS.lt (h : SlS w S u xs) : ∀ x ∈ xs, x < 256 := by
  obtain ⟨A, n, c, rfl, h1, h2, h3, h4⟩ := h
  exact h2
theorem SlS.more {S' : List Nat} (h : SlS w S u xs) (hs : ∀ x ∈ S', x ∈ S) : SlS w S' u xs := by
  obtain ⟨A, n, c, rfl, h1, h2, h3, h4, h5, h6, h7⟩ := h
  refine ⟨A, n, c, rfl, h1, h2, h3, h4, h5, h6, fun h0 => ?_⟩
  obtain ⟨b, off, e, hb, hn, hc⟩ := h7 h0
  exact ⟨b, off, e, hb, fun hm => hn (hs b hm), hc⟩
theorem slS_nil (w : World) (S : List Nat) : SlS w S (.slice none 0 0) [] := ⟨none, 0, 0, rfl, rfl, by simp, by omega, Nat.le_refl _, by unfold maxLen; omega, fun _ => rfl, fun h => absurd h (by omega)⟩
theorem slS_own {base : Nat} (h : w.ownsRow base 5 1 v n (vals xs)) (hx : ∀ x ∈ xs, x < 256) (hn : n ≤ 1000000) (hS : ∀ x ∈ S, x < base) : SlS w S v xs := by
  have hl : xs.length = n := by have := h.1; rw [vals_length] at this; omega
  rcases h.2 with ⟨rfl, rfl⟩ | ⟨g, cap, cur, rfl, hg, hh, hnc, hm, hs, ht⟩
  · exact ⟨none, 0, 0, rfl, hl, hx, by omega, by omega, by unfold maxLen; omega, fun _ => rfl, fun h => absurd h (by omega)⟩
  · have hlt : g < w.heap.size := (h.lt g rfl).2
    exact ⟨_, n, cap, rfl, hl, hx, hn, hnc, hm, fun e => (by cases e), fun _ => ⟨g, 0, rfl, hlt, fun hm => by have := hS g hm; omega, fun i hi => by rw [Nat.zero_add, h.cellAt i (by omega), vals_get xs i (by omega)]⟩⟩
theorem rowS_own {base : Nat} {zs : List Value} (h : w.ownsRow base 31 1 v n zs) (hS : ∀ x ∈ S, x < base) : RowS w S v n (fun i => zs.getD i (.slice none 0 0)) := by
  have hl : zs.length = n := by have := h.1; omega
  rcases h.2 with ⟨rfl, rfl⟩ | ⟨g, cap, cur, rfl, hg, hh, hnc, hm, hs, ht⟩
  · exact ⟨none, 0, rfl, by omega, by unfold maxLen; omega, fun _ => rfl, fun h => absurd h (by omega)⟩
  · have hlt : g < w.heap.size := (h.lt g rfl).2
    exact ⟨_, cap, rfl, hnc, hm, fun e => (by cases e), fun _ => ⟨g, 0, rfl, hlt, fun hm => by have := hS g hm; omega, fun i hi => by rw [Nat.zero_add, h.cellAt i (by omega)]; simp [List.getD, List.getElem?_eq_getElem (show i < zs.length by omega)]⟩⟩
theorem RowS.ext {us' : Nat → Value} (h : RowS w S v n us) (e : ∀ i, i < n → us i = us' i) : RowS w S v n us' := by
  obtain ⟨A, c, rfl, h4, h5, h6, h7⟩ := h
  refine ⟨A, c, rfl, h4, h5, h6, fun h0 => ?_⟩
  obtain ⟨b, off, e1, hb, hn, hc⟩ := h7 h0
  exact ⟨b, off, e1, hb, hn, fun i hi => by rw [hc i hi, e i hi]⟩
theorem RowS.reads (h : RowS w S v n us) : ∃ A c, v = .slice A n c ∧ Reads w w.heap.size 1 A n ((List.range n).map us) := by
  obtain ⟨A, c, rfl, h4, h5, h6, h7⟩ := h
  refine ⟨A, c, rfl, by simp, fun h0 => ?_⟩
  obtain ⟨b, off, rfl, hb, hn, hc⟩ := h7 h0
  refine ⟨_, rfl, hb, fun j u hu => ?_⟩
  rw [add_plain]
  have hj : j < n := by
    have := (List.getElem?_eq_some_iff.1 hu).1
    simpa using this
  rw [hc j hj]
  simpa [List.getElem?_map, List.getElem?_range hj] using hu
end
theorem RowS.more {w : World} {S S' : List Nat} {v : Value} {n : Nat} {us : Nat → Value} (h : RowS w S v n us) (hs : ∀ x ∈ S', x ∈ S) : RowS w S' v n us := by
  obtain ⟨A, c, rfl, h4, h5, h6, h7⟩ := h
  refine ⟨A, c, rfl, h4, h5, h6, fun h0 => ?_⟩
  obtain ⟨b, off, e, hb, hn, hc⟩ := h7 h0
  exact ⟨b, off, e, hb, fun hm => hn (hs b hm), hc⟩
def armedOf (L : Int) : Int := if L < 0 then -1 else L
def refV (v1 v2 : Value) (s : St) : Value := .agg #[v1, v2, .int .i64 (armedOf s.left), .bool s.dead]
/-- the reference's disk, by value -/
def RefAt (w : World) (S : List Nat) (v : Value) (s : St) : Prop :=
  ∃ (v1 v2 : Value) (us1 us2 : Nat → Value), v = refV v1 v2 s ∧ RowS w S v1 s.n us1 ∧ RowS w S v2 s.n us2 ∧ (∀ i, i < s.n → SlS w S (us1 i) ((s.fs i).getD noughts)) ∧ (∀ i, i < s.n → SlS w S (us2 i) ((s.fw i).getD []))
theorem RefAt.kept {w w' : World} {S : List Nat} {v : Value} {s : St} (h : RefAt w S v s) (k : KeptBut w w' S) : RefAt w' S v s := by
  obtain ⟨v1, v2, us1, us2, rfl, h1, h2, h3, h4⟩ := h
  exact ⟨v1, v2, us1, us2, rfl, h1.kept k, h2.kept k, fun i hi => (h3 i hi).kept k, fun i hi => (h4 i hi).kept k⟩
theorem RefAt.more {w : World} {S S' : List Nat} {v : Value} {s : St} (h : RefAt w S v s) (hs : ∀ x ∈ S', x ∈ S) : RefAt w S' v s := by
  obtain ⟨v1, v2, us1, us2, rfl, h1, h2, h3, h4⟩ := h
  exact ⟨v1, v2, us1, us2, rfl, h1.more hs, h2.more hs, fun i hi => (h3 i hi).more hs, fun i hi => (h4 i hi).more hs⟩
theorem RefAt.below {w w' : World} {S : List Nat} {v : Value} {s : St} (h : RefAt w S v s) (k : Below w.heap.size w w') : RefAt w' S v s := h.kept (kept_of_below k (Nat.le_refl _))
/-- what is written down has a sector's bytes -/
def Good (s : St) : Prop := 1 ≤ s.n ∧ s.n ≤ 1024 ∧ (∀ i xs, s.fs i = some xs → IsSec xs) ∧ (∀ i xs, s.fw i = some xs → IsSec xs) ∧ -9223372036854775808 ≤ s.left ∧ s.left ≤ 9223372036854775807
theorem DiskAt.good {w : World} {g bs bw : Nat} {s : St} (h : DiskAt w g bs bw s) : Good s :=
  ⟨h.2.2.2.2.1, h.2.2.2.2.2.1, fun i xs e => (h.2.1.sec e).1, fun i xs e => (h.2.2.1.sec e).1, h.2.2.2.2.2.2.1, h.2.2.2.2.2.2.2.1⟩
theorem Good.fwl {s : St} (h : Good s) (i : Nat) : (s.fw i = none ∧ ((s.fw i).getD []).length = 0) ∨ ((s.fw i).isSome = true ∧ ((s.fw i).getD []).length = 512) := by
  cases e : s.fw i with
  | none => exact .inl ⟨rfl, rfl⟩
  | some xs => exact .inr ⟨rfl, (h.2.2.2.1 i xs e).1⟩
abbrev set4 (w : World) (g : Nat) (a b c d : Value) : World := (((w.setCell ⟨g, 0, none⟩ a).setCell ⟨g, 1, none⟩ b).setCell ⟨g, 2, none⟩ c).setCell ⟨g, 3, none⟩ d
theorem kept_set (w : World) {g i : Nat} (u : Value) {S : List Nat} (h : g ∈ S) : KeptBut w (w.setCell ⟨g, i, none⟩ u) S := kept_of_grown (grown_set w ⟨g, i, none⟩ u) h
theorem set4_kept {w w1 : World} {g : Nat} {a b c d : Value} {S : List Nat} (h : KeptBut w w1 S) (hg : g ∈ S) : KeptBut w (set4 w1 g a b c d) S :=
  (((h.trans (kept_set _ _ hg)).trans (kept_set _ _ hg)).trans (kept_set _ _ hg)).trans (kept_set _ _ hg)
theorem set4_below {B : Nat} {w w1 : World} {g : Nat} {a b c d : Value} (h : Below B w w1) (hg : B ≤ g) : Below B w (set4 w1 g a b c d) := (((h.setCell hg _).setCell hg _).setCell hg _).setCell hg _
theorem Tryz.info35 : (Tryz.prog.info? 31).map (fun i => (i.zero, i.size, i.bytes)) = some (some (.slice none 0 0), 1, 24) := by kernel_rfl
theorem Tryz.info3i : (Tryz.prog.info? 3).map (fun i => (i.zero, i.size, i.bytes)) = some (some (.int .i64 0), 1, 8) := by kernel_rfl
end Go.Proofs.YtnenbocjfekmfaaGreat.Dsk
/- The reference of layer 3, its small calls: Get, act, Waiting, Torn. -/
namespace Go.Proofs.YtnenbocjfekmfaaGreat.Dsk
open Go.RowKit Go.Maps Go.Proofs.YtnenbocjfekmfaaGreat.Mem
set_option linter.unusedVariables false
set_option linter.unusedSimpArgs false
theorem RowS.at_ {w : World} {S : List Nat} {v : Value} {n i : Nat} {us : Nat → Value} (h : RowS w S v n us) (hi : i < n) :
    ∃ b off c, v = .slice (some ⟨b, off, none⟩) n c ∧ b < w.heap.size ∧ b ∉ S ∧ w.cell? ⟨b, off + i, none⟩ = some (us i) := by
  obtain ⟨A, c, rfl, h4, h5, h6, h7⟩ := h
  obtain ⟨b, off, rfl, hb, hn, hc⟩ := h7 (by omega)
  exact ⟨b, off, c, rfl, hb, hn, hc i hi⟩
set_option maxHeartbeats 1000000 in
theorem ref_get (S : List Nat) (v : Value) (s : St) (i : Nat) (w : World) (hg : Good s) (h : RefAt w S v s) (hi : i < s.n) :
    Calls Tryz.prog 40 #[v, .int .i64 (i : Nat)] w fun e w' => ∃ u, e = .returned u ∧ SlS w S u (s.get i) ∧ Below w.heap.size w w' := by
  obtain ⟨v1, v2, us1, us2, rfl, h1, h2, h3, h4⟩ := h
  have hw := hg.fwl i
  unfold St.get
  obtain ⟨b1, o1, c1, rfl, hb1, _, g1⟩ := h1.at_ hi
  obtain ⟨b2, o2, c2, rfl, hb2, _, g2⟩ := h2.at_ hi
  have k1 := h3 i hi
  have k2 := h4 i hi
  obtain ⟨A', cc, e', _⟩ := k2.len
  rw [e'] at g2 k2
  have K1 := Lib.hid k1; clear k1
  have K2 := Lib.hid k2; clear k2
  clear h1 h2 h3 h4 e'
  generalize hm : ((s.fw i).getD []).length = m at *
  unfold refV
  generalize armedOf s.left = ar at *
  generalize s.dead = dd at *
  rcases hw with ⟨hf, rfl⟩ | ⟨hf, rfl⟩
  · rw [hf, Option.none_or]
    clear hm
    go_enter Tryz.func40, Tryz.ntmps40
    go_wp2
    go_ret
    exact ⟨_, rfl, K1.out, (Below.refl _ w).alloc (Nat.le_refl _) _⟩
  · obtain ⟨xs, hx⟩ := Option.isSome_iff_exists.1 hf
    rw [hx] at K2 ⊢
    rw [Option.some_or, Option.getD_some]
    rw [Option.getD_some] at K2
    clear hm hf hx
    go_enter Tryz.func40, Tryz.ntmps40
    go_wp2
    go_ret
    exact ⟨_, rfl, K2.out, (Below.refl _ w).alloc (Nat.le_refl _) _⟩
def St.ract (s : St) : St × Bool := if s.dead = true then (s, false) else s.act
set_option maxHeartbeats 1000000 in
theorem ref_act (A1 A2 : Option Addr) (n1 n2 c1 c2 : Nat) (s : St) (w : World) (hg : Good s) :
    Calls Tryz.prog 108 #[refV (.slice A1 n1 c1) (.slice A2 n2 c2) s] w fun e w' => e = .returned (.tuple #[refV (.slice A1 n1 c1) (.slice A2 n2 c2) s.ract.1, .bool s.ract.2]) ∧ Below w.heap.size w w' := by
  have hl1 := hg.2.2.2.2.1
  have hl2 := hg.2.2.2.2.2
  obtain ⟨n, fs, fw, L, dead⟩ := s
  clear hg
  unfold refV
  simp only at hl1 hl2 ⊢
  cases dead with
  | true =>
    have e : (St.mk n fs fw L true).ract = (St.mk n fs fw L true, false) := by simp [St.ract]
    rw [e]
    generalize armedOf L = ar at *
    go_enter Tryz.func108, Tryz.ntmps108
    go_wp2
    exact bodyPost_ret (v := .tuple #[.agg #[.slice A1 n1 c1, .slice A2 n2 c2, .int .i64 ar, .bool true], .bool false]) (by simp [results, Tryz.results108, go_sem]) rfl ⟨rfl, ((Below.refl _ _).alloc (Nat.le_refl _) _).alloc (by simp) _⟩
  | false =>
    by_cases h0 : L = 0
    · subst h0
      have e : (St.mk n fs fw 0 false).ract = (St.mk n fs fw 0 true, false) := by simp [St.ract, St.act]
      have ea : armedOf 0 = 0 := rfl
      rw [e]
      simp only [ea]
      go_enter Tryz.func108, Tryz.ntmps108
      go_wp2
      exact bodyPost_ret (v := .tuple #[.agg #[.slice A1 n1 c1, .slice A2 n2 c2, .int .i64 0, .bool true], .bool false]) (by simp [results, Tryz.results108, go_sem]) rfl ⟨rfl, ((Below.refl _ _).alloc (Nat.le_refl _) _).alloc (by simp) _⟩
    · by_cases hp : 0 < L
      · have e : (St.mk n fs fw L false).ract = (St.mk n fs fw (L - 1) false, true) := by simp [St.ract, St.act, h0, hp]
        have ea : armedOf L = L := by unfold armedOf; omega
        have eb : armedOf (L - 1) = L - 1 := by unfold armedOf; omega
        rw [e]
        simp only [ea, eb]
        have hz : (L == 0) = false := beq_false_of_ne h0
        have hd : decide ((0 : Int) < L) = true := by simpa using hp
        clear e ea eb
        go_enter Tryz.func108, Tryz.ntmps108
        go_wp2
        exact bodyPost_ret (v := .tuple #[.agg #[.slice A1 n1 c1, .slice A2 n2 c2, .int .i64 (L - 1), .bool false], .bool true]) (by simp [results, Tryz.results108, go_sem]) rfl ⟨rfl, ((Below.refl _ _).alloc (Nat.le_refl _) _).alloc (by simp) _⟩
      · have e : (St.mk n fs fw L false).ract = (St.mk n fs fw L false, true) := by simp [St.ract, St.act, h0, hp]
        have ea : armedOf L = -1 := by unfold armedOf; omega
        rw [e]
        simp only [ea]
        clear e ea
        go_enter Tryz.func108, Tryz.ntmps108
        go_wp2
        exact bodyPost_ret (v := .tuple #[.agg #[.slice A1 n1 c1, .slice A2 n2 c2, .int .i64 (-1), .bool false], .bool true]) (by simp [results, Tryz.results108, go_sem]) rfl ⟨rfl, ((Below.refl _ _).alloc (Nat.le_refl _) _).alloc (by simp) _⟩
end Go.Proofs.YtnenbocjfekmfaaGreat.Dsk
/- The reference of layer 3: Waiting, Torn. -/
namespace Go.Proofs.YtnenbocjfekmfaaGreat.Dsk
open Go.RowKit Go.Maps Go.Proofs.YtnenbocjfekmfaaGreat.Mem
set_option linter.unusedVariables false
set_option linter.unusedSimpArgs false
theorem own_form {w : World} {base n size : Nat} {e : TypeId} {v : Value} {xs : List Value} (h : w.ownsRow base e size v n xs) : ∃ A c, v = .slice A n c := by
  rcases h.2 with ⟨rfl, rfl⟩ | ⟨g, cap, cur, rfl, hg, hh, hnc, hm, hs, ht⟩
  · exact ⟨none, 0, rfl⟩
  · exact ⟨_, cap, rfl⟩
def wt (s : St) (k : Nat) : List Nat := (List.range k).filter fun i => (s.fw i).isSome
theorem wt_yes {s : St} {k : Nat} (h : (s.fw k).isSome = true) : wt s (k + 1) = wt s k ++ [k] := by
  unfold wt
  rw [List.range_succ, List.filter_append]
  simp [h]
theorem wt_no {s : St} {k : Nat} (h : s.fw k = none) : wt s (k + 1) = wt s k := by
  unfold wt
  rw [List.range_succ, List.filter_append]
  simp [h]
theorem wt_le (s : St) (k : Nat) : (wt s k).length ≤ k := by
  have := List.length_filter_le (fun i => (s.fw i).isSome) (List.range k)
  rw [List.length_range] at this
  exact this
theorem ints_append (xs ys : List Nat) : ints (xs ++ ys) = ints xs ++ ints ys := by simp [ints]
theorem ints_one (xs : List Nat) : ∀ u ∈ ints xs, u.oneCell' = true := by
  intro u hu
  simp only [ints, List.mem_map] at hu
  obtain ⟨x, _, rfl⟩ := hu
  rfl
set_option maxRecDepth 20000 in
set_option maxHeartbeats 2000000 in
theorem ref_waiting (S : List Nat) (v : Value) (s : St) (w : World) (hg : Good s) (h : RefAt w S v s) :
    Calls Tryz.prog 58 #[v] w fun e w' => ∃ v', e = .returned v' ∧ w'.ownsRow w.heap.size 3 1 v' s.waiting.length (ints s.waiting) ∧ Below w.heap.size w w' := by
  obtain ⟨v1, v2, us1, us2, rfl, h1, h2, h3, h4⟩ := h
  have hn1 := hg.2.1
  have hwt : s.waiting = wt s s.n := rfl
  rw [hwt]
  clear hwt
  obtain ⟨A1, c1, e1, _⟩ := h1
  obtain ⟨A2, c2, e2, _⟩ := id h2
  have hfw : ∀ i, i < s.n → ∃ A' c' m, us2 i = .slice A' m c' ∧ ((s.fw i = none ∧ m = 0) ∨ ((s.fw i).isSome = true ∧ m = 512)) := by
    intro i hi
    obtain ⟨A', cc, e', _⟩ := (h4 i hi).len
    refine ⟨A', cc, _, e', hg.fwl i⟩
  have hat : ∀ i, i < s.n → ∃ b off, A2 = some ⟨b, off, none⟩ ∧ b < w.heap.size ∧ w.cell? ⟨b, off + i, none⟩ = some (us2 i) := by
    intro i hi
    obtain ⟨b, off, c, e, hb, _, hc⟩ := h2.at_ hi
    rw [e2] at e
    injection e with ea
    exact ⟨b, off, ea, hb, hc⟩
  subst e1 e2
  have HFW := Lib.hid hfw; clear hfw
  have HAT := Lib.hid hat; clear hat
  clear h2 h3 h4 hg
  obtain ⟨i0, hi, hz0, hz1, hz2⟩ := info_parts Tryz.info3i
  have HI := Lib.hid hi; clear hi
  have HZ0 := Lib.hid hz0; clear hz0
  have HZ1 := Lib.hid hz1; clear hz1
  have HZ2 := Lib.hid hz2; clear hz2
  unfold refV
  obtain ⟨n, hn⟩ : ∃ n, n = s.n := ⟨_, rfl⟩
  rw [← hn] at hn1 HFW HAT ⊢
  clear hn
  generalize armedOf s.left = ar
  generalize s.dead = dd
  obtain ⟨w1, hw1⟩ : ∃ w1, w1 = w.alloc (.cells #[.slice A1 n c1, .slice A2 n c2, .int .i64 ar, .bool dd] 36) := ⟨_, rfl⟩
  have hbk : Blk w1 w.heap.size 36 #[.slice A1 n c1, .slice A2 n c2, .int .i64 ar, .bool dd] := by rw [hw1]; exact Blk.new _ _ _
  have hb1 : Below w.heap.size w w1 := by rw [hw1]; exact (Below.refl _ _).alloc (Nat.le_refl _) _
  have hs1 : w1.heap.size = w.heap.size + 1 := by rw [hw1]; simp
  have hown0 : (w1.alloc (.cells #[] 3)).ownsRow (w.heap.size + 1) 3 1 (.slice (some ⟨w.heap.size + 1, 0, none⟩) 0 0) 0 [] := by
    have := World.ownsRow_lit (base := w.heap.size + 1) (size := 1) (e := 3) w1 #[] 0 (by omega) (by unfold maxLen; omega) rfl
    rw [hs1] at this
    exact this
  have hb0 : Below (w.heap.size + 1) w1 (w1.alloc (.cells #[] 3)) := (Below.refl _ _).alloc (by omega) _
  have HK := Lib.hid hbk; clear hbk
  have HB1 := Lib.hid hb1; clear hb1
  have HS1 := Lib.hid hs1; clear hs1
  have HO0 := Lib.hid hown0; clear hown0
  have HB0 := Lib.hid hb0; clear hb0
  go_enter Tryz.func58, Tryz.ntmps58
  go_wp2
  rw [← hw1]
  have HW1 := Lib.hid hw1; clear hw1
  go_loopw [3, 4] (fun v i wr => ∃ k : Nat, k ≤ n ∧ i = .int .i64 k ∧ wr.ownsRow (w.heap.size + 1) 3 1 v (wt s k).length (ints (wt s k)) ∧ Below (w.heap.size + 1) w1 wr) (fun _ i _ => n - (intOf i).toNat)
  case atStart => exact ⟨0, Nat.zero_le _, rfl, HO0.out, HB0.out⟩
  case round =>
    obtain ⟨k, hk, rfl, hown, hbel⟩ := hrel
    obtain ⟨A3, c3, rfl⟩ := own_form hown
    have kb := HK.out.below hbel (by omega)
    have k1 := kb.cell 1
    have klt := kb.lt
    simp at k1
    clear kb
    have HO := Lib.hid hown; clear hown
    have HB := Lib.hid hbel; clear hbel
    have hwl := wt_le s k
    by_cases hlt : k < n
    · obtain ⟨A', c', m, e, hm⟩ := HFW.out k hlt
      obtain ⟨b, off, rfl, hb, hc⟩ := HAT.out k hlt
      rw [e] at hc
      have hc1 : wr.cell? ⟨b, off + k, none⟩ = some (.slice A' m c') := (HB.out.cell (p := ⟨b, off + k, none⟩) (Nat.lt_succ_of_lt hb)).trans ((HB1.out.cell (p := ⟨b, off + k, none⟩) hb).trans hc)
      clear hc e
      rcases hm with ⟨hf, rfl⟩ | ⟨hf, rfl⟩
      · have hstep := wt_no hf
        have HST := Lib.hid hstep; clear hstep hf
        go_wp2
        go_roundw
        case rel => exact ⟨k + 1, by omega, by go_num, by rw [HST.out]; exact HO.out, HB.out⟩
        case measure => simp [intOf]; omega
      · have hstep := wt_yes hf
        have HST := Lib.hid hstep; clear hstep hf
        have hlit : (wr.alloc (.cells #[.int .i64 (k : Nat)] 3)).heap[wr.heap.size]? = some (.cells #[.int .i64 (k : Nat)] 3 (0, 0)) := heap_alloc_new wr _
        have HLIT := Lib.hid hlit; clear hlit
        have hrd : Reads (wr.alloc (.cells #[.int .i64 (k : Nat)] 3)) (wr.heap.size + 1) 1 (some ⟨wr.heap.size, 0, none⟩) 1 (ints [k]) := by
          refine ⟨by simp [ints], fun _ => ⟨_, rfl, by simp, fun j u hu => ?_⟩⟩
          have hj : j = 0 := by
            have := (List.getElem?_eq_some_iff.1 hu).1
            simp [ints] at this
            omega
          subst hj
          simp [ints] at hu
          subst hu
          exact cell_of_row _ _ _ _ _ _ HLIT.out
        have HRD := Lib.hid hrd; clear hrd
        have hsz := HB.out.size
        have hs1 := HS1.out
        have hwn : wr.heap.size ≥ w.heap.size + 1 := by omega
        clear hs1 hsz
        go_wp2_with (at_builtin; go_loud (refine wpList_append_any _ rfl (.tmp 20) (.tmp 22) 60 rfl (w.heap.size + 1) 3 i0 (.int .i64 0) 1 8 Tryz.underlying60 HI.out HZ0.out HZ1.out HZ2.out rfl (by decide) (.slice A3 (wt s k).length c3) (wt s k).length (ints (wt s k)) rfl (HO.out.alloc _) (wr.heap.size + 1) (some ⟨wr.heap.size, 0, none⟩) 1 1 (ints [k]) rfl HRD.out (ints_one _) (by unfold maxLen; omega) (by omega) (by simp; omega) ?_; intro v2 w2 hown2 hg2 _))
        have hb2 : Below (w.heap.size + 1) w1 w2 := (HB.out.alloc (by omega) _).grown hg2 (by simp; omega) (fun q hq => (HO.out.lt q hq).1)
        clear hg2
        go_roundw
        case rel => exact ⟨k + 1, by omega, by go_num, by rw [HST.out, ints_append, List.length_append]; exact hown2, hb2⟩
        case measure => simp [intOf]; omega
    · obtain rfl : k = n := by omega
      go_wp2
      go_ret
      exact ⟨_, rfl, own_mono HO.out (by omega), HB1.out.trans (HB.out.mono (by omega))⟩
end Go.Proofs.YtnenbocjfekmfaaGreat.Dsk
/- The reference of layer 3: Torn. -/
namespace Go.Proofs.YtnenbocjfekmfaaGreat.Dsk
open Go.RowKit Go.Maps Go.Proofs.YtnenbocjfekmfaaGreat.Mem
set_option linter.unusedVariables false
set_option linter.unusedSimpArgs false
def tornK (b xs : List Nat) (k : Nat) : List Nat := b.take k ++ xs.drop k
theorem tornK_len {b xs : List Nat} {k : Nat} (h1 : k ≤ b.length) (h2 : k ≤ xs.length) : (tornK b xs k).length = xs.length := by
  simp [tornK]
  omega
theorem tornK_set {b xs : List Nat} {k : Nat} (h1 : k < b.length) (h2 : k < xs.length) : (vals (tornK b xs k)).set k (.int .u8 (b.getD k 0 : Nat)) = vals (tornK b xs (k + 1)) := by
  unfold tornK
  rw [List.take_add_one, List.getElem?_eq_getElem h1, List.drop_eq_getElem_cons h2]
  simp only [vals_append, Option.toList_some]
  have hl : (vals (b.take k)).length = k := by rw [vals_length, List.length_take]; omega
  rw [List.set_append_right _ _ (by omega), hl, Nat.sub_self]
  simp only [vals, List.map_cons, List.set_cons_zero, List.map_append, List.map_nil, List.append_assoc, List.cons_append, List.nil_append]
  simp [List.getD, List.getElem?_eq_getElem h1]
theorem tornK_end {b xs : List Nat} {k : Nat} (hx : xs.length = 512) (h : k = min b.length 512) : tornK b xs k = torn b xs := by
  unfold tornK torn
  by_cases hb : b.length ≤ 512
  · rw [h, Nat.min_eq_left hb, List.take_of_length_le (Nat.le_refl _), List.take_of_length_le hb]
  · rw [h, Nat.min_eq_right (by omega), List.drop_eq_nil_of_le (by omega), List.drop_eq_nil_of_le (by omega)]
set_option maxRecDepth 20000 in
set_option maxHeartbeats 2000000 in
theorem ref_torn (vb vo : Value) (b xs : List Nat) (w : World) (hb : Sl w w.heap.size vb b) (ho : Sl w w.heap.size vo xs) (hx : IsSec xs) :
    Calls Tryz.prog 59 #[vb, vo] w fun e w' => ∃ v', e = .returned v' ∧ w'.ownsRow w.heap.size 5 1 v' 512 (vals (torn b xs)) ∧ Below w.heap.size w w' := by
  obtain ⟨i0, hi, hz0, hz1, hz2⟩ := info_parts Tryz.info5
  have HI := Lib.hid hi; clear hi
  have HZ0 := Lib.hid hz0; clear hz0
  have HZ1 := Lib.hid hz1; clear hz1
  have HZ2 := Lib.hid hz2; clear hz2
  have hend := fun k h => tornK_end (b := b) (xs := xs) (k := k) hx.1 h
  have HEND := Lib.hid hend; clear hend
  obtain ⟨N, hN⟩ : ∃ N, N = xs.length := ⟨_, rfl⟩
  have hN5 : N = 512 := by rw [hN]; exact hx.1
  rw [show (512 : Nat) = N from hN5.symm]
  clear hx
  obtain ⟨A1, m, cb, rfl, hb, _⟩ := hb
  obtain ⟨A2, N', co, rfl, ho, _⟩ := ho
  have hN' : N' = N := by have := ho.1; omega
  subst hN'
  have hbm := hb.1
  have hro := ho.reads
  have HRO := Lib.hid hro; clear hro
  have HB := Lib.hid hb; clear hb ho
  have hown0 : (w.alloc (.cells #[] 5)).ownsRow w.heap.size 5 1 (.slice (some ⟨w.heap.size, 0, none⟩) 0 0) 0 [] := World.ownsRow_lit w #[] 0 (Nat.le_refl _) (by unfold maxLen; omega) rfl
  have HO0 := Lib.hid hown0; clear hown0
  have hNm : N' ≤ maxLen := by unfold maxLen; omega
  have hNb : (0 + N') * 1 ≤ 140737488355328 := by omega
  have HNM := Lib.hid hNm; clear hNm
  have HNB := Lib.hid hNb; clear hNb
  have H0 : 0 < N' := by omega
  have hNle : N' ≤ 1000000 := by omega
  have HN5 := Lib.hid hN5; clear hN5
  have HNX := Lib.hid hN; clear hN
  have HBM := Lib.hid hbm; clear hbm
  go_enter Tryz.func59, Tryz.ntmps59
  go_wp2_with (at_builtin; (refine wpList_append_any _ rfl (.tmp 7) (.tmp 8) 31 rfl w.heap.size 5 i0 (.int .u8 0) 1 1 Tryz.underlying31 HI.out HZ0.out HZ1.out HZ2.out rfl (by decide) _ 0 [] rfl HO0.out w.heap.size A2 N' co (vals xs) rfl (HRO.out.alloc (Nat.le_refl _) _) (vals_one _) (by rw [Nat.zero_add]; exact HNM.out) HNB.out (by simp) ?_; intro v2 w2 hown2 hg2 _; rw [Nat.zero_add, List.nil_append] at hown2; obtain ⟨g, cap, rfl, hgl, hglt⟩ := hown2.form H0; have hb2 : Below w.heap.size w w2 := (((Below.refl _ w).alloc (Nat.le_refl _) _).grown hg2 (by simp) (fun q hq => (HO0.out.lt q hq).1)); have HO2 := Lib.hid hown2; clear hown2; have HB2 := Lib.hid hb2; clear hb2 hg2))
  go_loopw [6] (fun i wr => ∃ k : Nat, k ≤ m ∧ k ≤ N' ∧ i = .int .i64 k ∧ wr.ownsRow w.heap.size 5 1 (.slice (some ⟨g, 0, none⟩) N' cap) N' (vals (tornK b xs k)) ∧ Below w.heap.size w wr) (fun i _ => m - (intOf i).toNat)
  case atStart => exact ⟨0, Nat.zero_le _, Nat.zero_le _, rfl, HO2.out, HB2.out⟩
  case round =>
    obtain ⟨k, hk, hkN, rfl, hown, hbel⟩ := hrel
    have hglt2 := (hown.lt g rfl).2
    by_cases hlt : k < m ∧ k < N'
    · obtain ⟨h1, h2⟩ := hlt
      obtain ⟨b0, o0, rfl, hb0, hc0⟩ := (HB.out.below hbel (Nat.le_refl _)).2.2.2 (by omega)
      have g0 := hc0 k h1
      have hc := hown.cellAt k (by omega)
      have hq : (vals (tornK b xs k))[k]? = some (.int .u8 ((tornK b xs k).getD k 0 : Nat)) := vals_get _ k (by rw [tornK_len (by rw [HBM.out]; omega) (by rw [← HNX.out]; omega), ← HNX.out]; omega)
      rw [hq] at hc
      have hf := hown.frozenAt k
      have hb0w : b0 < wr.heap.size := Nat.lt_of_lt_of_le hb0 hbel.size
      obtain ⟨s1, s2⟩ := hown.stored k (.int .u8 (b.getD k 0 : Nat))
      rw [tornK_set (by rw [HBM.out]; omega) (by rw [← HNX.out]; omega)] at s1
      have S1 := Lib.hid s1; clear s1
      have S2 := Lib.hid (hbel.setCell (p := ⟨g, k, none⟩) hgl (.int .u8 (b.getD k 0 : Nat))); clear s2 hown hbel hc0 hq
      generalize b.getD k 0 = q at *
      generalize (tornK b xs k).getD k 0 = q2 at *
      go_wp2
      go_roundw
      case rel => exact ⟨k + 1, by omega, by omega, by go_num, S1.out, S2.out⟩
      case measure => simp [intOf]; omega
    · have hke : k = min m N' := by omega
      have HO := Lib.hid hown; clear hown
      have HBL := Lib.hid hbel; clear hbel
      have hfin := HEND.out k (by rw [HBM.out, ← HN5.out]; exact hke)
      rw [hfin] at HO
      clear hfin hke
      by_cases hm : k < m
      · have hn : ¬ k < N' := by omega
        clear hlt
        go_wp2
        go_ret
        exact ⟨_, rfl, HO.out, HBL.out⟩
      · clear hlt
        go_wp2
        go_ret
        exact ⟨_, rfl, HO.out, HBL.out⟩
end Go.Proofs.YtnenbocjfekmfaaGreat.Dsk
/- The reference of layer 3: New. -/
namespace Go.Proofs.YtnenbocjfekmfaaGreat.Dsk
open Go.RowKit Go.Maps Go.Proofs.YtnenbocjfekmfaaGreat.Mem
set_option linter.unusedVariables false
set_option linter.unusedSimpArgs false
abbrev nilS : Value := .slice none 0 0
theorem made_all (z : Value) (n : Nat) : madeCells #[z] n = (List.replicate n z).toArray := by
  apply Array.ext
  · simp [madeCells]
  · intro i h1 h2
    simp [madeCells, Nat.mod_one]
theorem made512 : madeCells #[.int .u8 0] 512 = (vals noughts).toArray := by
  rw [made_all]
  simp only [vals, noughts, List.map_replicate]
  rfl
theorem make512 (w : World) : (Instr.makeSlice 31 (.int .i64 512) (.int .i64 512)).run Tryz.prog w = .ok (.slice (some ⟨w.heap.size, 0, none⟩) 512 512) (w.alloc (.cells (vals noughts).toArray 5)) := by
  have := run_make_row' (P := Tryz.prog) 31 5 (.int .u8 0) 1 Tryz.underlying31 Tryz.info5 rfl .i64 .i64 512 (by omega) (by omega) w
  rw [made512] at this
  exact this
theorem make_rows (n : Nat) (hn : n ≤ 1024) (w : World) : (Instr.makeSlice 32 (.int .i64 (n : Nat)) (.int .i64 (n : Nat))).run Tryz.prog w = .ok (.slice (some ⟨w.heap.size, 0, none⟩) n n) (w.alloc (.cells (madeCells #[nilS] n) 31)) :=
  run_make_row' (P := Tryz.prog) 32 31 nilS 24 Tryz.underlying32 Tryz.info35 rfl .i64 .i64 n (by omega) (by omega) w
/-- a new row of noughts -/
def NewSec (w : World) (base : Nat) (u : Value) : Prop := ∃ b, u = .slice (some ⟨b, 0, none⟩) 512 512 ∧ base ≤ b ∧ Blk w b 5 (vals noughts).toArray
theorem NewSec.slS {w : World} {base : Nat} {u : Value} {S : List Nat} (h : NewSec w base u) (hS : ∀ x ∈ S, x < base) : SlS w S u noughts := by
  obtain ⟨b, rfl, hb, hk⟩ := h
  refine ⟨_, 512, 512, rfl, isSec_noughts.1, isSec_noughts.2, by omega, Nat.le_refl _, by unfold maxLen; omega, fun e => (by cases e), fun _ => ⟨b, 0, rfl, hk.lt, fun hm => by have := hS b hm; omega, fun i hi => ?_⟩⟩
  rw [Nat.zero_add, hk.cell]
  simpa using vals_get noughts i (by rw [isSec_noughts.1]; omega)
theorem NewSec.grown {w w' : World} {base : Nat} {u : Value} {row : Option Nat} (h : NewSec w base u) (hg : w.grownBy w' row) (hr : ∀ b cs, Blk w b 5 cs → some b ≠ row) : NewSec w' base u := by
  obtain ⟨b, e, hb, hk⟩ := h
  exact ⟨b, e, hb, hk.grown hg (hr b _ hk)⟩
theorem NewSec.far {w : World} {base g : Nat} {i : Nat} {u x : Value} (h : NewSec w base u) {t : TypeId} {cs : Array Value} (hk : Blk w g t cs) (ht : t ≠ 5) : NewSec (w.setCell ⟨g, i, none⟩ x) base u := by
  obtain ⟨b, e, hb, hk'⟩ := h
  exact ⟨b, e, hb, hk'.far (p := ⟨g, i, none⟩) (hk'.ne_ hk (fun e => ht e.symm)) x⟩
theorem madeRow {w : World} {S : List Nat} (n : Nat) (hn : n ≤ 1024) {b : Nat} (hb : Blk w b 31 (madeCells #[nilS] n)) (hS : ∀ x ∈ S, x < b) : RowS w S (.slice (some ⟨b, 0, none⟩) n n) n (fun _ => nilS) := by
  refine ⟨_, n, rfl, Nat.le_refl _, by unfold maxLen; omega, fun e => (by cases e), fun _ => ⟨b, 0, rfl, hb.lt, fun hm => by have := hS b hm; omega, fun i hi => ?_⟩⟩
  rw [Nat.zero_add, hb.cell]
  simp [made_all, hi]
set_option maxRecDepth 20000 in
set_option maxHeartbeats 4000000 in
theorem ref_new (S : List Nat) (n : Nat) (w : World) (h1 : 1 ≤ n) (h2 : n ≤ 1024) (hS : ∀ x ∈ S, x < w.heap.size) :
    Calls Tryz.prog 12 #[.int .i64 (n : Nat)] w fun e w' => ∃ v, e = .returned v ∧ RefAt w' S v (St.new n) ∧ Below w.heap.size w w' := by
  obtain ⟨i0, hi, hz0, hz1, hz2⟩ := info_parts Tryz.info35
  have HI := Lib.hid hi; clear hi
  have HZ0 := Lib.hid hz0; clear hz0
  have HZ1 := Lib.hid hz1; clear hz1
  have HZ2 := Lib.hid hz2; clear hz2
  have hmk := make512
  have hmr := make_rows n h2
  obtain ⟨w3, hw3⟩ : ∃ w3, w3 = ((w.alloc (Obj.cells #[nilS, nilS, .int .i64 0, .bool false] 36)).alloc (Obj.cells (madeCells #[nilS] n) 31)).alloc (Obj.cells #[nilS, .slice (some ⟨w.heap.size + 1, 0, none⟩) n n, .int .i64 (-1), .bool false] 36) := ⟨_, rfl⟩
  have r0 : Blk w3 w.heap.size 36 #[nilS, nilS, .int .i64 0, .bool false] := by rw [hw3]; exact ((Blk.new _ _ _).alloc _).alloc _
  have r1 : Blk w3 (w.heap.size + 1) 31 (madeCells #[nilS] n) := by
    rw [hw3]
    have := (Blk.new (w.alloc (Obj.cells #[nilS, nilS, .int .i64 0, .bool false] 36)) 31 (madeCells #[nilS] n))
    exact (by simpa using this : Blk _ (w.heap.size + 1) _ _).alloc _
  have r2 : Blk w3 (w.heap.size + 1 + 1) 36 #[nilS, .slice (some ⟨w.heap.size + 1, 0, none⟩) n n, .int .i64 (-1), .bool false] := by
    rw [hw3]
    have := Blk.new ((w.alloc (Obj.cells #[nilS, nilS, .int .i64 0, .bool false] 36)).alloc (Obj.cells (madeCells #[nilS] n) 31)) 36 #[nilS, .slice (some ⟨w.heap.size + 1, 0, none⟩) n n, .int .i64 (-1), .bool false]
    simpa using this
  have r3 : w3.heap.size = w.heap.size + 1 + 1 + 1 := by rw [hw3]; simp
  have r4 : Below w.heap.size w w3 := by rw [hw3]; exact (((Below.refl _ w).alloc (Nat.le_refl _) _).alloc (by simp) _).alloc (by simp; omega) _
  have R0 := Lib.hid r0; clear r0
  have R1 := Lib.hid r1; clear r1
  have R2 := Lib.hid r2; clear r2
  have R3 := Lib.hid r3; clear r3
  have R4 := Lib.hid r4; clear r4
  have HS := Lib.hid hS; clear hS
  go_enter Tryz.func12, Tryz.ntmps12
  go_wp2
  rw [← hw3]
  have HW3 := Lib.hid hw3; clear hw3
  go_loopw [4] (fun i wr => ∃ (k : Nat) (A : Option Addr) (c : Nat) (zs : List Value), k ≤ n ∧ i = .int .i64 k ∧ Blk wr (w.heap.size + 1 + 1) 36 #[.slice A k c, .slice (some ⟨w.heap.size + 1, 0, none⟩) n n, .int .i64 (-1), .bool false] ∧
    wr.ownsRow (w.heap.size + 1 + 1 + 1) 31 1 (.slice A k c) k zs ∧ (∀ j, j < k → NewSec wr (w.heap.size + 1 + 1 + 1) (zs.getD j nilS)) ∧ Below (w.heap.size + 1 + 1) w3 wr) (fun i _ => n - (intOf i).toNat)
  case atStart => exact ⟨0, none, 0, [], Nat.zero_le _, rfl, R2.out, World.ownsRow_nil _ _ _ _, fun j hj => absurd hj (by omega), Below.refl _ _⟩
  case round =>
    obtain ⟨k, A, c, zs, hk, rfl, hd, hown, hsec, hbel⟩ := hrel
    have d0 := hd.cell 0
    have f0 := hd.frozen 0
    have dlt := hd.lt
    have HBel := Lib.hid hbel; clear hbel
    have HOwn := Lib.hid hown; clear hown
    have HSec := Lib.hid hsec; clear hsec
    have hkb : (k + 1) * 24 ≤ 140737488355328 := by omega
    have HKB := Lib.hid hkb; clear hkb
    simp at d0
    have HD := Lib.hid hd; clear hd
    by_cases hlt : k < n
    · go_wp2
      have hsz : w.heap.size + 1 + 1 + 1 ≤ wr.heap.size := by omega
      have hrd : Reads (((wr.alloc (.cells (vals noughts).toArray 5)).alloc (.cells #[.slice (some ⟨wr.heap.size, 0, none⟩) 512 512] 31)).drew) (wr.heap.size + 1 + 1) 1 (some ⟨wr.heap.size + 1, 0, none⟩) 1 [.slice (some ⟨wr.heap.size, 0, none⟩) 512 512] := by
        refine ⟨by simp, fun _ => ⟨_, rfl, by simp, fun j u hu => ?_⟩⟩
        have hj : j = 0 := by
          have := (List.getElem?_eq_some_iff.1 hu).1
          simp at this
          omega
        subst hj
        simp at hu
        subst hu
        have hk2 := Blk.new (wr.alloc (.cells (vals noughts).toArray 5)) 31 #[.slice (some ⟨wr.heap.size, 0, none⟩) 512 512]
        have hs2 : (wr.alloc (.cells (vals noughts).toArray 5)).heap.size = wr.heap.size + 1 := by simp
        rw [hs2] at hk2
        rw [add_plain]
        exact hk2.drew.cell 0
      have HRD := Lib.hid hrd; clear hrd
      have d1 := (HD.out.alloc (.cells (vals noughts).toArray 5)).cell 0
      have d2 := ((HD.out.alloc (.cells (vals noughts).toArray 5)).alloc (.cells #[.slice (some ⟨wr.heap.size, 0, none⟩) 512 512] 31)).cell 0
      simp at d1 d2
      have hnew : NewSec ((wr.alloc (.cells (vals noughts).toArray 5)).alloc (.cells #[.slice (some ⟨wr.heap.size, 0, none⟩) 512 512] 31)).drew (w.heap.size + 1 + 1 + 1) (.slice (some ⟨wr.heap.size, 0, none⟩) 512 512) := ⟨_, rfl, hsz, ((Blk.new wr _ _).alloc _).drew⟩
      have HNEW := Lib.hid hnew; clear hnew
      have hg0 : wr.grownBy ((wr.alloc (.cells (vals noughts).toArray 5)).alloc (.cells #[.slice (some ⟨wr.heap.size, 0, none⟩) 512 512] 31)).drew none := grown_of_below ((((Below.refl _ wr).alloc (Nat.le_refl _) _).alloc (by simp) _).drew)
      have HG0 := Lib.hid hg0; clear hg0
      go_region_law (refine step_append_any _ rfl (.tmp 14) (.tmp 16) 32 rfl (w.heap.size + 1 + 1 + 1) 31 i0 nilS 1 24 Tryz.underlying32 HI.out HZ0.out HZ1.out HZ2.out rfl (by decide) (.slice A k c) k zs rfl ((HOwn.out.alloc (.cells (vals noughts).toArray 5)).alloc (.cells #[.slice (some ⟨wr.heap.size, 0, none⟩) 512 512] 31)) (wr.heap.size + 1 + 1) (some ⟨wr.heap.size + 1, 0, none⟩) 1 1 [.slice (some ⟨wr.heap.size, 0, none⟩) 512 512] rfl HRD.out (by intro u hu; simp at hu; subst hu; rfl) (by unfold maxLen; omega) HKB.out (by simp; omega) ?_; intro v2 w2 hown2 hg2 _; obtain ⟨A2, c2, rfl⟩ := own_form hown2; have kd2 := (((HD.out.alloc (.cells (vals noughts).toArray 5)).alloc (.cells #[.slice (some ⟨wr.heap.size, 0, none⟩) 512 512] 31)).drew).grown hg2 (fun e => own_blk_ne HOwn.out HD.out (by decide) e.symm); have e0 := kd2.cell 0; have e1 := kd2.frozen 0; have e2 := kd2.lt; simp at e0; have KD2 := Lib.hid kd2; clear kd2; have HO2 := Lib.hid hown2; clear hown2; have HG2 := Lib.hid hg2; clear hg2)
      all_goals
        go_wp2
        have hrow := (HOwn.out.alloc (.cells (vals noughts).toArray 5)).alloc (.cells #[.slice (some ⟨wr.heap.size, 0, none⟩) 512 512] 31)
        have hne : ∀ (b : Nat) (cs : Array Value), Blk ((wr.alloc (.cells (vals noughts).toArray 5)).alloc (.cells #[.slice (some ⟨wr.heap.size, 0, none⟩) 512 512] 31)).drew b 5 cs → some b ≠ (Value.slice A k c).ownBlock := fun b cs hb e => own_blk_ne hrow hb (by decide) e.symm
        have hb2 : Below (w.heap.size + 1 + 1) w3 w2 := ((((HBel.out.alloc (by omega) _).alloc (by simp; omega) _).drew).grown HG2.out (by simp; omega) (fun q hq => by have := (HOwn.out.lt q hq).1; omega))
        have HB2 := Lib.hid hb2; clear hb2
        go_roundw
        case rel =>
          refine ⟨k + 1, A2, c2, _, by omega, by go_num, KD2.out.set_ 0 _, ownsRow_setCell_below HO2.out (by simp) _, fun j hj => ?_, HB2.out.setCell (Nat.le_refl _) _⟩
          by_cases hjk : j < k
          · have := (((HSec.out j hjk).grown HG0.out (fun b cs _ e => by cases e)).grown HG2.out hne).far (i := 0) (x := .slice A2 (k + 1) c2) KD2.out (by decide)
            have hl := HOwn.out.1
            rw [show (zs ++ [Value.slice (some ⟨wr.heap.size, 0, none⟩) 512 512]).getD j nilS = zs.getD j nilS from by simp [List.getD, List.getElem?_append_left (show j < zs.length by omega)]]
            exact this
          · have hl := HOwn.out.1
            obtain rfl : j = k := by omega
            rw [show (zs ++ [Value.slice (some ⟨wr.heap.size, 0, none⟩) 512 512]).getD j nilS = Value.slice (some ⟨wr.heap.size, 0, none⟩) 512 512 from by simp [List.getD, List.getElem?_append_right (show zs.length ≤ j by omega), show j - zs.length = 0 by omega]]
            exact (HNEW.out.grown HG2.out hne).far (i := 0) (x := .slice A2 (j + 1) c2) KD2.out (by decide)
        case measure => simp [intOf]; omega
    · have hkn : k = n := by omega
      subst hkn
      have d1 := HD.out.cell 1
      have d2 := HD.out.cell 2
      have d3 := HD.out.cell 3
      have kr := R0.out.below HBel.out (by omega)
      have q0 := kr.cell 0
      have q1 := kr.cell 1
      have q2 := kr.cell 2
      have q3 := kr.cell 3
      have p0 := kr.frozen 0
      have p1 := kr.frozen 1
      have p2 := kr.frozen 2
      have p3 := kr.frozen 3
      have hrlt := kr.lt
      simp at d1 d2 d3 q0 q1 q2 q3
      have KR := Lib.hid kr; clear kr
      go_wp2
      have hS2 : ∀ x ∈ w.heap.size :: S, x < w.heap.size + 1 := by
        intro x hx
        rcases List.mem_cons.1 hx with rfl | hx
        · omega
        · have := HS.out x hx; omega
      have hra : RefAt wr (w.heap.size :: S) (refV (.slice A k c) (.slice (some ⟨w.heap.size + 1, 0, none⟩) k k) (St.new k)) (St.new k) := by
        refine ⟨_, _, fun j => zs.getD j nilS, fun _ => nilS, rfl, rowS_own HOwn.out (fun x hx => by have := hS2 x hx; omega), madeRow k h2 (R1.out.below HBel.out (by omega)) (fun x hx => hS2 x hx), fun i hi => (HSec.out i hi).slS (fun x hx => by have := hS2 x hx; omega), fun i hi => slS_nil _ _⟩
      have hfin : RefAt (set4 wr w.heap.size (.slice A k c) (.slice (some ⟨w.heap.size + 1, 0, none⟩) k k) (.int .i64 (-1)) (.bool false)) S (refV (.slice A k c) (.slice (some ⟨w.heap.size + 1, 0, none⟩) k k) (St.new k)) (St.new k) :=
        (hra.kept (set4_kept (KeptBut.refl _ _) (List.mem_cons_self ..))).more (fun x hx => List.mem_cons_of_mem _ hx)
      have hbf := set4_below (a := .slice A k c) (b := .slice (some ⟨w.heap.size + 1, 0, none⟩) k k) (c := .int .i64 (-1)) (d := .bool false) (R4.out.trans (HBel.out.mono (by omega))) (Nat.le_refl _)
      exact bodyPost_ret (v := .agg #[.slice A k c, .slice (some ⟨w.heap.size + 1, 0, none⟩) k k, .int .i64 (-1), .bool false]) (by simp [results, Tryz.results12, go_sem, q0, q1, q2, q3, hrlt]) rfl ⟨_, rfl, hfin, hbf⟩
end Go.Proofs.YtnenbocjfekmfaaGreat.Dsk
/- The reference of layer 3: Write. -/
namespace Go.Proofs.YtnenbocjfekmfaaGreat.Dsk
open Go.RowKit Go.Maps Go.Proofs.YtnenbocjfekmfaaGreat.Mem
set_option linter.unusedVariables false
set_option linter.unusedSimpArgs false
theorem SlS.raise {w : World} {S S' : List Nat} {u : Value} {xs : List Nat} (h : SlS w S u xs) (hs : ∀ x ∈ S', x ∈ S ∨ w.heap.size ≤ x) : SlS w S' u xs := by
  obtain ⟨A, n, c, rfl, h1, h2, h3, h4, h5, h6, h7⟩ := h
  refine ⟨A, n, c, rfl, h1, h2, h3, h4, h5, h6, fun h0 => ?_⟩
  obtain ⟨b, off, e, hb, hn, hc⟩ := h7 h0
  exact ⟨b, off, e, hb, fun hm => by rcases hs b hm with h | h; exact hn h; omega, hc⟩
theorem RowS.raise {w : World} {S S' : List Nat} {v : Value} {n : Nat} {us : Nat → Value} (h : RowS w S v n us) (hs : ∀ x ∈ S', x ∈ S ∨ w.heap.size ≤ x) : RowS w S' v n us := by
  obtain ⟨A, c, rfl, h4, h5, h6, h7⟩ := h
  refine ⟨A, c, rfl, h4, h5, h6, fun h0 => ?_⟩
  obtain ⟨b, off, e, hb, hn, hc⟩ := h7 h0
  exact ⟨b, off, e, hb, fun hm => by rcases hs b hm with h | h; exact hn h; omega, hc⟩
theorem RefAt.raise {w : World} {S S' : List Nat} {v : Value} {s : St} (h : RefAt w S v s) (hs : ∀ x ∈ S', x ∈ S ∨ w.heap.size ≤ x) : RefAt w S' v s := by
  obtain ⟨v1, v2, us1, us2, rfl, h1, h2, h3, h4⟩ := h
  exact ⟨v1, v2, us1, us2, rfl, h1.raise hs, h2.raise hs, fun i hi => (h3 i hi).raise hs, fun i hi => (h4 i hi).raise hs⟩
theorem raise_cons {S : List Nat} {B x : Nat} (h : B ≤ x) : ∀ y ∈ x :: S, y ∈ S ∨ B ≤ y := by
  intro y hy
  rcases List.mem_cons.1 hy with rfl | hy
  · exact .inr h
  · exact .inl hy
theorem cons_lt {S : List Nat} {B x C : Nat} (hS : ∀ y ∈ S, y < B) (hB : B ≤ C) (h : x < C) : ∀ y ∈ x :: S, y < C := by
  intro y hy
  rcases List.mem_cons.1 hy with rfl | hy
  · exact h
  · have := hS y hy; omega
theorem set_map_at (us : Nat → Value) (n i j : Nat) (u : Value) (hj : j < n) : (((List.range n).map us).set i u).getD j nilS = if j = i then u else us j := by
  rw [List.getD_eq_getElem?_getD, List.getElem?_set]
  by_cases e : j = i
  · subst e
    simp [hj]
  · rw [if_neg (fun h => e h.symm), if_neg e]
    simp [hj]
theorem ract_live {s : St} (h : s.dead = false) : s.ract = s.act := by simp [St.ract, h]
theorem act_n (s : St) : s.act.1.n = s.n := by unfold St.act; split <;> rfl
theorem act_fs (s : St) : s.act.1.fs = s.fs := by unfold St.act; split <;> rfl
theorem act_fw (s : St) : s.act.1.fw = s.fw := by unfold St.act; split <;> rfl
abbrev zero31 : Obj := .cells #[nilS, nilS, .int .i64 0, .bool false] 36
abbrev dcells (A1 A2 : Option Addr) (n1 n2 c1 c2 : Nat) (ar : Int) (dd : Bool) : Obj := .cells #[.slice A1 n1 c1, .slice A2 n2 c2, .int .i64 ar, .bool dd] 36
set_option maxRecDepth 20000 in
set_option maxHeartbeats 2000000 in
theorem rwrite_dead (A1 A2 : Option Addr) (n1 n2 c1 c2 : Nat) (s : St) (i : Int) (vb : Value) (w : World) (hd : s.dead = true) :
    Calls Tryz.prog 78 #[refV (.slice A1 n1 c1) (.slice A2 n2 c2) s, .int .i64 i, vb] w fun e w' => e = .returned (.tuple #[refV (.slice A1 n1 c1) (.slice A2 n2 c2) s, .int .i64 7]) ∧ Below w.heap.size w w' := by
  unfold refV
  rw [hd]
  generalize armedOf s.left = ar
  clear hd
  go_enter Tryz.func78, Tryz.ntmps78
  go_wp2
  exact bodyPost_ret (v := .tuple #[.agg #[.slice A1 n1 c1, .slice A2 n2 c2, .int .i64 ar, .bool true], .int .i64 7]) (by simp [results, Tryz.results78, go_sem]) rfl ⟨rfl, ((Below.refl _ _).alloc (Nat.le_refl _) _).alloc (by simp) _⟩
set_option maxRecDepth 20000 in
set_option maxHeartbeats 2000000 in
theorem rwrite_arg (A1 A2 A3 : Option Addr) (n n2 n3 c1 c2 c3 : Nat) (s : St) (i : Int) (w : World) (hd : s.dead = false) (hi : ¬ (0 ≤ i ∧ i < n ∧ n3 = 512)) :
    Calls Tryz.prog 78 #[refV (.slice A1 n c1) (.slice A2 n2 c2) s, .int .i64 i, .slice A3 n3 c3] w fun e w' => e = .returned (.tuple #[refV (.slice A1 n c1) (.slice A2 n2 c2) s, .int .i64 1]) ∧ Below w.heap.size w w' := by
  unfold refV
  rw [hd]
  generalize armedOf s.left = ar
  clear hd
  by_cases h0 : i < 0
  · have hd1 : decide (i < 0) = true := by simpa using h0
    go_enter Tryz.func78, Tryz.ntmps78
    go_wp2
    exact bodyPost_ret (v := .tuple #[.agg #[.slice A1 n c1, .slice A2 n2 c2, .int .i64 ar, .bool false], .int .i64 1]) (by simp [results, Tryz.results78, go_sem]) rfl ⟨rfl, ((Below.refl _ _).alloc (Nat.le_refl _) _).alloc (by simp) _⟩
  · have hd1 : decide (i < 0) = false := by simpa using h0
    by_cases h1 : i < n
    · have hd2 : decide ((n : Int) ≤ i) = false := by simpa using h1
      have hd3 : ((n3 : Int) != 512) = true := by rw [bne_iff_ne]; omega
      go_enter Tryz.func78, Tryz.ntmps78
      go_wp2
      exact bodyPost_ret (v := .tuple #[.agg #[.slice A1 n c1, .slice A2 n2 c2, .int .i64 ar, .bool false], .int .i64 1]) (by simp [results, Tryz.results78, go_sem]) rfl ⟨rfl, ((Below.refl _ _).alloc (Nat.le_refl _) _).alloc (by simp) _⟩
    · have hd2 : decide ((n : Int) ≤ i) = true := by simpa using h1
      go_enter Tryz.func78, Tryz.ntmps78
      go_wp2
      exact bodyPost_ret (v := .tuple #[.agg #[.slice A1 n c1, .slice A2 n2 c2, .int .i64 ar, .bool false], .int .i64 1]) (by simp [results, Tryz.results78, go_sem]) rfl ⟨rfl, ((Below.refl _ _).alloc (Nat.le_refl _) _).alloc (by simp) _⟩
set_option maxRecDepth 20000 in
set_option maxHeartbeats 2000000 in
theorem rwrite_dies (A1 A2 A3 : Option Addr) (n n2 n3 c1 c2 c3 : Nat) (s : St) (i : Int) (w : World) (hg : Good s) (hd : s.dead = false) (h0 : 0 ≤ i) (h1 : i < n) (h3 : n3 = 512) (ha : s.act.2 = false) :
    Calls Tryz.prog 78 #[refV (.slice A1 n c1) (.slice A2 n2 c2) s, .int .i64 i, .slice A3 n3 c3] w fun e w' => e = .returned (.tuple #[refV (.slice A1 n c1) (.slice A2 n2 c2) s.act.1, .int .i64 7]) ∧ Below w.heap.size w w' := by
  have c := fun W => ref_act A1 A2 n n2 c1 c2 s W hg
  rw [ract_live hd, ha] at c
  unfold refV at c ⊢
  rw [hd] at c ⊢
  have C := Lib.hid c; clear c
  have hd1 : decide (i < 0) = false := by simpa using h0
  have hd2 : decide ((n : Int) ≤ i) = false := by simpa using h1
  have hd3 : ((n3 : Int) != 512) = false := by simp; omega
  clear h0 h1 h3 ha hd hg
  generalize armedOf s.left = ar at *
  generalize armedOf s.act.1.left = ar2 at *
  generalize s.act.1.dead = dd2 at *
  have k1 : Blk ((w.alloc (dcells A1 A2 n n2 c1 c2 ar false)).alloc zero31) (w.heap.size + 1) 36 #[nilS, nilS, .int .i64 0, .bool false] := by
    have := Blk.new (w.alloc (dcells A1 A2 n n2 c1 c2 ar false)) 36 #[nilS, nilS, .int .i64 0, .bool false]
    simpa using this
  have K1 := Lib.hid k1; clear k1
  have hb1 : Below w.heap.size w ((w.alloc (dcells A1 A2 n n2 c1 c2 ar false)).alloc zero31) := ((Below.refl _ _).alloc (Nat.le_refl _) _).alloc (by simp) _
  have HB1 := Lib.hid hb1; clear hb1
  go_enter Tryz.func78, Tryz.ntmps78
  go_wp2_with (go_at_call 108; refine (C.out _).mono ?_; rintro e w2 ⟨rfl, hb⟩; have kb := K1.out.below hb K1.out.lt; have q0 := kb.cell 0; have q1 := kb.cell 1; have q2 := kb.cell 2; have q3 := kb.cell 3; have p0 := kb.frozen 0; have p1 := kb.frozen 1; have p2 := kb.frozen 2; have p3 := kb.frozen 3; have klt := kb.lt; simp at q0 q1 q2 q3; clear kb; have HB := Lib.hid (HB1.out.trans (hb.mono HB1.out.size)); clear hb)
  have hs := HB.out.size
  exact bodyPost_ret (v := .tuple #[.agg #[.slice A1 n c1, .slice A2 n2 c2, .int .i64 ar2, .bool dd2], .int .i64 7]) (by simp [results, Tryz.results78, go_sem, q0, q1, q2, q3, klt]) rfl ⟨rfl, (set4_below HB.out (by omega)).alloc (by simp; omega) _⟩
set_option maxRecDepth 20000 in
set_option maxHeartbeats 4000000 in
theorem rwrite_ok (S : List Nat) (A1 A2 A3 : Option Addr) (n c1 c2 c3 N : Nat) (s : St) (i : Nat) (xs : List Nat) (us1 us2 : Nat → Value) (w : World) (hg : Good s) (hd : s.dead = false) (hn : n = s.n) (h1 : i < n) (h3 : N = 512) (ha : s.act.2 = true)
    (hr1 : RowS w S (.slice A1 n c1) n us1) (hr2 : RowS w S (.slice A2 n c2) n us2) (he1 : ∀ j, j < n → SlS w S (us1 j) ((s.fs j).getD noughts)) (he2 : ∀ j, j < n → SlS w S (us2 j) ((s.fw j).getD [])) (hb : Bts w w.heap.size A3 N xs) (hS : ∀ x ∈ S, x < w.heap.size) :
    Calls Tryz.prog 78 #[refV (.slice A1 n c1) (.slice A2 n c2) s, .int .i64 (i : Nat), .slice A3 N c3] w fun e w' => ∃ v', e = .returned (.tuple #[v', .int .i64 0]) ∧ RefAt w' S v' { s.act.1 with fw := upd1 s.act.1.fw i xs } ∧ Below w.heap.size w w' := by
  have c := fun W => ref_act A1 A2 n n c1 c2 s W hg
  rw [ract_live hd, ha] at c
  have hn1 : n ≤ 1024 := by have := hg.2.1; omega
  unfold refV at c ⊢
  rw [hd] at c ⊢
  have C := Lib.hid c; clear c
  have hd1 : decide ((i : Int) < 0) = false := by simp
  have hd2 : decide ((n : Int) ≤ i) = false := by simpa using h1
  have hd3 : ((N : Int) != 512) = false := by simp; omega
  obtain ⟨A2', c2', e, hreads⟩ := hr2.reads
  injection e with e1 e2 e3
  subst e1 e3
  have HRD := Lib.hid hreads; clear hreads
  have HR1 := Lib.hid hr1; clear hr1
  have HR2 := Lib.hid hr2; clear hr2
  have HE1 := Lib.hid he1; clear he1
  have HE2 := Lib.hid he2; clear he2
  have HBR := Lib.hid hb.reads
  have HBT := Lib.hid hb; clear hb
  have HS := Lib.hid hS; clear hS
  have HN := Lib.hid hn; clear hn
  have h3' : N ≤ 512 := by omega
  have H3 := Lib.hid h3; clear h3
  clear ha hg e2
  have HD := Lib.hid hd; clear hd
  generalize har : armedOf s.left = ar at *
  generalize har2 : armedOf s.act.1.left = ar2 at *
  generalize hdd2 : s.act.1.dead = dd2 at *
  have HAR2 := Lib.hid har2; clear har2 har
  have HDD2 := Lib.hid hdd2; clear hdd2
  obtain ⟨i0, hi, hz0, hz1, hz2⟩ := info_parts Tryz.info35
  have HI := Lib.hid hi; clear hi
  have HZ0 := Lib.hid hz0; clear hz0
  have HZ1 := Lib.hid hz1; clear hz1
  have HZ2 := Lib.hid hz2; clear hz2
  obtain ⟨i1, hi, hz0, hz1, hz2⟩ := info_parts Tryz.info5
  have HJ := Lib.hid hi; clear hi
  have HY0 := Lib.hid hz0; clear hz0
  have HY1 := Lib.hid hz1; clear hz1
  have HY2 := Lib.hid hz2; clear hz2
  have k1 : Blk ((w.alloc (dcells A1 A2 n n c1 c2 ar false)).alloc zero31) (w.heap.size + 1) 36 #[nilS, nilS, .int .i64 0, .bool false] := by
    have := Blk.new (w.alloc (dcells A1 A2 n n c1 c2 ar false)) 36 #[nilS, nilS, .int .i64 0, .bool false]
    simpa using this
  have K1 := Lib.hid k1; clear k1
  have hb1 : Below w.heap.size w ((w.alloc (dcells A1 A2 n n c1 c2 ar false)).alloc zero31) := ((Below.refl _ _).alloc (Nat.le_refl _) _).alloc (by simp) _
  have HB1 := Lib.hid hb1; clear hb1
  have hlits : ∀ W : World, (W.alloc (Obj.cells #[] 31)).ownsRow W.heap.size 31 1 (.slice (some ⟨W.heap.size, 0, none⟩) 0 0) 0 [] := fun W => World.ownsRow_lit W #[] 0 (Nat.le_refl _) (by unfold maxLen; omega) rfl
  have HLIT := Lib.hid hlits; clear hlits
  have hones : ∀ u ∈ (List.range n).map us2, u.oneCell' = true := by
    intro u hu
    obtain ⟨j, hj, rfl⟩ := List.mem_map.1 hu
    obtain ⟨A', c', e', _⟩ := (HE2.out j (by simpa using hj)).len
    rw [e']
    rfl
  have HONE := Lib.hid hones; clear hones
  have hnpos : 0 < n := by omega
  go_enter Tryz.func78, Tryz.ntmps78
  go_wp2_with (first
    | (go_at_call 108; refine (C.out _).mono ?_; rintro e w2 ⟨rfl, hb⟩; have kb := K1.out.below hb K1.out.lt; have HB := Lib.hid (HB1.out.trans (hb.mono HB1.out.size)); clear hb; have hs2 : w.heap.size + 1 < w2.heap.size := kb.lt; have K2 := Lib.hid kb; clear kb)
    | (at_builtin; go_loud (refine wpList_append_any _ rfl (.tmp 36) (.tmp 38) 32 rfl (w2.heap.size + 1) 31 i0 nilS 1 24 Tryz.underlying32 HI.out HZ0.out HZ1.out HZ2.out rfl (by decide) (.slice (some ⟨w2.heap.size + 1, 0, none⟩) 0 0) 0 [] rfl (by have := HLIT.out (w2.alloc (dcells A1 A2 n n c1 c2 ar2 dd2)); simpa using this) w.heap.size A2 n c2 ((List.range n).map us2) rfl (((HRD.out.below HB.out).alloc HB.out.size _).alloc (by simp; omega) _) HONE.out (by unfold maxLen; omega) (by omega) (by simp) ?_; intro v2 w4 hown4 hg4 _; rw [Nat.zero_add, List.nil_append] at hown4; obtain ⟨gr, cap, rfl, hgr, hgrlt⟩ := hown4.form hnpos; have kd4 := ((Blk.new w2 36 #[.slice A1 n c1, .slice A2 n c2, .int .i64 ar2, .bool dd2]).alloc (Obj.cells #[] 31)).grown hg4 (by simp [Value.ownBlock]); have e1 := kd4.cell 1; have p1 := kd4.frozen 1; have klt := kd4.lt; simp at e1; have HO4 := Lib.hid hown4; clear hown4; have HB4 := Lib.hid (((HB.out.alloc HB.out.size _).alloc (by simp; omega) _).grown hg4 (by simp; omega) (fun q hq => by simp [Value.ownBlock] at hq; omega)); have hk4 := (((K2.out.alloc (dcells A1 A2 n n c1 c2 ar2 dd2)).alloc (Obj.cells #[] 31)).grown hg4 (by simp [Value.ownBlock]; omega)); have K4 := Lib.hid hk4; clear hk4; have KD4 := Lib.hid kd4; clear kd4 hg4)))
  have KD5 := Lib.hid (KD4.out.set_ 1 (.slice (some ⟨gr, 0, none⟩) n cap))
  have K5 := Lib.hid (K4.out.far (p := ⟨w2.heap.size, 1, none⟩) (by simp; omega) (.slice (some ⟨gr, 0, none⟩) n cap))
  have HO5 := Lib.hid (ownsRow_setCell_below HO4.out (a := ⟨w2.heap.size, 1, none⟩) (by simp) (.slice (some ⟨gr, 0, none⟩) n cap))
  have HB5 := Lib.hid (HB4.out.setCell (p := ⟨w2.heap.size, 1, none⟩) (by simp; omega) (.slice (some ⟨gr, 0, none⟩) n cap))
  have hgr5 : gr < (w4.setCell ⟨w2.heap.size, 1, none⟩ (.slice (some ⟨gr, 0, none⟩) n cap)).heap.size := by simpa using hgrlt
  clear KD4 K4 HO4 HB4 e1 p1 klt hgrlt
  generalize w4.setCell ⟨w2.heap.size, 1, none⟩ (.slice (some ⟨gr, 0, none⟩) n cap) = w5 at *
  have e1 := KD5.out.cell 1
  have e2 := (KD5.out.alloc (.cells #[] 5)).cell 1
  have klt := KD5.out.lt
  simp at e1 e2
  have hown5 : (w5.alloc (.cells #[] 5)).drew.ownsRow w5.heap.size 5 1 (.slice (some ⟨w5.heap.size, 0, none⟩) 0 0) 0 [] := (World.ownsRow_lit w5 #[] 0 (Nat.le_refl _) (by unfold maxLen; omega) rfl).drew
  have HL5 := Lib.hid hown5; clear hown5
  have hg5 : w5.grownBy (w5.alloc (.cells #[] 5)).drew none := grown_of_below (((Below.refl _ w5).alloc (Nat.le_refl _) _).drew)
  have HG5 := Lib.hid hg5; clear hg5
  have hw5 := HB5.out.size
  have hus : ((List.range n).map us2)[i]? = some (us2 i) := by simp [h1]
  have HUS := Lib.hid hus; clear hus
  have hN63 : 0 + N ≤ maxLen := by unfold maxLen; omega
  have HN63 := Lib.hid hN63; clear hN63
  have hNb : (0 + N) * 1 ≤ 140737488355328 := by omega
  have HNB := Lib.hid hNb; clear hNb
  go_region_law (refine step_append_any _ rfl (.tmp 44) (.tmp 45) 31 rfl w5.heap.size 5 i1 (.int .u8 0) 1 1 Tryz.underlying31 HJ.out HY0.out HY1.out HY2.out rfl (by decide) (.slice (some ⟨w5.heap.size, 0, none⟩) 0 0) 0 [] rfl HL5.out w.heap.size A3 N c3 (vals xs) rfl (((HBR.out.below HB5.out).alloc hw5 _).drew) (vals_one _) HN63.out HNB.out (by simp) ?_; intro v6 w6 hown6 hg6 _; rw [Nat.zero_add, List.nil_append] at hown6; obtain ⟨A6, c6, rfl⟩ := own_form hown6; have hr6 := (HO5.out.kept HG5.out (by simp [Value.ownBlock])).kept hg6 (by simp [Value.ownBlock]; omega); have x1 := hr6.cellAt i (by omega); rw [HUS.out] at x1; have x2 := hr6.frozenAt i; have x3 := (hr6.lt gr rfl).2; have kd6 := ((KD5.out.alloc (.cells #[] 5)).drew).grown hg6 (by simp [Value.ownBlock]; omega); have x4 := kd6.cell 1; have x5 := kd6.lt; simp at x4; have KD6 := Lib.hid kd6; clear kd6; have HR6 := Lib.hid hr6; clear hr6; have HO6 := Lib.hid hown6; clear hown6; have HG6 := Lib.hid hg6; clear hg6)
  all_goals
    have kd7 := KD6.out.far (p := ⟨gr, i, none⟩) (by simp; omega) (.slice A6 N c6)
    have k7 := ((((K5.out.alloc (.cells #[] 5)).drew).grown HG6.out (by simp [Value.ownBlock]; omega)).far (p := ⟨gr, i, none⟩) (by simp; omega) (.slice A6 N c6))
    have hr7 := (HR6.out.stored i (.slice A6 N c6)).1
    have ho7 := ownsRow_setCell_below HO6.out (a := ⟨gr, i, none⟩) (by simp; omega) (.slice A6 N c6)
    have hb7 := ((((HB5.out.alloc hw5 (.cells #[] 5)).drew).grown HG6.out (by simp; omega) (fun q hq => by have := (HL5.out.lt q hq).1; omega)).setCell (p := ⟨gr, i, none⟩) (by simp; omega) (.slice A6 N c6))
    generalize w6.setCell ⟨gr, i, none⟩ (.slice A6 N c6) = w7 at *
    clear x1 x2 x3 x4 x5 KD6 HR6 HO6 HG6
    have d0 := kd7.cell 0
    have d1 := kd7.cell 1
    have d2 := kd7.cell 2
    have d3 := kd7.cell 3
    have q0 := k7.cell 0
    have q1 := k7.cell 1
    have q2 := k7.cell 2
    have q3 := k7.cell 3
    have p0 := k7.frozen 0
    have p1 := k7.frozen 1
    have p2 := k7.frozen 2
    have p3 := k7.frozen 3
    have hl7 := kd7.lt
    have hl8 := k7.lt
    simp at d0 d1 d2 d3 q0 q1 q2 q3
    have HR7 := Lib.hid hr7; clear hr7
    have HO7 := Lib.hid ho7; clear ho7
    have HB7 := Lib.hid hb7; clear hb7 kd7 k7
    have hra : RefAt w7 ((w.heap.size + 1) :: S) (.agg #[.slice A1 n c1, .slice (some ⟨gr, 0, none⟩) n cap, .int .i64 ar2, .bool dd2]) { s.act.1 with fw := upd1 s.act.1.fw i xs } := by
      have hK : KeptBut w w7 ((w.heap.size + 1) :: S) := kept_of_below HB7.out (Nat.le_refl _)
      have hn' : s.act.1.n = n := (act_n s).trans HN.out.symm
      have hraise := raise_cons (S := S) (B := w.heap.size) (x := w.heap.size + 1) (by omega)
      refine ⟨.slice A1 n c1, .slice (some ⟨gr, 0, none⟩) n cap, us1, fun j => if j = i then .slice A6 N c6 else us2 j, ?_, ?_, ?_, ?_, ?_⟩
      · show _ = Value.agg #[_, _, .int .i64 (armedOf s.act.1.left), .bool s.act.1.dead]
        rw [HAR2.out, HDD2.out]
      · show RowS w7 _ _ s.act.1.n us1
        rw [hn']
        exact (HR1.out.raise hraise).kept hK
      · show RowS w7 _ _ s.act.1.n _
        rw [hn']
        refine (rowS_own HR7.out (cons_lt HS.out (by omega) (by omega))).ext fun j hj => ?_
        exact set_map_at us2 n i j _ hj
      · intro j hj
        have hj' : j < n := by rw [← hn']; exact hj
        show SlS w7 _ (us1 j) ((s.act.1.fs j).getD noughts)
        rw [act_fs]
        exact ((HE1.out j hj').raise hraise).kept hK
      · intro j hj
        have hj' : j < n := by rw [← hn']; exact hj
        show SlS w7 _ (if j = i then .slice A6 N c6 else us2 j) ((upd1 s.act.1.fw i xs j).getD [])
        unfold upd1
        by_cases e : j = i
        · subst e
          rw [if_pos rfl, if_pos rfl]
          exact slS_own HO7.out HBT.out.2.1 HBT.out.2.2.1 (cons_lt HS.out (by omega) (by omega))
        · rw [if_neg e, if_neg e, act_fw]
          exact ((HE2.out j hj').raise hraise).kept hK
    have HRA := Lib.hid hra; clear hra
    go_wp2
    exact bodyPost_ret (v := .tuple #[.agg #[.slice A1 n c1, .slice (some ⟨gr, 0, none⟩) n cap, .int .i64 ar2, .bool dd2], .int .i64 0]) (by simp [results, Tryz.results78, go_sem, q0, q1, q2, q3, hl8]) rfl ⟨_, rfl, (HRA.out.kept (set4_kept (KeptBut.refl _ _) (List.mem_cons_self ..))).more (fun x hx => List.mem_cons_of_mem _ hx), set4_below HB7.out (by omega)⟩
end Go.Proofs.YtnenbocjfekmfaaGreat.Dsk
/- The reference of layer 3: Flush. -/
namespace Go.Proofs.YtnenbocjfekmfaaGreat.Dsk
open Go.RowKit Go.Maps Go.Shelf Go.Proofs.YtnenbocjfekmfaaGreat.Mem
set_option linter.unusedVariables false
set_option linter.unusedSimpArgs false
theorem step_calls {P : Program} {ops : Array Oper} {o : Oper} {a : Act} {w : World} {K : Act → World → Prop} {Q : Exit → Act → World → Prop} {E : Prop} (hgd : o.guard = none) (f : FuncId) (args : Array Operand) (tys : Array TypeId)
    (ho : o.op = .call { callee := .value (.func f), args := args, argTypes := tys }) (vs : Array Value) (hv : args.map a.eval = vs) (hen : ∀ (args : Array Value) (w : World), (callFunc f args).run P w = .ok (.enter f args) w)
    {R : Ending → World → Prop} (hc : Calls P f vs w R) (h : ∀ e w', R e w' → ∃ v, e = .returned v ∧ K (a.put o.dst v) w') : if Region.wanted o (yielded ops a.tmps) = true then Oper.wp P o a w K Q else E := by
  have hw : Region.wanted o (yielded ops a.tmps) = true := by simp [Region.wanted, hgd]
  rw [if_pos hw]
  have hrun : (execOp a.eval o).run P w = .ok (.enter f vs) w := by
    unfold execOp
    simp [ho, resolve, invoke, Act.eval, Deferred.ofValue, Result.andThen]
    have hv' : Array.map (fun x => a.eval x) args = vs := hv
    rw [hv']
    exact hen vs w
  unfold Oper.wp
  rw [hrun]
  show Calls P f vs w _
  refine hc.mono fun e w' hr => ?_
  obtain ⟨v, rfl, hk⟩ := h e w' hr
  exact hk
theorem KeptBut.grownAbove {w w1 w2 : World} {S : List Nat} {row : Option Nat} (h : KeptBut w w1 S) (hg : w1.grownBy w2 row) (hr : ∀ g, row = some g → w.heap.size ≤ g) : KeptBut w w2 S :=
  ⟨hg.os.trans h.os, hg.tape.trans h.tape, hg.output.trans h.output, Nat.le_trans h.size hg.size, fun g hg' hn => (hg.block g (Nat.lt_of_lt_of_le hg' h.size) (fun e => by have := hr g e.symm; omega)).trans (h.block g hg' hn)⟩
theorem lit_reads (W : World) (u : Value) (t : TypeId) : Reads (W.alloc (.cells #[u] t)) (W.heap.size + 1) 1 (some ⟨W.heap.size, 0, none⟩) 1 [u] := by
  refine ⟨by simp, fun _ => ⟨_, rfl, by simp, fun j v hv => ?_⟩⟩
  have hj : j = 0 := by
    have := (List.getElem?_eq_some_iff.1 hv).1
    simp at this
    omega
  subst hj
  simp at hv
  subst hv
  rw [add_plain]
  exact (Blk.new W t #[u]).cell 0
def getU (s : St) (us1 us2 : Nat → Value) (i : Nat) : Value := if (s.fw i).isSome = true then us2 i else us1 i
set_option maxHeartbeats 1000000 in
theorem ref_getU (S : List Nat) (A1 A2 : Option Addr) (n c1 c2 : Nat) (s : St) (us1 us2 : Nat → Value) (i : Nat) (w : World) (hg : Good s) (h1 : RowS w S (.slice A1 n c1) n us1) (h2 : RowS w S (.slice A2 n c2) n us2) (h4 : ∃ A c, us2 i = .slice A ((s.fw i).getD []).length c) (hi : i < n) :
    Calls Tryz.prog 40 #[refV (.slice A1 n c1) (.slice A2 n c2) s, .int .i64 (i : Nat)] w fun e w' => e = .returned (getU s us1 us2 i) ∧ Below w.heap.size w w' := by
  have hw := hg.fwl i
  unfold getU
  obtain ⟨b1, o1, c1', e1, hb1, _, g1⟩ := h1.at_ hi
  obtain ⟨b2, o2, c2', e2, hb2, _, g2⟩ := h2.at_ hi
  injection e1 with e1 _ _
  injection e2 with e2 _ _
  subst e1 e2
  obtain ⟨A', cc, e'⟩ := h4
  rw [e'] at g2
  have HE := Lib.hid e'; clear e'
  clear h1 h2
  generalize hm : ((s.fw i).getD []).length = m at *
  unfold refV
  generalize armedOf s.left = ar at *
  generalize s.dead = dd at *
  rcases hw with ⟨hf, rfl⟩ | ⟨hf, rfl⟩
  · rw [hf]
    clear hm
    go_enter Tryz.func40, Tryz.ntmps40
    go_wp2
    go_ret
    exact ⟨rfl, (Below.refl _ w).alloc (Nat.le_refl _) _⟩
  · rw [if_pos hf]
    clear hm hf
    rw [HE.out]
    go_enter Tryz.func40, Tryz.ntmps40
    go_wp2
    go_ret
    exact ⟨rfl, (Below.refl _ w).alloc (Nat.le_refl _) _⟩
set_option maxRecDepth 20000 in
set_option maxHeartbeats 2000000 in
theorem rflush_no (A1 A2 : Option Addr) (n n2 c1 c2 : Nat) (s : St) (w : World) (hg : Good s) (ha : s.ract.2 = false) :
    Calls Tryz.prog 79 #[refV (.slice A1 n c1) (.slice A2 n2 c2) s] w fun e w' => e = .returned (.tuple #[refV (.slice A1 n c1) (.slice A2 n2 c2) s.ract.1, .int .i64 7]) ∧ Below w.heap.size w w' := by
  have c := fun W => ref_act A1 A2 n n2 c1 c2 s W hg
  rw [ha] at c
  unfold refV at c ⊢
  have C := Lib.hid c; clear c
  clear ha hg
  generalize armedOf s.left = ar at *
  generalize s.dead = dd at *
  generalize armedOf s.ract.1.left = ar2 at *
  generalize s.ract.1.dead = dd2 at *
  have k1 : Blk ((w.alloc (dcells A1 A2 n n2 c1 c2 ar dd)).alloc zero31) (w.heap.size + 1) 36 #[nilS, nilS, .int .i64 0, .bool false] := by
    have := Blk.new (w.alloc (dcells A1 A2 n n2 c1 c2 ar dd)) 36 #[nilS, nilS, .int .i64 0, .bool false]
    simpa using this
  have K1 := Lib.hid k1; clear k1
  have hb1 : Below w.heap.size w ((w.alloc (dcells A1 A2 n n2 c1 c2 ar dd)).alloc zero31) := ((Below.refl _ _).alloc (Nat.le_refl _) _).alloc (by simp) _
  have HB1 := Lib.hid hb1; clear hb1
  go_enter Tryz.func79, Tryz.ntmps79
  go_wp2_with (go_at_call 108; refine (C.out _).mono ?_; rintro e w2 ⟨rfl, hb⟩; have kb := K1.out.below hb K1.out.lt; have q0 := kb.cell 0; have q1 := kb.cell 1; have q2 := kb.cell 2; have q3 := kb.cell 3; have p0 := kb.frozen 0; have p1 := kb.frozen 1; have p2 := kb.frozen 2; have p3 := kb.frozen 3; have klt := kb.lt; simp at q0 q1 q2 q3; clear kb; have HB := Lib.hid (HB1.out.trans (hb.mono HB1.out.size)); clear hb)
  have hs := HB.out.size
  exact bodyPost_ret (v := .tuple #[.agg #[.slice A1 n c1, .slice A2 n2 c2, .int .i64 ar2, .bool dd2], .int .i64 7]) (by simp [results, Tryz.results79, go_sem, q0, q1, q2, q3, klt]) rfl ⟨rfl, (set4_below HB.out (by omega)).alloc (by simp; omega) _⟩
set_option maxRecDepth 20000 in
set_option maxHeartbeats 4000000 in
theorem rflush_ok (S : List Nat) (A1 A2 : Option Addr) (n c1 c2 : Nat) (s : St) (us1 us2 : Nat → Value) (w : World) (hg : Good s) (hd : s.dead = false) (hn : n = s.n) (ha : s.act.2 = true)
    (hr1 : RowS w S (.slice A1 n c1) n us1) (hr2 : RowS w S (.slice A2 n c2) n us2) (he1 : ∀ j, j < n → SlS w S (us1 j) ((s.fs j).getD noughts)) (he2 : ∀ j, j < n → SlS w S (us2 j) ((s.fw j).getD [])) (hS : ∀ x ∈ S, x < w.heap.size) :
    Calls Tryz.prog 79 #[refV (.slice A1 n c1) (.slice A2 n c2) s] w fun e w' => ∃ v', e = .returned (.tuple #[v', .int .i64 0]) ∧ RefAt w' S v' { s.act.1 with fs := fun i => (s.fw i).or (s.fs i), fw := fun _ => none } ∧ Below w.heap.size w w' := by
  have c := fun W => ref_act A1 A2 n n c1 c2 s W hg
  rw [ract_live hd, ha] at c
  have hn1 : n ≤ 1024 := by have := hg.2.1; omega
  have hgt : ∀ (W : World) (hW : Below w.heap.size w W) (i : Nat) (hi : i < n), Calls Tryz.prog 40 #[refV (.slice A1 n c1) (.slice A2 n c2) s, .int .i64 (i : Nat)] W fun e w' => e = .returned (getU s us1 us2 i) ∧ Below W.heap.size W w' := fun W hW i hi =>
    ref_getU S A1 A2 n c1 c2 s us1 us2 i W hg (hr1.kept (kept_of_below hW (Nat.le_refl _))) (hr2.kept (kept_of_below hW (Nat.le_refl _))) (by obtain ⟨A, c, e, _⟩ := (he2 i hi).len; exact ⟨A, c, e⟩) hi
  unfold refV at c hgt ⊢
  rw [hd] at c hgt ⊢
  have hdd : s.act.1.dead = false := by
    unfold St.act at ha ⊢
    split at ha
    · cases ha
    · rw [if_neg (by assumption)]; exact hd
  rw [hdd] at c
  have HDD := Lib.hid hdd; clear hdd
  have C := Lib.hid c; clear c
  have GT := Lib.hid hgt; clear hgt
  have HR1 := Lib.hid hr1; clear hr1
  have HR2 := Lib.hid hr2; clear hr2
  have huf : ∀ i, i < n → ∃ A m c, getU s us1 us2 i = .slice A m c := by
    intro i hi
    unfold getU
    split
    · obtain ⟨A, c, e, _⟩ := (he2 i hi).len
      exact ⟨A, _, c, e⟩
    · obtain ⟨A, c, e, _⟩ := (he1 i hi).len
      exact ⟨A, _, c, e⟩
  have HUF := Lib.hid huf; clear huf
  have HEN := Lib.hid (enters_of Tryz.func40 (by kernel_rfl) rfl)
  have HE1 := Lib.hid he1; clear he1
  have HE2 := Lib.hid he2; clear he2
  have HS := Lib.hid hS; clear hS
  have HN := Lib.hid hn; clear hn
  have HG := Lib.hid hg; clear hg
  clear ha
  generalize har : armedOf s.left = ar at *
  generalize har2 : armedOf s.act.1.left = ar2 at *
  have HAR2 := Lib.hid har2; clear har2 har hd
  obtain ⟨i0, hi, hz0, hz1, hz2⟩ := info_parts Tryz.info35
  have HI := Lib.hid hi; clear hi
  have HZ0 := Lib.hid hz0; clear hz0
  have HZ1 := Lib.hid hz1; clear hz1
  have HZ2 := Lib.hid hz2; clear hz2
  have hmr := make_rows n hn1
  have k1 : Blk ((w.alloc (dcells A1 A2 n n c1 c2 ar false)).alloc zero31) (w.heap.size + 1) 36 #[nilS, nilS, .int .i64 0, .bool false] := by
    have := Blk.new (w.alloc (dcells A1 A2 n n c1 c2 ar false)) 36 #[nilS, nilS, .int .i64 0, .bool false]
    simpa using this
  have K1 := Lib.hid k1; clear k1
  have k0 : Blk ((w.alloc (dcells A1 A2 n n c1 c2 ar false)).alloc zero31) w.heap.size 36 #[.slice A1 n c1, .slice A2 n c2, .int .i64 ar, .bool false] := (Blk.new _ _ _).alloc _
  have K0 := Lib.hid k0; clear k0
  have hb1 : Below w.heap.size w ((w.alloc (dcells A1 A2 n n c1 c2 ar false)).alloc zero31) := ((Below.refl _ _).alloc (Nat.le_refl _) _).alloc (by simp) _
  have HB1 := Lib.hid hb1; clear hb1
  go_enter Tryz.func79, Tryz.ntmps79
  go_wp2_with (go_at_call 108; refine (C.out _).mono ?_; rintro e w2 ⟨rfl, hb⟩; have kb := K1.out.below hb K1.out.lt; have ka := K0.out.below hb K0.out.lt; have HB := Lib.hid (HB1.out.trans (hb.mono HB1.out.size)); clear hb; have hs2 : w.heap.size + 1 < w2.heap.size := kb.lt; have a0 := ka.cell 0; simp at a0; have K2 := Lib.hid kb; clear kb; have L2 := Lib.hid ka; clear ka)
  have KD3 := Lib.hid (Blk.new w2 36 #[.slice A1 n c1, .slice A2 n c2, .int .i64 ar2, .bool false])
  have L3 := Lib.hid (L2.out.alloc (Obj.cells #[.slice A1 n c1, .slice A2 n c2, .int .i64 ar2, .bool false] 36))
  have K3 := Lib.hid (K2.out.alloc (Obj.cells #[.slice A1 n c1, .slice A2 n c2, .int .i64 ar2, .bool false] 36))
  have HB3 := Lib.hid (HB.out.alloc HB.out.size (Obj.cells #[.slice A1 n c1, .slice A2 n c2, .int .i64 ar2, .bool false] 36))
  clear L2 K2 a0
  generalize w2.alloc (Obj.cells #[.slice A1 n c1, .slice A2 n c2, .int .i64 ar2, .bool false] 36) = w3 at *
  have a0 := L3.out.cell 0
  have a1 := (L3.out.alloc zero31).cell 0
  have a2 := (L3.out.alloc (.cells (madeCells #[nilS] n) 31)).cell 0
  have a3 := ((L3.out.alloc (.cells (madeCells #[nilS] n) 31)).alloc zero31).cell 0
  have a4 := ((L3.out.alloc zero31).alloc (.cells (madeCells #[nilS] n) 31)).cell 0
  have b0 := KD3.out.cell 2
  have b1 := (KD3.out.alloc zero31).cell 2
  have b2 := (KD3.out.alloc (.cells (madeCells #[nilS] n) 31)).cell 2
  have b3 := ((KD3.out.alloc (.cells (madeCells #[nilS] n) 31)).alloc zero31).cell 2
  have b4 := ((KD3.out.alloc zero31).alloc (.cells (madeCells #[nilS] n) 31)).cell 2
  have l1 := L3.out.lt
  have l2 := KD3.out.lt
  simp at a0 a1 a2 a3 a4 b0 b1 b2 b3 b4
  go_region_held3 (fun W => W.cell? ⟨w.heap.size, 0, none⟩ = some (.slice A1 n c1) ∧ W.cell? ⟨w2.heap.size, 2, none⟩ = some (.int .i64 ar2))
    (first
      | exact ⟨a0, b0⟩
      | exact ⟨a1, b1⟩
      | exact ⟨a2, b2⟩
      | exact ⟨a3, b3⟩
      | exact ⟨a4, b4⟩
      | go_keep)
    (first
      | fail)
  all_goals
    first
    | (have fY : Blk ((w3.alloc (Obj.cells (madeCells #[nilS] n) 31)).alloc (Obj.cells #[nilS, .slice (some ⟨w3.heap.size, 0, none⟩) n n, .int .i64 ar2, .bool false] 36)).drew (w3.heap.size + 1) 36 #[nilS, .slice (some ⟨w3.heap.size, 0, none⟩) n n, .int .i64 ar2, .bool false] := (by have := Blk.new (w3.alloc (Obj.cells (madeCells #[nilS] n) 31)) 36 #[nilS, .slice (some ⟨w3.heap.size, 0, none⟩) n n, .int .i64 ar2, .bool false]; exact (by simpa using this : Blk _ (w3.heap.size + 1) _ _).drew)
       have fR : Blk ((w3.alloc (Obj.cells (madeCells #[nilS] n) 31)).alloc (Obj.cells #[nilS, .slice (some ⟨w3.heap.size, 0, none⟩) n n, .int .i64 ar2, .bool false] 36)).drew w3.heap.size 31 (madeCells #[nilS] n) := ((Blk.new _ _ _).alloc _).drew
       have fB : Below (w2.heap.size + 1) w3 ((w3.alloc (Obj.cells (madeCells #[nilS] n) 31)).alloc (Obj.cells #[nilS, .slice (some ⟨w3.heap.size, 0, none⟩) n n, .int .i64 ar2, .bool false] 36)).drew := (((Below.refl _ w3).alloc (by omega) _).alloc (by simp; omega) _).drew
       have FY := Lib.hid fY; clear fY
       have FR := Lib.hid fR; clear fR
       have FB := Lib.hid fB; clear fB
       obtain ⟨w5, hw5⟩ : ∃ w5, w5 = ((w3.alloc (Obj.cells (madeCells #[nilS] n) 31)).alloc (Obj.cells #[nilS, .slice (some ⟨w3.heap.size, 0, none⟩) n n, .int .i64 ar2, .bool false] 36)).drew := ⟨_, rfl⟩
       rw [← hw5] at FY FR FB ⊢
       clear hw5
       have hyb : w2.heap.size < w3.heap.size + 1 := by omega
       have hrb : w2.heap.size < w3.heap.size := by omega
       have hyr : w3.heap.size + 1 ≠ w3.heap.size := by omega
       clear a0 a1 a2 a3 a4 b0 b1 b2 b3 b4 l1
       generalize w3.heap.size + 1 = yb at *
       generalize w3.heap.size = rb at *)
    | (have fY : Blk ((w3.alloc (Obj.cells #[nilS, .slice (some ⟨w3.heap.size + 1, 0, none⟩) n n, .int .i64 ar2, .bool false] 36)).alloc (Obj.cells (madeCells #[nilS] n) 31)).drew w3.heap.size 36 #[nilS, .slice (some ⟨w3.heap.size + 1, 0, none⟩) n n, .int .i64 ar2, .bool false] := ((Blk.new _ _ _).alloc _).drew
       have fR : Blk ((w3.alloc (Obj.cells #[nilS, .slice (some ⟨w3.heap.size + 1, 0, none⟩) n n, .int .i64 ar2, .bool false] 36)).alloc (Obj.cells (madeCells #[nilS] n) 31)).drew (w3.heap.size + 1) 31 (madeCells #[nilS] n) := (by have := Blk.new (w3.alloc (Obj.cells #[nilS, .slice (some ⟨w3.heap.size + 1, 0, none⟩) n n, .int .i64 ar2, .bool false] 36)) 31 (madeCells #[nilS] n); exact (by simpa using this : Blk _ (w3.heap.size + 1) _ _).drew)
       have fB : Below (w2.heap.size + 1) w3 ((w3.alloc (Obj.cells #[nilS, .slice (some ⟨w3.heap.size + 1, 0, none⟩) n n, .int .i64 ar2, .bool false] 36)).alloc (Obj.cells (madeCells #[nilS] n) 31)).drew := (((Below.refl _ w3).alloc (by omega) _).alloc (by simp; omega) _).drew
       have FY := Lib.hid fY; clear fY
       have FR := Lib.hid fR; clear fR
       have FB := Lib.hid fB; clear fB
       obtain ⟨w5, hw5⟩ : ∃ w5, w5 = ((w3.alloc (Obj.cells #[nilS, .slice (some ⟨w3.heap.size + 1, 0, none⟩) n n, .int .i64 ar2, .bool false] 36)).alloc (Obj.cells (madeCells #[nilS] n) 31)).drew := ⟨_, rfl⟩
       rw [← hw5] at FY FR FB ⊢
       clear hw5
       have hyb : w2.heap.size < w3.heap.size := by omega
       have hrb : w2.heap.size < w3.heap.size + 1 := by omega
       have hyr : w3.heap.size ≠ w3.heap.size + 1 := by omega
       clear a0 a1 a2 a3 a4 b0 b1 b2 b3 b4 l1
       generalize w3.heap.size + 1 = rb at *
       generalize w3.heap.size = yb at *)
  all_goals
    have h5y := FY.out.lt
    have h5r := FR.out.lt
    have hB5 : Below (w.heap.size + 2) w3 w5 := FB.out.mono (by omega)
    have hBw : Below w.heap.size w w5 := HB3.out.trans (hB5.mono (by omega))
    have hL5 := L3.out.below hB5 (by omega)
    have hK5 := K3.out.below hB5 (by omega)
    have L5 := Lib.hid hL5; clear hL5
    have K5 := Lib.hid hK5; clear hK5
    have HBW := Lib.hid hBw; clear hBw hB5
    go_wp2
    go_loopw [7] (fun i wr => ∃ (k : Nat) (A : Option Addr) (c : Nat), k ≤ n ∧ i = .int .i64 k ∧ Blk wr yb 36 #[.slice A k c, .slice (some ⟨rb, 0, none⟩) n n, .int .i64 ar2, .bool false] ∧
      wr.ownsRow w5.heap.size 31 1 (.slice A k c) k ((List.range k).map (getU s us1 us2)) ∧ KeptBut w5 wr [yb]) (fun i _ => n - (intOf i).toNat)
    case atStart => exact ⟨0, none, 0, Nat.zero_le _, rfl, FY.out, World.ownsRow_nil _ _ _ _, KeptBut.refl _ _⟩
    case round =>
      obtain ⟨k, A, c, hk, rfl, hy, hown, hkp⟩ := hrel
      have hL := hkp.blk L5.out (by simp; omega)
      have d0 := hL.cell 0
      have d1 := hL.cell 1
      have d2 := hL.cell 2
      have d3 := hL.cell 3
      have dlt := hL.lt
      have y0 := hy.cell 0
      have ylt := hy.lt
      simp at d0 d1 d2 d3 y0
      have HL := Lib.hid hL; clear hL
      have HY := Lib.hid hy; clear hy
      have HO := Lib.hid hown; clear hown
      have HKP := Lib.hid hkp; clear hkp
      have hkb : (k + 1) * 24 ≤ 140737488355328 := by omega
      have HKB := Lib.hid hkb; clear hkb
      by_cases hlt : k < n
      · have hbr : Below w.heap.size w wr.drew := (HBW.out.trans (HKP.out.below (by simp; omega) (by omega))).drew
        have HBR := Lib.hid hbr; clear hbr
        obtain ⟨Au, mu, cu, eu⟩ := HUF.out k hlt
        have gt := GT.out wr.drew HBR.out k hlt
        rw [eu] at gt
        have GTK := Lib.hid gt; clear gt
        have hrng : (List.range (k + 1)).map (getU s us1 us2) = (List.range k).map (getU s us1 us2) ++ [.slice Au mu cu] := by rw [List.range_succ, List.map_append, ← eu]; rfl
        have HRNG := Lib.hid hrng; clear hrng eu
        generalize (List.range k).map (getU s us1 us2) = zs at *
        go_wp2
        go_region_law (first
          | (refine step_calls rfl 40 _ _ rfl #[.agg #[.slice A1 n c1, .slice A2 n c2, .int .i64 ar, .bool false], .int .i64 (k : Nat)] (by simp [Act.eval]) HEN.out (by exact GTK.out) ?_; rintro e w6 ⟨rfl, hb⟩; refine ⟨_, rfl, ?_⟩; have hb : Below wr.heap.size wr w6 := ⟨hb.os, hb.tape, hb.output, hb.size, hb.block⟩; have hy6 := HY.out.below hb ylt; have y1 := hy6.cell 0; have y2 := (hy6.alloc (.cells #[.slice Au mu cu] 31)).cell 0; have y3 := hy6.lt; simp at y1 y2; have HY6 := Lib.hid hy6; clear hy6; have HO6 := Lib.hid (own_below HO.out hb); have hsz6 := hb.size; have HB6 := Lib.hid hb; clear hb)
          | (refine step_append_any _ rfl (.tmp 31) (.tmp 35) 32 rfl w5.heap.size 31 i0 nilS 1 24 Tryz.underlying32 HI.out HZ0.out HZ1.out HZ2.out rfl (by decide) (.slice A k c) k zs rfl (HO6.out.alloc _) (w6.heap.size + 1) (some ⟨w6.heap.size, 0, none⟩) 1 1 [.slice Au mu cu] rfl (lit_reads _ _ _) (by intro u hu; simp at hu; subst hu; rfl) (by unfold maxLen; omega) HKB.out (by have := HKP.out.size; simp; omega) ?_; intro v7 w7 hown7 hg7 _; obtain ⟨A7, c7, rfl⟩ := own_form hown7; have hy7 := (HY6.out.alloc (.cells #[.slice Au mu cu] 31)).grown hg7 (fun e => own_blk_ne HO6.out HY6.out (by decide) e.symm); have y4 := hy7.cell 0; have y5 := hy7.frozen 0; have y6 := hy7.lt; simp at y4; have HY7 := Lib.hid hy7; clear hy7; have HO7 := Lib.hid hown7; clear hown7; have HG7 := Lib.hid hg7; clear hg7))
        all_goals
          have hkp2 : KeptBut w5 w7 [yb] := by
            exact ((HKP.out.trans (kept_of_below HB6.out (Nat.le_refl _))).trans (kept_alloc _)).grownAbove HG7.out (fun q hq => (HO.out.lt q hq).1)
          have HKP2 := Lib.hid hkp2; clear hkp2
          go_wp2
          go_roundw
          case rel => exact ⟨k + 1, A7, c7, by omega, by go_num, HY7.out.set_ 0 _, by rw [HRNG.out]; exact ownsRow_setCell_below HO7.out (by simp; omega) _, HKP2.out.trans (kept_set _ _ (by simp))⟩
          case measure => simp [intOf]; omega
      · have hkn : k = n := by omega
        subst hkn
        have y1 := HY.out.cell 1
        have y2 := HY.out.cell 2
        have y3 := HY.out.cell 3
        have hkr := HKP.out.blk K5.out (by simp; omega)
        have q0 := hkr.cell 0
        have q1 := hkr.cell 1
        have q2 := hkr.cell 2
        have q3 := hkr.cell 3
        have p0 := hkr.frozen 0
        have p1 := hkr.frozen 1
        have p2 := hkr.frozen 2
        have p3 := hkr.frozen 3
        have hklt := hkr.lt
        simp at y1 y2 y3 q0 q1 q2 q3
        clear hkr
        have hbr : Below w.heap.size w wr := HBW.out.trans (HKP.out.below (by simp; omega) (by omega))
        have hra : RefAt wr ((w.heap.size + 1) :: S) (.agg #[.slice A k c, .slice (some ⟨rb, 0, none⟩) k k, .int .i64 ar2, .bool false]) { s.act.1 with fs := fun i => (s.fw i).or (s.fs i), fw := fun _ => none } := by
          have hK : KeptBut w wr ((w.heap.size + 1) :: S) := kept_of_below hbr (Nat.le_refl _)
          have hn' : s.act.1.n = k := (act_n s).trans HN.out.symm
          have hraise := raise_cons (S := S) (B := w.heap.size) (x := w.heap.size + 1) (by omega)
          refine ⟨.slice A k c, .slice (some ⟨rb, 0, none⟩) k k, getU s us1 us2, fun _ => nilS, ?_, ?_, ?_, ?_, ?_⟩
          · show _ = Value.agg #[_, _, .int .i64 (armedOf s.act.1.left), .bool s.act.1.dead]
            rw [HAR2.out, HDD.out]
          · show RowS wr _ _ s.act.1.n _
            rw [hn']
            refine (rowS_own HO.out (cons_lt HS.out (by omega) (by omega))).ext fun j hj => ?_
            simp [List.getD, hj]
          · show RowS wr _ _ s.act.1.n _
            rw [hn']
            exact madeRow k hn1 (HKP.out.blk FR.out (by simp; omega)) (cons_lt HS.out (by omega) (by omega))
          · intro j hj
            have hj' : j < k := by rw [← hn']; exact hj
            show SlS wr _ (getU s us1 us2 j) (((s.fw j).or (s.fs j)).getD noughts)
            unfold getU
            have e1 := HE1.out j hj'
            have e2 := HE2.out j hj'
            cases hf : s.fw j with
            | none =>
              rw [Option.none_or, if_neg (by simp)]
              exact (e1.raise hraise).kept hK
            | some xs =>
              rw [Option.some_or, if_pos (by simp), Option.getD_some]
              rw [hf, Option.getD_some] at e2
              exact (e2.raise hraise).kept hK
          · intro j hj
            exact slS_nil _ _
        have HRA := Lib.hid hra; clear hra
        have HBR := Lib.hid hbr; clear hbr
        go_wp2
        exact bodyPost_ret (v := .tuple #[.agg #[.slice A k c, .slice (some ⟨rb, 0, none⟩) k k, .int .i64 ar2, .bool false], .int .i64 0]) (by simp [results, Tryz.results79, go_sem, q0, q1, q2, q3, hklt]) rfl ⟨_, rfl, (HRA.out.kept (set4_kept (KeptBut.refl _ _) (List.mem_cons_self ..))).more (fun x hx => List.mem_cons_of_mem _ hx), set4_below HBR.out (by omega)⟩
theorem ref_flush (S : List Nat) (v : Value) (s : St) (w : World) (hg : Good s) (h : RefAt w S v s) (hS : ∀ x ∈ S, x < w.heap.size) :
    Calls Tryz.prog 79 #[v] w fun e w' => ∃ v', e = .returned (.tuple #[v', .int .i64 s.flush.2]) ∧ RefAt w' S v' s.flush.1 ∧ Below w.heap.size w w' := by
  obtain ⟨v1, v2, us1, us2, rfl, h1, h2, h3, h4⟩ := h
  obtain ⟨A1, c1, rfl, _⟩ := id h1
  obtain ⟨A2, c2, rfl, _⟩ := id h2
  cases hd : s.dead with
  | true =>
    have e : s.flush = (s, 7) := by simp [St.flush, hd]
    have er : s.ract = (s, false) := by simp [St.ract, hd]
    rw [e]
    have := rflush_no A1 A2 s.n s.n c1 c2 s w hg (by rw [er])
    rw [er] at this
    refine this.mono ?_
    rintro e w' ⟨rfl, hb⟩
    exact ⟨_, rfl, RefAt.below ⟨_, _, us1, us2, rfl, h1, h2, h3, h4⟩ hb, hb⟩
  | false =>
    cases ha : s.act.2 with
    | false =>
      have e : s.flush = (s.act.1, 7) := by simp [St.flush, hd, ha]
      rw [e]
      have := rflush_no A1 A2 s.n s.n c1 c2 s w hg (by rw [ract_live hd]; exact ha)
      rw [ract_live hd] at this
      refine this.mono ?_
      rintro e w' ⟨rfl, hb⟩
      refine ⟨_, rfl, RefAt.below ⟨_, _, us1, us2, rfl, ?_, ?_, ?_, ?_⟩ hb, hb⟩
      · rw [act_n]; exact h1
      · rw [act_n]; exact h2
      · rw [act_n, act_fs]; exact h3
      · rw [act_n, act_fw]; exact h4
    | true =>
      have e : s.flush = ({ s.act.1 with fs := fun i => (s.fw i).or (s.fs i), fw := fun _ => none }, 0) := by simp [St.flush, hd, ha]
      rw [e]
      exact rflush_ok S A1 A2 s.n c1 c2 s us1 us2 w hg hd rfl ha h1 h2 h3 h4 hS
theorem ref_write (S : List Nat) (v vb : Value) (s : St) (i : Int) (xs : List Nat) (w : World) (hg : Good s) (h : RefAt w S v s) (hS : ∀ x ∈ S, x < w.heap.size) (hb : Sl w w.heap.size vb xs) :
    Calls Tryz.prog 78 #[v, .int .i64 i, vb] w fun e w' => ∃ v', e = .returned (.tuple #[v', .int .i64 (s.write i xs).2]) ∧ RefAt w' S v' (s.write i xs).1 ∧ Below w.heap.size w w' := by
  obtain ⟨v1, v2, us1, us2, rfl, h1, h2, h3, h4⟩ := h
  obtain ⟨A1, c1, rfl, _⟩ := id h1
  obtain ⟨A2, c2, rfl, _⟩ := id h2
  obtain ⟨A3, n3, c3, rfl, hb, _⟩ := hb
  have hl := hb.1
  cases hd : s.dead with
  | true =>
    have e : s.write i xs = (s, 7) := by simp [St.write, hd]
    rw [e]
    refine (rwrite_dead A1 A2 s.n s.n c1 c2 s i _ w hd).mono ?_
    rintro e w' ⟨rfl, hb⟩
    exact ⟨_, rfl, RefAt.below ⟨_, _, us1, us2, rfl, h1, h2, h3, h4⟩ hb, hb⟩
  | false =>
    by_cases hi : 0 ≤ i ∧ i < s.n ∧ n3 = 512
    · cases ha : s.act.2 with
      | false =>
        have e : s.write i xs = (s.act.1, 7) := by simp [St.write, hd, ha, hl, hi]
        rw [e]
        refine (rwrite_dies A1 A2 A3 s.n s.n n3 c1 c2 c3 s i w hg hd hi.1 hi.2.1 hi.2.2 ha).mono ?_
        rintro e w' ⟨rfl, hb⟩
        refine ⟨_, rfl, RefAt.below ⟨_, _, us1, us2, rfl, ?_, ?_, ?_, ?_⟩ hb, hb⟩
        · rw [act_n]; exact h1
        · rw [act_n]; exact h2
        · rw [act_n, act_fs]; exact h3
        · rw [act_n, act_fw]; exact h4
      | true =>
        have e : s.write i xs = ({ s.act.1 with fw := upd1 s.act.1.fw i.toNat xs }, 0) := by simp [St.write, hd, ha, hl, hi]
        rw [e]
        have := rwrite_ok S A1 A2 A3 s.n c1 c2 c3 n3 s i.toNat xs us1 us2 w hg hd rfl (by omega) hi.2.2 ha h1 h2 h3 h4 hb hS
        rw [Int.toNat_of_nonneg hi.1] at this
        exact this
    · have e : s.write i xs = (s, 1) := by
        unfold St.write
        rw [hd, if_neg (by simp), if_neg (by rw [hl]; exact hi)]
      rw [e]
      refine (rwrite_arg A1 A2 A3 s.n s.n n3 c1 c2 c3 s i w hd hi).mono ?_
      rintro e w' ⟨rfl, hb⟩
      exact ⟨_, rfl, RefAt.below ⟨_, _, us1, us2, rfl, h1, h2, h3, h4⟩ hb, hb⟩
end Go.Proofs.YtnenbocjfekmfaaGreat.Dsk
/- The reference of layer 3: Crash. -/
namespace Go.Proofs.YtnenbocjfekmfaaGreat.Dsk
open Go.RowKit Go.Maps Go.Shelf Go.Proofs.YtnenbocjfekmfaaGreat.Mem
set_option linter.unusedVariables false
set_option linter.unusedSimpArgs false
theorem tears_fs (l : List (Nat × Int × List Nat)) (j : Nat) : ∀ (s : St), (∀ p ∈ l, p.1 ≠ j) → (s.tears l).fs j = s.fs j := by
  induction l with
  | nil => exact fun s _ => rfl
  | cons p r ih =>
    intro s h
    have h1 : (s.tear p.1 p.2.1 p.2.2).fs j = s.fs j := by
      have hp := h p (List.mem_cons_self ..)
      unfold St.tear
      split
      · show (if j = p.1 then _ else _) = _
        rw [if_neg (fun e => hp e.symm)]
      · split
        · show (if j = p.1 then _ else _) = _
          rw [if_neg (fun e => hp e.symm)]
        · rfl
    exact (ih (s.tear p.1 p.2.1 p.2.2) (fun q hq => h q (List.mem_cons_of_mem _ hq))).trans h1
theorem waiting_nodup (s : St) : s.waiting.Nodup := (List.nodup_range).filter _
theorem tears_at (s : St) (l : List (Int × List Nat)) (k : Nat) (hk : k < s.waiting.length) : (s.tears ((s.waiting.zip l).take k)).fs (s.waiting.getD k 0) = s.fs (s.waiting.getD k 0) := by
  refine tears_fs _ _ s fun p hp e => ?_
  obtain ⟨j, hpj⟩ := List.getElem?_of_mem hp
  rw [List.getElem?_take] at hpj
  split at hpj
  · rename_i hjk
    rw [List.getElem?_zip_eq_some] at hpj
    have h1 := hpj.1
    have h2 : s.waiting[k]? = some (s.waiting.getD k 0) := by simp [List.getD, List.getElem?_eq_getElem hk]
    rw [e, ← h2] at h1
    have := (List.getElem?_inj (by omega) (waiting_nodup s)).1 h1
    omega
  · cases hpj
theorem map_set (us : Nat → Value) (n i : Nat) (u : Value) : ((List.range n).map us).set i u = (List.range n).map (fun j => if j = i then u else us j) := by
  apply List.ext_getElem?
  intro j
  by_cases hj : j < n
  · rw [List.getElem?_set]
    by_cases e : i = j
    · subst e; simp [hj]
    · have e' : ¬ j = i := fun h => e h.symm
      simp [e, e', hj]
  · rw [List.getElem?_eq_none (by simp; omega), List.getElem?_eq_none (by simp; omega)]
theorem step_sls {w w' : World} {S : List Nat} {n i : Nat} {us : Nat → Value} {f : Nat → Option (List Nat)} {u : Value} {ys : List Nat} (h : ∀ j, j < n → SlS w S (us j) ((f j).getD noughts)) (k : KeptBut w w' S) (hu : SlS w' S u ys) :
    ∀ j, j < n → SlS w' S (if j = i then u else us j) ((upd1 f i ys j).getD noughts) := by
  intro j hj
  unfold upd1
  by_cases e : j = i
  · rw [if_pos e, if_pos e]
    exact hu
  · rw [if_neg e, if_neg e]
    exact (h j hj).kept k
theorem getD_some_any {o : Option (List Nat)} (h : o.isSome = true) (a b : List Nat) : o.getD a = o.getD b := by
  obtain ⟨x, rfl⟩ := Option.isSome_iff_exists.1 h
  rfl
theorem far_cell {g i b o : Nat} {u : Value} (w : World) (h : b ≠ g) : (w.setCell ⟨g, i, none⟩ u).cell? ⟨b, o, none⟩ = w.cell? ⟨b, o, none⟩ :=
  World.cell?_setCell_other w _ _ _ (fun e => h (by injection e with e1; exact e1.symm))
theorem blk_of_own {w : World} {base n cap gr size : Nat} {e : TypeId} {xs : List Value} (h : w.ownsRow base e size (.slice (some ⟨gr, 0, none⟩) n cap) n xs) : ∃ cs, Blk w gr e cs := by
  rcases h.2 with ⟨h', _⟩ | ⟨g', cap', cur, h', _, hg, _⟩
  · cases h'
  · injection h' with h1 _ _
    injection h1 with h1
    injection h1 with h1
    subst h1
    exact ⟨cur, hg⟩
theorem blk_c0 {w : World} {g : Nat} {t : TypeId} {a b c d : Value} (h : Blk w g t #[a, b, c, d]) : w.cell? ⟨g, 0, none⟩ = some a := by rw [h.cell]; rfl
theorem blk_last {w : World} {g : Nat} {t : TypeId} {cs : Array Value} (hg : g = w.heap.size) : Blk (w.alloc (.cells cs t)) g t cs := by subst hg; exact Blk.new _ _ _
theorem lit_last {w : World} {g base : Nat} (hg : g = w.heap.size) (hb : base ≤ w.heap.size) : (w.alloc (.cells #[] 31)).ownsRow base 31 1 (.slice (some ⟨g, 0, none⟩) 0 0) 0 [] := by
  subst hg
  exact World.ownsRow_lit w #[] 0 hb (by unfold maxLen; omega) rfl
theorem set4_blk {w : World} {g : Nat} {t : TypeId} {a b c d a' b' c' d' : Value} (h : Blk w g t #[a, b, c, d]) : Blk (set4 w g a' b' c' d') g t #[a', b', c', d'] := (((h.set_ 0 a').set_ 1 b').set_ 2 c').set_ 3 d'
theorem set4_far {w : World} {g g' : Nat} {t : TypeId} {cs : Array Value} {a' b' c' d' : Value} (h : Blk w g t cs) (hn : g ≠ g') : Blk (set4 w g' a' b' c' d') g t cs :=
  (((h.far (p := ⟨g', 0, none⟩) hn _).far (p := ⟨g', 1, none⟩) hn _).far (p := ⟨g', 2, none⟩) hn _).far (p := ⟨g', 3, none⟩) hn _
theorem set4_own {w : World} {base g size n : Nat} {e t : TypeId} {v : Value} {xs : List Value} {cs : Array Value} {a' b' c' d' : Value} (h : w.ownsRow base e size v n xs) (hb : Blk w g t cs) (ht : e ≠ t) : (set4 w g a' b' c' d').ownsRow base e size v n xs := by
  have hn : v.ownBlock ≠ some g := own_blk_ne h hb ht
  have k : w.grownBy (set4 w g a' b' c' d') (some g) := grown_trans (grown_trans (grown_trans (grown_set w ⟨g, 0, none⟩ a') (grown_set _ ⟨g, 1, none⟩ b')) (grown_set _ ⟨g, 2, none⟩ c')) (grown_set _ ⟨g, 3, none⟩ d')
  exact h.kept k (.inr hn)
set_option maxRecDepth 20000 in
set_option maxHeartbeats 8000000 in
theorem ref_crash (S : List Nat) (B : Nat) (v vl : Value) (s : St) (l : List (Int × List Nat)) (w : World) (hg : Good s) (h : RefAt w S v s) (hS : ∀ x ∈ S, x < w.heap.size) (hl : TearsAt w B vl l) (hB : B ≤ w.heap.size) (hr : ∀ i, s.n ≤ i → s.fw i = none) :
    Calls Tryz.prog 20 #[v, vl] w fun e w' => ∃ v', e = .returned v' ∧ RefAt w' S v' (s.crash l) ∧ Below w.heap.size w w' := by
  have hwt := fun (W : World) (hW : Below w.heap.size w W) => ref_waiting S v s W hg (h.kept (kept_of_below hW (Nat.le_refl _)))
  obtain ⟨v1, v2, us1, us2, rfl, hr1, hr2, he1, he2⟩ := h
  obtain ⟨A1, c1, rfl, _⟩ := id hr1
  obtain ⟨A2, c2, rfl, _⟩ := id hr2
  obtain ⟨n, hn⟩ : ∃ n, n = s.n := ⟨_, rfl⟩
  rw [← hn] at hr1 hr2 he1 he2 hr
  have hn1 : n ≤ 1024 := by have := hg.2.1; omega
  obtain ⟨A1', c1', e, hreads⟩ := hr1.reads
  injection e with e1 e2 e3
  subst e1 e3
  unfold refV at hwt ⊢
  rw [← hn] at hwt ⊢
  have HWT := Lib.hid hwt; clear hwt
  have HRD := Lib.hid hreads; clear hreads
  have HR1 := Lib.hid hr1; clear hr1
  have HR2 := Lib.hid hr2; clear hr2
  have HE1 := Lib.hid he1; clear he1
  have HE2 := Lib.hid he2; clear he2
  have HS := Lib.hid hS; clear hS
  have HN := Lib.hid hn; clear hn
  have HG := Lib.hid hg; clear hg
  have HR := Lib.hid hr; clear hr e2
  have hones : ∀ u ∈ (List.range n).map us1, u.oneCell' = true := by
    intro u hu
    obtain ⟨j, hj, rfl⟩ := List.mem_map.1 hu
    obtain ⟨A', c', e', _⟩ := (HE1.out j (by simpa using hj)).len
    rw [e']
    rfl
  have HONE := Lib.hid hones; clear hones
  generalize armedOf s.left = ar at *
  generalize s.dead = dd at *
  obtain ⟨i0, hi, hz0, hz1, hz2⟩ := info_parts Tryz.info35
  have HI := Lib.hid hi; clear hi
  have HZ0 := Lib.hid hz0; clear hz0
  have HZ1 := Lib.hid hz1; clear hz1
  have HZ2 := Lib.hid hz2; clear hz2
  have hmr := make_rows n hn1
  obtain ⟨MC, hMC⟩ : ∃ MC, MC = madeCells #[nilS] n := ⟨_, rfl⟩
  rw [← hMC] at hmr
  have HMC := Lib.hid hMC; clear hMC
  obtain ⟨m, hm⟩ : ∃ m, m = s.waiting.length := ⟨_, rfl⟩
  rw [← hm] at HWT
  have HM := Lib.hid hm; clear hm
  have k1 : Blk ((w.alloc (dcells A1 A2 n n c1 c2 ar dd)).alloc zero31) (w.heap.size + 1) 36 #[nilS, nilS, .int .i64 0, .bool false] := (blk_last (by simp))
  have K1 := Lib.hid k1; clear k1
  have k0 : Blk ((w.alloc (dcells A1 A2 n n c1 c2 ar dd)).alloc zero31) w.heap.size 36 #[.slice A1 n c1, .slice A2 n c2, .int .i64 ar, .bool dd] := (Blk.new _ _ _).alloc _
  have K0 := Lib.hid k0; clear k0
  have hb1 : Below w.heap.size w ((w.alloc (dcells A1 A2 n n c1 c2 ar dd)).alloc zero31) := ((Below.refl _ _).alloc (Nat.le_refl _) _).alloc (by simp) _
  have HB1 := Lib.hid hb1; clear hb1
  go_enter Tryz.func20, Tryz.ntmps20
  go_wp2_with (go_at_call 58; refine (HWT.out _ HB1.out).mono ?_; rintro e w3 ⟨vw, rfl, hroww, hb⟩; obtain ⟨Aw, cw, rfl, hcw⟩ := own_ints hroww HM.out.symm; have L3 := Lib.hid (K0.out.below hb K0.out.lt); have K3 := Lib.hid (K1.out.below hb K1.out.lt); have HB3 := Lib.hid (HB1.out.trans (hb.mono HB1.out.size)); have hs3 : w.heap.size + 1 < w3.heap.size := K3.out.lt; have HCW := Lib.hid hcw; clear hcw; have HRW := Lib.hid hroww; clear hroww hb)
  go_cut [6] from 10 to 18 (fun s6 wx => ∃ (yb rb : Nat) (A : Option Addr) (c : Nat), s6 = .pointer (some ⟨yb, 0, none⟩) ∧ Blk wx yb 36 #[.slice A n c, .slice (some ⟨rb, 0, none⟩) n n, .int .i64 (-1), .bool false] ∧ Blk wx rb 31 MC ∧
    wx.ownsRow w3.heap.size 31 1 (.slice A n c) n ((List.range n).map us1) ∧ (Value.slice A n c).ownBlock ≠ some rb ∧ w3.heap.size ≤ yb ∧ w3.heap.size ≤ rb ∧ Below w3.heap.size w3 wx)
  case first =>
    have a0 := L3.out.cell 0
    have l1 := L3.out.lt
    simp at a0
    clear HE1 HE2 HR1 HR2 HWT HS HN HG HR HCW HRW HM K1 K0 HB1 K3 hl hB
    go_region_held3 (fun W => W.cell? ⟨w.heap.size, 0, none⟩ = some (.slice A1 n c1))
      (first
        | with_reducible exact a0
        | with_reducible exact blk_c0 L3.out
        | with_reducible exact blk_c0 (Blk.drew L3.out)
        | with_reducible exact blk_c0 (L3.out.alloc _)
        | with_reducible exact blk_c0 (Blk.drew (L3.out.alloc _))
        | with_reducible exact blk_c0 ((L3.out.alloc _).alloc _)
        | with_reducible exact blk_c0 (Blk.drew ((L3.out.alloc _).alloc _))
        | with_reducible exact blk_c0 (((L3.out.alloc _).alloc _).alloc _)
        | with_reducible exact blk_c0 (Blk.drew (((L3.out.alloc _).alloc _).alloc _))
        | with_reducible exact blk_c0 L7.out
        | with_reducible exact blk_c0 (Blk.drew L7.out)
        | with_reducible exact blk_c0 (L7.out.alloc _)
        | with_reducible exact blk_c0 (Blk.drew (L7.out.alloc _))
        | with_reducible exact blk_c0 ((L7.out.alloc _).alloc _)
        | with_reducible exact blk_c0 (Blk.drew ((L7.out.alloc _).alloc _))
        | with_reducible exact blk_c0 (((L7.out.alloc _).alloc _).alloc _)
        | with_reducible exact blk_c0 (Blk.drew (((L7.out.alloc _).alloc _).alloc _))
        | with_reducible exact blk_c0 (set4_far L7.out (by first | omega | (simp <;> omega)))
        | with_reducible exact blk_c0 ((set4_far L7.out (by first | omega | (simp <;> omega))).alloc _)
        | with_reducible exact blk_c0 (Blk.drew (set4_far L7.out (by first | omega | (simp <;> omega))))
        | with_reducible exact blk_c0 (Blk.drew ((set4_far L7.out (by first | omega | (simp <;> omega))).alloc _))
        | go_keep)
      (first
        | (refine step_append_any _ rfl (.tmp 10) (.tmp 12) 32 rfl w3.heap.size 31 i0 nilS 1 24 Tryz.underlying32 HI.out HZ0.out HZ1.out HZ2.out rfl (by decide) (.slice (some ⟨w3.heap.size, 0, none⟩) 0 0) 0 [] rfl (by first | with_reducible exact World.ownsRow.drew (lit_last (by simp) (by first | omega | (simp <;> omega))) | with_reducible exact World.ownsRow.drew (World.ownsRow.alloc (lit_last (by simp) (by first | omega | (simp <;> omega))) _) | with_reducible exact World.ownsRow.drew (World.ownsRow.alloc (World.ownsRow.alloc (lit_last (by simp) (by first | omega | (simp <;> omega))) _) _)) w.heap.size A1 n c1 ((List.range n).map us1) rfl (HRD.out.below (by first | with_reducible exact Below.drew (HB3.out.alloc (by omega) _) | with_reducible exact Below.drew ((HB3.out.alloc (by omega) _).alloc (by first | omega | (simp <;> omega)) _) | with_reducible exact Below.drew (((HB3.out.alloc (by omega) _).alloc (by first | omega | (simp <;> omega)) _).alloc (by first | omega | (simp <;> omega)) _))) HONE.out (by unfold maxLen; omega) (by omega) (by first | omega | (simp <;> omega)) ?_; intro v7 w7 hown7 hg7 hor7; rw [Nat.zero_add, List.nil_append] at hown7; obtain ⟨A7, c7, rfl⟩ := own_form hown7; have L7 : Hid (Blk w7 w.heap.size 36 #[.slice A1 n c1, .slice A2 n c2, .int .i64 ar, .bool dd]) := Blk.grown (by first | with_reducible exact Blk.drew (L3.out.alloc _) | with_reducible exact Blk.drew ((L3.out.alloc _).alloc _) | with_reducible exact Blk.drew (((L3.out.alloc _).alloc _).alloc _)) hg7 (by simp [Value.ownBlock] <;> omega); have l7 := L7.out.lt; have z7 := hg7.size; simp at z7; (try (have y7 : Blk w7 _ 36 #[nilS, nilS, .int .i64 0, .bool false] := Blk.grown (by first | with_reducible exact Blk.drew (blk_last rfl) | with_reducible exact Blk.drew (Blk.alloc (blk_last rfl) _) | with_reducible exact Blk.drew (Blk.alloc (Blk.alloc (blk_last rfl) _) _)) hg7 (by simp [Value.ownBlock] <;> omega); have q0 := y7.cell 0; have q1 := y7.cell 1; have q2 := y7.cell 2; have q3 := y7.cell 3; have f0 := y7.frozen 0; have f1 := y7.frozen 1; have f2 := y7.frozen 2; have f3 := y7.frozen 3; have q4 := y7.lt; simp at q0 q1 q2 q3 f0 f1 f2 f3 q4; clear y7)); have HP := Lib.hid hown7; clear hown7; have GR := Lib.hid hg7; clear hg7; have HOR := Lib.hid hor7; clear hor7)
        | (refine step_append_any _ rfl (.tmp 10) (.tmp 12) 32 rfl w3.heap.size 31 i0 nilS 1 24 Tryz.underlying32 HI.out HZ0.out HZ1.out HZ2.out rfl (by decide) (.slice (some ⟨w3.heap.size + 1, 0, none⟩) 0 0) 0 [] rfl (by first | with_reducible exact World.ownsRow.drew (lit_last (by simp) (by first | omega | (simp <;> omega))) | with_reducible exact World.ownsRow.drew (World.ownsRow.alloc (lit_last (by simp) (by first | omega | (simp <;> omega))) _) | with_reducible exact World.ownsRow.drew (World.ownsRow.alloc (World.ownsRow.alloc (lit_last (by simp) (by first | omega | (simp <;> omega))) _) _)) w.heap.size A1 n c1 ((List.range n).map us1) rfl (HRD.out.below (by first | with_reducible exact Below.drew (HB3.out.alloc (by omega) _) | with_reducible exact Below.drew ((HB3.out.alloc (by omega) _).alloc (by first | omega | (simp <;> omega)) _) | with_reducible exact Below.drew (((HB3.out.alloc (by omega) _).alloc (by first | omega | (simp <;> omega)) _).alloc (by first | omega | (simp <;> omega)) _))) HONE.out (by unfold maxLen; omega) (by omega) (by first | omega | (simp <;> omega)) ?_; intro v7 w7 hown7 hg7 hor7; rw [Nat.zero_add, List.nil_append] at hown7; obtain ⟨A7, c7, rfl⟩ := own_form hown7; have L7 : Hid (Blk w7 w.heap.size 36 #[.slice A1 n c1, .slice A2 n c2, .int .i64 ar, .bool dd]) := Blk.grown (by first | with_reducible exact Blk.drew (L3.out.alloc _) | with_reducible exact Blk.drew ((L3.out.alloc _).alloc _) | with_reducible exact Blk.drew (((L3.out.alloc _).alloc _).alloc _)) hg7 (by simp [Value.ownBlock] <;> omega); have l7 := L7.out.lt; have z7 := hg7.size; simp at z7; (try (have y7 : Blk w7 _ 36 #[nilS, nilS, .int .i64 0, .bool false] := Blk.grown (by first | with_reducible exact Blk.drew (blk_last rfl) | with_reducible exact Blk.drew (Blk.alloc (blk_last rfl) _) | with_reducible exact Blk.drew (Blk.alloc (Blk.alloc (blk_last rfl) _) _)) hg7 (by simp [Value.ownBlock] <;> omega); have q0 := y7.cell 0; have q1 := y7.cell 1; have q2 := y7.cell 2; have q3 := y7.cell 3; have f0 := y7.frozen 0; have f1 := y7.frozen 1; have f2 := y7.frozen 2; have f3 := y7.frozen 3; have q4 := y7.lt; simp at q0 q1 q2 q3 f0 f1 f2 f3 q4; clear y7)); have HP := Lib.hid hown7; clear hown7; have GR := Lib.hid hg7; clear hg7; have HOR := Lib.hid hor7; clear hor7)
        | (refine step_append_any _ rfl (.tmp 10) (.tmp 12) 32 rfl w3.heap.size 31 i0 nilS 1 24 Tryz.underlying32 HI.out HZ0.out HZ1.out HZ2.out rfl (by decide) (.slice (some ⟨w3.heap.size + 1 + 1, 0, none⟩) 0 0) 0 [] rfl (by first | with_reducible exact World.ownsRow.drew (lit_last (by simp) (by first | omega | (simp <;> omega))) | with_reducible exact World.ownsRow.drew (World.ownsRow.alloc (lit_last (by simp) (by first | omega | (simp <;> omega))) _) | with_reducible exact World.ownsRow.drew (World.ownsRow.alloc (World.ownsRow.alloc (lit_last (by simp) (by first | omega | (simp <;> omega))) _) _)) w.heap.size A1 n c1 ((List.range n).map us1) rfl (HRD.out.below (by first | with_reducible exact Below.drew (HB3.out.alloc (by omega) _) | with_reducible exact Below.drew ((HB3.out.alloc (by omega) _).alloc (by first | omega | (simp <;> omega)) _) | with_reducible exact Below.drew (((HB3.out.alloc (by omega) _).alloc (by first | omega | (simp <;> omega)) _).alloc (by first | omega | (simp <;> omega)) _))) HONE.out (by unfold maxLen; omega) (by omega) (by first | omega | (simp <;> omega)) ?_; intro v7 w7 hown7 hg7 hor7; rw [Nat.zero_add, List.nil_append] at hown7; obtain ⟨A7, c7, rfl⟩ := own_form hown7; have L7 : Hid (Blk w7 w.heap.size 36 #[.slice A1 n c1, .slice A2 n c2, .int .i64 ar, .bool dd]) := Blk.grown (by first | with_reducible exact Blk.drew (L3.out.alloc _) | with_reducible exact Blk.drew ((L3.out.alloc _).alloc _) | with_reducible exact Blk.drew (((L3.out.alloc _).alloc _).alloc _)) hg7 (by simp [Value.ownBlock] <;> omega); have l7 := L7.out.lt; have z7 := hg7.size; simp at z7; (try (have y7 : Blk w7 _ 36 #[nilS, nilS, .int .i64 0, .bool false] := Blk.grown (by first | with_reducible exact Blk.drew (blk_last rfl) | with_reducible exact Blk.drew (Blk.alloc (blk_last rfl) _) | with_reducible exact Blk.drew (Blk.alloc (Blk.alloc (blk_last rfl) _) _)) hg7 (by simp [Value.ownBlock] <;> omega); have q0 := y7.cell 0; have q1 := y7.cell 1; have q2 := y7.cell 2; have q3 := y7.cell 3; have f0 := y7.frozen 0; have f1 := y7.frozen 1; have f2 := y7.frozen 2; have f3 := y7.frozen 3; have q4 := y7.lt; simp at q0 q1 q2 q3 f0 f1 f2 f3 q4; clear y7)); have HP := Lib.hid hown7; clear hown7; have GR := Lib.hid hg7; clear hg7; have HOR := Lib.hid hor7; clear hor7))
    all_goals
      go_wp2_with fail
      go_meet
      case rel =>
        apply Exists.intro
        apply Exists.intro
        refine ⟨A7, c7, rfl, ?_, ?_, ?_, ?_, ?_, ?_, ?_⟩
        · first | with_reducible exact blk_last (by simp) | (with_reducible refine Blk.alloc ?_ _; with_reducible exact blk_last (by simp)) | (with_reducible refine set4_blk (a := nilS) (b := nilS) (c := .int .i64 0) (d := .bool false) ?_; with_reducible refine Blk.grown ?_ GR.out (by simp [Value.ownBlock] <;> omega); repeat (first | with_reducible exact blk_last (by simp) | with_reducible refine Blk.drew ?_ | with_reducible refine Blk.alloc ?_ _)) | (with_reducible refine Blk.alloc ?_ _; with_reducible refine set4_blk (a := nilS) (b := nilS) (c := .int .i64 0) (d := .bool false) ?_; with_reducible refine Blk.grown ?_ GR.out (by simp [Value.ownBlock] <;> omega); repeat (first | with_reducible exact blk_last (by simp) | with_reducible refine Blk.drew ?_ | with_reducible refine Blk.alloc ?_ _))
        · first | with_reducible exact blk_last (by simp) | (with_reducible refine Blk.alloc ?_ _; with_reducible exact blk_last (by simp)) | (with_reducible refine Blk.alloc ?_ _; with_reducible refine Blk.grown ?_ GR.out (by simp [Value.ownBlock] <;> omega); repeat (first | with_reducible exact blk_last (by simp) | with_reducible refine Blk.drew ?_ | with_reducible refine Blk.alloc ?_ _)) | (with_reducible refine set4_far ?_ (by first | omega | (simp <;> omega)); with_reducible refine Blk.grown ?_ GR.out (by simp [Value.ownBlock] <;> omega); repeat (first | with_reducible exact blk_last (by simp) | with_reducible refine Blk.drew ?_ | with_reducible refine Blk.alloc ?_ _))
        · first | with_reducible exact HP.out.alloc _ | with_reducible exact (HP.out.alloc _).alloc _ | (with_reducible refine set4_own HP.out (t := 36) (cs := #[nilS, nilS, .int .i64 0, .bool false]) ?_ (by decide); with_reducible refine Blk.grown ?_ GR.out (by simp [Value.ownBlock] <;> omega); repeat (first | with_reducible exact blk_last (by simp) | with_reducible refine Blk.drew ?_ | with_reducible refine Blk.alloc ?_ _)) | (with_reducible refine World.ownsRow.alloc ?_ _; with_reducible refine set4_own HP.out (t := 36) (cs := #[nilS, nilS, .int .i64 0, .bool false]) ?_ (by decide); with_reducible refine Blk.grown ?_ GR.out (by simp [Value.ownBlock] <;> omega); repeat (first | with_reducible exact blk_last (by simp) | with_reducible refine Blk.drew ?_ | with_reducible refine Blk.alloc ?_ _))
        · intro hq
          have h1 := (HP.out.lt _ hq).2
          rcases HOR.out with e | e <;> rw [hq] at e <;> simp [Value.ownBlock] at e <;> first | omega | (simp at h1; omega)
        · first | omega | (simp <;> omega)
        · first | omega | (simp <;> omega)
        · repeat (first | with_reducible exact Below.refl _ _ | with_reducible refine Below.alloc ?_ (by first | omega | (simp <;> omega)) _ | with_reducible refine Below.drew ?_ | with_reducible refine Below.grown ?_ GR.out (by first | omega | (simp <;> omega)) (fun q hq => by simp [Value.ownBlock] at hq <;> omega) | with_reducible refine Below.setCell ?_ (by first | omega | (simp <;> omega)) _)
  case rest =>
    obtain ⟨yb, rb, A, c, rfl, hy, hrbk, hown, hrne, hyb, hrb, hbel⟩ := hcut
    have hnpos : 0 < n := by have := HG.out.1; have := HN.out; omega
    obtain ⟨gr, cap, hv, hgr, hgrlt⟩ := hown.form hnpos
    injection hv with hA _ hc
    subst hA hc
    have hgrb : gr ≠ rb := fun e => hrne (by simp [Value.ownBlock, e])
    obtain ⟨Al, nl, cl, rfl, hll, hlb, hlc⟩ := hl
    have hK : KeptBut w wc [] := kept_of_below (HB3.out.trans (hbel.mono (by omega))) (Nat.le_refl _)
    have hS0 : ∀ x ∈ (w.heap.size + 1) :: S, x < w3.heap.size := cons_lt HS.out (by omega) (by omega)
    have hraise := raise_cons (S := S) (B := w.heap.size) (x := w.heap.size + 1) (by omega)
    have hel : ∀ j, j < n → SlS wc (gr :: (w.heap.size + 1) :: S) (us1 j) ((s.fs j).getD noughts) := fun j hj => (((HE1.out j hj).raise (S' := gr :: (w.heap.size + 1) :: S) (fun x hx => by
      rcases List.mem_cons.1 hx with rfl | hx
      · exact .inr (by omega)
      · exact hraise x hx))).kept (kept_of_below (HB3.out.trans (hbel.mono (by omega))) (Nat.le_refl _))
    have hLc := L3.out.below hbel (by omega)
    have hKc := K3.out.below hbel (by omega)
    obtain ⟨KK, hKK⟩ : ∃ KK, KK = min m nl := ⟨_, rfl⟩
    have HKK := Lib.hid hKK
    have hKm : KK ≤ m := by omega
    have hKn : KK ≤ nl := by omega
    have hmn : m ≤ 1024 := by
      have h1 := wt_le s s.n
      have h2 := HM.out
      have h3 : (wt s s.n).length = s.waiting.length := rfl
      have := HN.out
      omega
    have HEL := Lib.hid hel; clear hel
    have HLC := Lib.hid hLc; clear hLc
    have HKC := Lib.hid hKc; clear hKc
    have HY := Lib.hid hy; clear hy
    have HRB := Lib.hid hrbk; clear hrbk
    have HO := Lib.hid hown; clear hown
    have HBC := Lib.hid hbel; clear hbel
    have HLCC := Lib.hid hlc; clear hlc
    have HLL := Lib.hid hll; clear hll
    have hrowz : wc.ownsRow w3.heap.size 31 1 (.slice (some ⟨gr, 0, none⟩) n c) n ((List.range n).map us1) := HO.out
    clear hK hrne hKK
    go_wp2
    go_loopw [7] (fun i wr => ∃ (k : Nat) (us : Nat → Value), k ≤ KK ∧ i = .int .i64 k ∧ wr.ownsRow w3.heap.size 31 1 (.slice (some ⟨gr, 0, none⟩) n c) n ((List.range n).map us) ∧
      (∀ j, j < n → SlS wr (gr :: (w.heap.size + 1) :: S) (us j) (((s.tears ((s.waiting.zip l).take k)).fs j).getD noughts)) ∧ KeptBut wc wr [gr]) (fun i _ => KK - (intOf i).toNat)
    case atStart => exact ⟨0, us1, Nat.zero_le _, rfl, hrowz, HEL.out, KeptBut.refl _ _⟩
    case round =>
      obtain ⟨k, us, hk, rfl, hown, hels, hkp⟩ := hrel
      have hgrlt2 : gr < wr.heap.size := (hown.lt gr rfl).2
      have hlc := hkp.blk HLC.out (by simp; omega)
      have d0 := hlc.cell 0
      have d1 := hlc.cell 1
      have dlt := hlc.lt
      have hyr := hkp.blk HY.out (fun e => (by simp at e; subst e; obtain ⟨cs, hcs⟩ := blk_of_own HO.out; exact HY.out.ne_ hcs (by decide) rfl))
      have y0 := hyr.cell 0
      have ylt := hyr.lt
      simp at d0 d1 y0
      have hbw : Below w.heap.size w wc := HB3.out.trans (HBC.out.mono (by omega))
      have hbr : Below w.heap.size w wr := hbw.trans (hkp.below (by simp; omega) (by omega))
      have HBR := Lib.hid hbr; clear hbr hbw hyr hlc
      have HO2 := Lib.hid hown; clear hown
      have HELS := Lib.hid hels; clear hels
      have HKP := Lib.hid hkp; clear hkp
      by_cases hlt : k < KK
      · have hkm : k < m := by omega
        have hkn : k < nl := by omega
        obtain ⟨bw', rfl, hbw1, hbw2, hcw1⟩ := HCW.out (by omega)
        obtain ⟨bl, ol, rfl, hbl, hcl⟩ := HLCC.out (by omega)
        obtain ⟨kd, u, ts, hlk, g0, g1, hsl, hwf⟩ := hcl k hkn
        have hi := waiting_lt s _ (getD_mem (ws := s.waiting) (k := k) (by rw [← HM.out]; exact hkm))
        have hat := tears_at s l k (by rw [← HM.out]; exact hkm)
        have hz := zip_at (ws := s.waiting) (l := l) (by rw [← HM.out]; exact hkm) hlk
        have hwi := List.mem_filter.1 (getD_mem (ws := s.waiting) (k := k) (by rw [← HM.out]; exact hkm))
        have e0 := (HBR.out.cell (p := ⟨bl, ol + k * 2, none⟩) (Nat.lt_of_lt_of_le hbl hB)).trans g0
        have e1 := (HBR.out.cell (p := ⟨bl, ol + k * 2 + 1, none⟩) (Nat.lt_of_lt_of_le hbl hB)).trans g1
        have e2 := (HKP.out.cell (p := ⟨bw', k, none⟩) (Nat.lt_of_lt_of_le hbw2 HBC.out.size) (by simp; omega)).trans ((HBC.out.cell (p := ⟨bw', k, none⟩) hbw2).trans (hcw1 k hkm))
        have hbl2 : bl < wr.heap.size := by have := HBR.out.size; omega
        have hbw3 : bw' < wr.heap.size := by have := HKP.out.size; have := HBC.out.size; omega
        have HT := Lib.hid (tears_step s _ k _ hz)
        have HSL := Lib.hid (hsl.below HBR.out hB)
        generalize hig : s.waiting.getD k 0 = i at *
        have hin : i < n := by rw [HN.out]; exact hi
        obtain ⟨b2, o2, c2', ev2, hb2, _, hg2⟩ := HR2.out.at_ hin
        obtain ⟨b1, o1, c1', ev1, hb1, _, hg1⟩ := HR1.out.at_ hin
        injection ev2 with ev2 _ ec2
        injection ev1 with ev1 _ ec1
        subst ev1 ev2 ec1 ec2
        have e3 := (HBR.out.cell (p := ⟨b2, o2 + i, none⟩) hb2).trans hg2
        have e4 := (HBR.out.cell (p := ⟨b1, o1 + i, none⟩) hb1).trans hg1
        have hb1w : b1 < wr.heap.size := by have := HBR.out.size; omega
        have hb2w : b2 < wr.heap.size := by have := HBR.out.size; omega
        have hst := HO2.out.cellAt i (by omega)
        have hst2 : ((List.range n).map us)[i]? = some (us i) := by simp [hin]
        rw [hst2] at hst
        have hfz := HO2.out.frozenAt i
        obtain ⟨Au2, cu2, eu2, _⟩ := (HE2.out i hin).len
        obtain ⟨Au1, cu1, eu1, _⟩ := (HE1.out i hin).len
        obtain ⟨At, nt, ct, eut, _⟩ := HSL.out
        rw [eu2] at e3
        rw [eu1] at e4
        rw [eut] at e1
        have HSL2 := Lib.hid (eut ▸ HSL.out)
        have HU2 := Lib.hid (eu2 ▸ HE2.out i hin)
        have HU1 := Lib.hid (eu1 ▸ HE1.out i hin)
        have HAT := Lib.hid hat
        have HWI := Lib.hid hwi.2
        clear hat hwi hz hcl hcw1 g0 g1 hsl hwf hlk hg1 hg2 hst2 eu1 eu2 eut hig
        have hgm : gr ∈ gr :: (w.heap.size + 1) :: S := List.mem_cons_self ..
        have hr2 : ∀ x ∈ gr :: (w.heap.size + 1) :: S, x ∈ S ∨ w.heap.size ≤ x := by
          intro x hx
          rcases List.mem_cons.1 hx with rfl | hx
          · exact .inr (by omega)
          · exact hraise x hx
        obtain ⟨m2, hm2⟩ : ∃ m2, m2 = ((s.fw i).getD []).length := ⟨_, rfl⟩
        rw [← hm2] at e3
        obtain ⟨m1, hm1⟩ : ∃ m1, m1 = ((s.fs i).getD noughts).length := ⟨_, rfl⟩
        rw [← hm1] at e4
        have HM2 := Lib.hid hm2; clear hm2
        have HM1 := Lib.hid hm1; clear hm1
        by_cases h1 : kd = 1
        · subst h1
          have hfin : KeptBut wr (wr.drew.setCell ⟨gr, i, none⟩ (.slice Au2 m2 cu2)) (gr :: (w.heap.size + 1) :: S) := kept_drew.trans (kept_set _ _ hgm)
          have hs7 := step_sls (i := i) HELS.out hfin (((HU2.out.raise hr2).kept (kept_of_below HBR.out (Nat.le_refl _))).kept hfin)
          have HS7 := Lib.hid hs7; clear hs7
          go_wp2
          go_still_tail 15, (by kernel_rfl)
          change wpList _ _ _ _ _ wr.drew
          have hne1 : ¬ bl = gr := by omega
          have hne2 : ¬ gr = bl := by omega
          go_wp2
          go_roundw
          case rel =>
            refine ⟨k + 1, fun j => if j = i then .slice Au2 m2 cu2 else us j, by omega, by go_num, by rw [← map_set]; exact (HO2.out.drew.stored i _).1, fun j hj => ?_, (HKP.out.trans kept_drew).trans (kept_set _ _ (by simp))⟩
            rw [HT.out]
            show SlS _ _ _ (((St.tear _ i 1 ts).fs j).getD noughts)
            unfold St.tear
            rw [if_pos rfl]
            show SlS _ _ _ ((upd1 _ i (((s.tears ((s.waiting.zip l).take k)).fw i).getD noughts) j).getD noughts)
            rw [(tears_same _ s).2, getD_some_any HWI.out noughts []]
            have h7 := HS7.out j hj
            rw [← HM2.out] at h7
            exact h7
          case measure => simp [intOf]; omega
        · have hk1 : (kd == 1) = false := beq_false_of_ne h1
          by_cases h2 : kd = 2
          · subst h2
            have hsec : IsSec ((s.fs i).getD noughts) := by
              cases hf : s.fs i with
              | none => exact isSec_noughts
              | some xs => exact HG.out.2.2.1 i xs hf
            have hB2 : B ≤ wr.drew.heap.size := by have := HBR.out.size; show B ≤ wr.heap.size; omega
            have ht := ref_torn (.slice At nt ct) (.slice Au1 m1 cu1) ts ((s.fs i).getD noughts) wr.drew (HSL2.out.drew.more hB2) (by rw [HM1.out]; exact (((HU1.out.raise hr2).kept (kept_of_below HBR.out (Nat.le_refl _))).kept kept_drew).sl) hsec
            have T := Lib.hid ht; clear ht hsec
            have hwb : w.heap.size ≤ wr.heap.size := HBR.out.size
            have hgy : yb ≠ gr := fun e => by subst e; obtain ⟨cs, hcs⟩ := blk_of_own HO.out; exact HY.out.ne_ hcs (by decide) rfl
            have hgw : bw' ≠ gr := by omega
            have hgl : bl ≠ gr := by omega
            have hgd : w.heap.size ≠ gr := by omega
            have hgb1 : b1 ≠ gr := by omega
            go_wp2
            go_region_held3 (fun W => W.cell? ⟨yb, 0, none⟩ = some (.slice (some ⟨gr, 0, none⟩) n c) ∧ W.cell? ⟨bw', k, none⟩ = some (.int .i64 (i : Nat)) ∧ W.cell? ⟨bl, ol + k * 2 + 1, none⟩ = some (.slice At nt ct) ∧ W.cell? ⟨w.heap.size, 0, none⟩ = some (.slice (some ⟨b1, o1, none⟩) n c1) ∧ W.cell? ⟨b1, o1 + i, none⟩ = some (.slice Au1 m1 cu1))
              (first
                | exact ⟨y0, e2, e1, d0, e4⟩
                | exact ⟨z0, z1, z2, z3, z4⟩
                | exact ⟨(far_cell w6 hgy).trans z0, (far_cell w6 hgw).trans z1, (far_cell w6 hgl).trans z2, (far_cell w6 hgd).trans z3, (far_cell w6 hgb1).trans z4⟩)
              (first
                | (go_at_call 59; refine (T.out).mono ?_; rintro e w6 ⟨vt, rfl, hrt, hb⟩; have hb : Below wr.heap.size wr w6 := ⟨hb.os, hb.tape, hb.output, hb.size, hb.block⟩; obtain ⟨Avt, cvt, rfl⟩ := own_form hrt; have z0 := (hb.cell (p := ⟨yb, 0, none⟩) ylt).trans y0; have z1 := (hb.cell (p := ⟨bw', k, none⟩) hbw3).trans e2; have z2 := (hb.cell (p := ⟨bl, ol + k * 2 + 1, none⟩) hbl2).trans e1; have z3 := (hb.cell (p := ⟨w.heap.size, 0, none⟩) dlt).trans d0; have z4 := (hb.cell (p := ⟨b1, o1 + i, none⟩) hb1w).trans e4; have z5 := (hb.cell (p := ⟨gr, i, none⟩) hgrlt2).trans hst; have z6 := (own_below HO2.out hb).frozenAt i; have z7 := Nat.lt_of_lt_of_le hgrlt2 hb.size; have HRT := Lib.hid hrt; clear hrt; have HB6 := Lib.hid hb; clear hb))
            go_wp2
            have hfin : KeptBut wr (w6.setCell ⟨gr, i, none⟩ (.slice Avt 512 cvt)) (gr :: (w.heap.size + 1) :: S) := (kept_of_below HB6.out (Nat.le_refl _)).trans (kept_set _ _ hgm)
            have hSw : ∀ x ∈ gr :: (w.heap.size + 1) :: S, x < wr.heap.size := by
              intro x hx
              rcases List.mem_cons.1 hx with rfl | hx
              · exact hgrlt2
              · have := hS0 x hx; omega
            have htl : ∀ x ∈ torn ts ((s.fs i).getD noughts), x < 256 := by
              have h1 := HSL.out.lt
              have h2 := HU1.out.lt
              intro x hx
              rcases List.mem_append.1 hx with hx | hx
              · exact h1 x (List.mem_of_mem_take hx)
              · exact h2 x (List.mem_of_mem_drop hx)
            have hs7 := step_sls (i := i) HELS.out hfin (((slS_own HRT.out htl (by omega) hSw).kept (kept_set _ _ hgm)))
            have HS7 := Lib.hid hs7; clear hs7
            go_roundw
            case rel =>
              refine ⟨k + 1, fun j => if j = i then .slice Avt 512 cvt else us j, by omega, by go_num, by rw [← map_set]; exact ((own_below HO2.out HB6.out).stored i _).1, fun j hj => ?_, (HKP.out.trans (kept_of_below HB6.out (Nat.le_refl _))).trans (kept_set _ _ (by simp))⟩
              rw [HT.out]
              show SlS _ _ _ (((St.tear _ i 2 ts).fs j).getD noughts)
              unfold St.tear
              rw [if_neg (by omega), if_pos rfl]
              show SlS _ _ _ ((upd1 _ i (torn ts (((s.tears ((s.waiting.zip l).take k)).fs i).getD noughts)) j).getD noughts)
              rw [HAT.out]
              exact HS7.out j hj
            case measure => simp [intOf]; omega
          · have hk2 : (kd == 2) = false := beq_false_of_ne h2
            go_wp2
            go_roundw
            case rel =>
              refine ⟨k + 1, us, by omega, by go_num, HO2.out, fun j hj => ?_, HKP.out⟩
              rw [HT.out]
              show SlS _ _ _ (((St.tear _ i kd ts).fs j).getD noughts)
              unfold St.tear
              rw [if_neg h1, if_neg h2]
              exact HELS.out j hj
            case measure => simp [intOf]; omega
      · have hke : k = KK := by omega
        subst hke
        have hfull : (s.waiting.zip l).take k = s.waiting.zip l := List.take_of_length_le (by rw [List.length_zip, ← HM.out, HLL.out, HKK.out]; exact Nat.le_refl _)
        rw [hfull] at HELS
        have hyk := HKP.out.blk HY.out (fun e => (by simp at e; subst e; obtain ⟨cs, hcs⟩ := blk_of_own HO.out; exact HY.out.ne_ hcs (by decide) rfl))
        have hkk := HKP.out.blk HKC.out (by simp; omega)
        have hrk := HKP.out.blk HRB.out (by simp; exact fun e => hgrb e.symm)
        have y1 := hyk.cell 1
        have y2 := hyk.cell 2
        have y3 := hyk.cell 3
        have q0 := hkk.cell 0
        have q1 := hkk.cell 1
        have q2 := hkk.cell 2
        have q3 := hkk.cell 3
        have p0 := hkk.frozen 0
        have p1 := hkk.frozen 1
        have p2 := hkk.frozen 2
        have p3 := hkk.frozen 3
        have hkl := hkk.lt
        simp at y1 y2 y3 q0 q1 q2 q3
        rw [HMC.out] at hrk
        have hra : RefAt wr ((w.heap.size + 1) :: S) (.agg #[.slice (some ⟨gr, 0, none⟩) n c, .slice (some ⟨rb, 0, none⟩) n n, .int .i64 (-1), .bool false]) (s.crash l) := by
          have hn' : (s.crash l).n = n := ((tears_same (s.waiting.zip l) s).1).trans HN.out.symm
          refine ⟨.slice (some ⟨gr, 0, none⟩) n c, .slice (some ⟨rb, 0, none⟩) n n, us, fun _ => nilS, rfl, ?_, ?_, ?_, ?_⟩
          · rw [hn']
            refine (rowS_own HO2.out hS0).ext fun j hj => ?_
            simp [List.getD, hj]
          · rw [hn']
            exact madeRow n hn1 hrk (fun x hx => by have := hS0 x hx; omega)
          · intro j hj
            rw [hn'] at hj
            exact (HELS.out j hj).more (fun x hx => List.mem_cons_of_mem _ hx)
          · intro j hj
            exact slS_nil _ _
        have HRA := Lib.hid hra; clear hra hyk hkk hrk
        have hfinal : ∀ (hh : (decide ((k : Int) < m) = false) ∨ (decide ((k : Int) < nl) = false)), True := fun _ => trivial
        clear hfinal
        by_cases hkm2 : k < m
        · have hkn2 : ¬ k < nl := by have := HKK.out; omega
          go_wp2
          exact bodyPost_ret (v := .agg #[.slice (some ⟨gr, 0, none⟩) n c, .slice (some ⟨rb, 0, none⟩) n n, .int .i64 (-1), .bool false]) (by simp [results, Tryz.results20, go_sem, q0, q1, q2, q3, hkl]) rfl ⟨_, rfl, (HRA.out.kept (set4_kept (KeptBut.refl _ _) (List.mem_cons_self ..))).more (fun x hx => List.mem_cons_of_mem _ hx), set4_below HBR.out (by omega)⟩
        · go_wp2
          exact bodyPost_ret (v := .agg #[.slice (some ⟨gr, 0, none⟩) n c, .slice (some ⟨rb, 0, none⟩) n n, .int .i64 (-1), .bool false]) (by simp [results, Tryz.results20, go_sem, q0, q1, q2, q3, hkl]) rfl ⟨_, rfl, (HRA.out.kept (set4_kept (KeptBut.refl _ _) (List.mem_cons_self ..))).more (fun x hx => List.mem_cons_of_mem _ hx), set4_below HBR.out (by omega)⟩
end Go.Proofs.YtnenbocjfekmfaaGreat.Dsk
/- What a crash leaves in each sector (layer 3), by the place of it among those that wait. Pure. -/
namespace Go.Proofs.YtnenbocjfekmfaaGreat.Dsk
open Go.RowKit Go.Maps Go.Shelf Go.Proofs.YtnenbocjfekmfaaGreat.Mem
set_option linter.unusedVariables false
end Go.Proofs.YtnenbocjfekmfaaGreat.Dsk
/- The contract of a disk's Clone (layer 3). -/
namespace Go.Proofs.YtnenbocjfekmfaaGreat.Dsk
open Go.RowKit Go.Maps Go.Proofs.YtnenbocjfekmfaaGreat.Mem
set_option linter.unusedVariables false
set_option linter.unusedSimpArgs false
set_option maxRecDepth 20000 in
set_option maxHeartbeats 4000000 in
theorem clone_any (g bs bw : Nat) (s : St) (w : World) (h : DiskAt w g bs bw s) :
    Calls Tryz.prog 62 #[ptr g] w fun e w' => ∃ g' bs' bw', e = .returned (ptr g') ∧ DiskAt w' g' bs' bw' s ∧ Below w.heap.size w w' ∧ (∀ x ∈ [g', bs', bw'], w.heap.size ≤ x) := by
  have c1 := isNone_no g bs bw s w h
  have C1 := Lib.hid c1; clear c1
  have T := Lib.hid clone_map
  have k0 := h.c0
  have k1 := h.c1
  have k2 := h.c2
  have k3 := h.c3
  have k4 := h.c4
  have hlt := h.1.lt
  have H := Lib.hid h; clear h
  obtain ⟨n, fs, fw, L, dead⟩ := s
  simp only at k0 k1 k2 k3 k4
  go_enter Tryz.func62, Tryz.ntmps62
  go_wp2_with (go_at_call 56; refine (C1.out).mono ?_; rintro e w' ⟨rfl, rfl⟩)
  have HD1 := Lib.hid (H.out.alloc (Obj.cells #[.int .i64 (n : Nat), .map (some bs), .map (some bw), .int .i64 L, .bool dead] 68))
  have KC1 := Lib.hid (Blk.new w 68 #[.int .i64 (n : Nat), .map (some bs), .map (some bw), .int .i64 L, .bool dead])
  have HB1 := Lib.hid ((Below.refl w.heap.size w).alloc (Nat.le_refl _) (Obj.cells #[.int .i64 (n : Nat), .map (some bs), .map (some bw), .int .i64 L, .bool dead] 68))
  have hcs := KC1.out.lt
  have hbs := H.out.2.1.lt
  have hgc : g ≠ w.heap.size := by omega
  have hgc2 : w.heap.size ≠ g := by omega
  have hbw := H.out.2.2.1.lt
  generalize w.alloc (Obj.cells #[.int .i64 (n : Nat), .map (some bs), .map (some bw), .int .i64 L, .bool dead] 68) = w1 at *
  have HP := Lib.hid H.out.2.2.2.2; clear H k0 k3 k4
  generalize hcw : w.heap.size = c at *
  have HCW := Lib.hid hcw; clear hcw
  have k1 := HD1.out.c1
  have k2 := HD1.out.c2
  have hgs := HD1.out.1.lt
  have HS1 := Lib.hid HD1.out.2.1
  have HW1 := Lib.hid HD1.out.2.2.1
  have y1 := KC1.out.cell 1
  have y2 := KC1.out.cell 2
  have z1 := KC1.out.frozen 1
  have z2 := KC1.out.frozen 2
  simp at k1 k2 y1 y2
  clear HD1
  go_region_held3 (fun W => W.cell? ⟨g, 1, none⟩ = some (.map (some bs)) ∧ W.cell? ⟨g, 2, none⟩ = some (.map (some bw)))
    (first
      | go_keep
      | exact ⟨k1, k2⟩)
    (first
      | (go_at_call 92; refine (T.out bs fs _ (by exact HS1.out)).mono ?_; rintro e w2 ⟨rfl, hm, hb⟩; have hb : Below w1.heap.size w1 w2 := ⟨hb.os, hb.tape, hb.output, hb.size, hb.block⟩; have FA : Hid (SMap w2 w1.heap.size fs) := hm; clear hm; have hcs2 : c < w2.heap.size := Nat.lt_of_lt_of_le hcs hb.size; have hgs2 : g < w2.heap.size := Nat.lt_of_lt_of_le hgs hb.size; have hp2 := FA.out.lt; have k1 := (hb.cell (p := ⟨g, 1, none⟩) hgs).trans k1; have k2 := (hb.cell (p := ⟨g, 2, none⟩) hgs).trans k2; have kc2 := KC1.out.below hb hcs; have y1 := kc2.cell 1; have y2 := kc2.cell 2; have z1 := kc2.frozen 1; have z2 := kc2.frozen 2; simp at y1 y2; have KC2 := Lib.hid kc2; clear kc2; have HW2 := Lib.hid (HW1.out.kept (grown_of_below (row := none) hb) (by simp)); have hx2 := HW2.out.kept (grown_set w2 ⟨c, 1, none⟩ (.map (some w1.heap.size))) (by simp; omega); have HW3 := Lib.hid hx2; clear hx2; have HB2 := Lib.hid (HB1.out.trans (hb.mono (by omega))); clear hb)
      | (go_at_call 92; refine (T.out bw fw _ (by exact HW2.out)).mono ?_; rintro e w3 ⟨rfl, hm, hb⟩; have hb : Below w2.heap.size w2 w3 := hb.mono (by simp); have SB : Hid (SMap w3 w2.heap.size fw) := hm; clear hm; have k1 := (hb.cell (p := ⟨g, 1, none⟩) hgs2).trans k1; have k2 := (hb.cell (p := ⟨g, 2, none⟩) hgs2).trans k2; have hcs3 : c < w3.heap.size := Nat.lt_of_lt_of_le (by simpa using hcs2) hb.size; have hp3 := SB.out.lt; have FA3 := Lib.hid (FA.out.kept (grown_of_below (row := none) (hb.mono (by simp))) (by simp)); have kc3 := KC2.out.below hb hcs2; have y1 := kc3.cell 1; have y2 := kc3.cell 2; have z1 := kc3.frozen 1; have z2 := kc3.frozen 2; simp at y1 y2; have KC3 := Lib.hid kc3; clear kc3; have HB3 := Lib.hid (HB2.out.trans (hb.mono (by omega))); clear hb))
  go_wp2
  go_ret
  have q1 := grown_set w3 ⟨c, 1, none⟩ (.map (some w1.heap.size))
  have q2 := grown_set (w3.setCell ⟨c, 1, none⟩ (.map (some w1.heap.size))) ⟨c, 2, none⟩ (.map (some w2.heap.size))
  obtain ⟨r1, r2, r3, r4, r5⟩ := HP.out
  rw [HCW.out]
  refine ⟨c, w1.heap.size, w2.heap.size, rfl, ⟨?_, (FA3.out.kept q1 (by simp; omega)).kept q2 (by simp; omega), (SB.out.kept q1 (by simp; omega)).kept q2 (by simp; omega), by omega, r1, r2, r3, r4, r5⟩, (HB3.out.setCell (Nat.le_refl _) _).setCell (Nat.le_refl _) _, by simp; omega⟩
  exact (KC3.out.set_ 1 _).set_ 2 _
end Go.Proofs.YtnenbocjfekmfaaGreat.Dsk
/- The plain steps of a disk's state keep it fine (layer 3). -/
namespace Go.Proofs.YtnenbocjfekmfaaGreat.Dsk
open Go.RowKit Go.Maps Go.Shelf Go.Proofs.YtnenbocjfekmfaaGreat.Mem
set_option linter.unusedVariables false
/-- a state that a disk may have -/
def Fine (s : St) : Prop := Good s ∧ ∀ i, s.n ≤ i → s.fw i = none
theorem DiskAt.fine {w : World} {g bs bw : Nat} {s : St} (h : DiskAt w g bs bw s) : Fine s := ⟨h.good, h.2.2.2.2.2.2.2.2⟩
theorem fine_act {s : St} (h : Fine s) : Fine s.act.1 := by
  obtain ⟨⟨h1, h2, h3, h4, h5, h6⟩, h7⟩ := h
  unfold St.act
  split
  · exact ⟨⟨h1, h2, h3, h4, h5, h6⟩, h7⟩
  · exact ⟨⟨h1, h2, h3, h4, by simp only; split <;> omega, by simp only; split <;> omega⟩, h7⟩
theorem act_same (s : St) : s.act.1.n = s.n ∧ s.act.1.fw = s.fw ∧ s.act.1.fs = s.fs := by
  unfold St.act
  split <;> exact ⟨rfl, rfl, rfl⟩
theorem upd_sec {f : Nat → Option (List Nat)} {i : Nat} {xs : List Nat} (h : ∀ j ys, f j = some ys → IsSec ys) (hx : IsSec xs) : ∀ j ys, upd1 f i xs j = some ys → IsSec ys := by
  intro j ys e
  unfold upd1 at e
  split at e
  · injection e with e
    exact e ▸ hx
  · exact h j ys e
theorem fine_write {s : St} (h : Fine s) (n : Int) (xs : List Nat) (hx : ∀ x ∈ xs, x < 256) : Fine (s.write n xs).1 := by
  unfold St.write
  split
  · exact h
  · split
    · rename_i hc
      split
      · obtain ⟨⟨h1, h2, h3, h4, h5, h6⟩, h7⟩ := fine_act h
        refine ⟨⟨h1, h2, h3, upd_sec h4 ⟨hc.2.2, hx⟩, h5, h6⟩, fun i hi => ?_⟩
        have hn := (act_same s).1
        simp only at hi ⊢
        unfold upd1
        rw [if_neg (by omega)]
        exact h7 i hi
      · exact fine_act h
    · exact h
theorem secD {f : Nat → Option (List Nat)} (h : ∀ j ys, f j = some ys → IsSec ys) (i : Nat) : IsSec ((f i).getD noughts) := by
  cases e : f i with
  | some ys => exact h i ys e
  | none => exact isSec_noughts
end Go.Proofs.YtnenbocjfekmfaaGreat.Dsk
/- An act of a disk, as a value and as a step of its state; what a reference's disk looks like (layer 3). -/
namespace Go.Proofs.YtnenbocjfekmfaaGreat.Dsk
open Go.RowKit Go.Maps Go.Shelf Go.Proofs.YtnenbocjfekmfaaGreat.Mem
set_option linter.unusedVariables false
set_option linter.unusedSimpArgs false
/-- an act -/
structure Ac where
  what : Int
  n : Int
  b : List Nat
  short : Bool
  tears : List (Int × List Nat)
def Ac.bytes (a : Ac) : List Nat := if a.short = true then a.b else torn a.b noughts
def St.step (s : St) (a : Ac) : St :=
  if a.what = 0 then (s.write a.n a.bytes).1 else if a.what = 1 then s.flush.1 else if a.what = 2 then { s with left := a.n } else if a.what = 3 then s.crash a.tears else s
theorem ref_form {w : World} {S : List Nat} {v : Value} {s : St} (h : RefAt w S v s) : ∃ A1 A2 c1 c2, v = refV (.slice A1 s.n c1) (.slice A2 s.n c2) s := by
  obtain ⟨v1, v2, us1, us2, rfl, h1, h2, _⟩ := h
  obtain ⟨A1, c1, rfl, _⟩ := h1
  obtain ⟨A2, c2, rfl, _⟩ := h2
  exact ⟨A1, A2, c1, c2, rfl⟩
theorem raise4 {w : World} {S : List Nat} {x : Nat} {v : Value} {s : St} (h : RefAt w S v s) (hx : w.heap.size ≤ x) : RefAt w (x :: S) v s := h.raise (raise_cons hx)
end Go.Proofs.YtnenbocjfekmfaaGreat.Dsk
/- The law's own helper of layer 3: Like. -/
namespace Go.Proofs.YtnenbocjfekmfaaGreat.Dsk
open Go.RowKit Go.Maps Go.Shelf Go.Proofs.YtnenbocjfekmfaaGreat.Mem
set_option linter.unusedVariables false
set_option linter.unusedSimpArgs false
set_option maxRecDepth 20000 in
set_option maxHeartbeats 4000000 in
theorem like_any (g bs bw : Nat) (S : List Nat) (s : St) (v : Value) (w : World) (hd : DiskAt w g bs bw s) (hr : RefAt w S v s) :
    Calls Tryz.prog 23 #[ptr g, v] w fun e w' => e = .returned (.bool true) ∧ Below w.heap.size w w' := by
  obtain ⟨A1, A2, c1, c2, rfl⟩ := ref_form hr
  have hg := hd.good
  have hn1 := hg.2.1
  have cD := fun (W : World) (hW : Below w.heap.size w W) => dead_any g bs bw s W (hd.below hW)
  have cS := fun (W : World) (hW : Below w.heap.size w W) => size_any g bs bw s W (hd.below hW)
  have cW := fun (W : World) (hW : Below w.heap.size w W) => waits_any g bs bw s W (hd.below hW)
  have cV := fun (W : World) (hW : Below w.heap.size w W) => ref_waiting S _ s W hg (hr.below hW)
  have cR := fun (W : World) (i : Nat) (hi : i < s.n) (hW : Below w.heap.size w W) => read_any g bs bw s i W (hd.below hW)
  have cG := fun (W : World) (i : Nat) (hi : i < s.n) (hW : Below w.heap.size w W) => ref_get S _ s i W hg (hr.below hW) hi
  have hrd : ∀ i : Nat, i < s.n → s.read i = if s.dead = true then ([], 7) else (s.get i, 0) := by
    intro i hi
    unfold St.read
    split
    · rfl
    · rw [if_pos ⟨by omega, by omega⟩, Int.toNat_natCast]
  obtain ⟨m, hm⟩ : ∃ m, m = s.waiting.length := ⟨_, rfl⟩
  rw [← hm] at cW cV
  have hm1 : m ≤ 1024 := by
    have h1 := wt_le s s.n
    have h3 : (wt s s.n).length = s.waiting.length := rfl
    omega
  have CD := Lib.hid cD; clear cD
  have CS := Lib.hid cS; clear cS
  have CW := Lib.hid cW; clear cW
  have CR := Lib.hid cR; clear cR
  have HRD := Lib.hid hrd; clear hrd
  have HM := Lib.hid hm; clear hm
  have CV := Lib.hid cV; clear cV
  have CG := Lib.hid cG; clear cG
  clear hd hr hg
  unfold refV at CV CG ⊢
  generalize s.n = n at *
  generalize armedOf s.left = ar at *
  have hbb : (s.dead != s.dead) = false := by simp
  have hnn : ((n : Int) != (n : Int)) = false := by simp
  have hmm : ((m : Int) != (m : Int)) = false := by simp
  generalize hdd : s.dead = dd at *
  clear hdd
  have hb0 : Below w.heap.size w (w.alloc (dcells A1 A2 n n c1 c2 ar dd)) := (Below.refl _ w).alloc (Nat.le_refl _) _
  have k0 : Blk (w.alloc (dcells A1 A2 n n c1 c2 ar dd)) w.heap.size 36 #[.slice A1 n c1, .slice A2 n c2, .int .i64 ar, .bool dd] := Blk.new _ _ _
  have HB0 := Lib.hid hb0; clear hb0
  have K0 := Lib.hid k0; clear k0
  go_enter Tryz.func23, Tryz.ntmps23
  go_wp2
  generalize w.alloc (dcells A1 A2 n n c1 c2 ar dd) = w1 at *
  have a0 := K0.out.cell 0
  have a1 := K0.out.cell 1
  have a2 := K0.out.cell 2
  have a3 := K0.out.cell 3
  have l0 := K0.out.lt
  simp at a0 a1 a2 a3
  go_quiet (first
    | (go_at_call 28; exact quiet_left (CD.out _ (below_drewN HB0.out _)))
    | (go_at_call 33; exact quiet_left (CS.out _ (below_drewN HB0.out _))))
  go_wp2
  generalize hq : World.drewN w1 _ = w2
  have HB2 := Lib.hid (show Below w.heap.size w w2 by rw [← hq]; exact below_drewN HB0.out _)
  have K2 := Lib.hid (show Blk w2 w.heap.size 36 #[.slice A1 n c1, .slice A2 n c2, .int .i64 ar, .bool dd] by rw [← hq]; exact K0.out.drewN _)
  clear hq a0 a1 a2 a3 l0
  have a0 := K2.out.cell 0
  have a1 := K2.out.cell 1
  have a2 := K2.out.cell 2
  have a3 := K2.out.cell 3
  have l0 := K2.out.lt
  simp at a0 a1 a2 a3
  go_region_held3 (fun W => W.cell? ⟨w.heap.size, 0, none⟩ = some (.slice A1 n c1) ∧ W.cell? ⟨w.heap.size, 1, none⟩ = some (.slice A2 n c2) ∧ W.cell? ⟨w.heap.size, 2, none⟩ = some (.int .i64 ar) ∧ W.cell? ⟨w.heap.size, 3, none⟩ = some (.bool dd))
    (first
      | with_reducible exact ⟨a0, a1, a2, a3⟩
      | with_reducible exact ⟨e0, e1, e2, e3⟩
      | with_reducible exact ⟨f0, f1, f2, f3⟩
      | go_keep)
    (first
      | (go_at_call 30; refine (CW.out _ (by exact HB2.out.drew)).mono ?_; rintro e w3 ⟨v3, rfl, hrow, hb⟩; have hb : Below w2.heap.size w2 w3 := ⟨hb.os, hb.tape, hb.output, hb.size, hb.block⟩; obtain ⟨A3, c3, rfl, h3⟩ := own_ints hrow HM.out.symm; have k3 := K2.out.below hb l0; have e0 := k3.cell 0; have e1 := k3.cell 1; have e2 := k3.cell 2; have e3 := k3.cell 3; have e4 := k3.lt; simp at e0 e1 e2 e3; have K3 := Lib.hid k3; clear k3; have HB3 := Lib.hid (HB2.out.trans (hb.mono HB2.out.size)); have H3 := Lib.hid h3; clear h3 hrow hb)
      | (go_at_call 58; refine (CV.out _ HB3.out).mono ?_; rintro e w4 ⟨v4, rfl, hrow, hb⟩; obtain ⟨A4, c4, rfl, h4⟩ := own_ints hrow HM.out.symm; have k4 := K3.out.below hb e4; have f0 := k4.cell 0; have f1 := k4.cell 1; have f2 := k4.cell 2; have f3 := k4.cell 3; have f4 := k4.lt; simp at f0 f1 f2 f3; have K4 := Lib.hid k4; clear k4; have HB4 := Lib.hid (HB3.out.trans (hb.mono HB3.out.size)); have H4 := Lib.hid h4; have HB34 := Lib.hid hb; clear h4 hrow hb))
  go_wp2
  go_loopw [7] (fun i wr => (∃ k : Nat, k ≤ m ∧ i = .int .i64 k) ∧ ∃ q, wr = w4.drewN q) (fun i _ => m - (intOf i).toNat)
  case atStart => exact ⟨⟨0, Nat.zero_le _, rfl⟩, 0, rfl⟩
  case round =>
    obtain ⟨⟨k, hk, rfl⟩, q, rfl⟩ := hrel
    by_cases hlt : k < m
    · obtain ⟨b3, rfl, _, hb3, hc3⟩ := H3.out (by omega)
      obtain ⟨b4, rfl, _, hb4, hc4⟩ := H4.out (by omega)
      have g3 := (HB34.out.cell (p := ⟨b3, k, none⟩) hb3).trans (hc3 k hlt)
      have g4 := hc4 k hlt
      have hb3' : b3 < w4.heap.size := Nat.lt_of_lt_of_le hb3 HB34.out.size
      clear hc3 hc4
      generalize s.waiting.getD k 0 = x at g3 g4
      have hxx : ((x : Int) != (x : Int)) = false := by simp
      go_wp2
      go_quiet (fail)
      go_wp2
      go_roundw
      case rel => exact ⟨⟨k + 1, by omega, by go_num⟩, _, rfl⟩
      case measure => simp [intOf]; omega
    · have hkm : k = m := by omega
      subst hkm
      clear hlt hk
      generalize hq : World.drewN w4 q = w5
      have HB5 := Lib.hid (show Below w.heap.size w w5 by rw [← hq]; exact below_drewN HB4.out _)
      have K5 := Lib.hid (show Blk w5 w.heap.size 36 #[.slice A1 n c1, .slice A2 n c2, .int .i64 ar, .bool dd] by rw [← hq]; exact K4.out.drewN _)
      clear hq a0 a1 a2 a3 l0 e0 e1 e2 e3 e4 f0 f1 f2 f3 f4
      go_wp2
      go_loopw [8] (fun i wr => ∃ k : Nat, k ≤ n ∧ i = .int .i64 k ∧ Below w5.heap.size w5 wr) (fun i _ => n - (intOf i).toNat)
      case atStart => exact ⟨0, Nat.zero_le _, rfl, Below.refl _ _⟩
      case round =>
        obtain ⟨j, hj, rfl, hbel⟩ := hrel
        have k6 := K5.out.below hbel K5.out.lt
        have a0 := k6.cell 0
        have a1 := k6.cell 1
        have a2 := k6.cell 2
        have a3 := k6.cell 3
        have l0 := k6.lt
        simp at a0 a1 a2 a3
        have K6 := Lib.hid k6; clear k6
        have HB6 := Lib.hid (HB5.out.trans (hbel.mono HB5.out.size))
        have HBL := Lib.hid hbel; clear hbel
        by_cases hlt : j < n
        · have cr := CR.out wr j hlt HB6.out
          have hr := HRD.out j hlt
          rw [hr] at cr
          clear hr
          cases dd with
          | true =>
            rw [if_pos rfl] at cr
            have RR := Lib.hid cr; clear cr
            go_wp2_with (go_at_call 60; refine (RR.out).mono ?_; rintro e w7 ⟨v7, rfl, hs, hb⟩; obtain ⟨A7, c7, rfl, _⟩ := hs.len; have k7 := K6.out.below hb l0; have b0 := k7.cell 0; have b1 := k7.cell 1; have b2 := k7.cell 2; have b3 := k7.cell 3; have b4 := k7.lt; simp at b0 b1 b2 b3; clear k7 hs; have HB7 := Lib.hid (HBL.out.trans (hb.mono HBL.out.size)); clear hb)
            go_roundw
            case rel => exact ⟨j + 1, by omega, by go_num, HB7.out⟩
            case measure => simp [intOf]; omega
          | false =>
            rw [if_neg (by simp)] at cr
            have RR := Lib.hid cr; clear cr
            go_wp2_with (first
              | (go_at_call 60; refine (RR.out).mono ?_; rintro e w7 ⟨v7, rfl, hs, hb⟩; obtain ⟨A7, n7, c7, rfl, hbt, _⟩ := hs; have k7 := K6.out.below hb l0; have b0 := k7.cell 0; have b1 := k7.cell 1; have b2 := k7.cell 2; have b3 := k7.cell 3; have b4 := k7.lt; simp at b0 b1 b2 b3; clear k7; have HBT := Lib.hid hbt; clear hbt; have GG := Lib.hid (CG.out w7 j hlt (HB6.out.trans (hb.mono HB6.out.size))); have HB7 := Lib.hid (HBL.out.trans (hb.mono HBL.out.size)); clear hb)
              | (go_at_call 40; refine (GG.out).mono ?_; rintro e w8 ⟨u8, rfl, hs, hb⟩; obtain ⟨A8, n8, c8, rfl, hbt8, _⟩ := (hs.sl.below hb (Nat.le_refl _)); have sm := rsame_any A7 A8 n7 n8 c7 c8 _ _ _ _ w8 (HBT.out.below hb (Nat.le_refl _)) hbt8; rw [decide_eq_true rfl] at sm; have SM := Lib.hid sm; clear sm hbt8 hs; have HB8 := Lib.hid (HB7.out.trans (hb.mono HB7.out.size)); clear hb)
              | (go_at_call 21; refine (SM.out).mono ?_; rintro e w9 ⟨rfl, q9, rfl⟩; have HB9 := Lib.hid (below_drewN HB8.out q9)))
            go_roundw
            case rel => exact ⟨j + 1, by omega, by go_num, HB9.out⟩
            case measure => simp [intOf]; omega
        · have hjn : j = n := by omega
          subst hjn
          go_wp2
          go_ret
          exact ⟨rfl, HB6.out⟩
end Go.Proofs.YtnenbocjfekmfaaGreat.Dsk
/- The law's own helper of layer 3: Light: are acts not too great? -/
namespace Go.Proofs.YtnenbocjfekmfaaGreat.Dsk
open Go.RowKit Go.Maps Go.Shelf Go.Proofs.YtnenbocjfekmfaaGreat.Mem
set_option linter.unusedVariables false
set_option linter.unusedSimpArgs false
/-- the slices that act i holds -/
def ActLens (w : World) (b off i : Nat) : Prop :=
  ∃ (Ab : Option Addr) (nb cb : Nat) (At : Option Addr) (nt ct : Nat), w.cell? ⟨b, off + i * 5 + 2, none⟩ = some (.slice Ab nb cb) ∧ w.cell? ⟨b, off + i * 5 + 4, none⟩ = some (.slice At nt ct) ∧
    (0 < nt → ∃ bt ot, At = some ⟨bt, ot, none⟩ ∧ bt < w.heap.size ∧ ∀ k, k < nt → ∃ (Au : Option Addr) (nu cu : Nat), w.cell? ⟨bt, ot + k * 2 + 1, none⟩ = some (.slice Au nu cu))
/-- .. and that they are not too great -/
def ActFits (w : World) (b off i : Nat) : Prop :=
  ∀ (Ab : Option Addr) (nb cb : Nat) (At : Option Addr) (nt ct : Nat), w.cell? ⟨b, off + i * 5 + 2, none⟩ = some (.slice Ab nb cb) → w.cell? ⟨b, off + i * 5 + 4, none⟩ = some (.slice At nt ct) →
    nb ≤ 600 ∧ nt ≤ 40 ∧ ∀ bt ot, At = some ⟨bt, ot, none⟩ → ∀ k, k < nt → ∀ (Au : Option Addr) (nu cu : Nat), w.cell? ⟨bt, ot + k * 2 + 1, none⟩ = some (.slice Au nu cu) → nu ≤ 600
set_option maxRecDepth 20000 in
set_option maxHeartbeats 4000000 in
theorem light_any (A : Option Addr) (len cap : Nat) (w : World) (hlen : len ≤ 9223372036854775807) (h : 0 < len → ∃ b off, A = some ⟨b, off, none⟩ ∧ b < w.heap.size ∧ ∀ i, i < len → ActLens w b off i) :
    Calls Tryz.prog 31 #[.slice A len cap] w fun e w' => ∃ t, e = .returned (.bool t) ∧ w = w' ∧ (t = true ↔ len ≤ 40 ∧ ∀ b off, A = some ⟨b, off, none⟩ → ∀ i, i < len → ActFits w b off i) := by
  have H := Lib.hid h; clear h
  go_enter Tryz.func31, Tryz.ntmps31
  go_wp2
  go_loopw [3] (fun i wr => (∃ k : Nat, k ≤ len ∧ k ≤ 41 ∧ i = .int .i64 k ∧ ∀ b off, A = some ⟨b, off, none⟩ → ∀ j, j < k → ActFits w b off j) ∧ wr = w) (fun i _ => len - (intOf i).toNat)
  case atStart => exact ⟨⟨0, Nat.zero_le _, by omega, rfl, fun _ _ _ j hj => absurd hj (by omega)⟩, rfl⟩
  case round =>
    obtain ⟨⟨k, hk, hk41, rfl, hfit⟩, rfl⟩ := hrel
    have HF := Lib.hid hfit; clear hfit
    by_cases hlt : k < len ∧ k ≤ 40
    · obtain ⟨h1, h2⟩ := hlt
      obtain ⟨b, off, rfl, hb, hl⟩ := H.out (by omega)
      obtain ⟨Ab, nb, cb, At, nt, ct, c2, c4, ht⟩ := hl k h1
      have HT := Lib.hid ht; clear ht hl
      have C2 := Lib.hid c2
      have C4 := Lib.hid c4
      by_cases hnb : nb ≤ 600
      · by_cases hnt : nt ≤ 40
        · have hd1 : decide (600 < (nb : Int)) = false := by simp; omega
          have hd2 : decide (40 < (nt : Int)) = false := by simp; omega
          go_wp2
          go_loopw [4] (fun i wr' => (∃ q : Nat, q ≤ nt ∧ i = .int .i64 q ∧ ∀ bt ot, At = some ⟨bt, ot, none⟩ → ∀ j, j < q → ∀ (Au : Option Addr) (nu cu : Nat), wr.cell? ⟨bt, ot + j * 2 + 1, none⟩ = some (.slice Au nu cu) → nu ≤ 600) ∧ wr' = wr) (fun i _ => nt - (intOf i).toNat)
          case atStart => exact ⟨⟨0, Nat.zero_le _, rfl, fun _ _ _ j hj => absurd hj (by omega)⟩, rfl⟩
          case round =>
            obtain ⟨⟨q, hq, rfl, hqf⟩, rfl⟩ := hrel
            have HQ := Lib.hid hqf; clear hqf
            by_cases hqt : q < nt
            · obtain ⟨bt, ot, rfl, hbt, hct⟩ := HT.out (by omega)
              obtain ⟨Au, nu, cu, cq⟩ := hct q hqt
              have CQ := Lib.hid cq
              clear hct
              by_cases hnu : nu ≤ 600
              · have hd3 : decide (600 < (nu : Int)) = false := by simp; omega
                go_wp2
                go_roundw
                case rel =>
                  refine ⟨⟨q + 1, by omega, by go_num, fun bt' ot' e j hj Au' nu' cu' hc => ?_⟩, trivial⟩
                  by_cases hjq : j < q
                  · exact HQ.out bt' ot' e j hjq Au' nu' cu' hc
                  · obtain rfl : j = q := by omega
                    injection e with e
                    injection e with e1 e2 _
                    subst e1 e2
                    rw [CQ.out] at hc
                    injection hc with hc
                    injection hc with _ hc _
                    omega
                case measure => simp [intOf]; omega
              · have hd3 : decide (600 < (nu : Int)) = true := by simp; omega
                go_wp2
                go_ret
                exact ⟨false, rfl, rfl, fun e => (by cases e), fun ⟨_, hl⟩ => absurd ((hl b off rfl k h1 _ _ _ _ _ _ C2.out C4.out).2.2 bt ot rfl q hqt _ _ _ CQ.out) hnu⟩
            · obtain rfl : q = nt := by omega
              go_wp2
              go_roundw
              case rel =>
                refine ⟨⟨k + 1, by omega, by omega, by go_num, fun b' off' e j hj => ?_⟩, trivial⟩
                by_cases hjk : j < k
                · exact HF.out b' off' e j hjk
                · obtain rfl : j = k := by omega
                  injection e with e
                  injection e with e1 e2 _
                  subst e1 e2
                  intro Ab' nb' cb' At' nt' ct' h2' h4'
                  rw [C2.out] at h2'
                  rw [C4.out] at h4'
                  injection h2' with h2'
                  injection h2' with _ h2'' _
                  injection h4' with h4'
                  injection h4' with h4a h4b _
                  subst h4a h4b
                  exact ⟨by omega, by omega, fun bt ot e k hk Au nu cu hc => HQ.out bt ot e k hk Au nu cu hc⟩
              case measure => simp [intOf]; omega
        · have hd1 : decide (600 < (nb : Int)) = false := by simp; omega
          have hd2 : decide (40 < (nt : Int)) = true := by simp; omega
          go_wp2
          go_ret
          exact ⟨false, rfl, rfl, fun e => (by cases e), fun ⟨_, hl⟩ => absurd (hl b off rfl k h1 _ _ _ _ _ _ C2.out C4.out).2.1 hnt⟩
      · have hd1 : decide (600 < (nb : Int)) = true := by simp; omega
        go_wp2
        go_ret
        exact ⟨false, rfl, rfl, fun e => (by cases e), fun ⟨_, hl⟩ => absurd (hl b off rfl k h1 _ _ _ _ _ _ C2.out C4.out).1 hnb⟩
    · by_cases hkl : k < len
      · have hk40 : ¬ k ≤ 40 := by omega
        have hd : decide ((len : Int) ≤ 40) = false := by simp; omega
        clear hlt
        go_wp2
        go_ret
        exact ⟨false, rfl, rfl, fun e => (by cases e), fun ⟨hl, _⟩ => by omega⟩
      · obtain rfl : k = len := by omega
        clear hlt
        by_cases h40 : k ≤ 40
        · have hd : decide ((k : Int) ≤ 40) = true := by simp; omega
          go_wp2
          go_ret
          exact ⟨true, rfl, rfl, fun _ => ⟨h40, fun b off e i hi => HF.out b off e i hi⟩, fun _ => rfl⟩
        · have hd : decide ((k : Int) ≤ 40) = false := by simp; omega
          go_wp2
          go_ret
          exact ⟨false, rfl, rfl, fun e => (by cases e), fun ⟨hl, _⟩ => absurd hl h40⟩
end Go.Proofs.YtnenbocjfekmfaaGreat.Dsk
/- Acts that came in (layer 3): from what a law is told of its slice to Light. -/
namespace Go.Proofs.YtnenbocjfekmfaaGreat.Dsk
open Go.RowKit Go.Maps Go.Shelf Go.Proofs.YtnenbocjfekmfaaGreat.Mem
set_option linter.unusedVariables false
set_option linter.unusedSimpArgs false
def TearR (w : World) (j : Nat) (v : Value) : Prop := match j with | 0 => NumOf .i64 v | 1 => RowOf .u8 w v | _ => True
def TearsR (w : World) (v : Value) : Prop := ∃ A l c, v = .slice A l c ∧ IsRecs w A l c 2 (TearR w)
theorem list_of {α : Type} {n : Nat} {P : Nat → α → Prop} (h : ∀ i, i < n → ∃ x, P i x) : ∃ l : List α, l.length = n ∧ ∀ i, i < n → ∃ x, l[i]? = some x ∧ P i x := by
  induction n with
  | zero => exact ⟨[], rfl, fun i hi => absurd hi (by omega)⟩
  | succ n ih =>
    obtain ⟨l, hl, hp⟩ := ih (fun i hi => h i (by omega))
    obtain ⟨x, hx⟩ := h n (by omega)
    refine ⟨l ++ [x], by simp [hl], fun i hi => ?_⟩
    by_cases e : i < n
    · obtain ⟨y, h1, h2⟩ := hp i e
      exact ⟨y, by rw [List.getElem?_append_left (by omega)]; exact h1, h2⟩
    · obtain rfl : i = n := by omega
      exact ⟨x, by rw [List.getElem?_append_right (by omega)]; simp [hl], hx⟩
theorem tears_of {w : World} {A : Option Addr} {n c : Nat} (h : IsRecs w A n c 2 (TearR w)) (hn : n ≤ 40)
    (hu : ∀ bt ot, A = some ⟨bt, ot, none⟩ → ∀ k, k < n → ∀ (Au : Option Addr) (nu cu : Nat), w.cell? ⟨bt, ot + k * 2 + 1, none⟩ = some (.slice Au nu cu) → nu ≤ 600) : ∃ l, TearsAt w w.heap.size (.slice A n c) l := by
  by_cases h0 : 0 < n
  · obtain ⟨b, off, rfl, hb, hc⟩ := rec_at h (by omega) h0
    obtain ⟨l, hl, hp⟩ := list_of (α := Int × List Nat) (n := n) (P := fun i p => ∃ u, w.cell? ⟨b, off + i * 2, none⟩ = some (.int .i64 p.1) ∧ w.cell? ⟨b, off + i * 2 + 1, none⟩ = some u ∧ Sl w w.heap.size u p.2 ∧ (Lit.int .i64 p.1).wf = true) (fun i hi => by
      obtain ⟨v0, c0, k, rfl, wk⟩ := hc i hi 0 (by omega)
      obtain ⟨v1, c1, A1, l1, c1', zs, rfl, w1⟩ := hc i hi 1 (by omega)
      obtain ⟨xs, hs, _⟩ := sl_of_row w1 (Nat.le_trans (hu b off rfl i hi A1 l1 c1' c1) (by omega))
      exact ⟨(k, xs), _, c0, c1, hs, wk⟩)
    exact ⟨l, _, _, _, rfl, hl, by omega, fun _ => ⟨b, off, rfl, hb, fun i hi => by
      obtain ⟨p, h1, u, h2, h3, h4, h5⟩ := hp i hi
      exact ⟨p.1, u, p.2, h1, h2, h3, h4, h5⟩⟩⟩
  · obtain rfl : n = 0 := by omega
    exact ⟨[], _, _, _, rfl, rfl, by omega, fun h => absurd h (by omega)⟩
theorem recs_len {w : World} {A : Option Addr} {n c m : Nat} {R : Nat → Value → Prop} (h : IsRecs w A n c m R) : n ≤ 9223372036854775807 := by
  rcases h with ⟨_, rfl, _⟩ | ⟨x, _, h1, h2, _⟩
  · omega
  · unfold maxLen at h2; omega
end Go.Proofs.YtnenbocjfekmfaaGreat.Dsk
