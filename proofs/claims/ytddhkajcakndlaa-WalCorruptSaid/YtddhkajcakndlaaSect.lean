/- Sectors, as values, and maps of them (layer 3): what a map[int]sector holds, as a plain function of the sector's number. Condition: the numbers lie below 1024. -/
import Derived.Test.YtddhkajcakndlaaLowAll
import Derived.Deep.WholeRow
import Derived.Laws.CopyOwn
import Derived.Maps.Ext
import Derived.Maps.OwnOps
import Derived.Maps.OwnSet
import Derived.Maps.RangeWalk
namespace Go.Proofs.Ytddhkajcakndlaa.Dsk
open Go.RowKit Go.Maps Go.MapKept Go.ChangeMaps Go.Proofs.Ytddhkajcakndlaa.Mem
set_option linter.unusedVariables false
set_option linter.unusedSimpArgs false
def IsSec (xs : List Nat) : Prop := xs.length = 512 ∧ ∀ x ∈ xs, x < 256
abbrev secV (xs : List Nat) : Value := .agg (vals xs).toArray
def noughts : List Nat := List.replicate 512 0
theorem isSec_noughts : IsSec noughts := ⟨List.length_replicate, fun x hx => by rw [List.eq_of_mem_replicate hx]; decide⟩
def byteOf : Value → Option Nat
  | .int .u8 x => if 0 ≤ x ∧ x < 256 then some x.toNat else none
  | _ => none
def secOf : Value → Option (List Nat)
  | .agg cs => cs.toList.mapM byteOf
  | _ => none
def secR (v : Value) : Option (DataW (List Nat) × List MemPlace) :=
  match secOf v with
  | some xs => if xs.length = 512 then some (.held xs, []) else none
  | none => none
theorem byteOf_mk {x : Nat} (h : x < 256) : byteOf (.int .u8 (x : Int)) = some x := by
  simp [byteOf]
  omega
theorem byteOf_inv {v : Value} {x : Nat} (h : byteOf v = some x) : v = .int .u8 (x : Int) ∧ x < 256 := by
  unfold byteOf at h
  split at h
  · split at h
    · rename_i y hy
      injection h with h
      subst h
      refine ⟨by congr 1; omega, by omega⟩
    · cases h
  · cases h
theorem mapM_byte : ∀ {xs : List Nat}, (∀ x ∈ xs, x < 256) → (vals xs).mapM byteOf = some xs
  | [], _ => rfl
  | x :: r, h => by
    have h1 := byteOf_mk (h x (List.mem_cons_self ..))
    have h2 := mapM_byte (xs := r) (fun y hy => h y (List.mem_cons_of_mem _ hy))
    simp only [vals, List.map_cons] at h2 ⊢
    simp [h1, h2]
theorem mapM_byte_inv : ∀ {l : List Value} {xs : List Nat}, l.mapM byteOf = some xs → l = vals xs ∧ ∀ x ∈ xs, x < 256
  | [], xs, h => by
    simp at h
    subst h
    exact ⟨rfl, by simp⟩
  | v :: r, xs, h => by
    rw [List.mapM_cons] at h
    cases hv : byteOf v with
    | none => simp [hv] at h
    | some x =>
      cases hr : r.mapM byteOf with
      | none => simp [hv, hr] at h
      | some ys =>
        simp [hv, hr] at h
        subst h
        obtain ⟨rfl, hx⟩ := byteOf_inv hv
        obtain ⟨rfl, hy⟩ := mapM_byte_inv hr
        exact ⟨rfl, by intro z hz; rcases List.mem_cons.1 hz with rfl | hz; exact hx; exact hy z hz⟩
theorem secR_mk {xs : List Nat} (h : IsSec xs) : secR (secV xs) = some (.held xs, []) := by
  simp [secR, secOf, mapM_byte h.2, h.1]
theorem secR_inv {v : Value} {y : DataW (List Nat) × List MemPlace} (h : secR v = some y) : ∃ xs, IsSec xs ∧ v = secV xs ∧ y = (.held xs, []) := by
  unfold secR at h
  split at h
  · rename_i xs hx
    split at h
    · rename_i hl
      injection h with h
      subst h
      unfold secOf at hx
      split at hx
      · rename_i cs
        obtain ⟨e, hlt⟩ := mapM_byte_inv hx
        refine ⟨xs, ⟨hl, hlt⟩, ?_, rfl⟩
        rw [secV, ← e]
      · cases hx
    · cases h
  · cases h
theorem keyed : Keyed Try.prog 3 := int_keyed Try.underlying3
theorem info72 : (Try.prog.info? 71).map (fun i => (i.zero, i.size)) = some (some (secV noughts), 512) := by kernel_rfl
theorem zero72 (w : World) : (zeroValue 71).run Try.prog w = .ok (secV noughts) w := (zero_of_info info72).1 w
theorem size72 : (Try.prog.info? 71).map (·.size) = some 512 := (zero_of_info info72).2
theorem key_mk {i : Nat} (hi : i < 1024) : keyOf Try.prog 3 (.int .i64 (i : Int)) = some (.int .i64 (i : Int)) :=
  keyOf_int_mk Try.underlying3 (WalkArith.wf_i64 (by omega))
theorem nodup_le : ∀ (N : Nat) (l : List Nat), l.Nodup → (∀ x ∈ l, x < N) → l.length ≤ N
  | 0, l, _, h => by
    cases l with
    | nil => simp
    | cons x r => exact absurd (h x (List.mem_cons_self ..)) (by omega)
  | N + 1, l, hn, h => by
    have ih := nodup_le N (l.erase N) (hn.erase N) (fun x hx => by
      have h1 := (hn.mem_erase_iff).1 hx
      have h2 := h x h1.2
      have h3 := h1.1
      omega)
    rw [List.length_erase] at ih
    split at ih <;> omega
def natKey : Lit → Nat
  | .int _ x => x.toNat
  | _ => 0
theorem size_bound {es : List (Lit × DataW (List Nat))} {N : Nat} (hp : es.Pairwise (fun p q => p.1 ≠ q.1)) (hk : ∀ p ∈ es, ∃ i : Nat, i < N ∧ p.1 = .int .i64 (i : Int)) : es.length ≤ N := by
  have h := nodup_le N (es.map fun p => natKey p.1) (by
    rw [List.Nodup, List.pairwise_map]
    refine List.Pairwise.imp_of_mem (fun {p q} hpm hqm hne he => hne ?_) hp
    obtain ⟨i, _, hi⟩ := hk p hpm
    obtain ⟨j, _, hj⟩ := hk q hqm
    rw [hi, hj] at he ⊢
    simp [natKey] at he
    rw [he]) (by
    intro x hx
    obtain ⟨p, hpm, rfl⟩ := List.mem_map.1 hx
    obtain ⟨i, hi, e⟩ := hk p hpm
    rw [e]
    simpa [natKey] using hi)
  simpa using h
/-- a map of sectors, as a function of the sector's number -/
def SMap (w : World) (b : Nat) (f : Nat → Option (List Nat)) : Prop :=
  ∃ (D : DataW (List Nat)) (n : Nat), w.ownsMap Try.prog 3 secR b n D ∧ n ≤ 1024 ∧ (∀ kl, Maps.has D kl = true → ∃ i : Nat, i < 1024 ∧ kl = .int .i64 (i : Int)) ∧
    ∀ i : Nat, (f i = none ∧ Maps.has D (.int .i64 (i : Int)) = false) ∨ ∃ xs, f i = some xs ∧ IsSec xs ∧ ∀ zd, D.atKey (.int .i64 (i : Int)) zd = .held xs
theorem owns_size {w : World} {b n : Nat} {D : DataW (List Nat)} (h : w.ownsMap Try.prog 3 secR b n D) (hk : ∀ kl, Maps.has D kl = true → ∃ i : Nat, i < 1024 ∧ kl = .int .i64 (i : Int)) :
    w.ownsMap Try.prog 3 secR b 1024 D := by
  obtain ⟨es', hD', hp, hkl⟩ := h.entries keyed
  obtain ⟨es, clock, hb, F, hs, hD⟩ := h
  refine ⟨es, clock, hb, F, ?_, hD⟩
  have e1 : es'.length = es.size := by
    rw [hD'] at hD
    injection hD with hD
    rw [hD, length_sorted]
    simp
  rw [← e1]
  refine size_bound hp fun p hpm => hk _ ?_
  rw [hD', has_eq, List.any_eq_true]
  refine ⟨p, hpm, ?_⟩
  have := hkl p hpm
  obtain ⟨l, d⟩ := p
  cases l <;> simp_all [Lit.sameKey, WideAt.IsKeyLit]
section
variable {w w' : World} {b : Nat} {f : Nat → Option (List Nat)}
theorem SMap.made (w : World) : SMap (w.alloc (.map #[] 0)) w.heap.size (fun _ => none) :=
  ⟨_, 0, World.ownsMap_made w _ _ _, by omega, fun kl h => by simp [Maps.has] at h, fun i => .inl ⟨rfl, by simp [Maps.has]⟩⟩
theorem SMap.lt (h : SMap w b f) : b < w.heap.size := by
  obtain ⟨D, n, hown, _⟩ := h
  exact hown.lt
theorem SMap.kept {row : Option Nat} (h : SMap w b f) (hg : w.grownBy w' row) (hne : some b ≠ row) : SMap w' b f := by
  obtain ⟨D, n, hown, h1⟩ := h
  exact ⟨D, n, hown.kept hg hne, h1⟩
theorem SMap.ext {f' : Nat → Option (List Nat)} (h : SMap w b f) (e : ∀ i, f i = f' i) : SMap w b f' := by
  have : f = f' := funext e
  rwa [← this]
theorem SMap.sec {i : Nat} {xs : List Nat} (h : SMap w b f) (hf : f i = some xs) : IsSec xs ∧ i < 1024 := by
  obtain ⟨D, n, hown, hn, hk, hat⟩ := h
  rcases hat i with ⟨h0, _⟩ | ⟨ys, h1, h2, h3⟩
  · rw [h0] at hf; cases hf
  · rw [h1] at hf
    injection hf with hf
    subst hf
    obtain ⟨j, hj, e⟩ := hk _ (has_true_of_atKey h3)
    injection e with _ e
    exact ⟨h2, by omega⟩
theorem SMap.secD (h : SMap w b f) (i : Nat) : IsSec ((f i).getD noughts) := by
  cases hf : f i with
  | none => exact isSec_noughts
  | some xs => exact (h.sec hf).1
theorem SMap.look (h : SMap w b f) {i : Nat} (hi : i < 1024) :
    (Instr.lookup 36 (.map (some b)) (.int .i64 (i : Int)) false).run Try.prog w = .ok (secV ((f i).getD noughts)) w := by
  obtain ⟨D, n, hown, hn, hk, hat⟩ := h
  obtain ⟨v, ps, hrun, hv⟩ := hown.lookup keyed Try.underlying36 (zero72 w) (secR_mk isSec_noughts) (key_mk hi)
  rw [hrun]
  obtain ⟨ys, _, rfl, hy⟩ := secR_inv hv
  rcases hat i with ⟨h0, h1⟩ | ⟨xs, h1, h2, h3⟩
  · rw [atKey_of_not_has h1] at hy
    simp at hy
    rw [h0, ← hy.1]
    rfl
  · rw [h3] at hy
    simp at hy
    rw [h1, ← hy.1]
    rfl
theorem SMap.look_ok (h : SMap w b f) {i : Nat} (hi : i < 1024) :
    (Instr.lookup 36 (.map (some b)) (.int .i64 (i : Int)) true).run Try.prog w = .ok (.tuple #[secV ((f i).getD noughts), .bool (f i).isSome]) w := by
  obtain ⟨D, n, hown, hn, hk, hat⟩ := h
  obtain ⟨v, ps, hrun, hv⟩ := hown.look_ok keyed Try.underlying36 (zero72 w) (secR_mk isSec_noughts) (key_mk hi)
  rw [hrun]
  obtain ⟨ys, _, rfl, hy⟩ := secR_inv hv
  rcases hat i with ⟨h0, h1⟩ | ⟨xs, h1, h2, h3⟩
  · rw [atKey_of_not_has h1] at hy
    simp at hy
    rw [h0, h1, ← hy.1]
    rfl
  · rw [h3] at hy
    simp at hy
    rw [h1, has_true_of_atKey h3, ← hy.1]
    rfl
theorem lit_ne {i j : Nat} (h : j ≠ i) : (Lit.int .i64 (j : Int)) ≠ .int .i64 (i : Int) := by
  intro e
  injection e with _ e
  omega
theorem isKeyLit (i : Nat) : WideAt.IsKeyLit (.int .i64 (i : Int)) := by simp [WideAt.IsKeyLit]
theorem owns_put {n : Nat} {D : DataW (List Nat)} {i : Nat} {xs : List Nat} (hm : IsMap D) (hi : i < 1024) (hx : IsSec xs)
    (hk : ∀ kl, Maps.has D kl = true → ∃ i : Nat, i < 1024 ∧ kl = .int .i64 (i : Int))
    (hat : ∀ i : Nat, (f i = none ∧ Maps.has D (.int .i64 (i : Int)) = false) ∨ ∃ xs, f i = some xs ∧ IsSec xs ∧ ∀ zd, D.atKey (.int .i64 (i : Int)) zd = .held xs)
    (hown : w.ownsMap Try.prog 3 secR b n (D.put (.int .i64 (i : Int)) (.held xs))) : SMap w b (fun j => if j = i then some xs else f j) := by
  have hk' : ∀ kl, Maps.has (D.put (.int .i64 (i : Int)) (.held xs)) kl = true → ∃ i : Nat, i < 1024 ∧ kl = .int .i64 (i : Int) := by
    intro kl h
    by_cases e : kl = .int .i64 (i : Int)
    · exact ⟨i, hi, e⟩
    · rw [has_put_other e] at h
      exact hk kl h
  refine ⟨_, 1024, owns_size hown hk', Nat.le_refl _, hk', fun j => ?_⟩
  by_cases e : j = i
  · subst e
    exact .inr ⟨xs, by simp, hx, fun zd => atKey_put_same hm (isKeyLit j) _ _⟩
  · rcases hat j with ⟨h0, h1⟩ | ⟨ys, h1, h2, h3⟩
    · exact .inl ⟨by simp [e, h0], by rw [has_put_other (lit_ne e)]; exact h1⟩
    · exact .inr ⟨ys, by simp [e, h1], h2, fun zd => by rw [atKey_put_other (lit_ne e)]; exact h3 zd⟩
theorem SMap.put (h : SMap w b f) {i : Nat} {xs : List Nat} (hi : i < 1024) (hx : IsSec xs) :
    ∃ w', (Instr.mapUpdate 36 (.map (some b)) (.int .i64 (i : Int)) (secV xs)).run Try.prog w = .ok () w' ∧ SMap w' b (fun j => if j = i then some xs else f j) ∧ w.grownBy w' (some b) := by
  obtain ⟨D, n, hown, hn, hk, hat⟩ := h
  obtain ⟨w', hrun, hown', hg⟩ := hown.update keyed Try.underlying36 (by unfold maxLen; omega) (key_mk hi) (secR_mk hx)
  exact ⟨w', hrun, owns_put hown.isMap hi hx hk hat hown', hg⟩
theorem SMap.wipe (h : SMap w b f) (ty : TypeId) :
    ∃ w', (Builtin.clear_ #[36] ty #[.map (some b)]).run Try.prog w = .ok (.tuple #[]) w' ∧ SMap w' b (fun _ => none) ∧ w.grownBy w' (some b) := by
  obtain ⟨D, n, ⟨es, clock, hb, F, hs, hD⟩, hn, hk, hat⟩ := h
  refine ⟨setBlock w b (.map #[] clock), ?_, ⟨.map [], 0, ⟨#[], clock, heap_setBlock_same hb _, ⟨by simp, stamped_empty _, by simp⟩, by simp, rfl⟩, by omega, fun kl h => by simp [Maps.has] at h, fun i => .inl ⟨rfl, by simp [Maps.has]⟩⟩, ⟨rfl, rfl, rfl, by simp [setBlock], fun i _ hi => heap_setBlock_other hb _ (fun e => hi (by rw [e]))⟩⟩
  simp [Builtin.clear_, run_underlying Try.underlying36, MapKept.run_getObj_map hb, MapKept.run_setObj_map _ hb, Result.andThen]
  rfl
end
end Go.Proofs.Ytddhkajcakndlaa.Dsk
