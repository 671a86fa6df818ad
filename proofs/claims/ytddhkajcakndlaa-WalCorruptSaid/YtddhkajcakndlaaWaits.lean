/- The contract of a disk's Waits (layer 3): the numbers of those that wait, rising. -/
import Derived.Test.YtddhkajcakndlaaFlush
import Derived.Test.YtddhkajcakndlaaKeys
namespace Go.Proofs.Ytddhkajcakndlaa.Dsk
open Go.RowKit Go.Maps Go.Sort Go.Shelf Go.Proofs.Ytddhkajcakndlaa.Mem
set_option linter.unusedVariables false
set_option linter.unusedSimpArgs false
def ints (xs : List Nat) : List Value := xs.map fun (x : Nat) => Value.int .i64 (x : Int)
theorem sortsA (m : Nat) : AnyZI.SortsIn Try.prog Try.sortedA_ren Fence.wide m :=
  ⟨fun blk off cap ss W hH hblk hsz => callsIn_wide.2 (AnyM.slices_Sort_int Try.sortA blk off cap ss W hH hblk hsz),
   fun p cap W => callsIn_wide.2 (AnyM.slices_Sort_int_none Try.sortA p cap W)⟩
theorem keys_perm {es : List (Lit × DataW (List Nat))} {f : Nat → Option (List Nat)} {n : Nat} (hp : es.Pairwise (fun p q => p.1 ≠ q.1)) (hkl : ∀ p ∈ es, WideAt.IsKeyLit p.1)
    (hk : ∀ kl, Maps.has (.map es) kl = true → ∃ i : Nat, i < 1024 ∧ kl = .int .i64 (i : Int))
    (hat : ∀ i : Nat, (f i = none ∧ Maps.has (.map es) (.int .i64 (i : Int)) = false) ∨ ∃ xs, f i = some xs ∧ IsSec xs ∧ ∀ zd, (DataW.map es).atKey (.int .i64 (i : Int)) zd = .held xs)
    (hr : ∀ i, n ≤ i → f i = none) : (intKeys (.map es)).Perm (((List.range n).filter fun i => (f i).isSome).map fun (i : Nat) => (i : Int)) := by
  have hself : ∀ p ∈ es, Maps.has (.map es) p.1 = true := by
    intro p hpm
    rw [has_eq, List.any_eq_true]
    refine ⟨p, hpm, ?_⟩
    have := hkl p hpm
    obtain ⟨l, d⟩ := p
    cases l <;> simp_all [Lit.sameKey, WideAt.IsKeyLit]
  have hnat : ∀ p ∈ es, ∃ i : Nat, i < n ∧ p.1 = .int .i64 (i : Int) ∧ (f i).isSome = true := by
    intro p hpm
    have h1 := hself p hpm
    obtain ⟨i, hi, e⟩ := hk _ h1
    rw [e] at h1
    rcases hat i with ⟨_, h2⟩ | ⟨xs, h2, _, _⟩
    · rw [h1] at h2; cases h2
    · refine ⟨i, ?_, e, by rw [h2]; rfl⟩
      rcases Nat.lt_or_ge i n with h | h
      · exact h
      · rw [hr i h] at h2; cases h2
  rw [List.perm_iff_count]
  intro x
  have n1 : (intKeys (.map es)).Nodup := by
    simp only [intKeys]
    rw [List.Nodup, List.pairwise_map]
    refine List.Pairwise.imp_of_mem (fun {p q} hpm hqm hne he => hne ?_) hp
    obtain ⟨i, _, hi, _⟩ := hnat p hpm
    obtain ⟨j, _, hj, _⟩ := hnat q hqm
    rw [hi, hj] at he ⊢
    have he' : (i : Int) = (j : Int) := he
    rw [he']
  have n2 : (((List.range n).filter fun i => (f i).isSome).map fun (i : Nat) => (i : Int)).Nodup := by
    rw [List.Nodup, List.pairwise_map]
    refine List.Pairwise.imp (fun {a b} h e => h (by omega)) ((List.nodup_range).filter _)
  rw [n1.count, n2.count]
  congr 1
  rw [eq_iff_iff]
  constructor
  · intro h
    simp only [intKeys, List.mem_map] at h
    obtain ⟨p, hpm, rfl⟩ := h
    obtain ⟨i, hi, e, hs⟩ := hnat p hpm
    rw [e]
    exact List.mem_map.2 ⟨i, List.mem_filter.2 ⟨List.mem_range.2 hi, hs⟩, rfl⟩
  · intro h
    obtain ⟨i, hm, rfl⟩ := List.mem_map.1 h
    obtain ⟨hi, hs⟩ := List.mem_filter.1 hm
    rcases hat i with ⟨h0, _⟩ | ⟨xs, h1, _, h2⟩
    · rw [h0] at hs; cases hs
    · have h3 := has_true_of_atKey h2
      rw [has_eq, List.any_eq_true] at h3
      obtain ⟨p, hpm, hsame⟩ := h3
      obtain ⟨j, _, e, _⟩ := hnat p hpm
      rw [e, same_key] at hsame
      simp at hsame
      subst hsame
      simp only [intKeys, List.mem_map]
      exact ⟨p, hpm, by rw [e]; rfl⟩
theorem sort_waiting (s : St) {ss : List Int} (h : ss.Perm (s.waiting.map fun (i : Nat) => (i : Int))) : (ss.mergeSort (fun x y => decide (x ≤ y))).map encZ = ints s.waiting ∧ ss.length = s.waiting.length := by
  have e := mergeSort_of_perm_i h
  refine ⟨?_, by rw [h.length_eq, List.length_map]⟩
  show (ss.mergeSort leI).map encZ = _
  rw [e, List.mergeSort_of_pairwise]
  · simp only [ints, List.map_map]
    rfl
  · rw [List.pairwise_map]
    refine List.Pairwise.imp (fun {a b} h => ?_) ((List.pairwise_lt_range).filter _)
    simp [leI]
    omega
set_option maxRecDepth 20000 in
set_option maxHeartbeats 2000000 in
theorem waits_any (g bs bw : Nat) (s : St) (w : World) (h : DiskAt w g bs bw s) :
    Calls Try.prog 36 #[ptr g] w fun e w' => ∃ v, e = .returned v ∧ w'.ownsRow w.heap.size 3 1 v s.waiting.length (ints s.waiting) ∧ Below w.heap.size w w' := by
  have c1 := isNone_no g bs bw s w h
  have k2 := h.c2
  have hr := h.2.2.2.2.2.2.2.2
  obtain ⟨D, n, hown, hn, hk, hat⟩ := h.2.2.1
  obtain ⟨es, rfl, hp, hkl⟩ := hown.entries keyed
  have hperm := keys_perm hp hkl hk hat hr
  have hsz := hown.size_le
  have HP : Hid ((intKeys (.map es)).Perm (s.waiting.map fun (i : Nat) => (i : Int))) := hperm
  clear hperm hp hkl hk hat hr h
  refine (callsIn_wide (n := 6)).1 ?_
  have hbl := hown.lt
  have hmax : Maps.size (.map es) ≤ maxLen := by unfold maxLen; omega
  have hbytes : Maps.size (.map es) * 8 ≤ 140737488355328 := by omega
  have hseq : SeqGives Fence.wide 2 Try.prog 70 #[.pointer (some ⟨w.heap.size, 0, none⟩)] encZ (fun ss => ss.Perm (intKeys (.map es))) (Maps.size (.map es)) (w.alloc (.cells #[.map (some bw)] 36)) :=
    AnyZI.keys_gives (ρ := Try.keysA_ren) { Try.keysA with } Fence.wide _ trivial rfl (by omega) w.heap.size bw n (.map es) _ (by simp) (by simp) (by
      obtain ⟨es, clock, hb, Ft, hs, hD⟩ := hown
      exact ⟨es, clock, (Below.heap_alloc _ _ bw hbl).trans hb, Ft, hs, hD⟩)
  have cK : ∀ mb W, CallsIn Fence.wide 5 Try.prog 55 #[.map mb] W fun e w' => e = .returned (.func (.func 70) #[] #[.pointer (some ⟨W.heap.size, 0, none⟩)]) ∧ w' = W.alloc (.cells #[.map mb] 36) := fun mb W => AnyZI.keys_in Try.keysA Fence.wide 5 trivial rfl mb W
  have cS := AnyZI.sorted_in Try.sortedA Fence.wide 5 trivial trivial trivial trivial rfl (by omega) (sortsA _) (enters_of Try.func69 (by kernel_rfl) rfl) 70 #[.pointer (some ⟨w.heap.size, 0, none⟩)] trivial (enters_of Try.func70 (by kernel_rfl) rfl) _ _ hmax hbytes _ hseq
  change CallsIn _ _ Try.prog 54 _ _ _ at cS
  have cN : CallsIn Fence.wide 5 Try.prog 35 #[ptr g] w fun e w' => e = .returned (.bool false) ∧ w = w' := callsIn_wide.2 c1
  have hfK : Fence.wide.fn 55 := trivial
  have hfS : Fence.wide.fn 54 := trivial
  have hfN : Fence.wide.fn 35 := trivial
  clear c1 hseq hown
  refine callsIn_of_wp Try.func36 rfl trivial ?_ rfl
  simp only [Try.ntmps36, List.size_toArray, List.length_cons, List.length_nil, Nat.reduceAdd, Nat.reduceSub, Array.replicate_succ, Array.replicate_zero, List.push_toArray, List.append_toArray, List.nil_append, List.cons_append]
  gi_wp2_with (first
    | (gi_at_call 35; refine cN.mono ?_; rintro e w' ⟨rfl, rfl⟩)
    | (gi_at_call 55; refine (cK _ _).mono ?_; rintro e w' ⟨rfl, rfl⟩)
    | (gi_at_call 54; refine cS.mono ?_; rintro e w' ⟨v, ss, rfl, hS, hrow, hnil, hb⟩))
  go_ret
  obtain ⟨e1, e2⟩ := sort_waiting s (hS.trans HP.out)
  rw [e1, e2] at hrow
  exact ⟨v, rfl, ownsRow_base_a hrow (by simp), ((Below.refl _ w).alloc (Nat.le_refl _) _).trans (hb.mono (by simp))⟩
end Go.Proofs.Ytddhkajcakndlaa.Dsk
