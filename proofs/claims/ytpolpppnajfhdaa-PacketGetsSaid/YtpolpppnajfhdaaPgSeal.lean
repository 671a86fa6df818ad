/- Seal and the reference Seal (layer 1): the bytes with their check behind, in memory of the call. Condition: at most 2000 bytes. -/
import Derived.Test.YtpolpppnajfhdaaPgIn
import Derived.Laws.AppendOwnNone
namespace Go.Proofs.Ytpolpppnajfhdaa.Crc
open Go.RowKit
def vals (xs : List Nat) : List Value := xs.map fun (x : Nat) => Value.int .u8 (x : Int)
theorem vals_length (xs : List Nat) : (vals xs).length = xs.length := by simp [vals]
theorem vals_one (xs : List Nat) : ∀ u ∈ vals xs, u.oneCell' = true := by
  intro u hu
  simp only [vals, List.mem_map] at hu
  obtain ⟨x, _, rfl⟩ := hu
  rfl
theorem vals_append (xs ys : List Nat) : vals (xs ++ ys) = vals xs ++ vals ys := by simp [vals]
theorem vals_at {xs : List Nat} {j : Nat} {u : Value} (h : (vals xs)[j]? = some u) : j < xs.length ∧ u = .int .u8 (xs.getD j 0 : Nat) := by
  have hl : j < xs.length := by
    have := (List.getElem?_eq_some_iff.1 h).1
    rwa [vals_length] at this
  refine ⟨hl, ?_⟩
  simp only [vals, List.getElem?_map, List.getElem?_eq_getElem hl, Option.map_some, Option.some.injEq] at h
  rw [← h]
  simp [List.getD, List.getElem?_eq_getElem hl]
theorem vals_get (xs : List Nat) (j : Nat) (h : j < xs.length) : (vals xs)[j]? = some (.int .u8 (xs.getD j 0 : Nat)) := by
  simp [vals, List.getD, List.getElem?_eq_getElem h]
/-- where the address is given, the cells lie there -/
theorem bts_cells {w : World} {B n : Nat} {ad : Addr} {xs : List Nat} (h : Bts w B (some ad) n xs) : ∀ j u, (vals xs)[j]? = some u → w.cell? (ad.add j) = some u := by
  intro j u hu
  obtain ⟨hl, rfl⟩ := vals_at hu
  have hn := h.1
  obtain ⟨b, off, e, _, hc⟩ := h.2.2.2 (by omega)
  injection e with e
  subst e
  rw [← hc j (by omega)]
  congr 1
  unfold Addr.add
  split
  · rename_i h0; subst h0; rfl
  · rfl
theorem bts_own {w : World} {base n : Nat} {v : Value} {xs : List Nat} (h : w.ownsRow base 5 1 v n (vals xs)) (hx : ∀ x ∈ xs, x < 256) (hn : n ≤ 1000000) :
    ∃ A c, v = .slice A n c ∧ Bts w w.heap.size A n xs ∧ n ≤ c ∧ c ≤ maxLen := by
  have hl : xs.length = n := by have := h.1; rw [vals_length] at this; omega
  rcases h.2 with ⟨rfl, rfl⟩ | ⟨g, cap, cur, rfl, hg, hh, hnc, hm, hs, ht⟩
  · exact ⟨none, 0, rfl, ⟨hl, hx, hn, fun h0 => absurd h0 (by omega)⟩, by omega, by unfold maxLen; omega⟩
  · have hlt : g < w.heap.size := (h.lt g rfl).2
    exact ⟨_, cap, rfl, bts_row hlt hx hn hl fun i hi => by rw [h.cellAt i (by omega), vals_get xs i (by omega)], hnc, hm⟩
def tail4 (q : Nat) : List Nat := [q / 16777216, q / 65536 % 256, q / 256 % 256, q % 256]
def sealed (xs : List Nat) : List Nat := xs ++ tail4 (crc xs)
theorem tail4_lt {q : Nat} (h : q < 4294967296) : ∀ x ∈ tail4 q, x < 256 := by
  intro x hx
  simp only [tail4, List.mem_cons, List.not_mem_nil, or_false] at hx
  rcases hx with rfl | rfl | rfl | rfl <;> omega
theorem sealed_lt {xs : List Nat} (h : ∀ x ∈ xs, x < 256) : ∀ x ∈ sealed xs, x < 256 := by
  intro x hx
  rcases List.mem_append.1 hx with hx | hx
  · exact h x hx
  · exact tail4_lt (crc_lt xs) x hx
theorem Try.info5 : (Try.prog.info? 5).map (fun i => (i.zero, i.size, i.bytes)) = some (some (.int .u8 0), 1, 1) := by kernel_rfl
theorem of_one_at (W : World) {B n c : Nat} {A : Option Addr} {xs : List Nat} (hb : Bts W B A n xs) (hB : B ≤ W.heap.size) :
    Calls Try.prog 46 #[.slice (some ⟨W.heap.size, 0, none⟩) 1 1] (W.alloc (.cells #[.slice A n c] 29)) fun e w' => e = .returned (.int .u32 (crc xs : Nat)) ∧ W.alloc (.cells #[.slice A n c] 29) = w' :=
  of_one (by rw [World.cell?_alloc_mark]; rfl) (hb.alloc hB _)
theorem lit4 (W : World) (g : Nat) (hg : g = W.heap.size) {A B C D : Int} {a b c d : Nat} (hA : A = (a : Int)) (hB : B = (b : Int)) (hC : C = (c : Int)) (hD : D = (d : Int)) :
    ∀ j u, (vals [a, b, c, d])[j]? = some u → (W.alloc (.cells #[.int .u8 A, .int .u8 B, .int .u8 C, .int .u8 D] 5)).cell? ((⟨g, 0, none⟩ : Addr).add j) = some u := by
  subst hA hB hC hD
  intro j u hu
  have e : (⟨g, 0, none⟩ : Addr).add j = ⟨g, j, none⟩ := by
    unfold Addr.add
    split
    · rename_i h0; subst h0; rfl
    · simp
  rw [e, Joins.cell_alloc_mark_at _ _ _ _ _ _ hg, ← hu]
  match j with
  | 0 => rfl
  | 1 => rfl
  | 2 => rfl
  | 3 => rfl
  | k + 4 => rfl
set_option maxHeartbeats 1000000 in
theorem seal_some (ad : Addr) (n c : Nat) (xs : List Nat) (w : World) (h : n ≤ 2000) (hb : Bts w w.heap.size (some ad) n xs) :
    Calls Try.prog 23 #[.slice (some ad) n c] w fun e w' => ∃ v, e = .returned v ∧ w'.ownsRow w.heap.size 5 1 v (n + 4) (vals (sealed xs)) ∧ Below w.heap.size w w' := by
  obtain ⟨i0, hi, hz0, hz1, hz2⟩ := info_parts Try.info5
  have hcells := bts_cells hb
  have hlen := hb.1
  obtain ⟨q, hq⟩ : ∃ q, q = crc xs := ⟨_, rfl⟩
  have hql : q < 4294967296 := by rw [hq]; exact crc_lt xs
  have c8 := fun (W : World) (hW : Bts W w.heap.size (some ad) n xs) (hB : w.heap.size ≤ W.heap.size) => of_one_at (c := c) W hW hB
  rw [← hq] at c8
  have C8 := Lib.hid c8; clear c8
  have HQ := Lib.hid hq; clear hq
  have HC := Lib.hid hcells; clear hcells
  have HB := Lib.hid hb; clear hb
  have HL := Lib.hid hlen; clear hlen
  have HI := Lib.hid hi; clear hi
  have HZ0 := Lib.hid hz0; clear hz0
  have HZ1 := Lib.hid hz1; clear hz1
  have HZ2 := Lib.hid hz2; clear hz2
  go_enter Try.func23, Try.ntmps23
  go_wp2_with (first
    | (at_make; refine wpList_make_own _ rfl _ _ 29 rfl w.heap.size 5 i0 (.int .u8 0) 1 Try.underlying29 HI.out HZ0.out HZ1.out _ _ _ (n + 4) rfl rfl (by omega) (by rw [HZ2.out]; omega) (by unfold maxLen; omega) (Nat.le_refl _) ?_; intro w1 hown1 hg1)
    | (at_builtin; (refine wpList_append_own _ rfl (.tmp 8) (.tmp 9) 29 rfl w.heap.size 5 i0 (.int .u8 0) 1 1 Try.underlying29 HI.out HZ0.out HZ1.out HZ2.out rfl (by decide) (.slice (some ⟨w.heap.size, 0, none⟩) 0 (n + 4)) 0 [] rfl hown1 ad n c (vals xs) rfl (by rw [vals_length, HL.out, Nat.mul_one]) (fun j u hu => hg1.cell (HC.out j u hu) (by simp)) (vals_one xs) (by unfold maxLen; omega) (by omega) hg1.size ?_; intro v2 w2 hown2 hg2 _; have hbel2 : Below w.heap.size w w2 := (((Below.refl _ _).grown hg1 (Nat.le_refl _) (by simp)).grown hg2 hg1.size (by simp [Value.ownBlock])); have HB2 := Lib.hid (HB.out.below hbel2 (Nat.le_refl _)); have hs2 := hbel2.size))
    | (go_at_call 46; refine (C8.out w2 HB2.out hs2).mono ?_; rintro e w' ⟨rfl, rfl⟩)
    | (at_builtin; (refine wpList_append_own _ rfl (.tmp 14) (.tmp 26) 29 rfl w.heap.size 5 i0 (.int .u8 0) 1 1 Try.underlying29 HI.out HZ0.out HZ1.out HZ2.out rfl (by decide) v2 (0 + n) ([] ++ vals xs) rfl ((hown2.alloc _).alloc _) ⟨w2.heap.size + 1, 0, none⟩ 4 4 (vals (tail4 q)) rfl rfl (lit4 _ _ (by simp) (by omega) (by omega) (by omega) (by omega)) (vals_one _) (by unfold maxLen; omega) (by omega) (by simp; omega) ?_; intro v3 w3 hown3 hg3 _)))
  go_ret
  refine ⟨v3, rfl, ?_, (((hbel2.alloc hs2 _).alloc (by simp; omega) _).grown hg3 (by simp; omega) (fun k hk => (hown2.lt k hk).1))⟩
  have e : [] ++ vals xs ++ vals (tail4 q) = vals (sealed xs) := by rw [HQ.out]; simp [sealed, vals_append]
  have e2 : 0 + n + 4 = n + 4 := by omega
  rw [e, e2] at hown3
  exact hown3
set_option maxHeartbeats 1000000 in
theorem seal_none (xs : List Nat) (w : World) (hb : Bts w w.heap.size none 0 xs) :
    Calls Try.prog 23 #[.slice none 0 0] w fun e w' => ∃ v, e = .returned v ∧ w'.ownsRow w.heap.size 5 1 v (0 + 4) (vals (sealed xs)) ∧ Below w.heap.size w w' := by
  obtain ⟨i0, hi, hz0, hz1, hz2⟩ := info_parts Try.info5
  have hlen := hb.1
  obtain ⟨q, hq⟩ : ∃ q, q = crc xs := ⟨_, rfl⟩
  have hql : q < 4294967296 := by rw [hq]; exact crc_lt xs
  have c8 := fun (W : World) (hW : Bts W w.heap.size none 0 xs) (hB : w.heap.size ≤ W.heap.size) => of_one_at (c := 0) W hW hB
  rw [← hq] at c8
  have C8 := Lib.hid c8; clear c8
  have HQ := Lib.hid hq; clear hq
  have HB := Lib.hid hb; clear hb
  have HL := Lib.hid hlen; clear hlen
  have HI := Lib.hid hi; clear hi
  have HZ0 := Lib.hid hz0; clear hz0
  have HZ1 := Lib.hid hz1; clear hz1
  have HZ2 := Lib.hid hz2; clear hz2
  go_enter Try.func23, Try.ntmps23
  go_wp2_with (first
    | (at_make; refine wpList_make_own _ rfl _ _ 29 rfl w.heap.size 5 i0 (.int .u8 0) 1 Try.underlying29 HI.out HZ0.out HZ1.out _ _ _ (0 + 4) rfl rfl (by omega) (by rw [HZ2.out]; omega) (by unfold maxLen; omega) (Nat.le_refl _) ?_; intro w1 hown1 hg1)
    | (at_builtin; (refine wpList_append_own_none rfl (.tmp 8) (.tmp 9) 29 rfl w.heap.size 5 i0 1 Try.underlying29 HI.out (.slice (some ⟨w.heap.size, 0, none⟩) 0 (0 + 4)) 0 [] rfl hown1 rfl ?_; have hbel2 : Below w.heap.size w w1 := ((Below.refl _ _).grown hg1 (Nat.le_refl _) (by simp)); have HB2 := Lib.hid (HB.out.below hbel2 (Nat.le_refl _)); have hs2 := hbel2.size))
    | (go_at_call 46; refine (C8.out w1 HB2.out hs2).mono ?_; rintro e w' ⟨rfl, rfl⟩)
    | (at_builtin; (refine wpList_append_own _ rfl (.tmp 14) (.tmp 26) 29 rfl w.heap.size 5 i0 (.int .u8 0) 1 1 Try.underlying29 HI.out HZ0.out HZ1.out HZ2.out rfl (by decide) (.slice (some ⟨w.heap.size, 0, none⟩) 0 (0 + 4)) 0 [] rfl ((hown1.alloc _).alloc _) ⟨w1.heap.size + 1, 0, none⟩ 4 4 (vals (tail4 q)) rfl rfl (lit4 _ _ (by simp) (by omega) (by omega) (by omega) (by omega)) (vals_one _) (by unfold maxLen; omega) (by omega) (by simp; omega) ?_; intro v3 w3 hown3 hg3 _)))
  go_ret
  refine ⟨v3, rfl, ?_, (((hbel2.alloc hs2 _).alloc (by simp; omega) _).grown hg3 (by simp; omega) (fun k hk => (hown1.lt k hk).1))⟩
  have e : [] ++ vals (tail4 q) = vals (sealed xs) := by rw [HQ.out, List.eq_nil_of_length_eq_zero HL.out]; simp [sealed]
  rw [e] at hown3
  exact hown3
/-- any slice of at most 2000 bytes, nil too -/
theorem seal_any (A : Option Addr) (n c : Nat) (xs : List Nat) (w : World) (h : n ≤ 2000) (hA : A = none → c = 0) (hb : Bts w w.heap.size A n xs) :
    Calls Try.prog 23 #[.slice A n c] w fun e w' => ∃ v, e = .returned v ∧ w'.ownsRow w.heap.size 5 1 v (n + 4) (vals (sealed xs)) ∧ Below w.heap.size w w' := by
  rcases A with _ | ad
  · have hn : n = 0 := by
      rcases Nat.eq_zero_or_pos n with h0 | h0
      · exact h0
      · obtain ⟨_, _, e, _⟩ := hb.2.2.2 h0
        cases e
    subst hn
    rw [hA rfl]
    exact seal_none xs w hb
  · exact seal_some ad n c xs w h hb
set_option maxHeartbeats 1000000 in
theorem rseal_some (ad : Addr) (n c : Nat) (xs : List Nat) (w : World) (h : n ≤ 2000) (hb : Bts w w.heap.size (some ad) n xs) :
    Calls Try.prog 39 #[.slice (some ad) n c] w fun e w' => ∃ v, e = .returned v ∧ w'.ownsRow w.heap.size 5 1 v (n + 4) (vals (sealed xs)) ∧ Below w.heap.size w w' := by
  obtain ⟨i0, hi, hz0, hz1, hz2⟩ := info_parts Try.info5
  have hcells := bts_cells hb
  have hlen := hb.1
  obtain ⟨q, hq⟩ : ∃ q, q = crc xs := ⟨_, rfl⟩
  have hql : q < 4294967296 := by rw [hq]; exact crc_lt xs
  have c9 := ref_any (some ad) n c _ xs w hb
  rw [← hq] at c9
  have C9 := Lib.hid c9; clear c9
  have HQ := Lib.hid hq; clear hq
  have HC := Lib.hid hcells; clear hcells
  have HB := Lib.hid hb; clear hb
  have HL := Lib.hid hlen; clear hlen
  have HI := Lib.hid hi; clear hi
  have HZ0 := Lib.hid hz0; clear hz0
  have HZ1 := Lib.hid hz1; clear hz1
  have HZ2 := Lib.hid hz2; clear hz2
  have hown1 : (w.alloc (.cells #[] 5)).ownsRow w.heap.size 5 1 (.slice (some ⟨w.heap.size, 0, none⟩) 0 0) 0 [] := World.ownsRow_lit w #[] 0 (Nat.le_refl _) (by unfold maxLen; omega) rfl
  have HO := Lib.hid hown1; clear hown1
  go_enter Try.func39, Try.ntmps39
  go_wp2_with (first
    | (go_at_call 61; refine (C9.out).mono ?_; rintro e w' ⟨rfl, rfl⟩)
    | (at_builtin; (refine wpList_append_own _ rfl (.tmp 6) (.tmp 7) 29 rfl w.heap.size 5 i0 (.int .u8 0) 1 1 Try.underlying29 HI.out HZ0.out HZ1.out HZ2.out rfl (by decide) (.slice (some ⟨w.heap.size, 0, none⟩) 0 0) 0 [] rfl HO.out ad n c (vals xs) rfl (by rw [vals_length, HL.out, Nat.mul_one]) (fun j u hu => (World.cell?_alloc_lt w _ _ (block_lt_of_cell (HC.out j u hu))).trans (HC.out j u hu)) (vals_one xs) (by unfold maxLen; omega) (by omega) (by simp) ?_; intro v2 w2 hown2 hg2 _; have hbel2 : Below w.heap.size w w2 := (((Below.refl _ _).alloc (Nat.le_refl _) _).grown hg2 (by simp) (fun k hk => by simp [Value.ownBlock] at hk; omega)); have hs2 := hbel2.size))
    | (at_builtin; (refine wpList_append_own _ rfl (.tmp 8) (.tmp 23) 29 rfl w.heap.size 5 i0 (.int .u8 0) 1 1 Try.underlying29 HI.out HZ0.out HZ1.out HZ2.out rfl (by decide) v2 (0 + n) ([] ++ vals xs) rfl (hown2.alloc _) ⟨w2.heap.size, 0, none⟩ 4 4 (vals (tail4 q)) rfl rfl (lit4 _ _ (by simp) (by omega) (by omega) (by omega) (by omega)) (vals_one _) (by unfold maxLen; omega) (by omega) (by simp; omega) ?_; intro v3 w3 hown3 hg3 _)))
  go_ret
  refine ⟨v3, rfl, ?_, ((hbel2.alloc hs2 _).grown hg3 (by simp; omega) (fun k hk => (hown2.lt k hk).1))⟩
  have e : [] ++ vals xs ++ vals (tail4 q) = vals (sealed xs) := by rw [HQ.out]; simp [sealed, vals_append]
  have e2 : 0 + n + 4 = n + 4 := by omega
  rw [e, e2] at hown3
  exact hown3
set_option maxHeartbeats 1000000 in
theorem rseal_none (xs : List Nat) (w : World) (hb : Bts w w.heap.size none 0 xs) :
    Calls Try.prog 39 #[.slice none 0 0] w fun e w' => ∃ v, e = .returned v ∧ w'.ownsRow w.heap.size 5 1 v (0 + 4) (vals (sealed xs)) ∧ Below w.heap.size w w' := by
  obtain ⟨i0, hi, hz0, hz1, hz2⟩ := info_parts Try.info5
  have hlen := hb.1
  obtain ⟨q, hq⟩ : ∃ q, q = crc xs := ⟨_, rfl⟩
  have hql : q < 4294967296 := by rw [hq]; exact crc_lt xs
  have c9 := ref_any none 0 0 _ xs w hb
  rw [← hq] at c9
  have C9 := Lib.hid c9; clear c9
  have HQ := Lib.hid hq; clear hq
  have HB := Lib.hid hb; clear hb
  have HL := Lib.hid hlen; clear hlen
  have HI := Lib.hid hi; clear hi
  have HZ0 := Lib.hid hz0; clear hz0
  have HZ1 := Lib.hid hz1; clear hz1
  have HZ2 := Lib.hid hz2; clear hz2
  have hown1 : (w.alloc (.cells #[] 5)).ownsRow w.heap.size 5 1 (.slice (some ⟨w.heap.size, 0, none⟩) 0 0) 0 [] := World.ownsRow_lit w #[] 0 (Nat.le_refl _) (by unfold maxLen; omega) rfl
  have HO := Lib.hid hown1; clear hown1
  go_enter Try.func39, Try.ntmps39
  go_wp2_with (first
    | (go_at_call 61; refine (C9.out).mono ?_; rintro e w' ⟨rfl, rfl⟩)
    | (at_builtin; (refine wpList_append_own_none rfl (.tmp 6) (.tmp 7) 29 rfl w.heap.size 5 i0 1 Try.underlying29 HI.out (.slice (some ⟨w.heap.size, 0, none⟩) 0 0) 0 [] rfl HO.out rfl ?_; have hbel2 : Below w.heap.size w (w.alloc (.cells #[] 5)) := ((Below.refl _ _).alloc (Nat.le_refl _) _)))
    | (at_builtin; (refine wpList_append_own _ rfl (.tmp 8) (.tmp 23) 29 rfl w.heap.size 5 i0 (.int .u8 0) 1 1 Try.underlying29 HI.out HZ0.out HZ1.out HZ2.out rfl (by decide) (.slice (some ⟨w.heap.size, 0, none⟩) 0 0) 0 [] rfl (HO.out.alloc _) ⟨w.heap.size + 1, 0, none⟩ 4 4 (vals (tail4 q)) rfl rfl (lit4 _ _ (by simp) (by omega) (by omega) (by omega) (by omega)) (vals_one _) (by unfold maxLen; omega) (by omega) (by simp; omega) ?_; intro v3 w3 hown3 hg3 _)))
  go_ret
  refine ⟨v3, rfl, ?_, ((hbel2.alloc (by simp) _).grown hg3 (by simp; omega) (fun k hk => (HO.out.lt k hk).1))⟩
  have e : [] ++ vals (tail4 q) = vals (sealed xs) := by rw [HQ.out, List.eq_nil_of_length_eq_zero HL.out]; simp [sealed]
  rw [e] at hown3
  exact hown3
theorem rseal_any (A : Option Addr) (n c : Nat) (xs : List Nat) (w : World) (h : n ≤ 2000) (hA : A = none → c = 0) (hb : Bts w w.heap.size A n xs) :
    Calls Try.prog 39 #[.slice A n c] w fun e w' => ∃ v, e = .returned v ∧ w'.ownsRow w.heap.size 5 1 v (n + 4) (vals (sealed xs)) ∧ Below w.heap.size w w' := by
  rcases A with _ | ad
  · have hn : n = 0 := by
      rcases Nat.eq_zero_or_pos n with h0 | h0
      · exact h0
      · obtain ⟨_, _, e, _⟩ := hb.2.2.2 h0
        cases e
    subst hn
    rw [hA rfl]
    exact rseal_none xs w hb
  · exact rseal_some ad n c xs w h hb
end Go.Proofs.Ytpolpppnajfhdaa.Crc
