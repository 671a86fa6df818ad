/- The contracts of a disk's New and Read (layer 3). -/
import Derived.Test.YtddhkajcakndlaaMeth
namespace Go.Proofs.Ytddhkajcakndlaa.Dsk
open Go.RowKit Go.Maps Go.Proofs.Ytddhkajcakndlaa.Mem
set_option linter.unusedVariables false
set_option linter.unusedSimpArgs false
def St.new (n : Nat) : St := ⟨n, fun _ => none, fun _ => none, -1, false⟩
set_option maxHeartbeats 400000 in
theorem new_ok (n : Nat) (w : World) (h1 : 1 ≤ n) (h2 : n ≤ 1024) :
    Calls Try.prog 4 #[.int .i64 (n : Nat)] w fun e w' => ∃ g bs bw, e = .returned (.tuple #[ptr g, .int .i64 0]) ∧ DiskAt w' g bs bw (St.new n) ∧ Below w.heap.size w w' ∧ (∀ x ∈ [g, bs, bw], w.heap.size ≤ x) := by
  have hmm := @run_makeMap Try.prog
  have hd1 : decide ((n : Int) < 1) = false := by simp; omega
  have hd2 : decide ((1024 : Int) < n) = false := by simp; omega
  go_enter Try.func4, Try.ntmps4
  go_wp2
  go_ret2
  have m1 := (SMap.made w).kept (World.grownBy_alloc (w.alloc (.map #[] 0)) (.map #[] 0) none) (by simp)
  have m2 := SMap.made (w.alloc (.map #[] 0))
  have es : (w.alloc (.map #[] 0)).heap.size = w.heap.size + 1 := by simp
  rw [es] at m2
  have k := World.grownBy_alloc ((w.alloc (.map #[] 0)).alloc (.map #[] 0)) (.cells #[.int .i64 (n : Nat), .map (some w.heap.size), .map (some (w.heap.size + 1)), .int .i64 (-1), .bool false] 38) none
  refine ⟨w.heap.size + 2, w.heap.size, w.heap.size + 1, by simp, ⟨?_, m1.kept k (by simp), m2.kept k (by simp), by simp, h1, h2, by simp [St.new], by simp [St.new], by simp [St.new]⟩, ?_, by simp⟩
  · have := Blk.new ((w.alloc (.map #[] 0)).alloc (.map #[] 0)) 38 #[.int .i64 (n : Nat), .map (some w.heap.size), .map (some (w.heap.size + 1)), .int .i64 (-1), .bool false]
    simpa [St.new] using this
  · exact (((Below.refl _ w).alloc (Nat.le_refl _) (.map #[] 0)).alloc (by simp) (.map #[] 0)).alloc (by simp; omega) _
set_option maxHeartbeats 400000 in
theorem new_no (n : Int) (w : World) (h : ¬ (1 ≤ n ∧ n ≤ 1024)) :
    Calls Try.prog 4 #[.int .i64 n] w fun e w' => e = .returned (.tuple #[.pointer none, .int .i64 1]) ∧ w = w' := by
  by_cases h1 : n < 1
  · have hd1 : decide (n < 1) = true := by simpa using h1
    go_enter Try.func4, Try.ntmps4
    go_wp2
    go_ret2
    exact ⟨rfl, rfl⟩
  · have hd1 : decide (n < 1) = false := by simpa using h1
    have hd2 : decide (1024 < n) = true := by simp; omega
    go_enter Try.func4, Try.ntmps4
    go_wp2
    go_ret2
    exact ⟨rfl, rfl⟩
def St.read (s : St) (i : Int) : List Nat × Int := if s.dead = true then ([], 7) else if 0 ≤ i ∧ i < s.n then (s.get i.toNat, 0) else ([], 1)
theorem cut72 (g : Nat) (w : World) : (Instr.sliceAt 71 (.pointer (some ⟨g, 0, none⟩)) none none none).run Try.prog w = .ok (.slice (some ⟨g, 0, none⟩) 512 512) w := by kernel_rfl
theorem row_sl {w : World} {g : Nat} {t : TypeId} {xs : List Nat} (h : Blk w g t (vals xs).toArray) (hx : IsSec xs) : Sl w w.heap.size (.slice (some ⟨g, 0, none⟩) 512 512) xs := by
  refine ⟨_, 512, 512, rfl, bts_row h.lt hx.2 (by omega) hx.1 fun i hi => ?_, Nat.le_refl _, by unfold maxLen; omega, fun e => by cases e⟩
  rw [h.cell]
  simpa using vals_get xs i (by rw [hx.1]; omega)
theorem vals_all (xs : List Nat) : (vals xs).toArray.all (·.oneCell') = true := by
  rw [Array.all_eq_true_iff_forall_mem]
  intro v hv
  exact vals_one xs v (by simpa using hv)
set_option maxHeartbeats 1000000 in
theorem read_dead (g bs bw : Nat) (s : St) (i : Int) (w : World) (h : DiskAt w g bs bw s) (hd : s.dead = true) :
    Calls Try.prog 38 #[ptr g, .int .i64 i] w fun e w' => e = .returned (.tuple #[.slice none 0 0, .int .i64 7]) ∧ w = w' := by
  have c1 := dead_any g bs bw s w h
  rw [hd] at c1
  have C1 := Lib.hid c1; clear c1
  clear h
  go_enter Try.func38, Try.ntmps38
  go_wp2_with (go_at_call 30; refine (C1.out).mono ?_; rintro e w' ⟨rfl, rfl⟩)
  go_ret2
  exact ⟨rfl, rfl⟩
set_option maxHeartbeats 1000000 in
theorem read_arg (g bs bw : Nat) (s : St) (i : Int) (w : World) (h : DiskAt w g bs bw s) (hd : s.dead = false) (hi : ¬ (0 ≤ i ∧ i < s.n)) :
    Calls Try.prog 38 #[ptr g, .int .i64 i] w fun e w' => e = .returned (.tuple #[.slice none 0 0, .int .i64 1]) ∧ w = w' := by
  have c1 := dead_any g bs bw s w h
  have c2 := has_any g bs bw s i w h
  rw [hd] at c1
  rw [decide_eq_false hi] at c2
  have C1 := Lib.hid c1; clear c1
  have C2 := Lib.hid c2; clear c2
  clear h hi
  go_enter Try.func38, Try.ntmps38
  go_wp2_with (first
    | (go_at_call 30; refine (C1.out).mono ?_; rintro e w' ⟨rfl, rfl⟩)
    | (go_at_call 31; refine (C2.out).mono ?_; rintro e w' ⟨rfl, rfl⟩))
  go_ret2
  exact ⟨rfl, rfl⟩
set_option maxHeartbeats 1000000 in
theorem read_ok (g bs bw : Nat) (s : St) (i : Nat) (w : World) (h : DiskAt w g bs bw s) (hd : s.dead = false) (hi : i < s.n) :
    Calls Try.prog 38 #[ptr g, .int .i64 (i : Nat)] w fun e w' => ∃ v, e = .returned (.tuple #[v, .int .i64 0]) ∧ Sl w' w'.heap.size v (s.get i) ∧ Below w.heap.size w w' := by
  have c1 := dead_any g bs bw s w h
  have c2 := has_any g bs bw s i w h
  rw [hd] at c1
  rw [decide_eq_true ⟨by omega, by omega⟩] at c2
  have C1 := Lib.hid c1; clear c1
  have C2 := Lib.hid c2; clear c2
  have k1 := h.c1
  have k2 := h.c2
  have hw := h.2.2.1
  have hs := h.2.1
  have hi2 : i < 1024 := by have := h.2.2.2.2.2.1; omega
  have hlw := hw.look_ok hi2
  have hls := fun (o : Obj) => (hs.kept (World.grownBy_alloc w o none) (by simp)).look hi2
  have hsw := hw.secD i
  have hss := hs.secD i
  have hz := zero72
  have hcut := cut72
  have hg1 := h.1.lt
  have HI := Lib.hid hi; clear hi
  have HI2 := Lib.hid hi2; clear hi2
  clear h hw hs
  have HSW := Lib.hid hsw; clear hsw
  have HSS := Lib.hid hss; clear hss
  unfold St.get
  generalize s.fw i = fw at *
  generalize s.fs i = fs at *
  cases fw with
  | none =>
    simp only [Option.getD_none, Option.isSome_none] at hlw
    obtain ⟨zs, hzs⟩ : ∃ zs, zs = noughts := ⟨_, rfl⟩
    rw [Option.none_or]
    obtain ⟨xs, hxs⟩ : ∃ xs, xs = fs.getD noughts := ⟨_, rfl⟩
    rw [← hxs]
    simp only [← hxs] at hls HSS
    simp only [← hzs] at hlw hz
    have HZS := Lib.hid (hzs ▸ isSec_noughts); clear hzs
    clear hxs HSW
    go_enter Try.func38, Try.ntmps38
    go_wp2_with (first
      | (go_at_call 30; refine (C1.out).mono ?_; rintro e w' ⟨rfl, rfl⟩)
      | (go_at_call 31; refine (C2.out).mono ?_; rintro e w' ⟨rfl, rfl⟩)
      | (refine wpList_store_row rfl 71 (.tmp 6) (.tmp 21) rfl w.heap.size (vals zs).toArray rfl rfl 71 (vals zs).toArray (heap_alloc_new w _) (by rw [size72]; simp [vals_length, HZS.out.1]) rfl (vals_all _) ?_; rw [World.setRow_alloc_new])
      | (refine wpList_store_row rfl 71 (.tmp 6) (.tmp 30) rfl w.heap.size (vals xs).toArray rfl rfl 71 (vals zs).toArray (heap_alloc_new w _) (by rw [size72]; simp [vals_length, HSS.out.1]) (by simp [vals_length, HSS.out.1, HZS.out.1]) (vals_all _) ?_; rw [World.setRow_alloc_new]))
    go_ret2
    exact ⟨_, rfl, row_sl (Blk.new w 71 _) HSS.out, (Below.refl _ w).alloc (Nat.le_refl _) _⟩
  | some ys =>
    simp only [Option.getD_some, Option.isSome_some] at hlw HSW
    obtain ⟨zs, hzs⟩ : ∃ zs, zs = noughts := ⟨_, rfl⟩
    simp only [← hzs] at hz
    rw [Option.some_or, Option.getD_some]
    have HZS := Lib.hid (hzs ▸ isSec_noughts); clear hzs
    clear HSS hls
    go_enter Try.func38, Try.ntmps38
    go_wp2_with (first
      | (go_at_call 30; refine (C1.out).mono ?_; rintro e w' ⟨rfl, rfl⟩)
      | (go_at_call 31; refine (C2.out).mono ?_; rintro e w' ⟨rfl, rfl⟩)
      | (refine wpList_store_row rfl 71 (.tmp 6) (.tmp 21) rfl w.heap.size (vals ys).toArray rfl rfl 71 (vals zs).toArray (heap_alloc_new w _) (by rw [size72]; simp [vals_length, HSW.out.1]) (by simp [vals_length, HSW.out.1, HZS.out.1]) (vals_all _) ?_; rw [World.setRow_alloc_new]))
    go_ret2
    exact ⟨_, rfl, row_sl (Blk.new w 71 _) HSW.out, (Below.refl _ w).alloc (Nat.le_refl _) _⟩
theorem read_any (g bs bw : Nat) (s : St) (i : Int) (w : World) (h : DiskAt w g bs bw s) :
    Calls Try.prog 38 #[ptr g, .int .i64 i] w fun e w' => ∃ v, e = .returned (.tuple #[v, .int .i64 (s.read i).2]) ∧ Sl w' w'.heap.size v (s.read i).1 ∧ Below w.heap.size w w' := by
  cases hd : s.dead with
  | true =>
    have e : s.read i = ([], 7) := by simp [St.read, hd]
    rw [e]
    refine (read_dead g bs bw s i w h hd).mono ?_
    rintro e w' ⟨rfl, rfl⟩
    exact ⟨_, rfl, sl_nil _ _, Below.refl _ _⟩
  | false =>
    by_cases hi : 0 ≤ i ∧ i < s.n
    · have e : s.read i = (s.get i.toNat, 0) := by simp [St.read, hd, hi]
      rw [e]
      have := read_ok g bs bw s i.toNat w h hd (by omega)
      rw [Int.toNat_of_nonneg hi.1] at this
      exact this
    · have e : s.read i = ([], 1) := by simp only [St.read, hd, if_neg hi]; rfl
      rw [e]
      refine (read_arg g bs bw s i w h hd hi).mono ?_
      rintro e w' ⟨rfl, rfl⟩
      exact ⟨_, rfl, sl_nil _ _, Below.refl _ _⟩
end Go.Proofs.Ytddhkajcakndlaa.Dsk
