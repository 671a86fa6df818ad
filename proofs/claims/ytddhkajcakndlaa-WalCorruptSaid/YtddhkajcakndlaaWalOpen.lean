/- A log is opened (layer 8): the contract of wal.Open. -/
import Derived.Test.YtddhkajcakndlaaNone
import Derived.Test.YtddhkajcakndlaaWalBase
namespace Go.Proofs.Ytddhkajcakndlaa.Wl
open Go.RowKit Go.Proofs.Ytddhkajcakndlaa.Mem Go.Proofs.Ytddhkajcakndlaa.Pg Go.Proofs.Ytddhkajcakndlaa.Rcd Go.Proofs.Ytddhkajcakndlaa.Slt
open Go.Proofs.Ytddhkajcakndlaa.Dsk (KeptBut SMap DiskAt St ptr kept_of_below kept_of_grown kept_drew IsSec NoneAt)
open Go.Proofs.Ytddhkajcakndlaa.Plt (sl plV sl_le sl_pos)
set_option linter.unusedVariables false
set_option linter.unusedSimpArgs false
/-- what opening tells, and leaves -/
structure Opened where
  st : St
  ok : Option Wn
  b : List Nat
  recs : List (List Nat)
  e : Int
def recsS (s : St) (g : Int) : List (List Nat) × Nat := recsOf (logF s.get (2 * sl s.n) g) (lg s.n)
def openP (s : St) : Opened :=
  if s.n < 6 then ⟨s, none, [], [], 1⟩ else if s.dead = true then ⟨s, none, [], [], 7⟩ else if 2147483648 < openMark s then ⟨s, none, [], [], 4⟩ else
    match theBase s.get s.n with
    | some y => ⟨s, some ⟨y.1, openMark s, (recsS s y.1).2, false⟩, y.2, (recsS s y.1).1, 0⟩
    | none => if newD s.get s.n = true then
        (if (firstP s s.n (openMark s)).2 = 0 then ⟨(firstP s s.n (openMark s)).1, some ⟨1, openMark s, 0, false⟩, [], [], 0⟩ else ⟨(firstP s s.n (openMark s)).1, none, [], [], (firstP s s.n (openMark s)).2⟩)
      else ⟨s, none, [], [], 8⟩
theorem new_recs {s : St} {g : Int} (h : newD s.get s.n = true) (hn : 6 ≤ s.n) : recsS s g = ([], 0) := by
  have hs := sl_le s.n
  have hp := sl_pos (k := s.n) (by omega)
  have hx : logF s.get (2 * sl s.n) g 0 = none := by
    unfold newD newTo at h
    rw [List.all_eq_true] at h
    have h1 := h (2 * sl s.n + 0) (by rw [List.mem_range]; omega)
    have e1 : slotAt (sl s.n) 1 = sl s.n := by unfold slotAt; simp
    rw [e1, decide_eq_false (by omega : ¬ 2 * sl s.n + 0 < sl s.n + sl s.n), Bool.and_false, Bool.false_or, decide_eq_true_eq] at h1
    unfold logF
    rw [h1]
    have : got Pg.noughts = none := got_blank
    rw [this]
    rfl
  unfold recsS recsOf
  refine tail_none ?_
  obtain ⟨m, hm⟩ : ∃ m, lg s.n - 0 = m + 1 := ⟨lg s.n - 1, by unfold lg; omega⟩
  rw [hm, run_none hx]
  exact joined_nil rfl
theorem get_sec {w : World} {g bs bw : Nat} {s : St} (h : DiskAt w g bs bw s) (i : Nat) : IsSec (s.get i) := by
  unfold St.get
  cases e : s.fw i with
  | some xs => exact (h.2.2.1.sec e).1
  | none =>
    rw [Option.none_or]
    cases e2 : s.fs i with
    | some xs => exact (h.2.1.sec e2).1
    | none => exact Dsk.isSec_noughts
theorem get_600 {w : World} {g bs bw : Nat} {s : St} (h : DiskAt w g bs bw s) (k : Nat) : ∀ y ∈ ofS s.get k, y.length ≤ 600 := by
  intro y hy
  obtain ⟨i, _, rfl⟩ := ofS_mem hy
  have := (get_sec h i).1
  omega
def OpenOut (w : World) (g bs bw : Nat) (s : St) (e : Ending) (w' : World) : Prop := ∃ (vw : Value) (A : Option Addr) (n c : Nat) (vr : Value), e = .returned (.tuple #[vw, .slice A n c, vr, .int .i64 (openP s).e]) ∧ DiskAt w' g bs bw (openP s).st ∧ KeptBut w w' [g, bs, bw] ∧
  Bts w' w'.heap.size A n (openP s).b ∧ Sls w' w'.heap.size vr (openP s).recs ∧ ((openP s).ok = none → vw = .pointer none) ∧ ∀ v, (openP s).ok = some v → ∃ x, vw = ptr x ∧ w.heap.size ≤ x ∧ WalAt w' x g s.n v
theorem out_none {w w' : World} {g bs bw : Nat} {s : St} (ho : (openP s).ok = none) (hb : (openP s).b = []) (hr : (openP s).recs = []) (hd : DiskAt w' g bs bw (openP s).st) (hk : KeptBut w w' [g, bs, bw]) :
    OpenOut w g bs bw s (.returned (.tuple #[.pointer none, .slice none 0 0, .slice none 0 0, .int .i64 (openP s).e])) w' :=
  ⟨_, _, _, _, _, rfl, hd, hk, by rw [hb]; exact bts_nil _ _ _, by rw [hr]; exact sls_nil _ _, fun _ => rfl, fun v hv => by rw [ho] at hv; cases hv⟩
theorem make_k (k : Nat) (w : World) (h : 6 ≤ k) (h2 : k ≤ 1024) :
    Calls Try.prog 17 #[.int .i64 k] w fun e w' => e = .returned (.tuple #[plV (sl k : Nat) (2 * (sl k : Nat)) (lg k : Nat), .int .i64 0]) ∧ Below w.heap.size w w' := by
  have := Plt.make_yes k w h h2
  rw [lg_eq] at this
  exact this
set_option maxRecDepth 20000 in
set_option maxHeartbeats 2000000 in
theorem open_none (z : Value) (w : World) (h : NoneAt w z) :
    Calls Try.prog 6 #[z] w fun e w' => e = .returned (.tuple #[.pointer none, .slice none 0 0, .slice none 0 0, .int .i64 1]) ∧ Below w.heap.size w w' := by
  have c := Dsk.none_size z w h
  have mk := fun (W : World) => Plt.make_no 0 W (by omega)
  have C := Lib.hid c; clear c
  have MK := Lib.hid mk; clear mk
  clear h
  go_enter Try.func6, Try.ntmps6
  go_wp2_with (first
    | (go_at_call 18; refine (C.out).mono ?_; rintro e w' ⟨rfl, rfl⟩)
    | (go_at_call 17; refine (MK.out _).mono ?_; rintro e w1 ⟨rfl, hb⟩; have HB := Lib.hid hb; clear hb))
  exact bodyPost_ret (v := .tuple #[.pointer none, .slice none 0 0, .slice none 0 0, .int .i64 1]) (by simp [results, Try.results6, go_sem]) rfl ⟨rfl, palloc HB.out _⟩
set_option maxRecDepth 20000 in
set_option maxHeartbeats 2000000 in
theorem open_small (g bs bw : Nat) (s : St) (w : World) (h : DiskAt w g bs bw s) (hn : s.n < 6) :
    Calls Try.prog 6 #[ptr g] w (OpenOut w g bs bw s) := by
  have c := Dsk.size_any g bs bw s w h
  have mk := fun (W : World) => Plt.make_no (s.n : Nat) W (by omega)
  have e0 : openP s = ⟨s, none, [], [], 1⟩ := by unfold openP; rw [if_pos hn]
  have HO := Lib.hid (fun (w' : World) (hb : Below w.heap.size w w') => out_none (w := w) (w' := w') (g := g) (bs := bs) (bw := bw) (s := s) (by rw [e0]) (by rw [e0]) (by rw [e0]) (by rw [e0]; exact h.below hb) (kept_of_below hb (Nat.le_refl _)))
  have E0 := Lib.hid (show (openP s).e = 1 by rw [e0])
  generalize s.n = k at *
  have C := Lib.hid c; clear c
  have MK := Lib.hid mk; clear mk
  clear h e0 hn
  go_enter Try.func6, Try.ntmps6
  go_wp2_with (first
    | (go_at_call 18; refine (C.out).mono ?_; rintro e w' ⟨rfl, rfl⟩)
    | (go_at_call 17; refine (MK.out _).mono ?_; rintro e w1 ⟨rfl, hb⟩; have HB := Lib.hid hb; clear hb))
  have ho := HO.out _ (palloc HB.out (.cells #[.int .i64 0, .int .i64 0, .int .i64 0] 40))
  rw [E0.out] at ho
  exact bodyPost_ret (v := .tuple #[.pointer none, .slice none 0 0, .slice none 0 0, .int .i64 1]) (by simp [results, Try.results6, go_sem]) rfl ho
theorem mark_bounds (ss : List (List Nat)) : 0 ≤ markOf ss ∧ markOf ss ≤ 2147483648 := by
  refine ⟨?_, mark_le (by omega) fun y hy p hp => (win_yes ((may_iff p).1 (got_may hp).1).m).2⟩
  have : ∀ (l : List (List Nat)) (m : Int), 0 ≤ m → 0 ≤ l.foldl markStep m := by
    intro l
    induction l with
    | nil => exact fun m h => h
    | cons y r ih =>
      intro m h
      rw [List.foldl_cons]
      refine ih _ ?_
      unfold markStep
      cases got y with
      | none => exact h
      | some q => show 0 ≤ max m q.mark; omega
  exact this ss 0 (Int.le_refl _)
abbrev plC (k : Nat) : Obj := .cells #[.int .i64 (sl k : Nat), .int .i64 (2 * (sl k : Nat)), .int .i64 (lg k : Nat)] 40
set_option maxRecDepth 20000 in
set_option maxHeartbeats 2000000 in
theorem open_dead (g bs bw : Nat) (s : St) (w : World) (h : DiskAt w g bs bw s) (hn : 6 ≤ s.n) (hn2 : s.n ≤ 1000) (hd : s.dead = true) :
    Calls Try.prog 6 #[ptr g] w (OpenOut w g bs bw s) := by
  have c := Dsk.size_any g bs bw s w h
  have mk := fun (W : World) => make_k s.n W hn (by omega)
  have rd := fun (W : World) (hW : Below w.heap.size w W) => wread_dead g bs bw s W (h.below hW) hd hn2
  have e0 : openP s = ⟨s, none, [], [], 7⟩ := by unfold openP; rw [if_neg (by omega), if_pos hd]
  have HO := Lib.hid (fun (w' : World) (hb : Below w.heap.size w w') => out_none (w := w) (w' := w') (g := g) (bs := bs) (bw := bw) (s := s) (by rw [e0]) (by rw [e0]) (by rw [e0]) (by rw [e0]; exact h.below hb) (kept_of_below hb (Nat.le_refl _)))
  have E0 := Lib.hid (show (openP s).e = 7 by rw [e0])
  generalize s.n = k at *
  have C := Lib.hid c; clear c
  have MK := Lib.hid mk; clear mk
  have RD := Lib.hid rd; clear rd
  clear h e0 hn hn2 hd
  go_enter Try.func6, Try.ntmps6
  go_wp2_with (first
    | (go_at_call 18; refine (C.out).mono ?_; rintro e w' ⟨rfl, rfl⟩)
    | (go_at_call 17; refine (MK.out _).mono ?_; rintro e w1 ⟨rfl, hb⟩; have HB := Lib.hid (palloc hb (plC k)); clear hb)
    | (go_at_call 19; refine (RD.out _ HB.out).mono ?_; rintro e w2 ⟨rfl, hb⟩; have HB2 := Lib.hid (HB.out.trans (hb.mono HB.out.size)); clear hb))
  have ho := HO.out _ HB2.out
  rw [E0.out] at ho
  exact bodyPost_ret (v := .tuple #[.pointer none, .slice none 0 0, .slice none 0 0, .int .i64 7]) (by simp [results, Try.results6, go_sem]) rfl ho
set_option maxRecDepth 20000 in
set_option maxHeartbeats 2000000 in
theorem open_full (g bs bw : Nat) (s : St) (w : World) (h : DiskAt w g bs bw s) (hn : 6 ≤ s.n) (hn2 : s.n ≤ 1000) (hd : s.dead = false) (hm : 2147483648 < openMark s) :
    Calls Try.prog 6 #[ptr g] w (OpenOut w g bs bw s) := by
  have c := Dsk.size_any g bs bw s w h
  have mk := fun (W : World) => make_k s.n W hn (by omega)
  have rd := fun (W : World) (hW : Below w.heap.size w W) => wread_ok g bs bw s W (h.below hW) hd hn2
  have e0 : openP s = ⟨s, none, [], [], 4⟩ := by unfold openP; rw [if_neg (by omega), if_neg (by rw [hd]; simp), if_pos hm]
  have HO := Lib.hid (fun (w' : World) (hb : Below w.heap.size w w') => out_none (w := w) (w' := w') (g := g) (bs := bs) (bw := bw) (s := s) (by rw [e0]) (by rw [e0]) (by rw [e0]) (by rw [e0]; exact h.below hb) (kept_of_below hb (Nat.le_refl _)))
  have E0 := Lib.hid (show (openP s).e = 4 by rw [e0])
  have ma := fun (b : Nat) (W : World) (hS : Sls W W.heap.size (.slice (some ⟨b, 0, none⟩) s.n s.n) (ofS s.get s.n)) => mark_any _ s.n s.n _ W hS hn2 (get_600 h s.n)
  obtain ⟨hm0, hm1⟩ := mark_bounds (ofS s.get s.n)
  have hom : openMark s = markOf (ofS s.get s.n) + 1 := rfl
  rw [hom] at hm
  generalize markOf (ofS s.get s.n) = m at *
  generalize ofS s.get s.n = L at *
  generalize s.n = k at *
  have hdm : decide (2147483648 < m + 1) = true := by simpa using hm
  have C := Lib.hid c; clear c
  have MK := Lib.hid mk; clear mk
  have RD := Lib.hid rd; clear rd
  have MA := Lib.hid ma; clear ma
  clear h e0 hn hn2 hd hom hm
  go_enter Try.func6, Try.ntmps6
  go_wp2_with (first
    | (go_at_call 18; refine (C.out).mono ?_; rintro e w' ⟨rfl, rfl⟩)
    | (go_at_call 17; refine (MK.out _).mono ?_; rintro e w1 ⟨rfl, hb⟩; have HB := Lib.hid (palloc hb (plC k)); clear hb)
    | (go_at_call 19; refine (RD.out _ HB.out).mono ?_; rintro e w2 ⟨b0, rfl, hs, hb⟩; have HS2 := Lib.hid hs; have HB2 := Lib.hid (HB.out.trans (hb.mono HB.out.size)); clear hb hs)
    | (go_at_call 20; refine (MA.out b0 _ HS2.out).mono ?_; rintro e w3 ⟨rfl, hb⟩; have HB3 := Lib.hid (HB2.out.trans (hb.mono HB2.out.size)); clear hb))
  have ho := HO.out _ HB3.out
  rw [E0.out] at ho
  exact bodyPost_ret (v := .tuple #[.pointer none, .slice none 0 0, .slice none 0 0, .int .i64 4]) (by simp [results, Try.results6, go_sem]) rfl ho
section
variable {w : World} {x g bs bw k : Nat} {s : St} {v : Wn} {A : Option Addr} {c : Nat}
theorem base_some {y : Bs} (h : Calls Try.prog 21 #[ptr x, .slice A k c] w (BaseOut w x g bs bw k s v)) (hy : theBase s.get k = some y) :
    Calls Try.prog 21 #[ptr x, .slice A k c] w fun e w' => ∃ A n c, e = .returned (.tuple #[.agg #[.int .i64 y.1, .slice A n c], .int .i64 0]) ∧ Bts w' w'.heap.size A n y.2 ∧ Below w.heap.size w w' := by
  refine h.mono ?_
  rintro e w' (⟨y', A, n, c, h1, h2, h3, h4⟩ | ⟨h1, _⟩ | ⟨h1, _⟩)
  · rw [hy] at h1
    cases h1
    exact ⟨A, n, c, h2, h3, h4⟩
  · rw [hy] at h1; cases h1
  · rw [hy] at h1; cases h1
theorem base_bad (h : Calls Try.prog 21 #[ptr x, .slice A k c] w (BaseOut w x g bs bw k s v)) (hy : theBase s.get k = none) (hn : newD s.get k = false) :
    Calls Try.prog 21 #[ptr x, .slice A k c] w fun e w' => e = .returned (.tuple #[.agg #[.int .i64 0, .slice none 0 0], .int .i64 8]) ∧ Below w.heap.size w w' := by
  refine h.mono ?_
  rintro e w' (⟨y', A, n, c, h1, h2, h3, h4⟩ | ⟨h1, h2, h3, h4⟩ | ⟨h1, h2, _⟩)
  · rw [hy] at h1; cases h1
  · exact ⟨h3, h4⟩
  · rw [hn] at h2; cases h2
theorem base_new (h : Calls Try.prog 21 #[ptr x, .slice A k c] w (BaseOut w x g bs bw k s v)) (hy : theBase s.get k = none) (hn : newD s.get k = true) :
    Calls Try.prog 21 #[ptr x, .slice A k c] w fun e w' => e = .returned (.tuple #[.agg #[.int .i64 1, .slice none 0 0], .int .i64 (firstP s k v.mark).2]) ∧ WalAt w' x g k (v.brk (firstP s k v.mark).2) ∧ DiskAt w' g bs bw (firstP s k v.mark).1 ∧ KeptBut w w' [x, g, bs, bw] := by
  refine h.mono ?_
  rintro e w' (⟨y', A, n, c, h1, h2, h3, h4⟩ | ⟨h1, h2, h3, h4⟩ | ⟨h1, h2, h3, h4, h5, h6⟩)
  · rw [hy] at h1; cases h1
  · rw [hn] at h2; cases h2
  · exact ⟨h3, h4, h5, h6⟩
end
set_option maxRecDepth 20000 in
set_option maxHeartbeats 4000000 in
theorem open_bad (g bs bw : Nat) (s : St) (w : World) (h : DiskAt w g bs bw s) (hn : 6 ≤ s.n) (hn2 : s.n ≤ 1000) (hd : s.dead = false) (hm : ¬ 2147483648 < openMark s) (hy : theBase s.get s.n = none) (hnd : newD s.get s.n = false) :
    Calls Try.prog 6 #[ptr g] w (OpenOut w g bs bw s) := by
  have c := Dsk.size_any g bs bw s w h
  have mk := fun (W : World) => make_k s.n W hn (by omega)
  have rd := fun (W : World) (hW : Below w.heap.size w W) => wread_ok g bs bw s W (h.below hW) hd hn2
  have e0 : openP s = ⟨s, none, [], [], 8⟩ := by unfold openP; rw [if_neg (by omega), if_neg (by rw [hd]; simp), if_neg hm, hy]; simp only; rw [if_neg (by rw [hnd]; simp)]
  have HO := Lib.hid (fun (w' : World) (hb : Below w.heap.size w w') => out_none (w := w) (w' := w') (g := g) (bs := bs) (bw := bw) (s := s) (by rw [e0]) (by rw [e0]) (by rw [e0]) (by rw [e0]; exact h.below hb) (kept_of_below hb (Nat.le_refl _)))
  have E0 := Lib.hid (show (openP s).e = 8 by rw [e0])
  have ma := fun (b : Nat) (W : World) (hS : Sls W W.heap.size (.slice (some ⟨b, 0, none⟩) s.n s.n) (ofS s.get s.n)) => mark_any _ s.n s.n _ W hS hn2 (get_600 h s.n)
  obtain ⟨hm0, hm1⟩ := mark_bounds (ofS s.get s.n)
  have hom : openMark s = markOf (ofS s.get s.n) + 1 := rfl
  rw [hom] at hm
  have ba := fun (b x : Nat) (W : World) (hW : Below w.heap.size w W) (hw : WalAt W x g s.n ⟨0, openMark s, 0, false⟩) (hS : Sls W W.heap.size (.slice (some ⟨b, 0, none⟩) s.n s.n) (ofS s.get s.n)) =>
    base_bad (base_any x g bs bw s.n s ⟨0, openMark s, 0, false⟩ _ s.n W hw (h.below hW) rfl hn hn2 (by simp only; omega) (by simp only; omega) (by simp) hS (get_600 h s.n)) hy hnd
  rw [hom] at ba
  generalize markOf (ofS s.get s.n) = m at *
  generalize ofS s.get s.n = L at *
  generalize s.n = k at *
  have hdm : decide (2147483648 < m + 1) = false := by simpa using hm
  have C := Lib.hid c; clear c
  have MK := Lib.hid mk; clear mk
  have RD := Lib.hid rd; clear rd
  have MA := Lib.hid ma; clear ma
  have BA := Lib.hid ba; clear ba
  clear h e0 hn hn2 hd hom hm hy hnd
  go_enter Try.func6, Try.ntmps6
  go_wp2_with (first
    | (go_at_call 18; refine (C.out).mono ?_; rintro e w' ⟨rfl, rfl⟩)
    | (go_at_call 17; refine (MK.out _).mono ?_; rintro e w1 ⟨rfl, hb⟩; have KP := Lib.hid (Blk.new w1 40 #[.int .i64 (sl k : Nat), .int .i64 (2 * (sl k : Nat)), .int .i64 (lg k : Nat)]); have HB := Lib.hid (palloc hb (plC k)); clear hb)
    | (go_at_call 19; refine (RD.out _ HB.out).mono ?_; rintro e w2 ⟨b0, rfl, hs, hb⟩; have KP2 := Lib.hid (KP.out.below hb KP.out.lt); have HS2 := Lib.hid hs; have HB2 := Lib.hid (HB.out.trans (hb.mono HB.out.size)); clear hb hs)
    | (go_at_call 20; refine (MA.out b0 _ HS2.out).mono ?_; rintro e w3 ⟨rfl, hb⟩; have kp3 := KP2.out.below hb KP2.out.lt; have p0 := kp3.cell 0; have p1 := kp3.cell 1; have p2 := kp3.cell 2; have p3 := kp3.lt; simp at p0 p1 p2; have HS3 := Lib.hid (HS2.out.up (palloc hb (.cells (walCs g k ⟨0, m + 1, 0, false⟩) 42))); have HB3 := Lib.hid (palloc (HB2.out.trans (hb.mono HB2.out.size)) (.cells (walCs g k ⟨0, m + 1, 0, false⟩) 42)); have HW3 := Lib.hid (Blk.new w3 42 (walCs g k ⟨0, m + 1, 0, false⟩)); clear hb kp3)
    | (go_at_call 21; refine (BA.out b0 _ _ HB3.out HW3.out HS3.out).mono ?_; rintro e w5 ⟨rfl, hb⟩; have HB5 := Lib.hid (HB3.out.trans (hb.mono HB3.out.size)); clear hb))
  have ho := HO.out _ (palloc HB5.out zB)
  rw [E0.out] at ho
  exact bodyPost_ret (v := .tuple #[.pointer none, .slice none 0 0, .slice none 0 0, .int .i64 8]) (by simp [results, Try.results6, go_sem]) rfl ho
end Go.Proofs.Ytddhkajcakndlaa.Wl
