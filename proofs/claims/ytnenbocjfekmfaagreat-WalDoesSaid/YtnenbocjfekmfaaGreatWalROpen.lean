/- The reference's log is opened (layer 8): the contract of waymarkref08.Open, for disks of 6 to 1000 sectors. -/
import Derived.Test.YtnenbocjfekmfaaGreatDiskAll
import Derived.Test.YtnenbocjfekmfaaGreatSlotAll
import Derived.Test.YtnenbocjfekmfaaGreatWalAllB
import Derived.Test.YtnenbocjfekmfaaGreatWalRefTurned
import Derived.Test.YtnenbocjfekmfaaGreatWalTail
namespace Go.Proofs.YtnenbocjfekmfaaGreat.Wl
open Go.RowKit Go.Proofs.YtnenbocjfekmfaaGreat.Mem Go.Proofs.YtnenbocjfekmfaaGreat.Pg Go.Proofs.YtnenbocjfekmfaaGreat.Rcd Go.Proofs.YtnenbocjfekmfaaGreat.Slt
open Go.Proofs.YtnenbocjfekmfaaGreat.Dsk (KeptBut SMap DiskAt St kept_of_below kept_of_grown kept_drew RefAt RowS SlS Good refV armedOf IsSec raise4)
open Go.Proofs.YtnenbocjfekmfaaGreat.Plt (sl plV sl_le sl_pos)
set_option linter.unusedVariables false
set_option linter.unusedSimpArgs false
/-- what the reference's Open answers -/
def ROpen (w : World) (S : List Nat) (s : St) (e : Ending) (w' : World) : Prop :=
  ∃ (val : Value) (A : Option Addr) (n c : Nat) (vr : Value), e = .returned (.tuple #[val, .slice A n c, vr, .int .i64 (openP s).e]) ∧ Bts w' w'.heap.size A n (openP s).b ∧ Sls w' w'.heap.size vr (openP s).recs ∧
    ((openP s).ok = none → RWal w' S val (openP s).st 0 0 0 0 0 0 false false) ∧ (∀ v, (openP s).ok = some v → RWal w' S val (openP s).st (sl s.n : Nat) (2 * (sl s.n : Nat)) (lg s.n : Nat) v.gen v.mark (v.next : Nat) v.br true) ∧ Below w.heap.size w w'
abbrev zW : Array Value := #[.slice none 0 0, .slice none 0 0, .int .i64 0, .bool false, .int .i64 0, .int .i64 0, .int .i64 0, .int .i64 0, .int .i64 0, .int .i64 0, .bool false, .bool false]
theorem rsec (S : List Nat) (v : Value) (s : St) (i : Nat) (w : World) (hg : Dsk.Fine s) (h : RefAt w S v s) (hi : i < s.n) :
    Calls Tryz.prog 40 #[v, .int .i64 (i : Nat)] w fun e w' => ∃ A n c, e = .returned (.slice A n c) ∧ Sl w w.heap.size (.slice A n c) (s.get i) ∧ Below w.heap.size w w' := by
  refine (Dsk.ref_get S v s i w hg.1 h hi).mono ?_
  rintro e w' ⟨u, rfl, hs, hb⟩
  obtain ⟨A, n, c, rfl, hx⟩ := hs.sl
  exact ⟨A, n, c, rfl, ⟨A, n, c, rfl, hx⟩, hb⟩
theorem fine_sec {s : St} (h : Dsk.Fine s) (i : Nat) : (s.get i).length = 512 := by
  unfold St.get
  cases e : s.fw i with
  | some xs => exact (h.1.2.2.2.1 i xs e).1
  | none =>
    rw [Option.none_or]
    cases e2 : s.fs i with
    | some xs => exact (h.1.2.2.1 i xs e2).1
    | none => exact List.length_replicate
theorem fine_600 {s : St} (h : Dsk.Fine s) (k : Nat) : ∀ y ∈ ofS s.get k, y.length ≤ 600 := by
  intro y hy
  obtain ⟨i, _, rfl⟩ := ofS_mem hy
  have := fine_sec h i
  omega
theorem ofS_snoc (D : Nat → List Nat) (k : Nat) : ofS D (k + 1) = ofS D k ++ [D k] := by simp [ofS, List.range_succ]
theorem rout_none {w w' : World} {S : List Nat} {s : St} {v1 v2 : Value} (ho : (openP s).ok = none) (hb : (openP s).b = []) (hr : (openP s).recs = []) (hd : RefAt w' S (refV v1 v2 (openP s).st) (openP s).st) (hk : Below w.heap.size w w') :
    ROpen w S s (.returned (.tuple #[.agg (rwA v1 v2 (armedOf (openP s).st.left) (openP s).st.dead 0 0 0 0 0 0 false false), .slice none 0 0, .slice none 0 0, .int .i64 (openP s).e])) w' :=
  ⟨_, none, 0, 0, _, rfl, by rw [hb]; exact bts_nil _ _ _, by rw [hr]; exact sls_nil _ _, fun _ => ⟨_, _, rfl, hd⟩, fun v hv => (by rw [ho] at hv; cases hv), hk⟩
theorem blk4 {w : World} {g : Nat} {t : TypeId} {a b c d : Value} (h : Blk w g t #[a, b, c, d]) : w.cell? ⟨g, 0, none⟩ = some a ∧ w.cell? ⟨g, 1, none⟩ = some b ∧ w.cell? ⟨g, 2, none⟩ = some c ∧ w.cell? ⟨g, 3, none⟩ = some d ∧ g < w.heap.size :=
  ⟨by rw [h.cell]; rfl, by rw [h.cell]; rfl, by rw [h.cell]; rfl, by rw [h.cell]; rfl, h.lt⟩
theorem blk3 {w : World} {g : Nat} {t : TypeId} {a b c : Value} (h : Blk w g t #[a, b, c]) : w.cell? ⟨g, 0, none⟩ = some a ∧ w.cell? ⟨g, 1, none⟩ = some b ∧ w.cell? ⟨g, 2, none⟩ = some c ∧ g < w.heap.size :=
  ⟨by rw [h.cell]; rfl, by rw [h.cell]; rfl, by rw [h.cell]; rfl, h.lt⟩
set_option maxRecDepth 20000 in
set_option maxHeartbeats 2000000 in
theorem ropen_dead (S : List Nat) (A1 A2 : Option Addr) (c1 c2 : Nat) (s : St) (w : World) (hr : RefAt w S (refV (.slice A1 s.n c1) (.slice A2 s.n c2) s) s) (hn : 6 ≤ s.n) (hn2 : s.n ≤ 1000) (hd : s.dead = true) :
    Calls Tryz.prog 11 #[refV (.slice A1 s.n c1) (.slice A2 s.n c2) s] w (ROpen w S s) := by
  have e0 : openP s = ⟨s, none, [], [], 7⟩ := by unfold openP; rw [if_neg (by omega), if_pos hd]
  have ho := fun (w' : World) (hb : Below w.heap.size w w') => rout_none (w := w) (w' := w') (S := S) (s := s) (v1 := .slice A1 s.n c1) (v2 := .slice A2 s.n c2) (by rw [e0]) (by rw [e0]) (by rw [e0]) (by rw [e0]; exact hr.below hb) hb
  rw [e0] at ho
  simp only at ho
  unfold refV
  rw [hd] at ho ⊢
  have HO := Lib.hid ho; clear ho hr hd
  have d1 : decide ((s.n : Int) < 6) = false := by simp; omega
  have d2 : decide ((1024 : Int) < (s.n : Int)) = false := by simp; omega
  clear e0
  generalize armedOf s.left = ar at *
  go_enter Tryz.func11, Tryz.ntmps11
  go_wp2
  refine bodyPost_ret (v := .tuple #[.agg (rwA (.slice A1 s.n c1) (.slice A2 s.n c2) ar true 0 0 0 0 0 0 false false), .slice none 0 0, .slice none 0 0, .int .i64 7]) ?_ rfl (HO.out _ (palloc (palloc (Below.refl _ _) _) _))
  simp [results, Tryz.results11, go_sem]
/-- the first of them -/
theorem sls_h {w : World} {B n cap : Nat} {A : Option Addr} {ss : List (List Nat)} (h : Sls w B (.slice A n cap) ss) (k : Nat) (hk : k ≤ n) :
    ∃ A', (∀ W, (Instr.slice 32 (.slice A n cap) none (some (.int .i64 (k : Nat))) none).run Tryz.prog W = .ok (.slice A' k cap) W) ∧ Sls w B (.slice A' k cap) (ss.take k) := by
  obtain ⟨hl, hnc, hcm⟩ := sls_len h
  have e : ∃ A', sliced A 0 k cap 1 = .slice A' k cap ∧ (0 < n → A' = A) := by
    unfold sliced
    refine ⟨_, rfl, fun hi => ?_⟩
    rw [if_neg (by omega), Nat.zero_mul]
    cases A with
    | none => rfl
    | some ad => simp [Addr.add]
  obtain ⟨A', e1, e2⟩ := e
  refine ⟨A', fun W => ?_, ?_⟩
  · rw [run_slice_h W _ A n cap un32 .i64 k (by omega) (by omega), sz32]
    simp only [Result.andThen, Int.toNat_natCast, e1]
  · by_cases h0 : 0 < n
    · rw [e2 h0]
      exact h.take hk
    · obtain rfl : n = 0 := by omega
      obtain rfl : k = 0 := by omega
      exact ⟨A', 0, cap, rfl, by simp, by omega, hcm, fun h => absurd h (by omega)⟩
/-- where the orders of the region that finds the base meet -/
def OB (wr : World) (o : Option Bs) (v11 v12 : Value) (wx : World) : Prop := ∃ (y : Nat) (A : Option Addr) (n c : Nat), v11 = .pointer (some ⟨y, 0, none⟩) ∧ v12 = .bool o.isSome ∧ Blk wx y 77 #[.int .i64 (o.getD (0, [])).1, .slice A n c] ∧ Bts wx wx.heap.size A n (o.getD (0, [])).2 ∧ Below wr.heap.size wr wx ∧ wr.heap.size ≤ y
theorem ob_new {wr w4 : World} {o : Option Bs} {A : Option Addr} {n c y : Nat} (hy : y = w4.heap.size) (hb : Below wr.heap.size wr w4) (ht : Bts w4 w4.heap.size A n (o.getD (0, [])).2) :
    OB wr o (.pointer (some ⟨y, 0, none⟩)) (.bool o.isSome) (w4.alloc (.cells #[.int .i64 (o.getD (0, [])).1, .slice A n c] 77)) := by
  subst hy
  exact ⟨_, A, n, c, rfl, rfl, Blk.new _ _ _, bts_up ht (palloc (Below.refl _ _) _), palloc hb _, hb.size⟩
theorem ob_set {wr w4 : World} {o : Option Bs} {A : Option Addr} {n c y : Nat} (hy : Blk w4 y 77 #[.int .i64 0, .slice none 0 0]) (hb : Below wr.heap.size wr w4) (ht : Bts w4 w4.heap.size A n (o.getD (0, [])).2) (hlt : wr.heap.size ≤ y) :
    OB wr o (.pointer (some ⟨y, 0, none⟩)) (.bool o.isSome) ((w4.setCell ⟨y, 0, none⟩ (.int .i64 (o.getD (0, [])).1)).setCell ⟨y, 1, none⟩ (.slice A n c)) := by
  have hg := set2_grown w4 y (.int .i64 (o.getD (0, [])).1) (.slice A n c)
  have h1 := (hy.set_ 0 (.int .i64 (o.getD (0, [])).1)).set_ 1 (.slice A n c)
  exact ⟨_, A, n, c, rfl, rfl, by simpa using h1, (bts_by ht hg (Nat.le_refl _) (noBy_blk2 hy)).more hg.size, hb.grown hg hb.size (fun q hq => by cases hq; omega), hlt⟩
theorem tail_eq {f f' : Nat → Option P} {m : Nat} (h : ∀ j, j < m → f j = f' j) : ∀ (k i : Nat), tail f m k i = tail f' m k i := by
  have hr : ∀ (n i : Nat), i + n ≤ m → run f n i = run f' n i := by
    intro n
    induction n with
    | zero => intro i _; rfl
    | succ n ih =>
      intro i hi
      have e := h i (by omega)
      cases hf : f i with
      | none => rw [run_none hf, run_none (e ▸ hf)]
      | some p => rw [run_some hf, run_some (e ▸ hf), ih (i + 1) (by omega)]
  have hr2 : ∀ i, run f (m - i) i = run f' (m - i) i := fun i => by
    by_cases hi : i ≤ m
    · exact hr _ _ (by omega)
    · rw [show m - i = 0 by omega]; rfl
  intro k
  induction k with
  | zero => intro i; rfl
  | succ k ih =>
    intro i
    cases hj : joined (run f (m - i) i) with
    | none => rw [tail_none hj, tail_none (hr2 i ▸ hj)]
    | some x =>
      obtain ⟨b, n⟩ := x
      rw [tail_some hj, tail_some (hr2 i ▸ hj), ih]
theorem tail_recs {s : St} {k : Nat} {g : Int} (hk : s.n = k) (h6 : 6 ≤ k) : tail (tf (ofS s.get k) (2 * sl k) g) (lg k) (lg k) 0 = recsS s g := by
  unfold recsS recsOf
  rw [hk]
  refine tail_eq (fun j hj => ?_) _ _
  unfold tf logF
  rw [ofS_get _ _ _ (by unfold lg at hj; omega)]
theorem slot_take (D : Nat → List Nat) {m k : Nat} (h : m ≤ k) : (ofS D k).take m = slots D m 0 := by
  have := ofS_cut D (k := k) (i := 0) (j := m) (by omega) h
  rw [List.drop_zero, Nat.sub_zero] at this
  rw [this]
  unfold slots ofS
  simp
theorem slot_cut (D : Nat → List Nat) {m k : Nat} (h : 2 * m ≤ k) : ((ofS D k).drop m).take m = slots D m 1 := by
  have := ofS_cut D (k := k) (i := m) (j := 2 * m) (by omega) h
  rw [show 2 * m - m = m by omega] at this
  rw [this]
  unfold slots ofS
  simp
theorem all_noughts {xs : List Nat} (h : xs.length = 512) : (xs.all fun x => decide (x = 0)) = decide (xs = Pg.noughts) := by
  rw [Bool.eq_iff_iff, List.all_eq_true, decide_eq_true_iff]
  unfold Pg.noughts
  rw [List.eq_replicate_iff]
  simp [h]
theorem set12_keep {w : World} {y x i : Nat} {a0 a1 a2 a3 a4 a5 a6 a7 a8 a9 a10 a11 : Value} (h : x ≠ y) : (set12 w y a0 a1 a2 a3 a4 a5 a6 a7 a8 a9 a10 a11).cell? ⟨x, i, none⟩ = w.cell? ⟨x, i, none⟩ := by
  have hg := set12_kept (w := w) (g := y) (a0 := a0) (a1 := a1) (a2 := a2) (a3 := a3) (a4 := a4) (a5 := a5) (a6 := a6) (a7 := a7) (a8 := a8) (a9 := a9) (a10 := a10) (a11 := a11) (S := [y]) (by simp)
  by_cases hx : x < w.heap.size
  · exact World.cell?_of_block (hg.block x hx (by simpa using h))
  · unfold set12
    repeat rw [World.cell?_setCell_other _ _ _ _ (fun e => h (by cases e; rfl))]
theorem rmake_k (k : Nat) (w : World) (h : 6 ≤ k) (h2 : k ≤ 1024) :
    Calls Tryz.prog 39 #[.int .i64 k] w fun e w' => e = .returned (plV (sl k : Nat) (2 * (sl k : Nat)) (lg k : Nat)) ∧ Below w.heap.size w w' := by
  have := Plt.rmake_yes k w h h2
  rw [lg_eq] at this
  exact this
abbrev wMk (A1 A2 : Option Addr) (k c1 c2 : Nat) (ar m : Int) : Array Value := #[.slice A1 k c1, .slice A2 k c2, .int .i64 ar, .bool false, .int .i64 (sl k : Nat), .int .i64 (2 * (sl k : Nat)), .int .i64 (lg k : Nat), .int .i64 0, .int .i64 m, .int .i64 0, .bool false, .bool true]
/-- where the orders of the region that makes the log meet -/
def OM (wr : World) (cs : Array Value) (v10 : Value) (wx : World) : Prop := ∃ y, v10 = .pointer (some ⟨y, 0, none⟩) ∧ Blk wx y 40 cs ∧ Below wr.heap.size wr wx ∧ wr.heap.size ≤ y
theorem om_new {wr w4 : World} {cs : Array Value} {y : Nat} (hy : y = w4.heap.size) (hb : Below wr.heap.size wr w4) : OM wr cs (.pointer (some ⟨y, 0, none⟩)) (w4.alloc (.cells cs 40)) := by
  subst hy
  exact ⟨_, rfl, Blk.new _ _ _, palloc hb _, hb.size⟩
theorem om_set {wr w4 : World} {y : Nat} {a0 a1 a2 a3 a4 a5 a6 a7 a8 a9 a10 a11 : Value} (hk : Blk w4 y 40 zW) (hb : Below wr.heap.size wr w4) (hy : wr.heap.size ≤ y) : OM wr #[a0, a1, a2, a3, a4, a5, a6, a7, a8, a9, a10, a11] (.pointer (some ⟨y, 0, none⟩)) (set12 w4 y a0 a1 a2 a3 a4 a5 a6 a7 a8 a9 a10 a11) := by
  refine ⟨y, rfl, ?_, set12_below hb hy, hy⟩
  have h := (((((((((((hk.set_ 0 a0).set_ 1 a1).set_ 2 a2).set_ 3 a3).set_ 4 a4).set_ 5 a5).set_ 6 a6).set_ 7 a7).set_ 8 a8).set_ 9 a9).set_ 10 a10).set_ 11 a11
  simpa using h
theorem set12_grown (w : World) (y : Nat) (a0 a1 a2 a3 a4 a5 a6 a7 a8 a9 a10 a11 : Value) : w.grownBy (set12 w y a0 a1 a2 a3 a4 a5 a6 a7 a8 a9 a10 a11) (some y) :=
  (((((((((((grown_set w ⟨y, 0, none⟩ a0).trans (grown_set _ ⟨y, 1, none⟩ a1)).trans (grown_set _ ⟨y, 2, none⟩ a2)).trans (grown_set _ ⟨y, 3, none⟩ a3)).trans (grown_set _ ⟨y, 4, none⟩ a4)).trans (grown_set _ ⟨y, 5, none⟩ a5)).trans (grown_set _ ⟨y, 6, none⟩ a6)).trans (grown_set _ ⟨y, 7, none⟩ a7)).trans (grown_set _ ⟨y, 8, none⟩ a8)).trans (grown_set _ ⟨y, 9, none⟩ a9)).trans (grown_set _ ⟨y, 10, none⟩ a10)).trans (grown_set _ ⟨y, 11, none⟩ a11)
theorem old_end {w w7 : World} {lo z n : Nat} {A : Option Addr} {v : Value} {b : List Nat} {rs : List (List Nat)} {a0 a1 a2 a3 a4 a5 a6 a7 a8 a9 a10 a11 : Value} (hz : Blk w7 z 40 zW) (hl : z < lo) (hs : SlRow w7 lo v rs) (ht : Bts w7 w7.heap.size A n b) (hb : Below w.heap.size w w7) (hw : w.heap.size ≤ z) :
    Bts (set12 w7 z a0 a1 a2 a3 a4 a5 a6 a7 a8 a9 a10 a11).drew (set12 w7 z a0 a1 a2 a3 a4 a5 a6 a7 a8 a9 a10 a11).drew.heap.size A n b ∧ Sls (set12 w7 z a0 a1 a2 a3 a4 a5 a6 a7 a8 a9 a10 a11).drew (set12 w7 z a0 a1 a2 a3 a4 a5 a6 a7 a8 a9 a10 a11).drew.heap.size v rs ∧ Below w.heap.size w (set12 w7 z a0 a1 a2 a3 a4 a5 a6 a7 a8 a9 a10 a11).drew := by
  have hg := (set12_grown w7 z a0 a1 a2 a3 a4 a5 a6 a7 a8 a9 a10 a11).trans (grown_drew (w := set12 w7 z a0 a1 a2 a3 a4 a5 a6 a7 a8 a9 a10 a11))
  have hnb := noBy_cells hz (by intro u hu; simp [zW] at hu; rcases hu with rfl | rfl | rfl | rfl | rfl | rfl | rfl | rfl | rfl | rfl | rfl | rfl <;> rfl)
  exact ⟨(bts_by ht hg (Nat.le_refl _) hnb).more hg.size, slRow_sls (slRow_far hs hg hl hnb), hb.grown hg hb.size (fun q hq => by cases hq; exact hw)⟩
theorem turn_first (S : List Nat) (A1 A2 : Option Addr) (c1 c2 : Nat) (s : St) (k : Nat) (w we : World) (ar mm : Int) (hf : Dsk.Fine s) (hr : RefAt w S (refV (.slice A1 k c1) (.slice A2 k c2) s) s) (hS : ∀ x ∈ S, x < w.heap.size) (hn : 6 ≤ k) (hn2 : k ≤ 1000) (hk : s.n = k) (ha : armedOf s.left = ar) (hd : s.dead = false) (hm0 : 0 ≤ mm) (hm : ¬ 2147483648 < mm + 1) (hb : Below w.heap.size w we) (hlt : w.heap.size + 1 < we.heap.size) :
    Calls Tryz.prog 16 #[.agg (rwA (.slice A1 k c1) (.slice A2 k c2) ar false (sl k : Nat) (2 * (sl k : Nat)) (lg k : Nat) 0 (mm + 1) 0 false true), .slice none 0 0] we fun e w' => ∃ B1 B2 d1 d2, e = .returned (.tuple #[.agg (rwA (.slice B1 (firstP s k (mm + 1)).1.n d1) (.slice B2 (firstP s k (mm + 1)).1.n d2) (armedOf (firstP s k (mm + 1)).1.left) (firstP s k (mm + 1)).1.dead (sl k : Nat) (2 * (sl k : Nat)) (lg k : Nat) (if (firstP s k (mm + 1)).2 = 0 then 1 else 0) (mm + 1) 0 ((firstP s k (mm + 1)).2 != 0) true), .int .i64 (firstP s k (mm + 1)).2]) ∧ RefAt w' ((w.heap.size + 1) :: S) (refV (.slice B1 (firstP s k (mm + 1)).1.n d1) (.slice B2 (firstP s k (mm + 1)).1.n d2) (firstP s k (mm + 1)).1) (firstP s k (mm + 1)).1 ∧ Below we.heap.size we w' := by
  have hp : ¬ sl k < parts 0 := by
    have h1 : parts 0 = 1 := by decide
    have := sl_pos (k := k) (by omega)
    omega
  have e0 : turnP k s ⟨0, mm + 1, 0, false⟩ [] = ((firstP s k (mm + 1)).1, (if (firstP s k (mm + 1)).2 = 0 then ⟨1, mm + 1, 0, false⟩ else ⟨0, mm + 1, 0, true⟩), (firstP s k (mm + 1)).2) := by
    unfold turnP firstP
    rw [if_neg (by simp), if_neg (show ¬ sl k < parts ([] : List Nat).length from hp), if_neg (by simp)]
    rfl
  have tn := rturn_goes ((w.heap.size + 1) :: S) A1 A2 c1 c2 s k ⟨0, mm + 1, 0, false⟩ (lg k : Nat) none 0 0 we [] hf (by rw [hk]; exact (raise4 hr (Nat.le_succ _)).below hb) (fun x hx => by
    rcases List.mem_cons.1 hx with rfl | hx
    · exact hlt
    · have := hS x hx; omega) hn hn2 ⟨by simp, by simp, by show 0 ≤ mm + 1; omega, by show mm + 1 ≤ 2147483648; omega, Nat.zero_le _⟩ rfl (sl_nil _ _) rfl (by omega) hp (by simp)
  rw [e0] at tn
  unfold rvA at tn
  rw [hk, ha, hd] at tn
  simp only at tn
  refine tn.mono ?_
  rintro e w' ⟨val', rfl, ⟨u1, u2, rfl, hR⟩, hb'⟩
  obtain ⟨B1, d1, B2, d2, huv⟩ := refAt_two hR
  have hu : u1 = .slice B1 (firstP s k (mm + 1)).1.n d1 ∧ u2 = .slice B2 (firstP s k (mm + 1)).1.n d2 := by
    unfold refV at huv
    injection huv with h
    injection h with h
    injection h with h1 h
    injection h with h2 h
    exact ⟨h1, h2⟩
  obtain ⟨rfl, rfl⟩ := hu
  refine ⟨B1, B2, d1, d2, ?_, hR, hb'⟩
  by_cases he : (firstP s k (mm + 1)).2 = 0
  · simp only [he, if_pos, bne_self_eq_false]; rfl
  · simp only [he, if_neg, bne_iff_ne.2 he, not_false_eq_true]; rfl
set_option maxRecDepth 20000 in
set_option maxHeartbeats 1500000 in
theorem ropen_live (S : List Nat) (A1 A2 : Option Addr) (c1 c2 : Nat) (s : St) (w : World) (hf : Dsk.Fine s) (hr : RefAt w S (refV (.slice A1 s.n c1) (.slice A2 s.n c2) s) s) (hS : ∀ x ∈ S, x < w.heap.size) (hn : 6 ≤ s.n) (hn2 : s.n ≤ 1000) (hd : s.dead = false) :
    Calls Tryz.prog 11 #[refV (.slice A1 s.n c1) (.slice A2 s.n c2) s] w (ROpen w S s) := by
  have mk := fun (W : World) => rmake_k s.n W hn (by omega)
  have gt := fun (W : World) (i : Nat) (hi : i < s.n) (hW : Below w.heap.size w W) => rsec S _ s i W hf (hr.below hW) hi
  have h600 := fine_600 hf s.n
  have d1 : decide ((s.n : Int) < 6) = false := by simp; omega
  have d2 : decide ((1024 : Int) < (s.n : Int)) = false := by simp; omega
  have hout : ∀ (ee : Int) (e0 : openP s = ⟨s, none, [], [], ee⟩) (w' : World) (hb : Below w.heap.size w w'), ROpen w S s (.returned (.tuple #[.agg (rwA (.slice A1 s.n c1) (.slice A2 s.n c2) (armedOf s.left) s.dead 0 0 0 0 0 0 false false), .slice none 0 0, .slice none 0 0, .int .i64 ee])) w' := by
    intro ee e0 w' hb
    have := rout_none (w := w) (w' := w') (S := S) (s := s) (v1 := .slice A1 s.n c1) (v2 := .slice A2 s.n c2) (by rw [e0]) (by rw [e0]) (by rw [e0]) (by rw [e0]; exact hr.below hb) hb
    rw [e0] at this
    exact this
  have h4 : 2147483648 < openMark s → openP s = ⟨s, none, [], [], 4⟩ := fun h => by unfold openP; rw [if_neg (by omega), if_neg (by rw [hd]; simp), if_pos h]
  have h8 : ¬ 2147483648 < openMark s → theBase s.get s.n = none → newD s.get s.n = false → openP s = ⟨s, none, [], [], 8⟩ := fun h ht hnd => by unfold openP; rw [if_neg (by omega), if_neg (by rw [hd]; simp), if_neg h, ht]; simp only; rw [if_neg (by rw [hnd]; simp)]
  have hold : ∀ (yb : Bs), ¬ 2147483648 < openMark s → theBase s.get s.n = some yb → ∀ (w' : World) (A : Option Addr) (n c : Nat) (vr : Value), Bts w' w'.heap.size A n yb.2 → Sls w' w'.heap.size vr (recsS s yb.1).1 → Below w.heap.size w w' →
      ROpen w S s (.returned (.tuple #[.agg (rwA (.slice A1 s.n c1) (.slice A2 s.n c2) (armedOf s.left) s.dead (sl s.n : Nat) (2 * (sl s.n : Nat)) (lg s.n : Nat) yb.1 (openMark s) ((recsS s yb.1).2 : Nat) false true), .slice A n c, vr, .int .i64 0])) w' := by
    intro yb hm ht w' A n c vr hb hv hw
    have e0 : openP s = ⟨s, some ⟨yb.1, openMark s, (recsS s yb.1).2, false⟩, yb.2, (recsS s yb.1).1, 0⟩ := by unfold openP; rw [if_neg (by omega), if_neg (by rw [hd]; simp), if_neg hm, ht]
    unfold ROpen
    rw [e0]
    exact ⟨_, A, n, c, vr, rfl, hb, hv, (fun h => by cases h), (fun v hv => by cases hv; exact ⟨_, _, rfl, hr.below hw⟩), hw⟩
  have hnew : ∀ (F : St × Int), F = firstP s s.n (openMark s) → ¬ 2147483648 < openMark s → theBase s.get s.n = none → newD s.get s.n = true → ∀ (w' : World) (v1 v2 : Value), RefAt w' S (refV v1 v2 F.1) F.1 → Below w.heap.size w w' →
      (F.2 = 0 → ROpen w S s (.returned (.tuple #[.agg (rwA v1 v2 (armedOf F.1.left) F.1.dead (sl s.n : Nat) (2 * (sl s.n : Nat)) (lg s.n : Nat) 1 (openMark s) 0 false true), .slice none 0 0, .slice none 0 0, .int .i64 0])) w') ∧
      (F.2 ≠ 0 → ROpen w S s (.returned (.tuple #[.agg (rwA v1 v2 (armedOf F.1.left) F.1.dead 0 0 0 0 0 0 false false), .slice none 0 0, .slice none 0 0, .int .i64 F.2])) w') := by
    intro F hF hm ht hnd w' v1 v2 hv hw
    refine ⟨fun he => ?_, fun he => ?_⟩
    · have e0 : openP s = ⟨F.1, some ⟨1, openMark s, 0, false⟩, [], [], 0⟩ := by unfold openP; rw [if_neg (by omega), if_neg (by rw [hd]; simp), if_neg hm, ht]; simp only; rw [if_pos hnd, ← hF, if_pos he]
      unfold ROpen
      rw [e0]
      exact ⟨_, none, 0, 0, _, rfl, bts_nil _ _ _, sls_nil _ _, (fun h => by cases h), (fun v hx => by cases hx; exact ⟨_, _, rfl, hv⟩), hw⟩
    · have e0 : openP s = ⟨F.1, none, [], [], F.2⟩ := by unfold openP; rw [if_neg (by omega), if_neg (by rw [hd]; simp), if_neg hm, ht]; simp only; rw [if_pos hnd, ← hF, if_neg he]
      unfold ROpen
      rw [e0]
      exact ⟨_, none, 0, 0, _, rfl, bts_nil _ _ _, sls_nil _ _, (fun _ => ⟨_, _, rfl, hv⟩), (fun v hx => by cases hx), hw⟩
  have HOUT := Lib.hid hout; clear hout
  have H4 := Lib.hid h4; clear h4
  have H8 := Lib.hid h8; clear h8
  have HOLD := Lib.hid hold; clear hold
  have HNEW := Lib.hid hnew; clear hnew
  have RR := Lib.hid hr; clear hr
  obtain ⟨i5, hi5, hy0, hy1, hy2⟩ := info_parts info25
  have HI5 := Lib.hid hi5; clear hi5
  have HY0 := Lib.hid hy0; clear hy0
  have HY1 := Lib.hid hy1; clear hy1
  have HY2 := Lib.hid hy2; clear hy2
  unfold refV at gt ⊢
  rw [hd] at gt ⊢
  have HOUT2 := HOUT.out
  have HOLD2 := HOLD.out
  rw [hd] at HOUT2 HOLD2
  clear HOUT HOLD
  have HOUT := Lib.hid HOUT2; clear HOUT2
  have HOLD := Lib.hid HOLD2; clear HOLD2
  generalize har : armedOf s.left = ar at *
  have HAR := Lib.hid har; clear har
  have HFN := Lib.hid hf; clear hf
  have HDD := Lib.hid hd; clear hd
  have HSS := Lib.hid hS; clear hS
  have H6 := Lib.hid h600; clear h600
  generalize hkk : s.n = k at *
  have HKK := Lib.hid hkk; clear hkk
  have MK := Lib.hid mk; clear mk
  have GT := Lib.hid gt; clear gt
  have hb0 := palloc (palloc (Below.refl w.heap.size w) (.cells #[.slice A1 k c1, .slice A2 k c2, .int .i64 ar, .bool false] 36)) (.cells zW 40)
  have kd0 := (Blk.new w 36 #[.slice A1 k c1, .slice A2 k c2, .int .i64 ar, .bool false]).alloc (.cells zW 40)
  have kz0 : Blk ((w.alloc (.cells #[.slice A1 k c1, .slice A2 k c2, .int .i64 ar, .bool false] 36)).alloc (.cells zW 40)) (w.heap.size + 1) 40 zW := by
    have := Blk.new (w.alloc (.cells #[.slice A1 k c1, .slice A2 k c2, .int .i64 ar, .bool false] 36)) 40 zW
    simpa using this
  have HB0 := Lib.hid hb0; clear hb0
  have KD0 := Lib.hid kd0; clear kd0
  have KZ0 := Lib.hid kz0; clear kz0
  go_enter Tryz.func11, Tryz.ntmps11
  go_wp2_with (go_at_call 39; refine (MK.out _).mono ?_; rintro e w1 ⟨rfl, hb1⟩; have HB1 := Lib.hid (HB0.out.trans (hb1.mono HB0.out.size)); have KD1 := Lib.hid (KD0.out.below hb1 KD0.out.lt); have KZ1 := Lib.hid (KZ0.out.below hb1 KZ0.out.lt); clear hb1)
  have hk9 : k ≤ 1000 := hn2
  have HB2 := Lib.hid (palloc (palloc HB1.out (.cells #[.int .i64 (sl k : Nat), .int .i64 (2 * (sl k : Nat)), .int .i64 (lg k : Nat)] 38)) (.cells #[] 31))
  have KD2 := Lib.hid ((KD1.out.alloc (.cells #[.int .i64 (sl k : Nat), .int .i64 (2 * (sl k : Nat)), .int .i64 (lg k : Nat)] 38)).alloc (.cells #[] 31))
  have KZ2 := Lib.hid ((KZ1.out.alloc (.cells #[.int .i64 (sl k : Nat), .int .i64 (2 * (sl k : Nat)), .int .i64 (lg k : Nat)] 38)).alloc (.cells #[] 31))
  have KP2 := Lib.hid ((Blk.new w1 38 #[.int .i64 (sl k : Nat), .int .i64 (2 * (sl k : Nat)), .int .i64 (lg k : Nat)]).alloc (.cells #[] 31))
  have HR2 := Lib.hid (show SlRow ((w1.alloc (.cells #[.int .i64 (sl k : Nat), .int .i64 (2 * (sl k : Nat)), .int .i64 (lg k : Nat)] 38)).alloc (.cells #[] 31)) (w1.heap.size + 1) (.slice (some ⟨w1.heap.size + 1, 0, none⟩) 0 0) (ofS s.get 0) from slRow_lit _ _ _ (by simp) (by simp))
  have hz1 := KZ1.out.lt
  generalize hp : w1.heap.size = p at *
  have hp2 : w.heap.size + 1 < p := hz1
  clear hp hz1
  go_loopw [8, 9] (fun v z wr => ∃ i : Nat, i ≤ k ∧ z = .int .i64 (i : Nat) ∧ SlRow wr (p + 1) v (ofS s.get i) ∧ Blk wr w.heap.size 36 #[.slice A1 k c1, .slice A2 k c2, .int .i64 ar, .bool false] ∧ Blk wr (w.heap.size + 1) 40 zW ∧ Blk wr p 38 #[.int .i64 (sl k : Nat), .int .i64 (2 * (sl k : Nat)), .int .i64 (lg k : Nat)] ∧ Below w.heap.size w wr) (fun _ z _ => k - (intOf z).toNat)
  case atStart => exact ⟨0, Nat.zero_le _, rfl, HR2.out, KD2.out, KZ2.out, KP2.out, HB2.out⟩
  case round =>
    obtain ⟨i, hi, rfl, hrow, hkd, hkz, hkp, hbw⟩ := hrel
    have HB := Lib.hid hbw; clear hbw
    have HROW := Lib.hid hrow; clear hrow
    have KD := Lib.hid hkd; clear hkd
    have KZ := Lib.hid hkz; clear hkz
    have KP := Lib.hid hkp; clear hkp
    obtain ⟨x0, x1, x2, x3, x4⟩ := blk4 KD.out
    by_cases hlt : i < k
    · have p1 : decide (i < k) = true := by simp; omega
      have gi := GT.out wr i hlt HB.out
      have hsn := ofS_snoc s.get i
      have hil := ofS_len s.get i
      generalize s.get i = xs at *
      have GI := Lib.hid gi; clear gi
      have HSN := Lib.hid hsn; clear hsn
      have HIL := Lib.hid hil; clear hil
      generalize hof : ofS s.get i = os at *
      clear hof
      go_wp2_with (first
        | (go_at_call 40; refine (GI.out).mono ?_; rintro e w4 ⟨A4, n4, c4, rfl, hs4, hb4⟩; obtain ⟨vs, hvl, hown4, hvs⟩ := HROW.out.below hb4; have HS4 := Lib.hid (sl_up hs4 hb4); have HVL := Lib.hid hvl; have HOW := Lib.hid hown4; have HVS := Lib.hid hvs; have HB4 := Lib.hid (HB.out.trans (hb4.mono HB.out.size)); have KD4 := Lib.hid (KD.out.below hb4 KD.out.lt); have KZ4 := Lib.hid (KZ.out.below hb4 KZ.out.lt); have KP4 := Lib.hid (KP.out.below hb4 KP.out.lt); clear hs4 hb4 hvl hown4 hvs)
        | (at_builtin; refine wpList_append_n _ rfl (.tmp 41) (.tmp 45) 32 rfl (p + 1) 31 i5 (.slice none 0 0) 1 24 Tryz.underlying32 HI5.out HY0.out HY1.out HY2.out rfl (by decide) zSl_nob u8 os.length vs rfl ?own (w4.heap.size + 1) (some ⟨w4.heap.size, 0, none⟩) 1 1 [.slice A4 n4 c4] ?hx ?hr (by simp [Value.oneCell']) (by intro u hu; rw [List.mem_singleton.1 hu]; rfl) ?h63 ?hby ?hbase ?_; (case own => exact HOW.out.below (palloc (Below.refl _ _) _)); (case hx => first | rfl | simp [Act.eval]); (case hr => exact reads_slice _ _ _ rfl); (case h63 => (have := HIL.out; unfold maxLen; omega)); (case hby => (have := HIL.out; omega)); (case hbase => (have := KP4.out.lt; simp; omega)); intro v5 w5 hown5 hg5 _; have hbl := palloc (Below.refl w4.heap.size w4) (.cells #[.slice A4 n4 c4] 31); have hrow5 := (slRow_app (base := p + 1) (ss := os) (ts := [xs]) (vs := vs) (us := [.slice A4 n4 c4]) HVL.out rfl (HOW.out.below hbl).2 (fun j hj => sl_up (HVS.out j hj) hbl) (fun j hj => by obtain rfl : j = 0 := (by simpa using hj); exact sl_up HS4.out hbl) hown5 hg5); have HR5 := Lib.hid hrow5; have hlo := (fun q hq => (HOW.out.1.lt q hq).1 : ∀ q, u8.ownBlock = some q → p + 1 ≤ q); have HB5 := Lib.hid ((HB4.out.trans (hbl.mono HB4.out.size)).grown hg5 (HB4.out.trans (hbl.mono HB4.out.size)).size (fun q hq => by have := hlo q hq; omega)); have KD5 := Lib.hid ((KD4.out.alloc (.cells #[.slice A4 n4 c4] 31)).grown hg5 (fun e => by have := hlo _ e.symm; omega)); have KZ5 := Lib.hid ((KZ4.out.alloc (.cells #[.slice A4 n4 c4] 31)).grown hg5 (fun e => by have := hlo _ e.symm; omega)); have KP5 := Lib.hid ((KP4.out.alloc (.cells #[.slice A4 n4 c4] 31)).grown hg5 (fun e => by have := hlo _ e.symm; omega)); clear hown5 hg5 hbl hrow5 hlo))
      go_roundw
      case rel => exact ⟨i + 1, by omega, by go_num, by rw [HSN.out]; exact HR5.out, KD5.out, KZ5.out, KP5.out, HB5.out⟩
      case measure => simp [intOf]; omega
    · have p1 : decide (i < k) = false := by simp; omega
      obtain rfl : k = i := by omega
      have hsl := slRow_sls HROW.out
      obtain ⟨A8, n8, c8, e8, hl8, _⟩ := id hsl
      rw [ofS_len] at hl8
      subst hl8
      subst e8
      have ma := fun (W : World) (hW : Below wr.heap.size wr W) => rmark_any A8 k c8 _ W (hsl.up hW) hk9 H6.out
      obtain ⟨hm0, hm1⟩ := mark_bounds (ofS s.get k)
      have hom : openMark s = markOf (ofS s.get k) + 1 := by rw [← HKK.out]; rfl
      have HOM := Lib.hid hom; clear hom
      generalize hmm : markOf (ofS s.get k) = mm at *
      have MA := Lib.hid ma; clear ma hmm
      have HSL := Lib.hid hsl; clear hsl HROW GT
      obtain ⟨p0', p1', p2', p3'⟩ := blk3 KP.out
      have HBR := Lib.hid (Below.refl wr.heap.size wr)
      have hw1 : IntKind.i64.wrap (mm + 1) = mm + 1 := IntWalk.i64_in _ (by omega)
      go_upto_region 12 with fail
      go_cut [10] from 47 to 52 (fun v10 wx => OM wr (wMk A1 A2 k c1 c2 ar (mm + 1)) v10 wx)
      case first =>
        go_region_held3 (fun W => W.cell? ⟨w.heap.size, 0, none⟩ = some (.slice A1 k c1) ∧ W.cell? ⟨w.heap.size, 1, none⟩ = some (.slice A2 k c2) ∧ W.cell? ⟨w.heap.size, 2, none⟩ = some (.int .i64 ar) ∧ W.cell? ⟨w.heap.size, 3, none⟩ = some (.bool false) ∧ W.cell? ⟨p, 0, none⟩ = some (.int .i64 (sl k : Nat)) ∧ W.cell? ⟨p, 1, none⟩ = some (.int .i64 (2 * (sl k : Nat))) ∧ W.cell? ⟨p, 2, none⟩ = some (.int .i64 (lg k : Nat)))
          (first
            | with_reducible exact ⟨x0, x1, x2, x3, p0', p1', p2'⟩
            | with_reducible exact ⟨e0, e1, e2, e3, f0, f1, f2⟩
            | (with_reducible refine ⟨(set12_keep ?_).trans e0, (set12_keep ?_).trans e1, (set12_keep ?_).trans e2, (set12_keep ?_).trans e3, (set12_keep ?_).trans f0, (set12_keep ?_).trans f1, (set12_keep ?_).trans f2⟩ <;> omega)
            | go_keep)
          (first
            | (go_at_call 41; (with_reducible refine (MA.out _ (by with_reducible exact bl1 HBR.out)).mono ?_); rintro e w4 ⟨rfl, hb⟩; have hb := undrew hb; have HB4 := Lib.hid (HBR.out.trans (hb.mono HBR.out.size)); obtain ⟨e0, e1, e2, e3, e4⟩ := blk4 (KD.out.below HB4.out KD.out.lt); obtain ⟨f0, f1, f2, f3⟩ := blk3 (KP.out.below HB4.out KP.out.lt); clear hb)
            | (go_at_call 41; (with_reducible refine (MA.out _ (by with_reducible exact bl2 HBR.out _)).mono ?_); rintro e w4 ⟨rfl, hb⟩; have hb := undrew hb; have K10 := Lib.hid ((Blk.new wr 40 zW).below hb (by simp)); have HB4 := Lib.hid ((palloc HBR.out (.cells zW 40)).trans (hb.mono (palloc HBR.out (.cells zW 40)).size)); obtain ⟨e0, e1, e2, e3, e4⟩ := blk4 (KD.out.below HB4.out KD.out.lt); obtain ⟨f0, f1, f2, f3⟩ := blk3 (KP.out.below HB4.out KP.out.lt); have r0 := K10.out.cell 0; have rf0 := K10.out.frozen 0; have r1 := K10.out.cell 1; have rf1 := K10.out.frozen 1; have r2 := K10.out.cell 2; have rf2 := K10.out.frozen 2; have r3 := K10.out.cell 3; have rf3 := K10.out.frozen 3; have r4 := K10.out.cell 4; have rf4 := K10.out.frozen 4; have r5 := K10.out.cell 5; have rf5 := K10.out.frozen 5; have r6 := K10.out.cell 6; have rf6 := K10.out.frozen 6; have r7 := K10.out.cell 7; have rf7 := K10.out.frozen 7; have r8 := K10.out.cell 8; have rf8 := K10.out.frozen 8; have r9 := K10.out.cell 9; have rf9 := K10.out.frozen 9; have r10 := K10.out.cell 10; have rf10 := K10.out.frozen 10; have r11 := K10.out.cell 11; have rf11 := K10.out.frozen 11; simp at r0 r1 r2 r3 r4 r5 r6 r7 r8 r9 r10 r11; have r12 := K10.out.lt; clear hb))
        all_goals
          go_wp2_with fail
          go_meet
          case rel =>
            first
              | (with_reducible exact om_set K10.out HB4.out (Nat.le_refl _))
              | (with_reducible exact om_new rfl HB4.out)
      case rest =>
        rename World => wd
        obtain ⟨y, rfl, hy, hbx, hly⟩ := hcut
        have HY := Lib.hid hy; clear hy
        have HBX := Lib.hid hbx; clear hbx
        have KDc := Lib.hid (KD.out.below HBX.out KD.out.lt)
        have KZc := Lib.hid (KZ.out.below HBX.out KZ.out.lt)
        have KPc := Lib.hid (KP.out.below HBX.out KP.out.lt)
        have HBc := Lib.hid (HB.out.trans (HBX.out.mono HB.out.size))
        have HSc := Lib.hid (HSL.out.up HBX.out)
        clear x0 x1 x2 x3 p0' p1' p2' HBR HBX MA HB hw1
        have y8 := HY.out.cell 8
        simp at y8
        by_cases hm : 2147483648 < mm + 1
        · have hdm : decide (2147483648 < mm + 1) = true := by simpa using hm
          have h4 := H4.out (by rw [HOM.out]; exact hm)
          obtain ⟨x0, x1, x2, x3, xl⟩ := blk4 KDc.out
          have z0 := KZc.out.cell 0
          have zf0 := KZc.out.frozen 0
          have z1 := KZc.out.cell 1
          have zf1 := KZc.out.frozen 1
          have z2 := KZc.out.cell 2
          have zf2 := KZc.out.frozen 2
          have z3 := KZc.out.cell 3
          have zf3 := KZc.out.frozen 3
          have z4 := KZc.out.cell 4
          have zf4 := KZc.out.frozen 4
          have z5 := KZc.out.cell 5
          have zf5 := KZc.out.frozen 5
          have z6 := KZc.out.cell 6
          have zf6 := KZc.out.frozen 6
          have z7 := KZc.out.cell 7
          have zf7 := KZc.out.frozen 7
          have z8 := KZc.out.cell 8
          have zf8 := KZc.out.frozen 8
          have z9 := KZc.out.cell 9
          have zf9 := KZc.out.frozen 9
          have z10 := KZc.out.cell 10
          have zf10 := KZc.out.frozen 10
          have z11 := KZc.out.cell 11
          have zf11 := KZc.out.frozen 11
          simp at z0 z1 z2 z3 z4 z5 z6 z7 z8 z9 z10 z11
          have zlt := KZc.out.lt
          have HO4 := Lib.hid (HOUT.out 4 h4); clear h4
          clear hm
          go_wp2
          refine bodyPost_ret (v := .tuple #[.agg (rwA (.slice A1 k c1) (.slice A2 k c2) ar false 0 0 0 0 0 0 false false), .slice none 0 0, .slice none 0 0, .int .i64 4]) ?_ rfl (HO4.out _ (set12_below (g := w.heap.size + 1) HBc.out (Nat.le_succ _)))
          simp [results, Tryz.results11, go_sem, z0, z1, z2, z3, z4, z5, z6, z7, z8, z9, z10, z11, zlt]
        · have hdm : decide (2147483648 < mm + 1) = false := by simpa using hm
          have hslk := sl_le k
          have hsl1 := sl_pos (k := k) (by omega)
          have hsk : 2 * sl k ≤ k := by unfold sl; first | omega | (split <;> omega)
          obtain ⟨Aa, hra, hsa⟩ := sls_h HSc.out (sl k) (by omega)
          obtain ⟨Ab, hrb, hsb, _⟩ := sls_sliced HSc.out (sl k) (2 * sl k) (by omega) (by omega)
          rw [show 2 * sl k - sl k = sl k by omega] at hsb hrb
          rw [show ((2 * sl k : Nat) : Int) = 2 * (sl k : Int) by omega] at hrb
          rw [slot_take _ (by omega)] at hsa
          rw [slot_cut _ hsk] at hsb
          have h6s : ∀ q, q ≤ 1 → ∀ z ∈ slots s.get (sl k) q, z.length ≤ 600 := fun q hq z hz => by
            simp only [slots, List.mem_map, List.mem_range] at hz
            obtain ⟨j, hj, rfl⟩ := hz
            have := fine_sec HFN.out (q * sl k + j)
            omega
          have be := fun (W : World) (hW : Below wd.heap.size wd W) => rbetter_any Aa Ab (sl k) (sl k) c8 (c8 - sl k) _ _ W (hsa.up hW) (hsb.up hW) (by omega) (by omega) (h6s 0 (by omega)) (h6s 1 (by omega))
          have hbo : theBase s.get k = better (slots s.get (sl k) 0) (slots s.get (sl k) 1) := rfl
          rw [← hbo] at be
          clear hbo h6s
          generalize ho : theBase s.get k = o at *
          have HOO := Lib.hid ho; clear ho
          have BE := Lib.hid be; clear be hsa hsb
          obtain ⟨p0', p1', p2', p3''⟩ := blk3 KPc.out
          have HBR := Lib.hid (Below.refl wd.heap.size wd)
          go_upto_region 15 with fail
          go_cut [11, 12] from 58 to 71 (fun v11 v12 wx => OB wd o v11 v12 wx)
          case first =>
            go_region_held3 (fun W => W.cell? ⟨p, 0, none⟩ = some (.int .i64 (sl k : Nat)) ∧ W.cell? ⟨p, 1, none⟩ = some (.int .i64 (2 * (sl k : Nat))))
              (first
                | with_reducible exact ⟨p0', p1'⟩
                | with_reducible exact ⟨f0, f1⟩
                | (with_reducible refine ⟨(set2_keep ?_).trans f0, (set2_keep ?_).trans f1⟩ <;> omega)
                | go_keep)
              (first
                | (go_at_call 42; (with_reducible refine (BE.out _ (by with_reducible exact bl1 HBR.out)).mono ?_); rintro e w4 ⟨v4, rfl, ⟨vb, rfl, A4, n4, c4, rfl, ht4⟩, hb⟩; have hb := undrew hb; have HB4 := Lib.hid (HBR.out.trans (hb.mono HBR.out.size)); have HT4 := Lib.hid ht4; obtain ⟨f0, f1, f2, f3⟩ := blk3 (KPc.out.below HB4.out KPc.out.lt); clear hb ht4)
                | (go_at_call 42; (with_reducible refine (BE.out _ (by with_reducible exact bl2 HBR.out _)).mono ?_); rintro e w4 ⟨v4, rfl, ⟨vb, rfl, A4, n4, c4, rfl, ht4⟩, hb⟩; have hb := undrew hb; have K11 := Lib.hid ((Blk.new wd 77 #[.int .i64 0, .slice none 0 0]).below hb (by simp)); have HB4 := Lib.hid ((palloc HBR.out zB).trans (hb.mono (palloc HBR.out zB).size)); have HT4 := Lib.hid ht4; obtain ⟨f0, f1, f2, f3⟩ := blk3 (KPc.out.below HB4.out KPc.out.lt); have r0 := K11.out.cell 0; have r1 := K11.out.cell 1; have r2 := K11.out.frozen 0; have r3 := K11.out.frozen 1; have r4 := K11.out.lt; simp at r0 r1; clear hb ht4))
            all_goals
              go_wp2_with fail
              go_meet
              case rel =>
                first
                  | (with_reducible exact ob_set K11.out HB4.out HT4.out (Nat.le_refl _))
                  | (with_reducible exact ob_new rfl HB4.out HT4.out)
          case rest =>
            rename World => we
            obtain ⟨q, Ab4, n4, c4, rfl, rfl, hq, ht, hbq, hlq⟩ := hcut
            have HBQ := Lib.hid hbq; clear hbq
            have HQ := Lib.hid hq; clear hq
            have HT4 := Lib.hid ht; clear ht
            have KDe := Lib.hid (KDc.out.below HBQ.out KDc.out.lt)
            have KZe := Lib.hid (KZc.out.below HBQ.out KZc.out.lt)
            have KPe := Lib.hid (KPc.out.below HBQ.out KPc.out.lt)
            have HYe := Lib.hid (HY.out.below HBQ.out HY.out.lt)
            have HBe := Lib.hid (HBc.out.trans (HBQ.out.mono HBc.out.size))
            have HSe := Lib.hid (HSc.out.up HBQ.out)
            have KZc2 := KZc.out.lt
            clear p0' p1' p2' p3'' BE HBR hra hrb y8 KDc KZc KPc HY HBc HSc
            have hm' : ¬ 2147483648 < openMark s := by rw [HOM.out]; exact hm
            cases o with
            | some yb =>
              have hold := HOLD.out yb (by first | exact hm' | exact Int.not_lt.mp hm') (by first | rfl | exact HOO.out)
              rw [HOM.out] at hold
              have htl := fun (W : World) (hW : Below we.heap.size we W) => rtail_any (ofS s.get k) (2 * sl k) (lg k) yb.1 (sl k : Nat) H6.out (by rw [ofS_len]; unfold lg; omega) (by rw [ofS_len]; omega) (lg k) 0 A8 k c8 W (by omega) (by omega) (HSe.out.up hW)
              rw [tail_recs HKK.out hn] at htl
              rw [show ((2 * sl k : Nat) : Int) = 2 * (sl k : Int) by omega, show ((0 : Nat) : Int) = 0 from rfl] at htl
              generalize recsS s yb.1 = T at *
              obtain ⟨rs, en⟩ := T
              obtain ⟨G, B⟩ := yb
              simp only at hold htl
              have HQS := Lib.hid (show Blk we q 77 #[.int .i64 G, .slice Ab4 n4 c4] from HQ.out)
              have HT5 := Lib.hid (show Bts we we.heap.size Ab4 n4 B from HT4.out)
              have HOLDs := Lib.hid hold; clear hold
              have TL := Lib.hid htl; clear htl HQ HT4
              obtain ⟨p0', p1', p2', p3''⟩ := blk3 KPe.out
              have q0 := HQS.out.cell 0
              have q1 := HQS.out.cell 1
              simp at q0 q1
              have hypy : y ≠ q := by have := HYe.out.lt; have := Blk.ne_ HYe.out HQS.out (by decide); exact this
              have hzy : w.heap.size + 1 ≠ y := by have := KZ.out.lt; omega
              have hzq : w.heap.size + 1 ≠ q := by have := KZc2; omega
              go_upto_region 18 with (go_at_call 43; refine (TL.out _ (Below.refl _ _)).mono ?_; rintro e w6 ⟨v6, rfl, hs6, hb6⟩; obtain ⟨A6, n6, c6, rfl, _⟩ := id (slRow_sls hs6); have HS6 := Lib.hid hs6; have HB6 := Lib.hid hb6; clear hs6 hb6)
              have KZ6 := Lib.hid (KZe.out.below HB6.out KZe.out.lt)
              have HY6 := Lib.hid (HYe.out.below HB6.out HYe.out.lt)
              have HQ6 := Lib.hid (HQS.out.below HB6.out HQS.out.lt)
              have HT6 := Lib.hid (bts_up HT5.out HB6.out)
              have HBB6 := Lib.hid (HBe.out.trans (HB6.out.mono HBe.out.size))
              clear p0' p1' p2' p3'' q0 q1
              have q0 := HQ6.out.cell 0
              have q1 := HQ6.out.cell 1
              simp at q0 q1
              have y0 := HY6.out.cell 0
              have yf0 := HY6.out.frozen 0
              have y1 := HY6.out.cell 1
              have yf1 := HY6.out.frozen 1
              have y2 := HY6.out.cell 2
              have yf2 := HY6.out.frozen 2
              have y3 := HY6.out.cell 3
              have yf3 := HY6.out.frozen 3
              have y4 := HY6.out.cell 4
              have yf4 := HY6.out.frozen 4
              have y5 := HY6.out.cell 5
              have yf5 := HY6.out.frozen 5
              have y6 := HY6.out.cell 6
              have yf6 := HY6.out.frozen 6
              have y7 := HY6.out.cell 7
              have yf7 := HY6.out.frozen 7
              have y8 := HY6.out.cell 8
              have yf8 := HY6.out.frozen 8
              have y9 := HY6.out.cell 9
              have yf9 := HY6.out.frozen 9
              have y10 := HY6.out.cell 10
              have yf10 := HY6.out.frozen 10
              have y11 := HY6.out.cell 11
              have yf11 := HY6.out.frozen 11
              simp at y0 y1 y2 y3 y4 y5 y6 y7 y8 y9 y10 y11
              have ylt := HY6.out.lt
              go_upto_region 20 with fail
              have hg7 := (grown_set w6 ⟨y, 7, none⟩ (.int .i64 G)).trans (grown_set (w6.setCell ⟨y, 7, none⟩ (.int .i64 G)) ⟨y, 9, none⟩ (.int .i64 (en : Nat)))
              have hnb := noBy_cells HY6.out (by intro u hu; simp at hu; rcases hu with rfl | rfl | rfl | rfl | rfl | rfl | rfl | rfl | rfl | rfl | rfl | rfl <;> rfl)
              have hylt : y < we.heap.size := HYe.out.lt
              have HS7 := Lib.hid (slRow_far HS6.out hg7 hylt hnb)
              have HT7 := Lib.hid ((bts_by HT6.out hg7 (Nat.le_refl _) hnb).more hg7.size)
              have HBB7 := Lib.hid ((HBB6.out.setCell (p := ⟨y, 7, none⟩) (by show w.heap.size ≤ y; have := KZ.out.lt; omega) (.int .i64 G)).setCell (p := ⟨y, 9, none⟩) (by show w.heap.size ≤ y; have := KZ.out.lt; omega) (.int .i64 (en : Nat)))
              have hy7 := (HY6.out.set_ 7 (.int .i64 G)).set_ 9 (.int .i64 (en : Nat))
              have HY7 := Lib.hid (show Blk _ y 40 #[.slice A1 k c1, .slice A2 k c2, .int .i64 ar, .bool false, .int .i64 (sl k : Nat), .int .i64 (2 * (sl k : Nat)), .int .i64 (lg k : Nat), .int .i64 G, .int .i64 (mm + 1), .int .i64 (en : Nat), .bool false, .bool true] from by simpa using hy7)
              have HQ7 := Lib.hid (HQ6.out.grown hg7 (fun e => hypy (Option.some.inj e).symm))
              have KZ7 := Lib.hid (KZ6.out.grown hg7 (fun e => hzy (Option.some.inj e)))
              clear hg7 hnb hy7
              clear y0 y1 y2 y3 y4 y5 y6 y7 y8 y9 y10 y11 yf0 yf1 yf2 yf3 yf4 yf5 yf6 yf7 yf8 yf9 yf10 yf11 ylt q0 q1
              generalize (w6.setCell ⟨y, 7, none⟩ (.int .i64 G)).setCell ⟨y, 9, none⟩ (.int .i64 (en : Nat)) = w7 at *
              have y0 := HY7.out.cell 0
              have yf0 := HY7.out.frozen 0
              have y1 := HY7.out.cell 1
              have yf1 := HY7.out.frozen 1
              have y2 := HY7.out.cell 2
              have yf2 := HY7.out.frozen 2
              have y3 := HY7.out.cell 3
              have yf3 := HY7.out.frozen 3
              have y4 := HY7.out.cell 4
              have yf4 := HY7.out.frozen 4
              have y5 := HY7.out.cell 5
              have yf5 := HY7.out.frozen 5
              have y6 := HY7.out.cell 6
              have yf6 := HY7.out.frozen 6
              have y7 := HY7.out.cell 7
              have yf7 := HY7.out.frozen 7
              have y8 := HY7.out.cell 8
              have yf8 := HY7.out.frozen 8
              have y9 := HY7.out.cell 9
              have yf9 := HY7.out.frozen 9
              have y10 := HY7.out.cell 10
              have yf10 := HY7.out.frozen 10
              have y11 := HY7.out.cell 11
              have yf11 := HY7.out.frozen 11
              simp at y0 y1 y2 y3 y4 y5 y6 y7 y8 y9 y10 y11
              have ylt := HY7.out.lt
              have q1 := HQ7.out.cell 1
              simp at q1
              have z0 := KZ7.out.cell 0
              have zf0 := KZ7.out.frozen 0
              have z1 := KZ7.out.cell 1
              have zf1 := KZ7.out.frozen 1
              have z2 := KZ7.out.cell 2
              have zf2 := KZ7.out.frozen 2
              have z3 := KZ7.out.cell 3
              have zf3 := KZ7.out.frozen 3
              have z4 := KZ7.out.cell 4
              have zf4 := KZ7.out.frozen 4
              have z5 := KZ7.out.cell 5
              have zf5 := KZ7.out.frozen 5
              have z6 := KZ7.out.cell 6
              have zf6 := KZ7.out.frozen 6
              have z7 := KZ7.out.cell 7
              have zf7 := KZ7.out.frozen 7
              have z8 := KZ7.out.cell 8
              have zf8 := KZ7.out.frozen 8
              have z9 := KZ7.out.cell 9
              have zf9 := KZ7.out.frozen 9
              have z10 := KZ7.out.cell 10
              have zf10 := KZ7.out.frozen 10
              have z11 := KZ7.out.cell 11
              have zf11 := KZ7.out.frozen 11
              simp at z0 z1 z2 z3 z4 z5 z6 z7 z8 z9 z10 z11
              have zlt := KZ7.out.lt
              go_region_held3 (fun W => W.cell? ⟨y, 0, none⟩ = some (.slice A1 k c1) ∧ W.cell? ⟨y, 1, none⟩ = some (.slice A2 k c2) ∧ W.cell? ⟨y, 2, none⟩ = some (.int .i64 ar) ∧ W.cell? ⟨y, 3, none⟩ = some (.bool false) ∧ W.cell? ⟨y, 4, none⟩ = some (.int .i64 (sl k : Nat)) ∧ W.cell? ⟨y, 5, none⟩ = some (.int .i64 (2 * (sl k : Nat))) ∧ W.cell? ⟨y, 6, none⟩ = some (.int .i64 (lg k : Nat)) ∧ W.cell? ⟨y, 7, none⟩ = some (.int .i64 G) ∧ W.cell? ⟨y, 8, none⟩ = some (.int .i64 (mm + 1)) ∧ W.cell? ⟨y, 9, none⟩ = some (.int .i64 (en : Nat)) ∧ W.cell? ⟨y, 10, none⟩ = some (.bool false) ∧ W.cell? ⟨y, 11, none⟩ = some (.bool true) ∧ W.cell? ⟨q, 1, none⟩ = some (.slice Ab4 n4 c4))
                (first
                  | with_reducible exact ⟨y0, y1, y2, y3, y4, y5, y6, y7, y8, y9, y10, y11, q1⟩
                  | (with_reducible refine ⟨(set12_keep ?_).trans y0, (set12_keep ?_).trans y1, (set12_keep ?_).trans y2, (set12_keep ?_).trans y3, (set12_keep ?_).trans y4, (set12_keep ?_).trans y5, (set12_keep ?_).trans y6, (set12_keep ?_).trans y7, (set12_keep ?_).trans y8, (set12_keep ?_).trans y9, (set12_keep ?_).trans y10, (set12_keep ?_).trans y11, (set12_keep ?_).trans q1⟩ <;> omega)
                  | go_keep)
                (fail)
              all_goals
                go_wp2
                refine bodyPost_ret (v := .tuple #[.agg (rwA (.slice A1 k c1) (.slice A2 k c2) ar false (sl k : Nat) (2 * (sl k : Nat)) (lg k : Nat) G (mm + 1) (en : Nat) false true), .slice Ab4 n4 c4, .slice A6 n6 c6, .int .i64 0]) ?_ rfl ?_
                · simp [results, Tryz.results11, go_sem, z0, z1, z2, z3, z4, z5, z6, z7, z8, z9, z10, z11, zlt]
                · obtain ⟨g1, g2, g3⟩ := old_end (a0 := .slice A1 k c1) (a1 := .slice A2 k c2) (a2 := .int .i64 ar) (a3 := .bool false) (a4 := .int .i64 (sl k : Nat)) (a5 := .int .i64 (2 * (sl k : Nat))) (a6 := .int .i64 (lg k : Nat)) (a7 := .int .i64 G) (a8 := .int .i64 (mm + 1)) (a9 := .int .i64 (en : Nat)) (a10 := .bool false) (a11 := .bool true) KZ7.out KZe.out.lt HS7.out HT7.out HBB7.out (Nat.le_succ _)
                  with_reducible exact HOLDs.out _ Ab4 n4 c4 _ g1 g2 g3
            | none =>
              clear HQ HT4
              have hs1 : slotAt (sl k) 1 = sl k := by simp [slotAt]
              have hnd : newD s.get k = newTo s.get (sl k) (2 * sl k) k := by unfold newD; rw [hs1, show sl k + sl k = 2 * sl k by omega]
              have hmm' : openMark s ≤ 2147483648 := by first | exact hm' | exact Int.not_lt.mp hm'
              have h8 := fun (hx : newTo s.get (sl k) (2 * sl k) k = false) => HOUT.out 8 (H8.out hmm' (by first | rfl | exact HOO.out) (by rw [hnd]; exact hx))
              have hnw := fun (hx : newTo s.get (sl k) (2 * sl k) k = true) => HNEW.out _ rfl hmm' (by first | rfl | exact HOO.out) (by rw [hnd]; exact hx)
              rw [HOM.out] at hnw
              have HO8 := Lib.hid h8; clear h8
              have HNW := Lib.hid hnw; clear hnw hnd hs1
              obtain ⟨b, off, e, hb, hc⟩ := sls_at HSe.out (by omega)
              subst e
              have HC := Lib.hid hc; clear hc
              obtain ⟨p0', p1', p2', p3''⟩ := blk3 KPe.out
              obtain ⟨x0, x1, x2, x3, xl⟩ := blk4 KDe.out
              have z0 := KZe.out.cell 0
              have zf0 := KZe.out.frozen 0
              have z1 := KZe.out.cell 1
              have zf1 := KZe.out.frozen 1
              have z2 := KZe.out.cell 2
              have zf2 := KZe.out.frozen 2
              have z3 := KZe.out.cell 3
              have zf3 := KZe.out.frozen 3
              have z4 := KZe.out.cell 4
              have zf4 := KZe.out.frozen 4
              have z5 := KZe.out.cell 5
              have zf5 := KZe.out.frozen 5
              have z6 := KZe.out.cell 6
              have zf6 := KZe.out.frozen 6
              have z7 := KZe.out.cell 7
              have zf7 := KZe.out.frozen 7
              have z8 := KZe.out.cell 8
              have zf8 := KZe.out.frozen 8
              have z9 := KZe.out.cell 9
              have zf9 := KZe.out.frozen 9
              have z10 := KZe.out.cell 10
              have zf10 := KZe.out.frozen 10
              have z11 := KZe.out.cell 11
              have zf11 := KZe.out.frozen 11
              simp at z0 z1 z2 z3 z4 z5 z6 z7 z8 z9 z10 z11
              have zlt := KZe.out.lt
              clear hm' hmm'
              go_wp2_with fail
              go_loopw [15] (fun z wr => ∃ j : Nat, j ≤ k ∧ z = .int .i64 j ∧ newTo s.get (sl k) (2 * sl k) j = true ∧ we = wr) (fun z _ => k - (intOf z).toNat)
              case atStart => exact ⟨0, Nat.zero_le _, rfl, rfl, rfl⟩
              case round =>
                obtain ⟨j, hj, rfl, hnt, rfl⟩ := hrel
                have HNT := Lib.hid hnt; clear hnt
                by_cases hlt : j < k
                · obtain ⟨u, hu, hus⟩ := HC.out j hlt
                  rw [ofS_get _ _ _ hlt] at hus
                  obtain ⟨Aq, nq, cq, rfl, hbt, _⟩ := id hus
                  have bl := rblank_any Aq nq cq (s.get j) _ hbt
                  rw [all_noughts (fine_sec HFN.out j)] at bl
                  have hst := newTo_step HNT.out
                  have hno := @newTo_no s.get (sl k) (2 * sl k) j k hlt
                  obtain ⟨bb, hbb⟩ : ∃ bb, bb = decide (s.get j = Pg.noughts) := ⟨_, rfl⟩
                  rw [← hbb] at bl hst
                  have BL := Lib.hid bl; clear bl hbb
                  have HST := Lib.hid hst; clear hst
                  have HNO := Lib.hid hno; clear hno
                  clear hus hbt
                  by_cases hjf : j < sl k
                  · have e1 : newTo s.get (sl k) (2 * sl k) (j + 1) = bb := by rw [HST.out, decide_eq_false (by omega : ¬ sl k ≤ j)]; simp
                    have E1 := Lib.hid e1; clear e1
                    cases bb
                    · have HO9 := Lib.hid (HO8.out (HNO.out E1.out))
                      go_wp2_with (go_at_call 44; refine (BL.out).mono ?_; rintro e w2 ⟨rfl, rfl⟩)
                      refine bodyPost_ret (v := .tuple #[.agg (rwA (.slice A1 k c1) (.slice A2 k c2) ar false 0 0 0 0 0 0 false false), .slice none 0 0, .slice none 0 0, .int .i64 8]) ?_ rfl (HO9.out _ (set12_below (g := w.heap.size + 1) HBe.out (Nat.le_succ _)))
                      simp [results, Tryz.results11, go_sem, z0, z1, z2, z3, z4, z5, z6, z7, z8, z9, z10, z11, zlt]
                    · go_wp2_with (go_at_call 44; refine (BL.out).mono ?_; rintro e w2 ⟨rfl, rfl⟩)
                      go_roundw
                      case rel => exact ⟨j + 1, by omega, by go_num, E1.out, trivial⟩
                      case measure => simp [intOf]; omega
                  · by_cases hjt : 2 * sl k ≤ j
                    · have e1 : newTo s.get (sl k) (2 * sl k) (j + 1) = bb := by rw [HST.out, decide_eq_false (by omega : ¬ j < 2 * sl k)]; simp
                      have E1 := Lib.hid e1; clear e1
                      cases bb
                      · have HO9 := Lib.hid (HO8.out (HNO.out E1.out))
                        go_wp2_with (go_at_call 44; refine (BL.out).mono ?_; rintro e w2 ⟨rfl, rfl⟩)
                        refine bodyPost_ret (v := .tuple #[.agg (rwA (.slice A1 k c1) (.slice A2 k c2) ar false 0 0 0 0 0 0 false false), .slice none 0 0, .slice none 0 0, .int .i64 8]) ?_ rfl (HO9.out _ (set12_below (g := w.heap.size + 1) HBe.out (Nat.le_succ _)))
                        simp [results, Tryz.results11, go_sem, z0, z1, z2, z3, z4, z5, z6, z7, z8, z9, z10, z11, zlt]
                      · go_wp2_with (go_at_call 44; refine (BL.out).mono ?_; rintro e w2 ⟨rfl, rfl⟩)
                        go_roundw
                        case rel => exact ⟨j + 1, by omega, by go_num, E1.out, trivial⟩
                        case measure => simp [intOf]; omega
                    · have e1 : newTo s.get (sl k) (2 * sl k) (j + 1) = true := by rw [HST.out, decide_eq_true (by omega : sl k ≤ j), decide_eq_true (by omega : j < 2 * sl k)]; simp
                      have E1 := Lib.hid e1; clear e1
                      go_wp2_with fail
                      go_roundw
                      case rel => exact ⟨j + 1, by omega, by go_num, E1.out, trivial⟩
                      case measure => simp [intOf]; omega
                · obtain rfl : k = j := by omega
                  have hzl := KZe.out.lt
                  clear z0 z1 z2 z3 z4 z5 z6 z7 z8 z9 z10 z11 zf0 zf1 zf2 zf3 zf4 zf5 zf6 zf7 zf8 zf9 zf10 zf11 zlt p0' p1' p2' p3'' x0 x1 x2 x3 xl
                  have hnew := HNW.out HNT.out; clear HNW HO8 HC hb HNT hj hlt
                  have tn := turn_first S A1 A2 c1 c2 s k w we ar mm HFN.out RR.out HSS.out hn hn2 HKK.out HAR.out HDD.out hm0 (by first | exact hm | exact Int.not_lt.mpr hm) HBe.out hzl
                  generalize firstP s k (mm + 1) = F at *
                  obtain ⟨F1, er⟩ := F
                  simp only at tn hnew
                  have TN := Lib.hid tn; clear tn
                  have HNEWs := Lib.hid hnew; clear hnew
                  have y0 := HYe.out.cell 0
                  have yf0 := HYe.out.frozen 0
                  have y1 := HYe.out.cell 1
                  have yf1 := HYe.out.frozen 1
                  have y2 := HYe.out.cell 2
                  have yf2 := HYe.out.frozen 2
                  have y3 := HYe.out.cell 3
                  have yf3 := HYe.out.frozen 3
                  have y4 := HYe.out.cell 4
                  have yf4 := HYe.out.frozen 4
                  have y5 := HYe.out.cell 5
                  have yf5 := HYe.out.frozen 5
                  have y6 := HYe.out.cell 6
                  have yf6 := HYe.out.frozen 6
                  have y7 := HYe.out.cell 7
                  have yf7 := HYe.out.frozen 7
                  have y8 := HYe.out.cell 8
                  have yf8 := HYe.out.frozen 8
                  have y9 := HYe.out.cell 9
                  have yf9 := HYe.out.frozen 9
                  have y10 := HYe.out.cell 10
                  have yf10 := HYe.out.frozen 10
                  have y11 := HYe.out.cell 11
                  have yf11 := HYe.out.frozen 11
                  simp at y0 y1 y2 y3 y4 y5 y6 y7 y8 y9 y10 y11
                  have ylt := HYe.out.lt
                  have HLT := Lib.hid hzl
                  by_cases he : er = 0
                  · subst he
                    have hn0 := fun (w' : World) (v1 v2 : Value) (h1 : RefAt w' S (refV v1 v2 F1) F1) (h2 : Below w.heap.size w w') => (HNEWs.out w' v1 v2 h1 h2).1 rfl
                    have HN0 := Lib.hid hn0; clear hn0 HNEWs
                    have tn := TN.out
                    simp only [if_pos, bne_self_eq_false] at tn
                    clear TN
                    have TN := Lib.hid tn; clear tn
                    go_wp2_with (go_at_call 16; refine (TN.out).mono ?_; rintro e w6 ⟨B1, B2, e1, e2, rfl, hr6, hb6⟩; have HR6 := Lib.hid hr6; have HB6 := Lib.hid hb6; have KZ6 := Lib.hid (KZe.out.below hb6 KZe.out.lt); have HBB6 := Lib.hid (HBe.out.trans (hb6.mono HBe.out.size)); clear hr6 hb6; have z0 := KZ6.out.cell 0; have zf0 := KZ6.out.frozen 0; have z1 := KZ6.out.cell 1; have zf1 := KZ6.out.frozen 1; have z2 := KZ6.out.cell 2; have zf2 := KZ6.out.frozen 2; have z3 := KZ6.out.cell 3; have zf3 := KZ6.out.frozen 3; have z4 := KZ6.out.cell 4; have zf4 := KZ6.out.frozen 4; have z5 := KZ6.out.cell 5; have zf5 := KZ6.out.frozen 5; have z6 := KZ6.out.cell 6; have zf6 := KZ6.out.frozen 6; have z7 := KZ6.out.cell 7; have zf7 := KZ6.out.frozen 7; have z8 := KZ6.out.cell 8; have zf8 := KZ6.out.frozen 8; have z9 := KZ6.out.cell 9; have zf9 := KZ6.out.frozen 9; have z10 := KZ6.out.cell 10; have zf10 := KZ6.out.frozen 10; have z11 := KZ6.out.cell 11; have zf11 := KZ6.out.frozen 11; simp at z0 z1 z2 z3 z4 z5 z6 z7 z8 z9 z10 z11; have zlt := KZ6.out.lt)
                    refine bodyPost_ret (v := .tuple #[.agg (rwA (.slice B1 F1.n e1) (.slice B2 F1.n e2) (armedOf F1.left) F1.dead (sl k : Nat) (2 * (sl k : Nat)) (lg k : Nat) 1 (mm + 1) 0 false true), .slice none 0 0, .slice none 0 0, .int .i64 0]) ?_ rfl (HN0.out _ _ _ ?_ ?_)
                    · simp [results, Tryz.results11, go_sem, z0, z1, z2, z3, z4, z5, z6, z7, z8, z9, z10, z11, zlt]
                    · exact ((HR6.out.kept (set12_kept (by simp))).more (fun x hx => List.mem_cons_of_mem _ hx)).below (palloc (Below.refl _ _) _)
                    · exact palloc (set12_below HBB6.out (Nat.le_succ _)) _
                  · have hn0 := fun (w' : World) (v1 v2 : Value) (h1 : RefAt w' S (refV v1 v2 F1) F1) (h2 : Below w.heap.size w w') => (HNEWs.out w' v1 v2 h1 h2).2 he
                    have HN0 := Lib.hid hn0; clear hn0 HNEWs
                    have hne : (er != 0) = true := bne_iff_ne.2 he
                    have tn := TN.out
                    rw [hne, if_neg he] at tn
                    clear TN
                    have TN := Lib.hid tn; clear tn
                    clear he
                    go_wp2_with (go_at_call 16; refine (TN.out).mono ?_; rintro e w6 ⟨B1, B2, e1, e2, rfl, hr6, hb6⟩; have HR6 := Lib.hid hr6; have HB6 := Lib.hid hb6; have KZ6 := Lib.hid (KZe.out.below hb6 KZe.out.lt); have HBB6 := Lib.hid (HBe.out.trans (hb6.mono HBe.out.size)); clear hr6 hb6; have z0 := KZ6.out.cell 0; have zf0 := KZ6.out.frozen 0; have z1 := KZ6.out.cell 1; have zf1 := KZ6.out.frozen 1; have z2 := KZ6.out.cell 2; have zf2 := KZ6.out.frozen 2; have z3 := KZ6.out.cell 3; have zf3 := KZ6.out.frozen 3; have z4 := KZ6.out.cell 4; have zf4 := KZ6.out.frozen 4; have z5 := KZ6.out.cell 5; have zf5 := KZ6.out.frozen 5; have z6 := KZ6.out.cell 6; have zf6 := KZ6.out.frozen 6; have z7 := KZ6.out.cell 7; have zf7 := KZ6.out.frozen 7; have z8 := KZ6.out.cell 8; have zf8 := KZ6.out.frozen 8; have z9 := KZ6.out.cell 9; have zf9 := KZ6.out.frozen 9; have z10 := KZ6.out.cell 10; have zf10 := KZ6.out.frozen 10; have z11 := KZ6.out.cell 11; have zf11 := KZ6.out.frozen 11; simp at z0 z1 z2 z3 z4 z5 z6 z7 z8 z9 z10 z11; have zlt := KZ6.out.lt)
                    refine bodyPost_ret (v := .tuple #[.agg (rwA (.slice B1 F1.n e1) (.slice B2 F1.n e2) (armedOf F1.left) F1.dead 0 0 0 0 0 0 false false), .slice none 0 0, .slice none 0 0, .int .i64 er]) ?_ rfl (HN0.out _ _ _ ?_ ?_)
                    · simp [results, Tryz.results11, go_sem, z0, z1, z2, z3, z4, z5, z6, z7, z8, z9, z10, z11, zlt]
                    · exact ((HR6.out.kept (set12_kept (by simp))).more (fun x hx => List.mem_cons_of_mem _ hx)).below (palloc (Below.refl _ _) _)
                    · exact palloc (set12_below HBB6.out (Nat.le_succ _)) _
theorem ropen_any (S : List Nat) (v : Value) (s : St) (w : World) (hf : Dsk.Fine s) (hr : RefAt w S v s) (hS : ∀ x ∈ S, x < w.heap.size) (hn : 6 ≤ s.n) (hn2 : s.n ≤ 1000) :
    Calls Tryz.prog 11 #[v] w (ROpen w S s) := by
  obtain ⟨A1, c1, A2, c2, rfl⟩ := refAt_two hr
  cases hd : s.dead with
  | true => exact ropen_dead S A1 A2 c1 c2 s w hr hn hn2 hd
  | false => exact ropen_live S A1 A2 c1 c2 s w hf hr hS hn hn2 hd
end Go.Proofs.YtnenbocjfekmfaaGreat.Wl
