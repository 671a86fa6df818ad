/- The reference of layer 16 (cable): New, Cost, Set, Send; and cables as plain values. -/
import Derived.Test.YtkflbhaomoaonaaQuRef
import Derived.Test.YtkflbhaomoaonaaRowArm
namespace Go.Proofs.Ytkflbhaomoaonaa.Cab
open Go.RowKit Go.Proofs.Ytkflbhaomoaonaa.Mem Go.Proofs.Ytkflbhaomoaonaa.Que
set_option linter.unusedVariables false
set_option linter.unusedSimpArgs false
/-- a cable: its nodes, whether it is up, what it costs, what is to come to each -/
structure Cb where
  a : Int
  b : Int
  up : Bool
  p : Int
  q : Int
  ta : List (List Nat)
  tb : List (List Nat)
def costP (c : Cb) (of : Int) : Int := if c.up = true then (if of = c.a then c.p else if of = c.b then c.q else 0) else 0
def costOk (p q : Int) : Bool := decide (1 ≤ p) && decide (p ≤ 1073741824) && decide (1 ≤ q) && decide (q ≤ 1073741824)
def setP (c : Cb) (up : Bool) (p q : Int) : Cb × Int := if costOk p q = true then ({ c with up := up, p := p, q := q, ta := if up = true then c.ta else [], tb := if up = true then c.tb else [] }, 0) else (c, 1)
def sendP (c : Cb) (from_ : Int) (xs : List Nat) : Cb × Int :=
  if from_ = c.a then (if c.up = true then (if c.tb.length < 32 then ({ c with tb := c.tb ++ [xs] }, 0) else (c, 4)) else (c, 3))
  else if from_ = c.b then (if c.up = true then (if c.ta.length < 32 then ({ c with ta := c.ta ++ [xs] }, 0) else (c, 4)) else (c, 3))
  else (c, 1)
abbrev cabC (c : Cb) (u v : Value) : Array Value := #[.int .i64 c.a, .int .i64 c.b, .bool c.up, .int .i64 c.p, .int .i64 c.q, u, v]
theorem size_cab : (Try.prog.info? 31).map (·.size) = some 7 := by kernel_rfl
theorem results_blk {P : Program} {fn : Func} {p : Tmp} {ty : TypeId} (h : fn.results = #[.cell p ty]) (tmps : Array Value) {w : World} {g : Nat} {cs : Array Value} {d : TypeDesc} (hp : tmps.getD p undef = .pointer (some ⟨g, 0, none⟩))
    (hb : Blk w g ty cs) (hu : P.underlying ty = some d) (hd : (match d with | .struct _ | .array _ _ => true | _ => false) = true) (hi : (P.info? ty).map (·.size) = some cs.size) :
    (results fn tmps).run P w = .ok (.agg cs) w := by
  have hp' : tmps[p]?.getD undef = .pointer (some ⟨g, 0, none⟩) := by simpa using hp
  simp [results, h, hp', asAddr, run_loadVar_blk hb hu hd hi]
set_option maxRecDepth 20000 in
set_option maxHeartbeats 4000000 in
theorem rnew_any (a b : Int) (w : World) : Calls Try.prog 7 #[.int .i64 a, .int .i64 b] w fun e w' => e = .returned (.agg (cabC ⟨a, b, false, 1, 1, [], []⟩ (.slice none 0 0) (.slice none 0 0))) ∧ Below w.heap.size w w' := by
  go_enter Try.func7, Try.ntmps7
  go_wp2
  exact bodyPost_ret (results_blk Try.results7 _ (by rfl) (Blk.new w _ _) Try.underlying31 rfl (by rw [size_cab]; rfl)) rfl ⟨rfl, (Below.refl _ _).alloc (Nat.le_refl _) _⟩
set_option maxRecDepth 20000 in
set_option maxHeartbeats 4000000 in
theorem rcost_any (c : Cb) (Au Av : Option Addr) (nu nv cu cv : Nat) (of : Int) (w : World) : Calls Try.prog 19 #[.agg (cabC c (.slice Au nu cu) (.slice Av nv cv)), .int .i64 of] w fun e w' => e = .returned (.int .i64 (costP c of)) ∧ Below w.heap.size w w' := by
  obtain ⟨a, b, up, p, q, ta, tb⟩ := c
  have HB := Lib.hid ((Below.refl w.heap.size w).alloc (Nat.le_refl _) (.cells #[.int .i64 a, .int .i64 b, .bool up, .int .i64 p, .int .i64 q, .slice Au nu cu, .slice Av nv cv] 31))
  unfold costP cabC
  cases up
  · go_enter Try.func19, Try.ntmps19
    go_wp2
    go_ret
    exact ⟨rfl, HB.out⟩
  · by_cases h1 : of = a
    · subst h1
      rw [if_pos rfl, if_pos rfl]
      go_enter Try.func19, Try.ntmps19
      go_wp2
      go_ret
      exact ⟨rfl, HB.out⟩
    · rw [if_pos rfl, if_neg h1]
      have e1 : (of == a) = false := beq_false_of_ne h1
      clear h1
      by_cases h2 : of = b
      · subst h2
        rw [if_pos rfl]
        go_enter Try.func19, Try.ntmps19
        go_wp2
        go_ret
        exact ⟨rfl, HB.out⟩
      · rw [if_neg h2]
        have e2 : (of == b) = false := beq_false_of_ne h2
        clear h2
        go_enter Try.func19, Try.ntmps19
        go_wp2
        go_ret
        exact ⟨rfl, HB.out⟩
theorem blk_new2 (w : World) (o1 : Obj) (t : TypeId) (cs : Array Value) : Blk ((w.alloc o1).alloc (.cells cs t)) (w.heap.size + 1) t cs := by
  have := Blk.new (w.alloc o1) t cs
  rw [show (w.alloc o1).heap.size = w.heap.size + 1 by simp] at this
  exact this
theorem blk_new3 (w : World) (o1 o2 : Obj) (t : TypeId) (cs : Array Value) : Blk (((w.alloc o1).alloc o2).alloc (.cells cs t)) (w.heap.size + 1 + 1) t cs := by
  have := Blk.new ((w.alloc o1).alloc o2) t cs
  rw [show ((w.alloc o1).alloc o2).heap.size = w.heap.size + 1 + 1 by simp] at this
  exact this
theorem below2 (w : World) (o1 o2 : Obj) : Below w.heap.size w ((w.alloc o1).alloc o2) := ((Below.refl _ w).alloc (Nat.le_refl _) o1).alloc (by simp) o2
theorem below3 (w : World) (o1 o2 o3 : Obj) : Below w.heap.size w (((w.alloc o1).alloc o2).alloc o3) := (below2 w o1 o2).alloc (by simp; omega) o3
theorem costs_cases (p q : Int) : costOk p q = true ∨ (p < 1) ∨ (1 ≤ p ∧ 1073741824 < p) ∨ (1 ≤ p ∧ p ≤ 1073741824 ∧ q < 1) ∨ (1 ≤ p ∧ p ≤ 1073741824 ∧ 1 ≤ q ∧ 1073741824 < q) := by
  unfold costOk
  simp only [Bool.and_eq_true, decide_eq_true_eq]
  omega
/-- what the reference's Set answers: a struct whose rows are as they were, or none -/
def setU (up : Bool) (u : Value) : Value := if up = true then u else .slice none 0 0
def SetR (w : World) (c : Cb) (up : Bool) (p q : Int) (u v : Value) (e : Ending) (w' : World) : Prop :=
  e = .returned (.tuple #[.agg (cabC (setP c up p q).1 (if costOk p q = true then setU up u else u) (if costOk p q = true then setU up v else v)), .int .i64 (setP c up p q).2]) ∧ Below w.heap.size w w'
set_option maxRecDepth 20000 in
set_option maxHeartbeats 4000000 in
theorem rset_ok (c : Cb) (Au Av : Option Addr) (nu nv cu cv : Nat) (up : Bool) (p q : Int) (w : World) (h : costOk p q = true) : Calls Try.prog 10 #[.agg (cabC c (.slice Au nu cu) (.slice Av nv cv)), .bool up, .agg #[.int .i64 p, .int .i64 q]] w (SetR w c up p q (.slice Au nu cu) (.slice Av nv cv)) := by
  unfold SetR setP setU
  rw [if_pos h, if_pos h, if_pos h]
  simp only [costOk, Bool.and_eq_true, decide_eq_true_eq] at h
  obtain ⟨⟨⟨h1, h2⟩, h3⟩, h4⟩ := h
  have d1 : decide (p < 1) = false := by simp; omega
  have d2 : decide ((1073741824 : Int) < p) = false := by simp; omega
  have d3 : decide (q < 1) = false := by simp; omega
  have d4 : decide ((1073741824 : Int) < q) = false := by simp; omega
  clear h1 h2 h3 h4
  obtain ⟨a, b, up0, p0, q0, ta, tb⟩ := c
  unfold cabC
  cases up
  · go_enter Try.func10, Try.ntmps10
    go_wp2
    exact bodyPost_ret (results_blk_tmp Try.results10 _ (by rfl) (.int .i64 0) (by rfl) (blk_new3 _ _ _ _ _) Try.underlying31 rfl (by rw [size_cab]; rfl)) rfl ⟨rfl, below3 _ _ _ _⟩
  · go_enter Try.func10, Try.ntmps10
    go_wp2
    exact bodyPost_ret (results_blk_tmp Try.results10 _ (by rfl) (.int .i64 0) (by rfl) (blk_new3 _ _ _ _ _) Try.underlying31 rfl (by rw [size_cab]; rfl)) rfl ⟨rfl, below3 _ _ _ _⟩
set_option maxRecDepth 20000 in
set_option maxHeartbeats 4000000 in
theorem rset_any (c : Cb) (Au Av : Option Addr) (nu nv cu cv : Nat) (up : Bool) (p q : Int) (w : World) : Calls Try.prog 10 #[.agg (cabC c (.slice Au nu cu) (.slice Av nv cv)), .bool up, .agg #[.int .i64 p, .int .i64 q]] w (SetR w c up p q (.slice Au nu cu) (.slice Av nv cv)) := by
  by_cases h0 : costOk p q = true
  · exact rset_ok c Au Av nu nv cu cv up p q w h0
  have h := (costs_cases p q).resolve_left h0
  unfold SetR setP
  rw [if_neg h0, if_neg h0, if_neg h0]
  clear h0
  obtain ⟨a, b, up0, p0, q0, ta, tb⟩ := c
  unfold cabC
  rcases h with h | h | h | h
  · have h1 := h
    clear h
    have d1 : decide (p < 1) = true := by simp; omega
    clear h1
    go_enter Try.func10, Try.ntmps10
    go_wp2
    exact bodyPost_ret (results_blk_tmp Try.results10 _ (by rfl) (.int .i64 1) (by rfl) (blk_new3 _ _ _ _ _) Try.underlying31 rfl (by rw [size_cab]; rfl)) rfl ⟨rfl, below3 _ _ _ _⟩
  · obtain ⟨h1, h2⟩ := h
    have d1 : decide (p < 1) = false := by simp; omega
    have d2 : decide ((1073741824 : Int) < p) = true := by simp; omega
    clear h1 h2
    go_enter Try.func10, Try.ntmps10
    go_wp2
    exact bodyPost_ret (results_blk_tmp Try.results10 _ (by rfl) (.int .i64 1) (by rfl) (blk_new3 _ _ _ _ _) Try.underlying31 rfl (by rw [size_cab]; rfl)) rfl ⟨rfl, below3 _ _ _ _⟩
  · obtain ⟨h1, h2, h3⟩ := h
    have d1 : decide (p < 1) = false := by simp; omega
    have d2 : decide ((1073741824 : Int) < p) = false := by simp; omega
    have d3 : decide (q < 1) = true := by simp; omega
    clear h1 h2 h3
    go_enter Try.func10, Try.ntmps10
    go_wp2
    exact bodyPost_ret (results_blk_tmp Try.results10 _ (by rfl) (.int .i64 1) (by rfl) (blk_new3 _ _ _ _ _) Try.underlying31 rfl (by rw [size_cab]; rfl)) rfl ⟨rfl, below3 _ _ _ _⟩
  · obtain ⟨h1, h2, h3, h4⟩ := h
    have d1 : decide (p < 1) = false := by simp; omega
    have d2 : decide ((1073741824 : Int) < p) = false := by simp; omega
    have d3 : decide (q < 1) = false := by simp; omega
    have d4 : decide ((1073741824 : Int) < q) = true := by simp; omega
    clear h1 h2 h3 h4
    go_enter Try.func10, Try.ntmps10
    go_wp2
    exact bodyPost_ret (results_blk_tmp Try.results10 _ (by rfl) (.int .i64 1) (by rfl) (blk_new3 _ _ _ _ _) Try.underlying31 rfl (by rw [size_cab]; rfl)) rfl ⟨rfl, below3 _ _ _ _⟩
/-- what the reference's Send answers: the rows as they were, or one with a text more, in a row of the call's own -/
def SendR (w : World) (c : Cb) (from_ : Int) (xs : List Nat) (u v : Value) (e : Ending) (w' : World) : Prop :=
  ∃ u' v', e = .returned (.tuple #[.agg (cabC (sendP c from_ xs).1 u' v'), .int .i64 (sendP c from_ xs).2]) ∧ ((u' = u ∧ (sendP c from_ xs).1.ta = c.ta) ∨ SlRow w' w.heap.size u' (sendP c from_ xs).1.ta) ∧ ((v' = v ∧ (sendP c from_ xs).1.tb = c.tb) ∨ SlRow w' w.heap.size v' (sendP c from_ xs).1.tb) ∧ Below w.heap.size w w'
theorem blk_cells7 {w : World} {g : Nat} {t : TypeId} {a b c d e f h : Value} (k : Blk w g t #[a, b, c, d, e, f, h]) : w.cell? ⟨g, 0, none⟩ = some a ∧ w.cell? ⟨g, 1, none⟩ = some b ∧ w.cell? ⟨g, 2, none⟩ = some c ∧ w.cell? ⟨g, 3, none⟩ = some d ∧ w.cell? ⟨g, 4, none⟩ = some e ∧ w.cell? ⟨g, 5, none⟩ = some f ∧ w.cell? ⟨g, 6, none⟩ = some h ∧ g < w.heap.size ∧ (w.frozen? ⟨g, 0, none⟩ = false ∧ w.frozen? ⟨g, 1, none⟩ = false ∧ w.frozen? ⟨g, 2, none⟩ = false ∧ w.frozen? ⟨g, 3, none⟩ = false ∧ w.frozen? ⟨g, 4, none⟩ = false ∧ w.frozen? ⟨g, 5, none⟩ = false ∧ w.frozen? ⟨g, 6, none⟩ = false) :=
  ⟨k.cell 0, k.cell 1, k.cell 2, k.cell 3, k.cell 4, k.cell 5, k.cell 6, k.lt, k.frozen 0, k.frozen 1, k.frozen 2, k.frozen 3, k.frozen 4, k.frozen 5, k.frozen 6⟩
/-- a row's slice stored in the box, and the box copied to the answer's -/
abbrev sent (w : World) (y r i : Nat) (u a0 a1 a2 a3 a4 a5 a6 : Value) : World :=
  (((((((w.setCell ⟨y, i, none⟩ u).setCell ⟨r, 0, none⟩ a0).setCell ⟨r, 1, none⟩ a1).setCell ⟨r, 2, none⟩ a2).setCell ⟨r, 3, none⟩ a3).setCell ⟨r, 4, none⟩ a4).setCell ⟨r, 5, none⟩ a5).setCell ⟨r, 6, none⟩ a6
theorem sent_blk {w : World} {y r i : Nat} {t : TypeId} {u a0 a1 a2 a3 a4 a5 a6 z0 z1 z2 z3 z4 z5 z6 : Value} (h : Blk w r t #[z0, z1, z2, z3, z4, z5, z6]) (hne : r ≠ y) : Blk (sent w y r i u a0 a1 a2 a3 a4 a5 a6) r t #[a0, a1, a2, a3, a4, a5, a6] := by
  have k := (((((((h.far (p := ⟨y, i, none⟩) hne u).set_ 0 a0).set_ 1 a1).set_ 2 a2).set_ 3 a3).set_ 4 a4).set_ 5 a5).set_ 6 a6
  simp only [List.setIfInBounds_toArray, List.set_cons_zero, List.set_cons_succ] at k
  exact k
theorem kq_row {w w1 : World} {g r : Nat} (h : KQ w w1 g (some r)) (i : Nat) (u : Value) : KQ w (w1.setCell ⟨r, i, none⟩ u) g (some r) := h.trans (KQ.of_grown (grown_set w1 ⟨r, i, none⟩ u)) (fun q e => .inl e)
theorem sent_kq (w : World) (y r i : Nat) (u a0 a1 a2 a3 a4 a5 a6 : Value) : KQ w (sent w y r i u a0 a1 a2 a3 a4 a5 a6) y (some r) :=
  kq_row (kq_row (kq_row (kq_row (kq_row (kq_row (kq_row ((KQ.of_below (Below.refl _ w)).set i u) 0 a0) 1 a1) 2 a2) 3 a3) 4 a4) 5 a5) 6 a6
theorem noBy7 {w : World} {g : Nat} {t : TypeId} {cs : Array Value} (h : Blk w g t cs) (hc : cs.all (fun u => !isBy u) = true) : NoBy w (some g) := noBy_cells h fun u hu => by
  have := Array.all_eq_true'.1 hc u (by simpa using hu)
  simpa using this
theorem sent_row {w : World} {y r i base : Nat} {t t' : TypeId} {cs ds : Array Value} {u a0 a1 a2 a3 a4 a5 a6 v : Value} {ss : List (List Nat)} (h : SlRow w base v ss) (hy : Blk w y t cs) (hr : Blk w r t' ds) (hc : cs.all (fun u => !isBy u) = true) (hd : ds.all (fun u => !isBy u) = true) (h1 : y < base) (h2 : r < base) : SlRow (sent w y r i u a0 a1 a2 a3 a4 a5 a6) base v ss := by
  have k := sent_kq w y r i u a0 a1 a2 a3 a4 a5 a6
  have g1 := noBy7 hy hc
  have g2 := noBy7 hr hd
  revert k
  generalize sent w y r i u a0 a1 a2 a3 a4 a5 a6 = W
  intro k
  refine row_kq h k g1 g2 (fun q e => ?_)
  have := (slRow_lt h q e).1
  refine ⟨by omega, fun e2 => ?_⟩
  injection e2 with e2
  omega
set_option maxRecDepth 20000 in
set_option maxHeartbeats 4000000 in
theorem rsend_any (c : Cb) (Au Av Ax : Option Addr) (nu nv nx cu cv cx : Nat) (from_ : Int) (xs : List Nat) (w : World) (hu : Sls w w.heap.size (.slice Au nu cu) c.ta) (hv : Sls w w.heap.size (.slice Av nv cv) c.tb) (hx : Sl w w.heap.size (.slice Ax nx cx) xs) :
    Calls Try.prog 8 #[.agg (cabC c (.slice Au nu cu) (.slice Av nv cv)), .int .i64 from_, .slice Ax nx cx] w (SendR w c from_ xs (.slice Au nu cu) (.slice Av nv cv)) := by
  obtain ⟨a, b, up, p, q, ta, tb⟩ := c
  simp only at hu hv
  have hnu := (sls_len hu).1
  have hnv := (sls_len hv).1
  have hz : ∀ t cs, Below w.heap.size w ((w.alloc (.cells cs t)).alloc (.cells #[.int .i64 0, .int .i64 0, .bool false, .int .i64 0, .int .i64 0, .slice none 0 0, .slice none 0 0] 31)) := fun t cs => below2 w _ _
  unfold SendR sendP cabC
  simp only
  by_cases h1 : from_ = a
  · subst h1
    rw [if_pos rfl]
    cases up
    · rw [if_neg (by decide)]
      clear hu hv hx hnu hnv
      go_enter Try.func8, Try.ntmps8
      go_wp2
      exact bodyPost_ret (results_blk_tmp Try.results8 _ (by rfl) (.int .i64 3) (by rfl) (blk_new2 _ _ _ _) Try.underlying31 rfl (by rw [size_cab]; rfl)) rfl ⟨_, _, rfl, .inl ⟨rfl, by first | rfl | trivial⟩, .inl ⟨rfl, by first | rfl | trivial⟩, below2 _ _ _⟩
    · rw [if_pos rfl]
      by_cases hl : tb.length < 32
      · have WA := Lib.hid (fun W (h : Below w.heap.size w W) => with_any (.slice Av nv cv) (.slice Ax nx cx) tb xs W ((hv.keep h).more h.size) ((hx.below h (Nat.le_refl _)).more h.size) (by omega))
        rw [if_pos hl]
        have dl : decide ((32 : Int) ≤ nv) = false := by simp; omega
        clear hu hv hx hnu hnv hl
        have HZ := Lib.hid hz; clear hz
        go_enter Try.func8, Try.ntmps8
        go_wp2_with (go_at_call 24; refine (WA.out _ (by exact HZ.out _ _)).mono ?_; rintro e w2 ⟨v2, rfl, hr2, hb2⟩; obtain ⟨A2, n2, c2, rfl, _⟩ := slRow_form2 hr2; have HR2 := Lib.hid hr2; have HB2 := Lib.hid hb2; have kb2 := ((Blk.new w 31 #[.int .i64 from_, .int .i64 b, .bool true, .int .i64 p, .int .i64 q, .slice Au nu cu, .slice Av nv cv]).alloc (.cells #[.int .i64 0, .int .i64 0, .bool false, .int .i64 0, .int .i64 0, .slice none 0 0, .slice none 0 0] 31)).below hb2 (by simp; omega); have kr2 := (blk_new2 w (.cells #[.int .i64 from_, .int .i64 b, .bool true, .int .i64 p, .int .i64 q, .slice Au nu cu, .slice Av nv cv] 31) 31 #[.int .i64 0, .int .i64 0, .bool false, .int .i64 0, .int .i64 0, .slice none 0 0, .slice none 0 0]).below hb2 (by simp); have KB2 := Lib.hid kb2; have KR2 := Lib.hid kr2; obtain ⟨k0, k1, k2, k3, k4, k5, k6, kl, f0, f1, f2, f3, f4, f5, f6⟩ := blk_cells7 kb2; obtain ⟨r0, r1, r2, r3, r4, r5, r6, rl, g0, g1, g2, g3, g4, g5, g6⟩ := blk_cells7 kr2; clear hr2 hb2 kb2 kr2)
        have hb := (HZ.out _ _).trans (HB2.out.mono (by simp; omega))
        have R := sent_row (i := 6) (u := .slice A2 n2 c2) (a0 := .int .i64 from_) (a1 := .int .i64 b) (a2 := .bool true) (a3 := .int .i64 p) (a4 := .int .i64 q) (a5 := .slice Au nu cu) (a6 := .slice A2 n2 c2) HR2.out KB2.out KR2.out (by simp [isBy]) (by simp [isBy]) (by simp; omega) (by simp)
        exact bodyPost_ret (results_blk_tmp Try.results8 _ (by rfl) (.int .i64 0) (by rfl) (sent_blk KR2.out (by omega)) Try.underlying31 rfl (by rw [size_cab]; rfl)) rfl ⟨_, _, rfl, .inl ⟨rfl, by first | rfl | trivial⟩, .inr (slRow_mono R (by simp; omega)), (sent_kq _ _ _ _ _ _ _ _ _ _ _ _).low hb hb.size (Nat.le_refl _) (fun q e => by cases e; omega)⟩
      · rw [if_neg hl]
        have dl : decide ((32 : Int) ≤ nv) = true := by simp; omega
        clear hu hv hx hnu hnv hl
        go_enter Try.func8, Try.ntmps8
        go_wp2
        exact bodyPost_ret (results_blk_tmp Try.results8 _ (by rfl) (.int .i64 4) (by rfl) (blk_new2 _ _ _ _) Try.underlying31 rfl (by rw [size_cab]; rfl)) rfl ⟨_, _, rfl, .inl ⟨rfl, by first | rfl | trivial⟩, .inl ⟨rfl, by first | rfl | trivial⟩, below2 _ _ _⟩
  · rw [if_neg h1]
    have e1 : (from_ == a) = false := beq_false_of_ne h1
    have e1n : (from_ != a) = true := by simp [bne, e1]
    clear h1
    by_cases h2 : from_ = b
    · subst h2
      rw [if_pos rfl]
      cases up
      · rw [if_neg (by decide)]
        clear hu hv hx hnu hnv
        go_enter Try.func8, Try.ntmps8
        go_wp2
        exact bodyPost_ret (results_blk_tmp Try.results8 _ (by rfl) (.int .i64 3) (by rfl) (blk_new2 _ _ _ _) Try.underlying31 rfl (by rw [size_cab]; rfl)) rfl ⟨_, _, rfl, .inl ⟨rfl, by first | rfl | trivial⟩, .inl ⟨rfl, by first | rfl | trivial⟩, below2 _ _ _⟩
      · rw [if_pos rfl]
        by_cases hl : ta.length < 32
        · have WA := Lib.hid (fun W (h : Below w.heap.size w W) => with_any (.slice Au nu cu) (.slice Ax nx cx) ta xs W ((hu.keep h).more h.size) ((hx.below h (Nat.le_refl _)).more h.size) (by omega))
          rw [if_pos hl]
          have dl : decide ((32 : Int) ≤ nu) = false := by simp; omega
          clear hu hv hx hnu hnv hl
          have HZ := Lib.hid hz; clear hz
          go_enter Try.func8, Try.ntmps8
          go_wp2_with (go_at_call 24; refine (WA.out _ (by exact HZ.out _ _)).mono ?_; rintro e w2 ⟨v2, rfl, hr2, hb2⟩; obtain ⟨A2, n2, c2, rfl, _⟩ := slRow_form2 hr2; have HR2 := Lib.hid hr2; have HB2 := Lib.hid hb2; have kb2 := ((Blk.new w 31 #[.int .i64 a, .int .i64 from_, .bool true, .int .i64 p, .int .i64 q, .slice Au nu cu, .slice Av nv cv]).alloc (.cells #[.int .i64 0, .int .i64 0, .bool false, .int .i64 0, .int .i64 0, .slice none 0 0, .slice none 0 0] 31)).below hb2 (by simp; omega); have kr2 := (blk_new2 w (.cells #[.int .i64 a, .int .i64 from_, .bool true, .int .i64 p, .int .i64 q, .slice Au nu cu, .slice Av nv cv] 31) 31 #[.int .i64 0, .int .i64 0, .bool false, .int .i64 0, .int .i64 0, .slice none 0 0, .slice none 0 0]).below hb2 (by simp); have KB2 := Lib.hid kb2; have KR2 := Lib.hid kr2; obtain ⟨k0, k1, k2, k3, k4, k5, k6, kl, f0, f1, f2, f3, f4, f5, f6⟩ := blk_cells7 kb2; obtain ⟨r0, r1, r2, r3, r4, r5, r6, rl, g0, g1, g2, g3, g4, g5, g6⟩ := blk_cells7 kr2; clear hr2 hb2 kb2 kr2)
          have hb := (HZ.out _ _).trans (HB2.out.mono (by simp; omega))
          have R := sent_row (i := 5) (u := .slice A2 n2 c2) (a0 := .int .i64 a) (a1 := .int .i64 from_) (a2 := .bool true) (a3 := .int .i64 p) (a4 := .int .i64 q) (a5 := .slice A2 n2 c2) (a6 := .slice Av nv cv) HR2.out KB2.out KR2.out (by simp [isBy]) (by simp [isBy]) (by simp; omega) (by simp)
          exact bodyPost_ret (results_blk_tmp Try.results8 _ (by rfl) (.int .i64 0) (by rfl) (sent_blk KR2.out (by omega)) Try.underlying31 rfl (by rw [size_cab]; rfl)) rfl ⟨_, _, rfl, .inr (slRow_mono R (by simp; omega)), .inl ⟨rfl, by first | rfl | trivial⟩, (sent_kq _ _ _ _ _ _ _ _ _ _ _ _).low hb hb.size (Nat.le_refl _) (fun q e => by cases e; omega)⟩
        · rw [if_neg hl]
          have dl : decide ((32 : Int) ≤ nu) = true := by simp; omega
          clear hu hv hx hnu hnv hl
          go_enter Try.func8, Try.ntmps8
          go_wp2
          exact bodyPost_ret (results_blk_tmp Try.results8 _ (by rfl) (.int .i64 4) (by rfl) (blk_new2 _ _ _ _) Try.underlying31 rfl (by rw [size_cab]; rfl)) rfl ⟨_, _, rfl, .inl ⟨rfl, by first | rfl | trivial⟩, .inl ⟨rfl, by first | rfl | trivial⟩, below2 _ _ _⟩
    · rw [if_neg h2]
      have e2n : (from_ != b) = true := by simp [bne, beq_false_of_ne h2]
      clear h2 hu hv hx hnu hnv
      go_enter Try.func8, Try.ntmps8
      go_wp2
      exact bodyPost_ret (results_blk_tmp Try.results8 _ (by rfl) (.int .i64 1) (by rfl) (blk_new2 _ _ _ _) Try.underlying31 rfl (by rw [size_cab]; rfl)) rfl ⟨_, _, rfl, .inl ⟨rfl, by first | rfl | trivial⟩, .inl ⟨rfl, by first | rfl | trivial⟩, below2 _ _ _⟩
end Go.Proofs.Ytkflbhaomoaonaa.Cab
