/- The packet that is read next (layer 14): the contract of packet.read. -/
import Derived.Test.YtpolpppnajfhdaaPkReads
import Derived.Test.YtpolpppnajfhdaaPkRefMay
import Derived.Test.YtpolpppnajfhdaaRowArm
namespace Go.Proofs.Ytpolpppnajfhdaa.Pkt
open Go.RowKit Go.Proofs.Ytpolpppnajfhdaa.Mem Go.Proofs.Ytpolpppnajfhdaa.Oct Go.Proofs.Ytpolpppnajfhdaa.Lsa Go.Proofs.Ytpolpppnajfhdaa.Bas
open Go.Proofs.Ytpolpppnajfhdaa.Chg (low1 low_low low2 blk_second)
set_option linter.unusedVariables false
set_option linter.unusedSimpArgs false
theorem size_pk : (Try.prog.info? 26).map (·.size) = some 10 := by kernel_rfl
theorem blk_fz10 {w : World} {g : Nat} {t : TypeId} {cs : Array Value} (h : Blk w g t cs) : w.frozen? ⟨g, 0, none⟩ = false ∧ w.frozen? ⟨g, 1, none⟩ = false ∧ w.frozen? ⟨g, 2, none⟩ = false ∧ w.frozen? ⟨g, 3, none⟩ = false ∧ w.frozen? ⟨g, 4, none⟩ = false ∧ w.frozen? ⟨g, 5, none⟩ = false ∧ w.frozen? ⟨g, 6, none⟩ = false ∧ w.frozen? ⟨g, 7, none⟩ = false ∧ w.frozen? ⟨g, 8, none⟩ = false ∧ w.frozen? ⟨g, 9, none⟩ = false := ⟨h.frozen 0, h.frozen 1, h.frozen 2, h.frozen 3, h.frozen 4, h.frozen 5, h.frozen 6, h.frozen 7, h.frozen 8, h.frozen 9⟩
theorem results_blk {P : Program} {fn : Func} {p : Tmp} {ty : TypeId} (h : fn.results = #[.cell p ty]) (tmps : Array Value) {w : World} {g : Nat} {cs : Array Value} {d : TypeDesc} (hp : tmps.getD p undef = .pointer (some ⟨g, 0, none⟩))
    (hb : Blk w g ty cs) (hu : P.underlying ty = some d) (hd : (match d with | .struct _ | .array _ _ => true | _ => false) = true) (hi : (P.info? ty).map (·.size) = some cs.size) :
    (results fn tmps).run P w = .ok (.agg cs) w := by
  have hp' : tmps[p]?.getD undef = .pointer (some ⟨g, 0, none⟩) := by simpa using hp
  simp [results, h, hp', asAddr, run_loadVar_blk hb hu hd hi]
abbrev zC : Array Value := #[.int .i64 0, .int .i64 0, .int .i64 0, .int .i64 0, .int .i64 0, .int .i64 0, .int .i64 0, .slice none 0 0, .slice none 0 0, .slice none 0 0]
/-- a packet's lists in rows of the call's own -/
def PkOwn (w : World) (base : Nat) (h i l : Value) (p : Pk) : Prop :=
  (∃ n, w.ownsRow base 59 2 h n (lkCells p.hd)) ∧ (∃ n, w.ownsRow base 64 2 i n (lkCells p.it)) ∧ OwnL w base l p.ls
theorem PkOwn.pkM {w : World} {base : Nat} {h i l : Value} {p : Pk} (k : PkOwn w base h i l p) : PkM w w.heap.size h i l p := by
  obtain ⟨⟨_, h1⟩, ⟨_, h2⟩, h3⟩ := k
  exact ⟨lks_own_t h1, lks_own_t h2, h3.las⟩
theorem PkOwn.gr {w w' : World} {base g : Nat} {h i l : Value} {p : Pk} (k : PkOwn w base h i l p) (hg : w.grownBy w' (some g)) (hlt : g < base) : PkOwn w' base h i l p := by
  obtain ⟨⟨_, h1⟩, ⟨_, h2⟩, h3⟩ := k
  exact ⟨⟨_, own_gr14 h1 hg hlt⟩, ⟨_, own_gr14 h2 hg hlt⟩, ownL_gr14 h3 hg hlt⟩
theorem PkOwn.below {w w' : World} {base : Nat} {h i l : Value} {p : Pk} (k : PkOwn w base h i l p) (hb : Below w.heap.size w w') : PkOwn w' base h i l p := by
  obtain ⟨⟨_, h1⟩, ⟨_, h2⟩, h3⟩ := k
  exact ⟨⟨_, own_below h1 hb⟩, ⟨_, own_below h2 hb⟩, h3.below hb⟩
theorem PkOwn.more {w : World} {base base' : Nat} {h i l : Value} {p : Pk} (k : PkOwn w base h i l p) (hb : base' ≤ base) : PkOwn w base' h i l p := by
  obtain ⟨⟨_, h1⟩, ⟨_, h2⟩, h3⟩ := k
  exact ⟨⟨_, own_mono h1 hb⟩, ⟨_, own_mono h2 hb⟩, ownL_more14 h3 hb⟩
theorem pkOwn_nil (w : World) (base : Nat) (k f b t tb e te : Int) : PkOwn w base (.slice none 0 0) (.slice none 0 0) (.slice none 0 0) ⟨k, f, b, t, tb, e, te, [], [], []⟩ :=
  ⟨⟨0, World.ownsRow_nil _ _ _ _⟩, ⟨0, World.ownsRow_nil _ _ _ _⟩, ownL_nil _ _⟩
/-- what read answers -/
def ReadOutP (w : World) (g : Nat) (r : St × Pk) (e : Ending) (w' : World) : Prop :=
  ∃ h i l, e = .returned (pkV r.2 h i l) ∧ PkOwn w' w.heap.size h i l r.2 ∧ Rdr w' g r.1 ∧ w.grownBy w' (some g)
theorem set1 {w : World} {g : Nat} {t : TypeId} {a0 a1 a2 a3 a4 a5 a6 a7 a8 a9 : Value} (h : Blk w g t #[a0, a1, a2, a3, a4, a5, a6, a7, a8, a9]) (u : Value) : Blk (w.setCell ⟨g, 1, none⟩ u) g t #[a0, u, a2, a3, a4, a5, a6, a7, a8, a9] := h.set_ 1 u
theorem set2 {w : World} {g : Nat} {t : TypeId} {a0 a1 a2 a3 a4 a5 a6 a7 a8 a9 : Value} (h : Blk w g t #[a0, a1, a2, a3, a4, a5, a6, a7, a8, a9]) (u : Value) : Blk (w.setCell ⟨g, 2, none⟩ u) g t #[a0, a1, u, a3, a4, a5, a6, a7, a8, a9] := h.set_ 2 u
theorem set3 {w : World} {g : Nat} {t : TypeId} {a0 a1 a2 a3 a4 a5 a6 a7 a8 a9 : Value} (h : Blk w g t #[a0, a1, a2, a3, a4, a5, a6, a7, a8, a9]) (u : Value) : Blk (w.setCell ⟨g, 3, none⟩ u) g t #[a0, a1, a2, u, a4, a5, a6, a7, a8, a9] := h.set_ 3 u
theorem set4_ {w : World} {g : Nat} {t : TypeId} {a0 a1 a2 a3 a4 a5 a6 a7 a8 a9 : Value} (h : Blk w g t #[a0, a1, a2, a3, a4, a5, a6, a7, a8, a9]) (u : Value) : Blk (w.setCell ⟨g, 4, none⟩ u) g t #[a0, a1, a2, a3, u, a5, a6, a7, a8, a9] := h.set_ 4 u
theorem set5 {w : World} {g : Nat} {t : TypeId} {a0 a1 a2 a3 a4 a5 a6 a7 a8 a9 : Value} (h : Blk w g t #[a0, a1, a2, a3, a4, a5, a6, a7, a8, a9]) (u : Value) : Blk (w.setCell ⟨g, 5, none⟩ u) g t #[a0, a1, a2, a3, a4, u, a6, a7, a8, a9] := h.set_ 5 u
theorem set6 {w : World} {g : Nat} {t : TypeId} {a0 a1 a2 a3 a4 a5 a6 a7 a8 a9 : Value} (h : Blk w g t #[a0, a1, a2, a3, a4, a5, a6, a7, a8, a9]) (u : Value) : Blk (w.setCell ⟨g, 6, none⟩ u) g t #[a0, a1, a2, a3, a4, a5, u, a7, a8, a9] := h.set_ 6 u
theorem set7 {w : World} {g : Nat} {t : TypeId} {a0 a1 a2 a3 a4 a5 a6 a7 a8 a9 : Value} (h : Blk w g t #[a0, a1, a2, a3, a4, a5, a6, a7, a8, a9]) (u : Value) : Blk (w.setCell ⟨g, 7, none⟩ u) g t #[a0, a1, a2, a3, a4, a5, a6, u, a8, a9] := h.set_ 7 u
theorem set8 {w : World} {g : Nat} {t : TypeId} {a0 a1 a2 a3 a4 a5 a6 a7 a8 a9 : Value} (h : Blk w g t #[a0, a1, a2, a3, a4, a5, a6, a7, a8, a9]) (u : Value) : Blk (w.setCell ⟨g, 8, none⟩ u) g t #[a0, a1, a2, a3, a4, a5, a6, a7, u, a9] := h.set_ 8 u
theorem set9 {w : World} {g : Nat} {t : TypeId} {a0 a1 a2 a3 a4 a5 a6 a7 a8 a9 : Value} (h : Blk w g t #[a0, a1, a2, a3, a4, a5, a6, a7, a8, a9]) (u : Value) : Blk (w.setCell ⟨g, 9, none⟩ u) g t #[a0, a1, a2, a3, a4, a5, a6, a7, a8, u] := h.set_ 9 u
theorem tailK1 {p : Pk} {st : St} (h : p.k = 1) : tailC p st = ((hdsC st).1, { p with hd := (hdsC st).2 }) := by simp [tailC, h]
theorem tailK2 {p : Pk} {st : St} (h : p.k = 2) : tailC p st = ((itsC (rnum st 4).1).1, { p with e := ((rnum st 4).2 : Nat), it := (itsC (rnum st 4).1).2 }) := by simp [tailC, h]
theorem tailK5 {p : Pk} {st : St} (h : p.k = 5) : tailC p st = ((itsC st).1, { p with it := (itsC st).2 }) := by simp [tailC, h]
theorem tailK3 {p : Pk} {st : St} (h : p.k = 3) : tailC p st = ((rnum (rnum st 4).1 4).1, { p with e := ((rnum st 4).2 : Nat), te := ((rnum (rnum st 4).1 4).2 : Nat) }) := by simp [tailC, h]
theorem tailK4 {p : Pk} {st : St} (h : p.k = 4) : tailC p st = ((lssC st).1, { p with ls := (lssC st).2 }) := by simp [tailC, h]
theorem tailK0 {p : Pk} {st : St} (h1 : p.k ≠ 1) (h2 : p.k ≠ 2) (h3 : p.k ≠ 3) (h4 : p.k ≠ 4) (h5 : p.k ≠ 5) : tailC p st = (st, p) := by simp [tailC, h1, h2, h3, h4, h5]
theorem own_form14 {w : World} {base n sz : Nat} {e : TypeId} {v : Value} {xs : List Value} (h : w.ownsRow base e sz v n xs) : ∃ A m c, v = .slice A m c := by
  obtain ⟨A, c, rfl⟩ := Lsa.own_form h
  exact ⟨A, _, c, rfl⟩
theorem ownL_form14 {w : World} {base : Nat} {v : Value} {l : List La} (h : OwnL w base v l) : ∃ A m c, v = .slice A m c := by
  obtain ⟨A, c, rfl⟩ := h.form
  exact ⟨A, _, c, rfl⟩
set_option maxRecDepth 100000 in
set_option maxHeartbeats 16000000 in
theorem pread_one (g : Nat) (xs : List Nat) (w : World) (h : Rdr w g (xs, true)) (hk : (c1 xs).2 = 1) :
    Calls Try.prog 35 #[ptr g] w (ReadOutP w g (rPk xs)) := by
  have hgs := h.size
  have hb := h.lt
  have n1 : (c1 xs).2 < 256 := rnum_small (st := (xs, true)) (k := 1) (K := 1) rfl hb
  have b1 : ∀ x ∈ (c1 xs).1.1, x < 256 := Chg.rnum_bytes hb
  have b2 : ∀ x ∈ (c2 xs).1.1, x < 256 := Chg.rnum_bytes b1
  have b3 : ∀ x ∈ (c3 xs).1.1, x < 256 := Chg.rnum_bytes b2
  have b4 : ∀ x ∈ (c4 xs).1.1, x < 256 := Chg.rnum_bytes b3
  have b5 : ∀ x ∈ (c5 xs).1.1, x < 256 := Chg.rnum_bytes b4
  have r1 : ∀ W, Rdr W g (xs, true) → Calls Try.prog 54 #[ptr g, .int .i64 1] W fun e w' => e = .returned (.int .u64 ((c1 xs).2 : Nat)) ∧ Rdr w' g (c1 xs).1 ∧ W.grownBy w' (some g) := fun W hW => rnum_any g (xs, true) 1 W hW
  have r2 : ∀ W, Rdr W g (c1 xs).1 → Calls Try.prog 55 #[ptr g] W fun e w' => e = .returned (.tuple #[.int .i64 ((c2 xs).2 : Nat), .int .i64 ((c3 xs).2 : Nat)]) ∧ Rdr w' g (c3 xs).1 ∧ W.grownBy w' (some g) := fun W hW => readWho_any g (c1 xs).1 W hW
  have r3 : ∀ W, Rdr W g (c3 xs).1 → Calls Try.prog 55 #[ptr g] W fun e w' => e = .returned (.tuple #[.int .i64 ((c4 xs).2 : Nat), .int .i64 ((c5 xs).2 : Nat)]) ∧ Rdr w' g (c5 xs).1 ∧ W.grownBy w' (some g) := fun W hW => readWho_any g (c3 xs).1 W hW
  unfold rPk headC
  generalize (c1 xs).2 = N at *
  generalize (c2 xs).2 = F at *
  generalize (c3 xs).2 = B at *
  generalize (c4 xs).2 = D at *
  generalize (c5 xs).2 = DB at *
  generalize (c1 xs).1 = s1 at *
  generalize (c3 xs).1 = s3 at *
  generalize (c5 xs).1 = s5 at *
  rw [tailK1 (show (N : Int) = 1 by omega)]
  have d1 : ((N : Int) == 1) = true := by rw [beq_iff_eq]; omega
  clear hk
  have r4 := fun W (hW : Rdr W g s5) => readHeard_any g s5 W hW
  clear b1 b2 b3 b4 b5 hb
  have R1 := Lib.hid r1; clear r1
  have R2 := Lib.hid r2; clear r2
  have R3 := Lib.hid r3; clear r3
  have R4 := Lib.hid r4; clear r4
  have HR0 := Lib.hid h; clear h
  go_enter Try.func35, Try.ntmps35
  go_wp2_with (first
    | (have HM1 := R1; go_at_call 54; refine (R1.out _ (HR0.out.alloc _)).mono ?_; rintro e1 w1 ⟨rfl, hr1, hg1⟩; have kr1 := (Blk.new w 26 zC).grown hg1 (by simp; omega); have hl1 := kr1.lt; have HR1 := Lib.hid hr1; have HG1 := Lib.hid (grown_trans (World.grownBy_alloc w (Obj.cells zC 26) (some g)) hg1); have KR1 := Lib.hid kr1; clear hr1 hg1 kr1 HM1 R1)
    | (have HM2 := R2; go_at_call 55; refine (R2.out _ (HR1.out.alloc _)).mono ?_; rintro e2 w2 ⟨rfl, hr2, hg2⟩; have k2 := (Blk.new w1 26 #[.int .i64 (N : Nat), .int .i64 0, .int .i64 0, .int .i64 0, .int .i64 0, .int .i64 0, .int .i64 0, .slice none 0 0, .slice none 0 0, .slice none 0 0]).grown hg2 (by simp; omega); have hl2 := k2.lt; have kr2 := (KR1.out.alloc _).grown hg2 (by simp; omega); have g2 := grown_trans (grown_trans HG1.out (World.grownBy_alloc w1 (Obj.cells #[.int .i64 (N : Nat), .int .i64 0, .int .i64 0, .int .i64 0, .int .i64 0, .int .i64 0, .int .i64 0, .slice none 0 0, .slice none 0 0, .slice none 0 0] 26) (some g))) hg2; obtain ⟨x0, x1, x2, x3, x4, x5, x6, x7, x8, x9, x10⟩ := blk_cells10 k2; obtain ⟨f0, f1, f2, f3, f4, f5, f6, f7, f8, f9⟩ := blk_fz10 k2; have K2 := Lib.hid (set2 (set1 k2 (.int .i64 (F : Nat))) (.int .i64 (B : Nat))); have HR2 := Lib.hid ((hr2.setFar ⟨w1.heap.size, 1, none⟩ (by show g < w1.heap.size; omega) (.int .i64 (F : Nat))).setFar ⟨w1.heap.size, 2, none⟩ (by show g < w1.heap.size; omega) (.int .i64 (B : Nat))); have KR2 := Lib.hid ((kr2.far (p := ⟨w1.heap.size, 1, none⟩) (by show w.heap.size ≠ w1.heap.size; omega) (.int .i64 (F : Nat))).far (p := ⟨w1.heap.size, 2, none⟩) (by show w.heap.size ≠ w1.heap.size; omega) (.int .i64 (B : Nat))); have HG2 := Lib.hid (grown_over (grown_over g2 (grown_set _ ⟨w1.heap.size, 1, none⟩ (.int .i64 (F : Nat))) (fun q hq => by cases hq; show w.heap.size ≤ w1.heap.size; omega)) (grown_set _ ⟨w1.heap.size, 2, none⟩ (.int .i64 (B : Nat))) (fun q hq => by cases hq; show w.heap.size ≤ w1.heap.size; omega)); clear hr2 hg2 k2 kr2 g2 HM2 R2)
    | (have HM3 := R3; go_at_call 55; refine (R3.out _ HR2.out).mono ?_; rintro e3 w3 ⟨rfl, hr3, hg3⟩; have k3 := K2.out.grown hg3 (by simp; omega); have hl3 := k3.lt; have kr3 := KR2.out.grown hg3 (by simp; omega); have g3 := grown_trans HG2.out hg3; clear x0 x1 x2 x3 x4 x5 x6 x7 x8 x9 x10 f0 f1 f2 f3 f4 f5 f6 f7 f8 f9; obtain ⟨x0, x1, x2, x3, x4, x5, x6, x7, x8, x9, x10⟩ := blk_cells10 k3; obtain ⟨f0, f1, f2, f3, f4, f5, f6, f7, f8, f9⟩ := blk_fz10 k3; have K3 := Lib.hid (set4_ (set3 k3 (.int .i64 (D : Nat))) (.int .i64 (DB : Nat))); have HR3 := Lib.hid ((hr3.setFar ⟨w1.heap.size, 3, none⟩ (by show g < w1.heap.size; omega) (.int .i64 (D : Nat))).setFar ⟨w1.heap.size, 4, none⟩ (by show g < w1.heap.size; omega) (.int .i64 (DB : Nat))); have KR3 := Lib.hid ((kr3.far (p := ⟨w1.heap.size, 3, none⟩) (by show w.heap.size ≠ w1.heap.size; omega) (.int .i64 (D : Nat))).far (p := ⟨w1.heap.size, 4, none⟩) (by show w.heap.size ≠ w1.heap.size; omega) (.int .i64 (DB : Nat))); have HG3 := Lib.hid (grown_over (grown_over g3 (grown_set _ ⟨w1.heap.size, 3, none⟩ (.int .i64 (D : Nat))) (fun q hq => by cases hq; show w.heap.size ≤ w1.heap.size; omega)) (grown_set _ ⟨w1.heap.size, 4, none⟩ (.int .i64 (DB : Nat))) (fun q hq => by cases hq; show w.heap.size ≤ w1.heap.size; omega)); clear hr3 hg3 k3 kr3 g3 HM3 R3)
    | (have HM4 := R4; go_at_call 56; refine (R4.out _ HR3.out).mono ?_; rintro e4 w4 ⟨v4, q4, rfl, ho4, hr4, hg4⟩; obtain ⟨A4, n4_, c4_, rfl⟩ := own_form14 ho4; have k4 := K3.out.grown hg4 (by simp; omega); have hl4 := k4.lt; have kr4 := KR3.out.grown hg4 (by simp; omega); have g4 := grown_trans HG3.out hg4; clear x0 x1 x2 x3 x4 x5 x6 x7 x8 x9 x10 f0 f1 f2 f3 f4 f5 f6 f7 f8 f9; obtain ⟨x0, x1, x2, x3, x4, x5, x6, x7, x8, x9, x10⟩ := blk_cells10 k4; obtain ⟨f0, f1, f2, f3, f4, f5, f6, f7, f8, f9⟩ := blk_fz10 k4; have K4 := Lib.hid (set7 k4 (.slice A4 n4_ c4_)); have HR4 := Lib.hid (hr4.setFar ⟨w1.heap.size, 7, none⟩ (by show g < w1.heap.size; omega) (.slice A4 n4_ c4_)); have KR4 := Lib.hid (kr4.far (p := ⟨w1.heap.size, 7, none⟩) (by show w.heap.size ≠ w1.heap.size; omega) (.slice A4 n4_ c4_)); have HG4 := Lib.hid (grown_over g4 (grown_set _ ⟨w1.heap.size, 7, none⟩ (.slice A4 n4_ c4_)) (fun q hq => by cases hq; show w.heap.size ≤ w1.heap.size; omega)); have HO := Lib.hid (own_mono (own_gr14 ho4 (grown_set w4 ⟨w1.heap.size, 7, none⟩ (.slice A4 n4_ c4_)) (by show w1.heap.size < _; simp; omega)) (base' := w.heap.size + 1) (by simp; omega)); clear hr4 hg4 k4 kr4 g4 HM4 R4)
    | (refine wpList_load_blk rfl 26 (.tmp 3) rfl w1.heap.size rfl #[.int .i64 (N : Nat), .int .i64 (F : Nat), .int .i64 (B : Nat), .int .i64 (D : Nat), .int .i64 (DB : Nat), .int .i64 0, .int .i64 0, .slice A4 n4_ c4_, .slice none 0 0, .slice none 0 0] K4.out _ Try.underlying26 rfl (by rw [size_pk]; rfl) ?_)
    | (refine wpList_store_blk rfl 26 (.tmp 2) (.tmp 58) rfl w.heap.size #[.int .i64 (N : Nat), .int .i64 (F : Nat), .int .i64 (B : Nat), .int .i64 (D : Nat), .int .i64 (DB : Nat), .int .i64 0, .int .i64 0, .slice A4 n4_ c4_, .slice none 0 0, .slice none 0 0] rfl rfl _ KR4.out (by rw [size_pk]; rfl) rfl (by kernel_rfl) ?_; intro w9 hg9 k9; have K9 := Lib.hid k9; have HR9 := Lib.hid (HR4.out.grown hg9 (fun q hq => by cases hq; omega)); have HG9 := Lib.hid (grown_over HG4.out hg9 (fun q hq => by cases hq; omega)); have HO9 := Lib.hid (own_mono (own_gr14 HO.out hg9 (by omega)) (base' := w.heap.size) (by omega)); clear hg9 k9))
  refine bodyPost_ret (v := .agg #[.int .i64 (N : Nat), .int .i64 (F : Nat), .int .i64 (B : Nat), .int .i64 (D : Nat), .int .i64 (DB : Nat), .int .i64 0, .int .i64 0, .slice A4 n4_ c4_, .slice none 0 0, .slice none 0 0]) ?_ rfl ⟨_, _, _, rfl, ⟨⟨_, HO9.out⟩, ⟨0, World.ownsRow_nil _ _ _ _⟩, ownL_nil _ _⟩, HR9.out, HG9.out⟩
  exact results_blk (P := Try.prog) Try.results35 _ rfl K9.out Try.underlying26 rfl (by rw [size_pk]; rfl)
set_option maxRecDepth 100000 in
set_option maxHeartbeats 16000000 in
theorem pread_two (g : Nat) (xs : List Nat) (w : World) (h : Rdr w g (xs, true)) (hk : (c1 xs).2 = 2) :
    Calls Try.prog 35 #[ptr g] w (ReadOutP w g (rPk xs)) := by
  have hgs := h.size
  have hb := h.lt
  have n1 : (c1 xs).2 < 256 := rnum_small (st := (xs, true)) (k := 1) (K := 1) rfl hb
  have b1 : ∀ x ∈ (c1 xs).1.1, x < 256 := Chg.rnum_bytes hb
  have b2 : ∀ x ∈ (c2 xs).1.1, x < 256 := Chg.rnum_bytes b1
  have b3 : ∀ x ∈ (c3 xs).1.1, x < 256 := Chg.rnum_bytes b2
  have b4 : ∀ x ∈ (c4 xs).1.1, x < 256 := Chg.rnum_bytes b3
  have b5 : ∀ x ∈ (c5 xs).1.1, x < 256 := Chg.rnum_bytes b4
  have r1 : ∀ W, Rdr W g (xs, true) → Calls Try.prog 54 #[ptr g, .int .i64 1] W fun e w' => e = .returned (.int .u64 ((c1 xs).2 : Nat)) ∧ Rdr w' g (c1 xs).1 ∧ W.grownBy w' (some g) := fun W hW => rnum_any g (xs, true) 1 W hW
  have r2 : ∀ W, Rdr W g (c1 xs).1 → Calls Try.prog 55 #[ptr g] W fun e w' => e = .returned (.tuple #[.int .i64 ((c2 xs).2 : Nat), .int .i64 ((c3 xs).2 : Nat)]) ∧ Rdr w' g (c3 xs).1 ∧ W.grownBy w' (some g) := fun W hW => readWho_any g (c1 xs).1 W hW
  have r3 : ∀ W, Rdr W g (c3 xs).1 → Calls Try.prog 55 #[ptr g] W fun e w' => e = .returned (.tuple #[.int .i64 ((c4 xs).2 : Nat), .int .i64 ((c5 xs).2 : Nat)]) ∧ Rdr w' g (c5 xs).1 ∧ W.grownBy w' (some g) := fun W hW => readWho_any g (c3 xs).1 W hW
  unfold rPk headC
  generalize (c1 xs).2 = N at *
  generalize (c2 xs).2 = F at *
  generalize (c3 xs).2 = B at *
  generalize (c4 xs).2 = D at *
  generalize (c5 xs).2 = DB at *
  generalize (c1 xs).1 = s1 at *
  generalize (c3 xs).1 = s3 at *
  generalize (c5 xs).1 = s5 at *
  rw [tailK2 (show (N : Int) = 2 by omega)]
  have d1 : ((N : Int) == 1) = false := by rw [beq_eq_false_iff_ne]; omega
  have d2 : ((N : Int) == 2) = true := by rw [beq_iff_eq]; omega
  clear hk
  have m4 : (rnum s5 4).2 < 4294967296 := rnum_small (k := 4) (K := 4) rfl b5
  have b6 : ∀ x ∈ (rnum s5 4).1.1, x < 256 := Chg.rnum_bytes b5
  have r4 := fun W (hW : Rdr W g s5) => rnum_any g s5 4 W hW
  generalize rnum s5 4 = q at *
  obtain ⟨s6, E0⟩ := q
  simp only at m4 b6 r4 ⊢
  have r5 := fun W (hW : Rdr W g s6) => readItems_any g s6 W hW
  clear b1 b2 b3 b4 b5 hb
  clear b6
  have R1 := Lib.hid r1; clear r1
  have R2 := Lib.hid r2; clear r2
  have R3 := Lib.hid r3; clear r3
  have R4 := Lib.hid r4; clear r4
  have R5 := Lib.hid r5; clear r5
  have HR0 := Lib.hid h; clear h
  go_enter Try.func35, Try.ntmps35
  go_wp2_with (first
    | (have HM1 := R1; go_at_call 54; refine (R1.out _ (HR0.out.alloc _)).mono ?_; rintro e1 w1 ⟨rfl, hr1, hg1⟩; have kr1 := (Blk.new w 26 zC).grown hg1 (by simp; omega); have hl1 := kr1.lt; have HR1 := Lib.hid hr1; have HG1 := Lib.hid (grown_trans (World.grownBy_alloc w (Obj.cells zC 26) (some g)) hg1); have KR1 := Lib.hid kr1; clear hr1 hg1 kr1 HM1 R1)
    | (have HM2 := R2; go_at_call 55; refine (R2.out _ (HR1.out.alloc _)).mono ?_; rintro e2 w2 ⟨rfl, hr2, hg2⟩; have k2 := (Blk.new w1 26 #[.int .i64 (N : Nat), .int .i64 0, .int .i64 0, .int .i64 0, .int .i64 0, .int .i64 0, .int .i64 0, .slice none 0 0, .slice none 0 0, .slice none 0 0]).grown hg2 (by simp; omega); have hl2 := k2.lt; have kr2 := (KR1.out.alloc _).grown hg2 (by simp; omega); have g2 := grown_trans (grown_trans HG1.out (World.grownBy_alloc w1 (Obj.cells #[.int .i64 (N : Nat), .int .i64 0, .int .i64 0, .int .i64 0, .int .i64 0, .int .i64 0, .int .i64 0, .slice none 0 0, .slice none 0 0, .slice none 0 0] 26) (some g))) hg2; obtain ⟨x0, x1, x2, x3, x4, x5, x6, x7, x8, x9, x10⟩ := blk_cells10 k2; obtain ⟨f0, f1, f2, f3, f4, f5, f6, f7, f8, f9⟩ := blk_fz10 k2; have K2 := Lib.hid (set2 (set1 k2 (.int .i64 (F : Nat))) (.int .i64 (B : Nat))); have HR2 := Lib.hid ((hr2.setFar ⟨w1.heap.size, 1, none⟩ (by show g < w1.heap.size; omega) (.int .i64 (F : Nat))).setFar ⟨w1.heap.size, 2, none⟩ (by show g < w1.heap.size; omega) (.int .i64 (B : Nat))); have KR2 := Lib.hid ((kr2.far (p := ⟨w1.heap.size, 1, none⟩) (by show w.heap.size ≠ w1.heap.size; omega) (.int .i64 (F : Nat))).far (p := ⟨w1.heap.size, 2, none⟩) (by show w.heap.size ≠ w1.heap.size; omega) (.int .i64 (B : Nat))); have HG2 := Lib.hid (grown_over (grown_over g2 (grown_set _ ⟨w1.heap.size, 1, none⟩ (.int .i64 (F : Nat))) (fun q hq => by cases hq; show w.heap.size ≤ w1.heap.size; omega)) (grown_set _ ⟨w1.heap.size, 2, none⟩ (.int .i64 (B : Nat))) (fun q hq => by cases hq; show w.heap.size ≤ w1.heap.size; omega)); clear hr2 hg2 k2 kr2 g2 HM2 R2)
    | (have HM3 := R3; go_at_call 55; refine (R3.out _ HR2.out).mono ?_; rintro e3 w3 ⟨rfl, hr3, hg3⟩; have k3 := K2.out.grown hg3 (by simp; omega); have hl3 := k3.lt; have kr3 := KR2.out.grown hg3 (by simp; omega); have g3 := grown_trans HG2.out hg3; clear x0 x1 x2 x3 x4 x5 x6 x7 x8 x9 x10 f0 f1 f2 f3 f4 f5 f6 f7 f8 f9; obtain ⟨x0, x1, x2, x3, x4, x5, x6, x7, x8, x9, x10⟩ := blk_cells10 k3; obtain ⟨f0, f1, f2, f3, f4, f5, f6, f7, f8, f9⟩ := blk_fz10 k3; have K3 := Lib.hid (set4_ (set3 k3 (.int .i64 (D : Nat))) (.int .i64 (DB : Nat))); have HR3 := Lib.hid ((hr3.setFar ⟨w1.heap.size, 3, none⟩ (by show g < w1.heap.size; omega) (.int .i64 (D : Nat))).setFar ⟨w1.heap.size, 4, none⟩ (by show g < w1.heap.size; omega) (.int .i64 (DB : Nat))); have KR3 := Lib.hid ((kr3.far (p := ⟨w1.heap.size, 3, none⟩) (by show w.heap.size ≠ w1.heap.size; omega) (.int .i64 (D : Nat))).far (p := ⟨w1.heap.size, 4, none⟩) (by show w.heap.size ≠ w1.heap.size; omega) (.int .i64 (DB : Nat))); have HG3 := Lib.hid (grown_over (grown_over g3 (grown_set _ ⟨w1.heap.size, 3, none⟩ (.int .i64 (D : Nat))) (fun q hq => by cases hq; show w.heap.size ≤ w1.heap.size; omega)) (grown_set _ ⟨w1.heap.size, 4, none⟩ (.int .i64 (DB : Nat))) (fun q hq => by cases hq; show w.heap.size ≤ w1.heap.size; omega)); clear hr3 hg3 k3 kr3 g3 HM3 R3)
    | (have HM4 := R4; go_at_call 54; refine (R4.out _ HR3.out).mono ?_; rintro e4 w4 ⟨rfl, hr4, hg4⟩; have k4 := K3.out.grown hg4 (by simp; omega); have hl4 := k4.lt; have kr4 := KR3.out.grown hg4 (by simp; omega); have g4 := grown_trans HG3.out hg4; clear x0 x1 x2 x3 x4 x5 x6 x7 x8 x9 x10 f0 f1 f2 f3 f4 f5 f6 f7 f8 f9; obtain ⟨x0, x1, x2, x3, x4, x5, x6, x7, x8, x9, x10⟩ := blk_cells10 k4; obtain ⟨f0, f1, f2, f3, f4, f5, f6, f7, f8, f9⟩ := blk_fz10 k4; have K4 := Lib.hid (set5 k4 (.int .i64 (E0 : Nat))); have HR4 := Lib.hid (hr4.setFar ⟨w1.heap.size, 5, none⟩ (by show g < w1.heap.size; omega) (.int .i64 (E0 : Nat))); have KR4 := Lib.hid (kr4.far (p := ⟨w1.heap.size, 5, none⟩) (by show w.heap.size ≠ w1.heap.size; omega) (.int .i64 (E0 : Nat))); have HG4 := Lib.hid (grown_over g4 (grown_set _ ⟨w1.heap.size, 5, none⟩ (.int .i64 (E0 : Nat))) (fun q hq => by cases hq; show w.heap.size ≤ w1.heap.size; omega)); clear hr4 hg4 k4 kr4 g4 HM4 R4)
    | (have HM5 := R5; go_at_call 57; refine (R5.out _ HR4.out).mono ?_; rintro e5 w5 ⟨v5, q5, rfl, ho5, hr5, hg5⟩; obtain ⟨A5, n5_, c5_, rfl⟩ := own_form14 ho5; have k5 := K4.out.grown hg5 (by simp; omega); have hl5 := k5.lt; have kr5 := KR4.out.grown hg5 (by simp; omega); have g5 := grown_trans HG4.out hg5; clear x0 x1 x2 x3 x4 x5 x6 x7 x8 x9 x10 f0 f1 f2 f3 f4 f5 f6 f7 f8 f9; obtain ⟨x0, x1, x2, x3, x4, x5, x6, x7, x8, x9, x10⟩ := blk_cells10 k5; obtain ⟨f0, f1, f2, f3, f4, f5, f6, f7, f8, f9⟩ := blk_fz10 k5; have K5 := Lib.hid (set8 k5 (.slice A5 n5_ c5_)); have HR5 := Lib.hid (hr5.setFar ⟨w1.heap.size, 8, none⟩ (by show g < w1.heap.size; omega) (.slice A5 n5_ c5_)); have KR5 := Lib.hid (kr5.far (p := ⟨w1.heap.size, 8, none⟩) (by show w.heap.size ≠ w1.heap.size; omega) (.slice A5 n5_ c5_)); have HG5 := Lib.hid (grown_over g5 (grown_set _ ⟨w1.heap.size, 8, none⟩ (.slice A5 n5_ c5_)) (fun q hq => by cases hq; show w.heap.size ≤ w1.heap.size; omega)); have HO := Lib.hid (own_mono (own_gr14 ho5 (grown_set w5 ⟨w1.heap.size, 8, none⟩ (.slice A5 n5_ c5_)) (by show w1.heap.size < _; simp; omega)) (base' := w.heap.size + 1) (by simp; omega)); clear hr5 hg5 k5 kr5 g5 HM5 R5)
    | (refine wpList_load_blk rfl 26 (.tmp 3) rfl w1.heap.size rfl #[.int .i64 (N : Nat), .int .i64 (F : Nat), .int .i64 (B : Nat), .int .i64 (D : Nat), .int .i64 (DB : Nat), .int .i64 (E0 : Nat), .int .i64 0, .slice none 0 0, .slice A5 n5_ c5_, .slice none 0 0] K5.out _ Try.underlying26 rfl (by rw [size_pk]; rfl) ?_)
    | (refine wpList_store_blk rfl 26 (.tmp 2) (.tmp 58) rfl w.heap.size #[.int .i64 (N : Nat), .int .i64 (F : Nat), .int .i64 (B : Nat), .int .i64 (D : Nat), .int .i64 (DB : Nat), .int .i64 (E0 : Nat), .int .i64 0, .slice none 0 0, .slice A5 n5_ c5_, .slice none 0 0] rfl rfl _ KR5.out (by rw [size_pk]; rfl) rfl (by kernel_rfl) ?_; intro w9 hg9 k9; have K9 := Lib.hid k9; have HR9 := Lib.hid (HR5.out.grown hg9 (fun q hq => by cases hq; omega)); have HG9 := Lib.hid (grown_over HG5.out hg9 (fun q hq => by cases hq; omega)); have HO9 := Lib.hid (own_mono (own_gr14 HO.out hg9 (by omega)) (base' := w.heap.size) (by omega)); clear hg9 k9))
  refine bodyPost_ret (v := .agg #[.int .i64 (N : Nat), .int .i64 (F : Nat), .int .i64 (B : Nat), .int .i64 (D : Nat), .int .i64 (DB : Nat), .int .i64 (E0 : Nat), .int .i64 0, .slice none 0 0, .slice A5 n5_ c5_, .slice none 0 0]) ?_ rfl ⟨_, _, _, rfl, ⟨⟨0, World.ownsRow_nil _ _ _ _⟩, ⟨_, HO9.out⟩, ownL_nil _ _⟩, HR9.out, HG9.out⟩
  exact results_blk (P := Try.prog) Try.results35 _ rfl K9.out Try.underlying26 rfl (by rw [size_pk]; rfl)
set_option maxRecDepth 100000 in
set_option maxHeartbeats 16000000 in
theorem pread_three (g : Nat) (xs : List Nat) (w : World) (h : Rdr w g (xs, true)) (hk : (c1 xs).2 = 3) :
    Calls Try.prog 35 #[ptr g] w (ReadOutP w g (rPk xs)) := by
  have hgs := h.size
  have hb := h.lt
  have n1 : (c1 xs).2 < 256 := rnum_small (st := (xs, true)) (k := 1) (K := 1) rfl hb
  have b1 : ∀ x ∈ (c1 xs).1.1, x < 256 := Chg.rnum_bytes hb
  have b2 : ∀ x ∈ (c2 xs).1.1, x < 256 := Chg.rnum_bytes b1
  have b3 : ∀ x ∈ (c3 xs).1.1, x < 256 := Chg.rnum_bytes b2
  have b4 : ∀ x ∈ (c4 xs).1.1, x < 256 := Chg.rnum_bytes b3
  have b5 : ∀ x ∈ (c5 xs).1.1, x < 256 := Chg.rnum_bytes b4
  have r1 : ∀ W, Rdr W g (xs, true) → Calls Try.prog 54 #[ptr g, .int .i64 1] W fun e w' => e = .returned (.int .u64 ((c1 xs).2 : Nat)) ∧ Rdr w' g (c1 xs).1 ∧ W.grownBy w' (some g) := fun W hW => rnum_any g (xs, true) 1 W hW
  have r2 : ∀ W, Rdr W g (c1 xs).1 → Calls Try.prog 55 #[ptr g] W fun e w' => e = .returned (.tuple #[.int .i64 ((c2 xs).2 : Nat), .int .i64 ((c3 xs).2 : Nat)]) ∧ Rdr w' g (c3 xs).1 ∧ W.grownBy w' (some g) := fun W hW => readWho_any g (c1 xs).1 W hW
  have r3 : ∀ W, Rdr W g (c3 xs).1 → Calls Try.prog 55 #[ptr g] W fun e w' => e = .returned (.tuple #[.int .i64 ((c4 xs).2 : Nat), .int .i64 ((c5 xs).2 : Nat)]) ∧ Rdr w' g (c5 xs).1 ∧ W.grownBy w' (some g) := fun W hW => readWho_any g (c3 xs).1 W hW
  unfold rPk headC
  generalize (c1 xs).2 = N at *
  generalize (c2 xs).2 = F at *
  generalize (c3 xs).2 = B at *
  generalize (c4 xs).2 = D at *
  generalize (c5 xs).2 = DB at *
  generalize (c1 xs).1 = s1 at *
  generalize (c3 xs).1 = s3 at *
  generalize (c5 xs).1 = s5 at *
  rw [tailK3 (show (N : Int) = 3 by omega)]
  have d1 : ((N : Int) == 1) = false := by rw [beq_eq_false_iff_ne]; omega
  have d2 : ((N : Int) == 2) = false := by rw [beq_eq_false_iff_ne]; omega
  have d5 : ((N : Int) == 5) = false := by rw [beq_eq_false_iff_ne]; omega
  have d3 : ((N : Int) == 3) = true := by rw [beq_iff_eq]; omega
  clear hk
  have m4 : (rnum s5 4).2 < 4294967296 := rnum_small (k := 4) (K := 4) rfl b5
  have b6 : ∀ x ∈ (rnum s5 4).1.1, x < 256 := Chg.rnum_bytes b5
  have r4 := fun W (hW : Rdr W g s5) => rnum_any g s5 4 W hW
  generalize rnum s5 4 = q at *
  obtain ⟨s6, E0⟩ := q
  simp only at m4 b6 r4 ⊢
  have m5 : (rnum s6 4).2 < 4294967296 := rnum_small (k := 4) (K := 4) rfl b6
  have b7 : ∀ x ∈ (rnum s6 4).1.1, x < 256 := Chg.rnum_bytes b6
  have r5 := fun W (hW : Rdr W g s6) => rnum_any g s6 4 W hW
  generalize rnum s6 4 = q at *
  obtain ⟨s7, E1⟩ := q
  simp only at m5 b7 r5 ⊢
  clear b1 b2 b3 b4 b5 hb
  clear b6
  clear b7
  have R1 := Lib.hid r1; clear r1
  have R2 := Lib.hid r2; clear r2
  have R3 := Lib.hid r3; clear r3
  have R4 := Lib.hid r4; clear r4
  have R5 := Lib.hid r5; clear r5
  have HR0 := Lib.hid h; clear h
  go_enter Try.func35, Try.ntmps35
  go_wp2_with (first
    | (have HM1 := R1; go_at_call 54; refine (R1.out _ (HR0.out.alloc _)).mono ?_; rintro e1 w1 ⟨rfl, hr1, hg1⟩; have kr1 := (Blk.new w 26 zC).grown hg1 (by simp; omega); have hl1 := kr1.lt; have HR1 := Lib.hid hr1; have HG1 := Lib.hid (grown_trans (World.grownBy_alloc w (Obj.cells zC 26) (some g)) hg1); have KR1 := Lib.hid kr1; clear hr1 hg1 kr1 HM1 R1)
    | (have HM2 := R2; go_at_call 55; refine (R2.out _ (HR1.out.alloc _)).mono ?_; rintro e2 w2 ⟨rfl, hr2, hg2⟩; have k2 := (Blk.new w1 26 #[.int .i64 (N : Nat), .int .i64 0, .int .i64 0, .int .i64 0, .int .i64 0, .int .i64 0, .int .i64 0, .slice none 0 0, .slice none 0 0, .slice none 0 0]).grown hg2 (by simp; omega); have hl2 := k2.lt; have kr2 := (KR1.out.alloc _).grown hg2 (by simp; omega); have g2 := grown_trans (grown_trans HG1.out (World.grownBy_alloc w1 (Obj.cells #[.int .i64 (N : Nat), .int .i64 0, .int .i64 0, .int .i64 0, .int .i64 0, .int .i64 0, .int .i64 0, .slice none 0 0, .slice none 0 0, .slice none 0 0] 26) (some g))) hg2; obtain ⟨x0, x1, x2, x3, x4, x5, x6, x7, x8, x9, x10⟩ := blk_cells10 k2; obtain ⟨f0, f1, f2, f3, f4, f5, f6, f7, f8, f9⟩ := blk_fz10 k2; have K2 := Lib.hid (set2 (set1 k2 (.int .i64 (F : Nat))) (.int .i64 (B : Nat))); have HR2 := Lib.hid ((hr2.setFar ⟨w1.heap.size, 1, none⟩ (by show g < w1.heap.size; omega) (.int .i64 (F : Nat))).setFar ⟨w1.heap.size, 2, none⟩ (by show g < w1.heap.size; omega) (.int .i64 (B : Nat))); have KR2 := Lib.hid ((kr2.far (p := ⟨w1.heap.size, 1, none⟩) (by show w.heap.size ≠ w1.heap.size; omega) (.int .i64 (F : Nat))).far (p := ⟨w1.heap.size, 2, none⟩) (by show w.heap.size ≠ w1.heap.size; omega) (.int .i64 (B : Nat))); have HG2 := Lib.hid (grown_over (grown_over g2 (grown_set _ ⟨w1.heap.size, 1, none⟩ (.int .i64 (F : Nat))) (fun q hq => by cases hq; show w.heap.size ≤ w1.heap.size; omega)) (grown_set _ ⟨w1.heap.size, 2, none⟩ (.int .i64 (B : Nat))) (fun q hq => by cases hq; show w.heap.size ≤ w1.heap.size; omega)); clear hr2 hg2 k2 kr2 g2 HM2 R2)
    | (have HM3 := R3; go_at_call 55; refine (R3.out _ HR2.out).mono ?_; rintro e3 w3 ⟨rfl, hr3, hg3⟩; have k3 := K2.out.grown hg3 (by simp; omega); have hl3 := k3.lt; have kr3 := KR2.out.grown hg3 (by simp; omega); have g3 := grown_trans HG2.out hg3; clear x0 x1 x2 x3 x4 x5 x6 x7 x8 x9 x10 f0 f1 f2 f3 f4 f5 f6 f7 f8 f9; obtain ⟨x0, x1, x2, x3, x4, x5, x6, x7, x8, x9, x10⟩ := blk_cells10 k3; obtain ⟨f0, f1, f2, f3, f4, f5, f6, f7, f8, f9⟩ := blk_fz10 k3; have K3 := Lib.hid (set4_ (set3 k3 (.int .i64 (D : Nat))) (.int .i64 (DB : Nat))); have HR3 := Lib.hid ((hr3.setFar ⟨w1.heap.size, 3, none⟩ (by show g < w1.heap.size; omega) (.int .i64 (D : Nat))).setFar ⟨w1.heap.size, 4, none⟩ (by show g < w1.heap.size; omega) (.int .i64 (DB : Nat))); have KR3 := Lib.hid ((kr3.far (p := ⟨w1.heap.size, 3, none⟩) (by show w.heap.size ≠ w1.heap.size; omega) (.int .i64 (D : Nat))).far (p := ⟨w1.heap.size, 4, none⟩) (by show w.heap.size ≠ w1.heap.size; omega) (.int .i64 (DB : Nat))); have HG3 := Lib.hid (grown_over (grown_over g3 (grown_set _ ⟨w1.heap.size, 3, none⟩ (.int .i64 (D : Nat))) (fun q hq => by cases hq; show w.heap.size ≤ w1.heap.size; omega)) (grown_set _ ⟨w1.heap.size, 4, none⟩ (.int .i64 (DB : Nat))) (fun q hq => by cases hq; show w.heap.size ≤ w1.heap.size; omega)); clear hr3 hg3 k3 kr3 g3 HM3 R3)
    | (have HM4 := R4; go_at_call 54; refine (R4.out _ HR3.out).mono ?_; rintro e4 w4 ⟨rfl, hr4, hg4⟩; have k4 := K3.out.grown hg4 (by simp; omega); have hl4 := k4.lt; have kr4 := KR3.out.grown hg4 (by simp; omega); have g4 := grown_trans HG3.out hg4; clear x0 x1 x2 x3 x4 x5 x6 x7 x8 x9 x10 f0 f1 f2 f3 f4 f5 f6 f7 f8 f9; obtain ⟨x0, x1, x2, x3, x4, x5, x6, x7, x8, x9, x10⟩ := blk_cells10 k4; obtain ⟨f0, f1, f2, f3, f4, f5, f6, f7, f8, f9⟩ := blk_fz10 k4; have K4 := Lib.hid (set5 k4 (.int .i64 (E0 : Nat))); have HR4 := Lib.hid (hr4.setFar ⟨w1.heap.size, 5, none⟩ (by show g < w1.heap.size; omega) (.int .i64 (E0 : Nat))); have KR4 := Lib.hid (kr4.far (p := ⟨w1.heap.size, 5, none⟩) (by show w.heap.size ≠ w1.heap.size; omega) (.int .i64 (E0 : Nat))); have HG4 := Lib.hid (grown_over g4 (grown_set _ ⟨w1.heap.size, 5, none⟩ (.int .i64 (E0 : Nat))) (fun q hq => by cases hq; show w.heap.size ≤ w1.heap.size; omega)); clear hr4 hg4 k4 kr4 g4 HM4 R4)
    | (have HM5 := R5; go_at_call 54; refine (R5.out _ HR4.out).mono ?_; rintro e5 w5 ⟨rfl, hr5, hg5⟩; have k5 := K4.out.grown hg5 (by simp; omega); have hl5 := k5.lt; have kr5 := KR4.out.grown hg5 (by simp; omega); have g5 := grown_trans HG4.out hg5; clear x0 x1 x2 x3 x4 x5 x6 x7 x8 x9 x10 f0 f1 f2 f3 f4 f5 f6 f7 f8 f9; obtain ⟨x0, x1, x2, x3, x4, x5, x6, x7, x8, x9, x10⟩ := blk_cells10 k5; obtain ⟨f0, f1, f2, f3, f4, f5, f6, f7, f8, f9⟩ := blk_fz10 k5; have K5 := Lib.hid (set6 k5 (.int .i64 (E1 : Nat))); have HR5 := Lib.hid (hr5.setFar ⟨w1.heap.size, 6, none⟩ (by show g < w1.heap.size; omega) (.int .i64 (E1 : Nat))); have KR5 := Lib.hid (kr5.far (p := ⟨w1.heap.size, 6, none⟩) (by show w.heap.size ≠ w1.heap.size; omega) (.int .i64 (E1 : Nat))); have HG5 := Lib.hid (grown_over g5 (grown_set _ ⟨w1.heap.size, 6, none⟩ (.int .i64 (E1 : Nat))) (fun q hq => by cases hq; show w.heap.size ≤ w1.heap.size; omega)); clear hr5 hg5 k5 kr5 g5 HM5 R5)
    | (refine wpList_load_blk rfl 26 (.tmp 3) rfl w1.heap.size rfl #[.int .i64 (N : Nat), .int .i64 (F : Nat), .int .i64 (B : Nat), .int .i64 (D : Nat), .int .i64 (DB : Nat), .int .i64 (E0 : Nat), .int .i64 (E1 : Nat), .slice none 0 0, .slice none 0 0, .slice none 0 0] K5.out _ Try.underlying26 rfl (by rw [size_pk]; rfl) ?_)
    | (refine wpList_store_blk rfl 26 (.tmp 2) (.tmp 58) rfl w.heap.size #[.int .i64 (N : Nat), .int .i64 (F : Nat), .int .i64 (B : Nat), .int .i64 (D : Nat), .int .i64 (DB : Nat), .int .i64 (E0 : Nat), .int .i64 (E1 : Nat), .slice none 0 0, .slice none 0 0, .slice none 0 0] rfl rfl _ KR5.out (by rw [size_pk]; rfl) rfl (by kernel_rfl) ?_; intro w9 hg9 k9; have K9 := Lib.hid k9; have HR9 := Lib.hid (HR5.out.grown hg9 (fun q hq => by cases hq; omega)); have HG9 := Lib.hid (grown_over HG5.out hg9 (fun q hq => by cases hq; omega)); clear hg9 k9))
  refine bodyPost_ret (v := .agg #[.int .i64 (N : Nat), .int .i64 (F : Nat), .int .i64 (B : Nat), .int .i64 (D : Nat), .int .i64 (DB : Nat), .int .i64 (E0 : Nat), .int .i64 (E1 : Nat), .slice none 0 0, .slice none 0 0, .slice none 0 0]) ?_ rfl ⟨_, _, _, rfl, ⟨⟨0, World.ownsRow_nil _ _ _ _⟩, ⟨0, World.ownsRow_nil _ _ _ _⟩, ownL_nil _ _⟩, HR9.out, HG9.out⟩
  exact results_blk (P := Try.prog) Try.results35 _ rfl K9.out Try.underlying26 rfl (by rw [size_pk]; rfl)
set_option maxRecDepth 100000 in
set_option maxHeartbeats 16000000 in
theorem pread_four (g : Nat) (xs : List Nat) (w : World) (h : Rdr w g (xs, true)) (hk : (c1 xs).2 = 4) :
    Calls Try.prog 35 #[ptr g] w (ReadOutP w g (rPk xs)) := by
  have hgs := h.size
  have hb := h.lt
  have n1 : (c1 xs).2 < 256 := rnum_small (st := (xs, true)) (k := 1) (K := 1) rfl hb
  have b1 : ∀ x ∈ (c1 xs).1.1, x < 256 := Chg.rnum_bytes hb
  have b2 : ∀ x ∈ (c2 xs).1.1, x < 256 := Chg.rnum_bytes b1
  have b3 : ∀ x ∈ (c3 xs).1.1, x < 256 := Chg.rnum_bytes b2
  have b4 : ∀ x ∈ (c4 xs).1.1, x < 256 := Chg.rnum_bytes b3
  have b5 : ∀ x ∈ (c5 xs).1.1, x < 256 := Chg.rnum_bytes b4
  have r1 : ∀ W, Rdr W g (xs, true) → Calls Try.prog 54 #[ptr g, .int .i64 1] W fun e w' => e = .returned (.int .u64 ((c1 xs).2 : Nat)) ∧ Rdr w' g (c1 xs).1 ∧ W.grownBy w' (some g) := fun W hW => rnum_any g (xs, true) 1 W hW
  have r2 : ∀ W, Rdr W g (c1 xs).1 → Calls Try.prog 55 #[ptr g] W fun e w' => e = .returned (.tuple #[.int .i64 ((c2 xs).2 : Nat), .int .i64 ((c3 xs).2 : Nat)]) ∧ Rdr w' g (c3 xs).1 ∧ W.grownBy w' (some g) := fun W hW => readWho_any g (c1 xs).1 W hW
  have r3 : ∀ W, Rdr W g (c3 xs).1 → Calls Try.prog 55 #[ptr g] W fun e w' => e = .returned (.tuple #[.int .i64 ((c4 xs).2 : Nat), .int .i64 ((c5 xs).2 : Nat)]) ∧ Rdr w' g (c5 xs).1 ∧ W.grownBy w' (some g) := fun W hW => readWho_any g (c3 xs).1 W hW
  unfold rPk headC
  generalize (c1 xs).2 = N at *
  generalize (c2 xs).2 = F at *
  generalize (c3 xs).2 = B at *
  generalize (c4 xs).2 = D at *
  generalize (c5 xs).2 = DB at *
  generalize (c1 xs).1 = s1 at *
  generalize (c3 xs).1 = s3 at *
  generalize (c5 xs).1 = s5 at *
  rw [tailK4 (show (N : Int) = 4 by omega)]
  have d1 : ((N : Int) == 1) = false := by rw [beq_eq_false_iff_ne]; omega
  have d2 : ((N : Int) == 2) = false := by rw [beq_eq_false_iff_ne]; omega
  have d5 : ((N : Int) == 5) = false := by rw [beq_eq_false_iff_ne]; omega
  have d3 : ((N : Int) == 3) = false := by rw [beq_eq_false_iff_ne]; omega
  have d4 : ((N : Int) == 4) = true := by rw [beq_iff_eq]; omega
  clear hk
  have r4 := fun W (hW : Rdr W g s5) => readLsas_any g s5 W hW
  clear b1 b2 b3 b4 b5 hb
  have R1 := Lib.hid r1; clear r1
  have R2 := Lib.hid r2; clear r2
  have R3 := Lib.hid r3; clear r3
  have R4 := Lib.hid r4; clear r4
  have HR0 := Lib.hid h; clear h
  go_enter Try.func35, Try.ntmps35
  go_wp2_with (first
    | (have HM1 := R1; go_at_call 54; refine (R1.out _ (HR0.out.alloc _)).mono ?_; rintro e1 w1 ⟨rfl, hr1, hg1⟩; have kr1 := (Blk.new w 26 zC).grown hg1 (by simp; omega); have hl1 := kr1.lt; have HR1 := Lib.hid hr1; have HG1 := Lib.hid (grown_trans (World.grownBy_alloc w (Obj.cells zC 26) (some g)) hg1); have KR1 := Lib.hid kr1; clear hr1 hg1 kr1 HM1 R1)
    | (have HM2 := R2; go_at_call 55; refine (R2.out _ (HR1.out.alloc _)).mono ?_; rintro e2 w2 ⟨rfl, hr2, hg2⟩; have k2 := (Blk.new w1 26 #[.int .i64 (N : Nat), .int .i64 0, .int .i64 0, .int .i64 0, .int .i64 0, .int .i64 0, .int .i64 0, .slice none 0 0, .slice none 0 0, .slice none 0 0]).grown hg2 (by simp; omega); have hl2 := k2.lt; have kr2 := (KR1.out.alloc _).grown hg2 (by simp; omega); have g2 := grown_trans (grown_trans HG1.out (World.grownBy_alloc w1 (Obj.cells #[.int .i64 (N : Nat), .int .i64 0, .int .i64 0, .int .i64 0, .int .i64 0, .int .i64 0, .int .i64 0, .slice none 0 0, .slice none 0 0, .slice none 0 0] 26) (some g))) hg2; obtain ⟨x0, x1, x2, x3, x4, x5, x6, x7, x8, x9, x10⟩ := blk_cells10 k2; obtain ⟨f0, f1, f2, f3, f4, f5, f6, f7, f8, f9⟩ := blk_fz10 k2; have K2 := Lib.hid (set2 (set1 k2 (.int .i64 (F : Nat))) (.int .i64 (B : Nat))); have HR2 := Lib.hid ((hr2.setFar ⟨w1.heap.size, 1, none⟩ (by show g < w1.heap.size; omega) (.int .i64 (F : Nat))).setFar ⟨w1.heap.size, 2, none⟩ (by show g < w1.heap.size; omega) (.int .i64 (B : Nat))); have KR2 := Lib.hid ((kr2.far (p := ⟨w1.heap.size, 1, none⟩) (by show w.heap.size ≠ w1.heap.size; omega) (.int .i64 (F : Nat))).far (p := ⟨w1.heap.size, 2, none⟩) (by show w.heap.size ≠ w1.heap.size; omega) (.int .i64 (B : Nat))); have HG2 := Lib.hid (grown_over (grown_over g2 (grown_set _ ⟨w1.heap.size, 1, none⟩ (.int .i64 (F : Nat))) (fun q hq => by cases hq; show w.heap.size ≤ w1.heap.size; omega)) (grown_set _ ⟨w1.heap.size, 2, none⟩ (.int .i64 (B : Nat))) (fun q hq => by cases hq; show w.heap.size ≤ w1.heap.size; omega)); clear hr2 hg2 k2 kr2 g2 HM2 R2)
    | (have HM3 := R3; go_at_call 55; refine (R3.out _ HR2.out).mono ?_; rintro e3 w3 ⟨rfl, hr3, hg3⟩; have k3 := K2.out.grown hg3 (by simp; omega); have hl3 := k3.lt; have kr3 := KR2.out.grown hg3 (by simp; omega); have g3 := grown_trans HG2.out hg3; clear x0 x1 x2 x3 x4 x5 x6 x7 x8 x9 x10 f0 f1 f2 f3 f4 f5 f6 f7 f8 f9; obtain ⟨x0, x1, x2, x3, x4, x5, x6, x7, x8, x9, x10⟩ := blk_cells10 k3; obtain ⟨f0, f1, f2, f3, f4, f5, f6, f7, f8, f9⟩ := blk_fz10 k3; have K3 := Lib.hid (set4_ (set3 k3 (.int .i64 (D : Nat))) (.int .i64 (DB : Nat))); have HR3 := Lib.hid ((hr3.setFar ⟨w1.heap.size, 3, none⟩ (by show g < w1.heap.size; omega) (.int .i64 (D : Nat))).setFar ⟨w1.heap.size, 4, none⟩ (by show g < w1.heap.size; omega) (.int .i64 (DB : Nat))); have KR3 := Lib.hid ((kr3.far (p := ⟨w1.heap.size, 3, none⟩) (by show w.heap.size ≠ w1.heap.size; omega) (.int .i64 (D : Nat))).far (p := ⟨w1.heap.size, 4, none⟩) (by show w.heap.size ≠ w1.heap.size; omega) (.int .i64 (DB : Nat))); have HG3 := Lib.hid (grown_over (grown_over g3 (grown_set _ ⟨w1.heap.size, 3, none⟩ (.int .i64 (D : Nat))) (fun q hq => by cases hq; show w.heap.size ≤ w1.heap.size; omega)) (grown_set _ ⟨w1.heap.size, 4, none⟩ (.int .i64 (DB : Nat))) (fun q hq => by cases hq; show w.heap.size ≤ w1.heap.size; omega)); clear hr3 hg3 k3 kr3 g3 HM3 R3)
    | (have HM4 := R4; go_at_call 58; refine (R4.out _ HR3.out).mono ?_; rintro e4 w4 ⟨v4, rfl, ho4, hr4, hg4⟩; obtain ⟨A4, n4_, c4_, rfl⟩ := ownL_form14 ho4; have k4 := K3.out.grown hg4 (by simp; omega); have hl4 := k4.lt; have kr4 := KR3.out.grown hg4 (by simp; omega); have g4 := grown_trans HG3.out hg4; clear x0 x1 x2 x3 x4 x5 x6 x7 x8 x9 x10 f0 f1 f2 f3 f4 f5 f6 f7 f8 f9; obtain ⟨x0, x1, x2, x3, x4, x5, x6, x7, x8, x9, x10⟩ := blk_cells10 k4; obtain ⟨f0, f1, f2, f3, f4, f5, f6, f7, f8, f9⟩ := blk_fz10 k4; have K4 := Lib.hid (set9 k4 (.slice A4 n4_ c4_)); have HR4 := Lib.hid (hr4.setFar ⟨w1.heap.size, 9, none⟩ (by show g < w1.heap.size; omega) (.slice A4 n4_ c4_)); have KR4 := Lib.hid (kr4.far (p := ⟨w1.heap.size, 9, none⟩) (by show w.heap.size ≠ w1.heap.size; omega) (.slice A4 n4_ c4_)); have HG4 := Lib.hid (grown_over g4 (grown_set _ ⟨w1.heap.size, 9, none⟩ (.slice A4 n4_ c4_)) (fun q hq => by cases hq; show w.heap.size ≤ w1.heap.size; omega)); have HO := Lib.hid (ownL_more14 (ownL_gr14 ho4 (grown_set w4 ⟨w1.heap.size, 9, none⟩ (.slice A4 n4_ c4_)) (by show w1.heap.size < _; simp; omega)) (base' := w.heap.size + 1) (by simp; omega)); clear hr4 hg4 k4 kr4 g4 HM4 R4)
    | (refine wpList_load_blk rfl 26 (.tmp 3) rfl w1.heap.size rfl #[.int .i64 (N : Nat), .int .i64 (F : Nat), .int .i64 (B : Nat), .int .i64 (D : Nat), .int .i64 (DB : Nat), .int .i64 0, .int .i64 0, .slice none 0 0, .slice none 0 0, .slice A4 n4_ c4_] K4.out _ Try.underlying26 rfl (by rw [size_pk]; rfl) ?_)
    | (refine wpList_store_blk rfl 26 (.tmp 2) (.tmp 58) rfl w.heap.size #[.int .i64 (N : Nat), .int .i64 (F : Nat), .int .i64 (B : Nat), .int .i64 (D : Nat), .int .i64 (DB : Nat), .int .i64 0, .int .i64 0, .slice none 0 0, .slice none 0 0, .slice A4 n4_ c4_] rfl rfl _ KR4.out (by rw [size_pk]; rfl) rfl (by kernel_rfl) ?_; intro w9 hg9 k9; have K9 := Lib.hid k9; have HR9 := Lib.hid (HR4.out.grown hg9 (fun q hq => by cases hq; omega)); have HG9 := Lib.hid (grown_over HG4.out hg9 (fun q hq => by cases hq; omega)); have HO9 := Lib.hid (ownL_more14 (ownL_gr14 HO.out hg9 (by omega)) (base' := w.heap.size) (by omega)); clear hg9 k9))
  refine bodyPost_ret (v := .agg #[.int .i64 (N : Nat), .int .i64 (F : Nat), .int .i64 (B : Nat), .int .i64 (D : Nat), .int .i64 (DB : Nat), .int .i64 0, .int .i64 0, .slice none 0 0, .slice none 0 0, .slice A4 n4_ c4_]) ?_ rfl ⟨_, _, _, rfl, ⟨⟨0, World.ownsRow_nil _ _ _ _⟩, ⟨0, World.ownsRow_nil _ _ _ _⟩, HO9.out⟩, HR9.out, HG9.out⟩
  exact results_blk (P := Try.prog) Try.results35 _ rfl K9.out Try.underlying26 rfl (by rw [size_pk]; rfl)
set_option maxRecDepth 100000 in
set_option maxHeartbeats 16000000 in
theorem pread_five (g : Nat) (xs : List Nat) (w : World) (h : Rdr w g (xs, true)) (hk : (c1 xs).2 = 5) :
    Calls Try.prog 35 #[ptr g] w (ReadOutP w g (rPk xs)) := by
  have hgs := h.size
  have hb := h.lt
  have n1 : (c1 xs).2 < 256 := rnum_small (st := (xs, true)) (k := 1) (K := 1) rfl hb
  have b1 : ∀ x ∈ (c1 xs).1.1, x < 256 := Chg.rnum_bytes hb
  have b2 : ∀ x ∈ (c2 xs).1.1, x < 256 := Chg.rnum_bytes b1
  have b3 : ∀ x ∈ (c3 xs).1.1, x < 256 := Chg.rnum_bytes b2
  have b4 : ∀ x ∈ (c4 xs).1.1, x < 256 := Chg.rnum_bytes b3
  have b5 : ∀ x ∈ (c5 xs).1.1, x < 256 := Chg.rnum_bytes b4
  have r1 : ∀ W, Rdr W g (xs, true) → Calls Try.prog 54 #[ptr g, .int .i64 1] W fun e w' => e = .returned (.int .u64 ((c1 xs).2 : Nat)) ∧ Rdr w' g (c1 xs).1 ∧ W.grownBy w' (some g) := fun W hW => rnum_any g (xs, true) 1 W hW
  have r2 : ∀ W, Rdr W g (c1 xs).1 → Calls Try.prog 55 #[ptr g] W fun e w' => e = .returned (.tuple #[.int .i64 ((c2 xs).2 : Nat), .int .i64 ((c3 xs).2 : Nat)]) ∧ Rdr w' g (c3 xs).1 ∧ W.grownBy w' (some g) := fun W hW => readWho_any g (c1 xs).1 W hW
  have r3 : ∀ W, Rdr W g (c3 xs).1 → Calls Try.prog 55 #[ptr g] W fun e w' => e = .returned (.tuple #[.int .i64 ((c4 xs).2 : Nat), .int .i64 ((c5 xs).2 : Nat)]) ∧ Rdr w' g (c5 xs).1 ∧ W.grownBy w' (some g) := fun W hW => readWho_any g (c3 xs).1 W hW
  unfold rPk headC
  generalize (c1 xs).2 = N at *
  generalize (c2 xs).2 = F at *
  generalize (c3 xs).2 = B at *
  generalize (c4 xs).2 = D at *
  generalize (c5 xs).2 = DB at *
  generalize (c1 xs).1 = s1 at *
  generalize (c3 xs).1 = s3 at *
  generalize (c5 xs).1 = s5 at *
  rw [tailK5 (show (N : Int) = 5 by omega)]
  have d1 : ((N : Int) == 1) = false := by rw [beq_eq_false_iff_ne]; omega
  have d2 : ((N : Int) == 2) = false := by rw [beq_eq_false_iff_ne]; omega
  have d5 : ((N : Int) == 5) = true := by rw [beq_iff_eq]; omega
  clear hk
  have r4 := fun W (hW : Rdr W g s5) => readItems_any g s5 W hW
  clear b1 b2 b3 b4 b5 hb
  have R1 := Lib.hid r1; clear r1
  have R2 := Lib.hid r2; clear r2
  have R3 := Lib.hid r3; clear r3
  have R4 := Lib.hid r4; clear r4
  have HR0 := Lib.hid h; clear h
  go_enter Try.func35, Try.ntmps35
  go_wp2_with (first
    | (have HM1 := R1; go_at_call 54; refine (R1.out _ (HR0.out.alloc _)).mono ?_; rintro e1 w1 ⟨rfl, hr1, hg1⟩; have kr1 := (Blk.new w 26 zC).grown hg1 (by simp; omega); have hl1 := kr1.lt; have HR1 := Lib.hid hr1; have HG1 := Lib.hid (grown_trans (World.grownBy_alloc w (Obj.cells zC 26) (some g)) hg1); have KR1 := Lib.hid kr1; clear hr1 hg1 kr1 HM1 R1)
    | (have HM2 := R2; go_at_call 55; refine (R2.out _ (HR1.out.alloc _)).mono ?_; rintro e2 w2 ⟨rfl, hr2, hg2⟩; have k2 := (Blk.new w1 26 #[.int .i64 (N : Nat), .int .i64 0, .int .i64 0, .int .i64 0, .int .i64 0, .int .i64 0, .int .i64 0, .slice none 0 0, .slice none 0 0, .slice none 0 0]).grown hg2 (by simp; omega); have hl2 := k2.lt; have kr2 := (KR1.out.alloc _).grown hg2 (by simp; omega); have g2 := grown_trans (grown_trans HG1.out (World.grownBy_alloc w1 (Obj.cells #[.int .i64 (N : Nat), .int .i64 0, .int .i64 0, .int .i64 0, .int .i64 0, .int .i64 0, .int .i64 0, .slice none 0 0, .slice none 0 0, .slice none 0 0] 26) (some g))) hg2; obtain ⟨x0, x1, x2, x3, x4, x5, x6, x7, x8, x9, x10⟩ := blk_cells10 k2; obtain ⟨f0, f1, f2, f3, f4, f5, f6, f7, f8, f9⟩ := blk_fz10 k2; have K2 := Lib.hid (set2 (set1 k2 (.int .i64 (F : Nat))) (.int .i64 (B : Nat))); have HR2 := Lib.hid ((hr2.setFar ⟨w1.heap.size, 1, none⟩ (by show g < w1.heap.size; omega) (.int .i64 (F : Nat))).setFar ⟨w1.heap.size, 2, none⟩ (by show g < w1.heap.size; omega) (.int .i64 (B : Nat))); have KR2 := Lib.hid ((kr2.far (p := ⟨w1.heap.size, 1, none⟩) (by show w.heap.size ≠ w1.heap.size; omega) (.int .i64 (F : Nat))).far (p := ⟨w1.heap.size, 2, none⟩) (by show w.heap.size ≠ w1.heap.size; omega) (.int .i64 (B : Nat))); have HG2 := Lib.hid (grown_over (grown_over g2 (grown_set _ ⟨w1.heap.size, 1, none⟩ (.int .i64 (F : Nat))) (fun q hq => by cases hq; show w.heap.size ≤ w1.heap.size; omega)) (grown_set _ ⟨w1.heap.size, 2, none⟩ (.int .i64 (B : Nat))) (fun q hq => by cases hq; show w.heap.size ≤ w1.heap.size; omega)); clear hr2 hg2 k2 kr2 g2 HM2 R2)
    | (have HM3 := R3; go_at_call 55; refine (R3.out _ HR2.out).mono ?_; rintro e3 w3 ⟨rfl, hr3, hg3⟩; have k3 := K2.out.grown hg3 (by simp; omega); have hl3 := k3.lt; have kr3 := KR2.out.grown hg3 (by simp; omega); have g3 := grown_trans HG2.out hg3; clear x0 x1 x2 x3 x4 x5 x6 x7 x8 x9 x10 f0 f1 f2 f3 f4 f5 f6 f7 f8 f9; obtain ⟨x0, x1, x2, x3, x4, x5, x6, x7, x8, x9, x10⟩ := blk_cells10 k3; obtain ⟨f0, f1, f2, f3, f4, f5, f6, f7, f8, f9⟩ := blk_fz10 k3; have K3 := Lib.hid (set4_ (set3 k3 (.int .i64 (D : Nat))) (.int .i64 (DB : Nat))); have HR3 := Lib.hid ((hr3.setFar ⟨w1.heap.size, 3, none⟩ (by show g < w1.heap.size; omega) (.int .i64 (D : Nat))).setFar ⟨w1.heap.size, 4, none⟩ (by show g < w1.heap.size; omega) (.int .i64 (DB : Nat))); have KR3 := Lib.hid ((kr3.far (p := ⟨w1.heap.size, 3, none⟩) (by show w.heap.size ≠ w1.heap.size; omega) (.int .i64 (D : Nat))).far (p := ⟨w1.heap.size, 4, none⟩) (by show w.heap.size ≠ w1.heap.size; omega) (.int .i64 (DB : Nat))); have HG3 := Lib.hid (grown_over (grown_over g3 (grown_set _ ⟨w1.heap.size, 3, none⟩ (.int .i64 (D : Nat))) (fun q hq => by cases hq; show w.heap.size ≤ w1.heap.size; omega)) (grown_set _ ⟨w1.heap.size, 4, none⟩ (.int .i64 (DB : Nat))) (fun q hq => by cases hq; show w.heap.size ≤ w1.heap.size; omega)); clear hr3 hg3 k3 kr3 g3 HM3 R3)
    | (have HM4 := R4; go_at_call 57; refine (R4.out _ HR3.out).mono ?_; rintro e4 w4 ⟨v4, q4, rfl, ho4, hr4, hg4⟩; obtain ⟨A4, n4_, c4_, rfl⟩ := own_form14 ho4; have k4 := K3.out.grown hg4 (by simp; omega); have hl4 := k4.lt; have kr4 := KR3.out.grown hg4 (by simp; omega); have g4 := grown_trans HG3.out hg4; clear x0 x1 x2 x3 x4 x5 x6 x7 x8 x9 x10 f0 f1 f2 f3 f4 f5 f6 f7 f8 f9; obtain ⟨x0, x1, x2, x3, x4, x5, x6, x7, x8, x9, x10⟩ := blk_cells10 k4; obtain ⟨f0, f1, f2, f3, f4, f5, f6, f7, f8, f9⟩ := blk_fz10 k4; have K4 := Lib.hid (set8 k4 (.slice A4 n4_ c4_)); have HR4 := Lib.hid (hr4.setFar ⟨w1.heap.size, 8, none⟩ (by show g < w1.heap.size; omega) (.slice A4 n4_ c4_)); have KR4 := Lib.hid (kr4.far (p := ⟨w1.heap.size, 8, none⟩) (by show w.heap.size ≠ w1.heap.size; omega) (.slice A4 n4_ c4_)); have HG4 := Lib.hid (grown_over g4 (grown_set _ ⟨w1.heap.size, 8, none⟩ (.slice A4 n4_ c4_)) (fun q hq => by cases hq; show w.heap.size ≤ w1.heap.size; omega)); have HO := Lib.hid (own_mono (own_gr14 ho4 (grown_set w4 ⟨w1.heap.size, 8, none⟩ (.slice A4 n4_ c4_)) (by show w1.heap.size < _; simp; omega)) (base' := w.heap.size + 1) (by simp; omega)); clear hr4 hg4 k4 kr4 g4 HM4 R4)
    | (refine wpList_load_blk rfl 26 (.tmp 3) rfl w1.heap.size rfl #[.int .i64 (N : Nat), .int .i64 (F : Nat), .int .i64 (B : Nat), .int .i64 (D : Nat), .int .i64 (DB : Nat), .int .i64 0, .int .i64 0, .slice none 0 0, .slice A4 n4_ c4_, .slice none 0 0] K4.out _ Try.underlying26 rfl (by rw [size_pk]; rfl) ?_)
    | (refine wpList_store_blk rfl 26 (.tmp 2) (.tmp 58) rfl w.heap.size #[.int .i64 (N : Nat), .int .i64 (F : Nat), .int .i64 (B : Nat), .int .i64 (D : Nat), .int .i64 (DB : Nat), .int .i64 0, .int .i64 0, .slice none 0 0, .slice A4 n4_ c4_, .slice none 0 0] rfl rfl _ KR4.out (by rw [size_pk]; rfl) rfl (by kernel_rfl) ?_; intro w9 hg9 k9; have K9 := Lib.hid k9; have HR9 := Lib.hid (HR4.out.grown hg9 (fun q hq => by cases hq; omega)); have HG9 := Lib.hid (grown_over HG4.out hg9 (fun q hq => by cases hq; omega)); have HO9 := Lib.hid (own_mono (own_gr14 HO.out hg9 (by omega)) (base' := w.heap.size) (by omega)); clear hg9 k9))
  refine bodyPost_ret (v := .agg #[.int .i64 (N : Nat), .int .i64 (F : Nat), .int .i64 (B : Nat), .int .i64 (D : Nat), .int .i64 (DB : Nat), .int .i64 0, .int .i64 0, .slice none 0 0, .slice A4 n4_ c4_, .slice none 0 0]) ?_ rfl ⟨_, _, _, rfl, ⟨⟨0, World.ownsRow_nil _ _ _ _⟩, ⟨_, HO9.out⟩, ownL_nil _ _⟩, HR9.out, HG9.out⟩
  exact results_blk (P := Try.prog) Try.results35 _ rfl K9.out Try.underlying26 rfl (by rw [size_pk]; rfl)
set_option maxRecDepth 100000 in
set_option maxHeartbeats 16000000 in
theorem pread_none (g : Nat) (xs : List Nat) (w : World) (h : Rdr w g (xs, true)) (k1 : (c1 xs).2 ≠ 1) (k2 : (c1 xs).2 ≠ 2) (k3 : (c1 xs).2 ≠ 3) (k4 : (c1 xs).2 ≠ 4) (k5 : (c1 xs).2 ≠ 5) :
    Calls Try.prog 35 #[ptr g] w (ReadOutP w g (rPk xs)) := by
  have hgs := h.size
  have hb := h.lt
  have n1 : (c1 xs).2 < 256 := rnum_small (st := (xs, true)) (k := 1) (K := 1) rfl hb
  have b1 : ∀ x ∈ (c1 xs).1.1, x < 256 := Chg.rnum_bytes hb
  have b2 : ∀ x ∈ (c2 xs).1.1, x < 256 := Chg.rnum_bytes b1
  have b3 : ∀ x ∈ (c3 xs).1.1, x < 256 := Chg.rnum_bytes b2
  have b4 : ∀ x ∈ (c4 xs).1.1, x < 256 := Chg.rnum_bytes b3
  have b5 : ∀ x ∈ (c5 xs).1.1, x < 256 := Chg.rnum_bytes b4
  have r1 : ∀ W, Rdr W g (xs, true) → Calls Try.prog 54 #[ptr g, .int .i64 1] W fun e w' => e = .returned (.int .u64 ((c1 xs).2 : Nat)) ∧ Rdr w' g (c1 xs).1 ∧ W.grownBy w' (some g) := fun W hW => rnum_any g (xs, true) 1 W hW
  have r2 : ∀ W, Rdr W g (c1 xs).1 → Calls Try.prog 55 #[ptr g] W fun e w' => e = .returned (.tuple #[.int .i64 ((c2 xs).2 : Nat), .int .i64 ((c3 xs).2 : Nat)]) ∧ Rdr w' g (c3 xs).1 ∧ W.grownBy w' (some g) := fun W hW => readWho_any g (c1 xs).1 W hW
  have r3 : ∀ W, Rdr W g (c3 xs).1 → Calls Try.prog 55 #[ptr g] W fun e w' => e = .returned (.tuple #[.int .i64 ((c4 xs).2 : Nat), .int .i64 ((c5 xs).2 : Nat)]) ∧ Rdr w' g (c5 xs).1 ∧ W.grownBy w' (some g) := fun W hW => readWho_any g (c3 xs).1 W hW
  unfold rPk headC
  generalize (c1 xs).2 = N at *
  generalize (c2 xs).2 = F at *
  generalize (c3 xs).2 = B at *
  generalize (c4 xs).2 = D at *
  generalize (c5 xs).2 = DB at *
  generalize (c1 xs).1 = s1 at *
  generalize (c3 xs).1 = s3 at *
  generalize (c5 xs).1 = s5 at *
  rw [tailK0 (show (N : Int) ≠ 1 by omega) (show (N : Int) ≠ 2 by omega) (show (N : Int) ≠ 3 by omega) (show (N : Int) ≠ 4 by omega) (show (N : Int) ≠ 5 by omega)]
  have d1 : ((N : Int) == 1) = false := by rw [beq_eq_false_iff_ne]; omega
  have d2 : ((N : Int) == 2) = false := by rw [beq_eq_false_iff_ne]; omega
  have d5 : ((N : Int) == 5) = false := by rw [beq_eq_false_iff_ne]; omega
  have d3 : ((N : Int) == 3) = false := by rw [beq_eq_false_iff_ne]; omega
  have d4 : ((N : Int) == 4) = false := by rw [beq_eq_false_iff_ne]; omega
  clear k1 k2 k3 k4 k5
  clear b1 b2 b3 b4 b5 hb
  have R1 := Lib.hid r1; clear r1
  have R2 := Lib.hid r2; clear r2
  have R3 := Lib.hid r3; clear r3
  have HR0 := Lib.hid h; clear h
  go_enter Try.func35, Try.ntmps35
  go_wp2_with (first
    | (have HM1 := R1; go_at_call 54; refine (R1.out _ (HR0.out.alloc _)).mono ?_; rintro e1 w1 ⟨rfl, hr1, hg1⟩; have kr1 := (Blk.new w 26 zC).grown hg1 (by simp; omega); have hl1 := kr1.lt; have HR1 := Lib.hid hr1; have HG1 := Lib.hid (grown_trans (World.grownBy_alloc w (Obj.cells zC 26) (some g)) hg1); have KR1 := Lib.hid kr1; clear hr1 hg1 kr1 HM1 R1)
    | (have HM2 := R2; go_at_call 55; refine (R2.out _ (HR1.out.alloc _)).mono ?_; rintro e2 w2 ⟨rfl, hr2, hg2⟩; have k2 := (Blk.new w1 26 #[.int .i64 (N : Nat), .int .i64 0, .int .i64 0, .int .i64 0, .int .i64 0, .int .i64 0, .int .i64 0, .slice none 0 0, .slice none 0 0, .slice none 0 0]).grown hg2 (by simp; omega); have hl2 := k2.lt; have kr2 := (KR1.out.alloc _).grown hg2 (by simp; omega); have g2 := grown_trans (grown_trans HG1.out (World.grownBy_alloc w1 (Obj.cells #[.int .i64 (N : Nat), .int .i64 0, .int .i64 0, .int .i64 0, .int .i64 0, .int .i64 0, .int .i64 0, .slice none 0 0, .slice none 0 0, .slice none 0 0] 26) (some g))) hg2; obtain ⟨x0, x1, x2, x3, x4, x5, x6, x7, x8, x9, x10⟩ := blk_cells10 k2; obtain ⟨f0, f1, f2, f3, f4, f5, f6, f7, f8, f9⟩ := blk_fz10 k2; have K2 := Lib.hid (set2 (set1 k2 (.int .i64 (F : Nat))) (.int .i64 (B : Nat))); have HR2 := Lib.hid ((hr2.setFar ⟨w1.heap.size, 1, none⟩ (by show g < w1.heap.size; omega) (.int .i64 (F : Nat))).setFar ⟨w1.heap.size, 2, none⟩ (by show g < w1.heap.size; omega) (.int .i64 (B : Nat))); have KR2 := Lib.hid ((kr2.far (p := ⟨w1.heap.size, 1, none⟩) (by show w.heap.size ≠ w1.heap.size; omega) (.int .i64 (F : Nat))).far (p := ⟨w1.heap.size, 2, none⟩) (by show w.heap.size ≠ w1.heap.size; omega) (.int .i64 (B : Nat))); have HG2 := Lib.hid (grown_over (grown_over g2 (grown_set _ ⟨w1.heap.size, 1, none⟩ (.int .i64 (F : Nat))) (fun q hq => by cases hq; show w.heap.size ≤ w1.heap.size; omega)) (grown_set _ ⟨w1.heap.size, 2, none⟩ (.int .i64 (B : Nat))) (fun q hq => by cases hq; show w.heap.size ≤ w1.heap.size; omega)); clear hr2 hg2 k2 kr2 g2 HM2 R2)
    | (have HM3 := R3; go_at_call 55; refine (R3.out _ HR2.out).mono ?_; rintro e3 w3 ⟨rfl, hr3, hg3⟩; have k3 := K2.out.grown hg3 (by simp; omega); have hl3 := k3.lt; have kr3 := KR2.out.grown hg3 (by simp; omega); have g3 := grown_trans HG2.out hg3; clear x0 x1 x2 x3 x4 x5 x6 x7 x8 x9 x10 f0 f1 f2 f3 f4 f5 f6 f7 f8 f9; obtain ⟨x0, x1, x2, x3, x4, x5, x6, x7, x8, x9, x10⟩ := blk_cells10 k3; obtain ⟨f0, f1, f2, f3, f4, f5, f6, f7, f8, f9⟩ := blk_fz10 k3; have K3 := Lib.hid (set4_ (set3 k3 (.int .i64 (D : Nat))) (.int .i64 (DB : Nat))); have HR3 := Lib.hid ((hr3.setFar ⟨w1.heap.size, 3, none⟩ (by show g < w1.heap.size; omega) (.int .i64 (D : Nat))).setFar ⟨w1.heap.size, 4, none⟩ (by show g < w1.heap.size; omega) (.int .i64 (DB : Nat))); have KR3 := Lib.hid ((kr3.far (p := ⟨w1.heap.size, 3, none⟩) (by show w.heap.size ≠ w1.heap.size; omega) (.int .i64 (D : Nat))).far (p := ⟨w1.heap.size, 4, none⟩) (by show w.heap.size ≠ w1.heap.size; omega) (.int .i64 (DB : Nat))); have HG3 := Lib.hid (grown_over (grown_over g3 (grown_set _ ⟨w1.heap.size, 3, none⟩ (.int .i64 (D : Nat))) (fun q hq => by cases hq; show w.heap.size ≤ w1.heap.size; omega)) (grown_set _ ⟨w1.heap.size, 4, none⟩ (.int .i64 (DB : Nat))) (fun q hq => by cases hq; show w.heap.size ≤ w1.heap.size; omega)); clear hr3 hg3 k3 kr3 g3 HM3 R3)
    | (refine wpList_load_blk rfl 26 (.tmp 3) rfl w1.heap.size rfl #[.int .i64 (N : Nat), .int .i64 (F : Nat), .int .i64 (B : Nat), .int .i64 (D : Nat), .int .i64 (DB : Nat), .int .i64 0, .int .i64 0, .slice none 0 0, .slice none 0 0, .slice none 0 0] K3.out _ Try.underlying26 rfl (by rw [size_pk]; rfl) ?_)
    | (refine wpList_store_blk rfl 26 (.tmp 2) (.tmp 58) rfl w.heap.size #[.int .i64 (N : Nat), .int .i64 (F : Nat), .int .i64 (B : Nat), .int .i64 (D : Nat), .int .i64 (DB : Nat), .int .i64 0, .int .i64 0, .slice none 0 0, .slice none 0 0, .slice none 0 0] rfl rfl _ KR3.out (by rw [size_pk]; rfl) rfl (by kernel_rfl) ?_; intro w9 hg9 k9; have K9 := Lib.hid k9; have HR9 := Lib.hid (HR3.out.grown hg9 (fun q hq => by cases hq; omega)); have HG9 := Lib.hid (grown_over HG3.out hg9 (fun q hq => by cases hq; omega)); clear hg9 k9))
  refine bodyPost_ret (v := .agg #[.int .i64 (N : Nat), .int .i64 (F : Nat), .int .i64 (B : Nat), .int .i64 (D : Nat), .int .i64 (DB : Nat), .int .i64 0, .int .i64 0, .slice none 0 0, .slice none 0 0, .slice none 0 0]) ?_ rfl ⟨_, _, _, rfl, ⟨⟨0, World.ownsRow_nil _ _ _ _⟩, ⟨0, World.ownsRow_nil _ _ _ _⟩, ownL_nil _ _⟩, HR9.out, HG9.out⟩
  exact results_blk (P := Try.prog) Try.results35 _ rfl K9.out Try.underlying26 rfl (by rw [size_pk]; rfl)
theorem pread_any (g : Nat) (xs : List Nat) (w : World) (h : Rdr w g (xs, true)) :
    Calls Try.prog 35 #[ptr g] w (ReadOutP w g (rPk xs)) := by
  by_cases k1 : (c1 xs).2 = 1
  · exact pread_one g xs w h k1
  by_cases k2 : (c1 xs).2 = 2
  · exact pread_two g xs w h k2
  by_cases k3 : (c1 xs).2 = 3
  · exact pread_three g xs w h k3
  by_cases k4 : (c1 xs).2 = 4
  · exact pread_four g xs w h k4
  by_cases k5 : (c1 xs).2 = 5
  · exact pread_five g xs w h k5
  exact pread_none g xs w h k1 k2 k3 k4 k5
end Go.Proofs.Ytpolpppnajfhdaa.Pkt
