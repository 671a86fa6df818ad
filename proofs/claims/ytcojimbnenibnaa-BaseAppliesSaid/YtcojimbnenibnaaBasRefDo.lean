/- A change done, by the document's own answer (layer 11): waymarkref11.Do. -/
import Derived.Test.YtcojimbnenibnaaBasRefPut
import Derived.Test.YtcojimbnenibnaaBasRefEp
import Derived.Test.YtcojimbnenibnaaBasApply
import Derived.Deep.Cut
namespace Go.Proofs.Ytcojimbnenibnaa.Bas
open Go.RowKit Go.Proofs.Ytcojimbnenibnaa.Mem Go.Proofs.Ytcojimbnenibnaa.Oct Go.Proofs.Ytcojimbnenibnaa.Lsa Go.Proofs.Ytcojimbnenibnaa.Chg
set_option linter.unusedVariables false
set_option linter.unusedSimpArgs false
def RDoOut (w : World) (B0 : Nat) (s : Sta) (c : Ch) (e : Ending) (w' : World) : Prop :=
  ∃ dv ev, e = .returned (.tuple #[stV ((doS s c).getD s) dv ev, .bool (doS s c).isSome]) ∧ SafeL w' B0 dv ((doS s c).getD s).db ∧ SafeE w' B0 ev ((doS s c).getD s).ep ∧ Below w.heap.size w w'
/-- the three boxes -/
theorem box3 (w : World) (a b c : Array Value) (t t' t'' : TypeId) : Blk (((w.alloc (.cells a t)).alloc (.cells b t')).alloc (.cells c t'')) w.heap.size t a ∧ Blk (((w.alloc (.cells a t)).alloc (.cells b t')).alloc (.cells c t'')) (w.heap.size + 1) t' b ∧ Blk (((w.alloc (.cells a t)).alloc (.cells b t')).alloc (.cells c t'')) (w.heap.size + 2) t'' c ∧ Below w.heap.size w (((w.alloc (.cells a t)).alloc (.cells b t')).alloc (.cells c t'')) ∧ w.heap.size + 2 < (((w.alloc (.cells a t)).alloc (.cells b t')).alloc (.cells c t'')).heap.size := by
  refine ⟨((Blk.new w t a).alloc _).alloc _, (blk_second w (.cells a t) t' b).alloc _, ?_, low1 (low2 w _ _) _, by simp⟩
  have := Blk.new ((w.alloc (.cells a t)).alloc (.cells b t')) t'' c
  simpa using this
set_option maxRecDepth 100000 in
set_option maxHeartbeats 8000000 in
theorem rdo_upto (s : Sta) (o q n f : Int) (ls : List Lk) (dv ev u : Value) (B0 : Nat) (w : World) (hB0 : B0 ≤ w.heap.size) (h1 : SafeL w B0 dv s.db) (h2 : SafeE w B0 ev s.ep) (h3 : Lks w B0 u ls) :
    Calls Try.prog 27 #[stV s dv ev, chV ⟨2, o, q, ls, n, f⟩ u] w (RDoOut w B0 s ⟨2, o, q, ls, n, f⟩) := by
  obtain ⟨db, up, bo, ep⟩ := s
  obtain ⟨A1, n1, c1, rfl⟩ := h1.form
  obtain ⟨A2, n2, c2, rfl⟩ := h2.form
  obtain ⟨A3, n3, c3, rfl, hq_⟩ := id h3
  clear hq_
  simp only [stV, chV] at *
  obtain ⟨k0, k1, k2, hb, hsz⟩ := box3 w #[.slice A1 n1 c1, .int .i64 up, .int .i64 bo, .slice A2 n2 c2] #[.int .i64 2, .int .i64 o, .int .i64 q, .slice A3 n3 c3, .int .i64 n, .int .i64 f] #[.slice none 0 0, .int .i64 0, .int .i64 0, .slice none 0 0] 25 52 25
  have hd1 := h1.up hB0 hb
  have he1 := h2.up hb
  have hl1 : Lks _ B0 (.slice A3 n3 c3) ls := h3.below hb hB0
  obtain ⟨P1, hP1⟩ : ∃ P1, P1 = RDoOut w B0 ⟨db, up, bo, ep⟩ ⟨2, o, q, ls, n, f⟩ := ⟨_, rfl⟩
  rw [← hP1]
  have hfin : ∀ (W : World) (t : Sta) (d e : Value) (b : Bool), Below w.heap.size w W → SafeL W B0 d t.db → SafeE W B0 e t.ep → Blk W (w.heap.size + 2) 25 #[.slice none 0 0, .int .i64 0, .int .i64 0, .slice none 0 0] → (doS ⟨db, up, bo, ep⟩ ⟨2, o, q, ls, n, f⟩).getD ⟨db, up, bo, ep⟩ = t → (doS ⟨db, up, bo, ep⟩ ⟨2, o, q, ls, n, f⟩).isSome = b → P1 (.returned (.tuple #[stV t d e, .bool b])) (upd4 W (w.heap.size + 2) d (.int .i64 t.up) (.int .i64 t.bo) e) := by
    intro W t d e b hW hd he hk ht hb
    rw [hP1]
    unfold RDoOut
    rw [ht, hb]
    exact ⟨_, _, rfl, hd.blk (by have := hW.size; omega) hk (by decide) (by omega) (upd4_grown _ _ _ _ _ _), he.blk hk (by decide) (by omega) (upd4_grown _ _ _ _ _ _), hW.grown (upd4_grown _ _ _ _ _ _) hW.size (fun q hq => by cases hq; omega)⟩
  have FIN := Lib.hid hfin; clear hfin hP1
  obtain ⟨x0, x1, x2, x3, x4⟩ := blk_cells4 k0
  obtain ⟨y0, y1, y2, y3, y4, y5, y6⟩ := blk_cells6 k1
  obtain ⟨z0, z1, z2, z3, z4⟩ := blk_cells4 k2
  obtain ⟨f0, f1, f2, f3⟩ := blk_fz4 k0
  obtain ⟨g0, g1, g2, g3⟩ := blk_fz4 k2
  have HB := Lib.hid hb; clear hb
  have K0 := Lib.hid k0; clear k0
  have K1 := Lib.hid k1; clear k1
  have K2 := Lib.hid k2; clear k2
  have HD := Lib.hid hd1; clear hd1 h1
  have HE := Lib.hid he1; clear he1 h2
  have HLK := Lib.hid hl1; clear hl1 h3
  have HSZ := Lib.hid hsz; clear hsz
  by_cases hc : n ≤ up
  · have e : doS ⟨db, up, bo, ep⟩ ⟨2, o, q, ls, n, f⟩ = none := by rw [doS_2, if_pos hc]
    have hdd : decide (n ≤ up) = true := decide_eq_true hc
    have HF := Lib.hid (FIN.out _ ⟨db, up, bo, ep⟩ _ _ false HB.out HD.out HE.out K2.out (by rw [e]; rfl) (by rw [e]; rfl))
    clear e FIN
    go_enter Try.func27, Try.ntmps27
    go_upto_region 1 with fail
    generalize (((w.alloc (.cells #[.slice A1 n1 c1, .int .i64 up, .int .i64 bo, .slice A2 n2 c2] 25)).alloc (.cells #[.int .i64 2, .int .i64 o, .int .i64 q, .slice A3 n3 c3, .int .i64 n, .int .i64 f] 52)).alloc (.cells #[.slice none 0 0, .int .i64 0, .int .i64 0, .slice none 0 0] 25)) = W1 at *
    go_wp2
    refine bodyPost_ret (v := .tuple #[stV ⟨db, up, bo, ep⟩ (.slice A1 n1 c1) (.slice A2 n2 c2), .bool false]) ?_ rfl HF.out
    simp [results, Try.results27, go_sem, z0, z1, z2, z3]
  · have e : doS ⟨db, up, bo, ep⟩ ⟨2, o, q, ls, n, f⟩ = some ⟨db, n, bo, ep⟩ := by rw [doS_2, if_neg hc]
    have hdd : decide (n ≤ up) = false := decide_eq_false hc
    have hd2 := HD.out.blk (by have := HSZ.out; omega) K0.out (by decide) (by omega) (grown_set _ ⟨w.heap.size, 1, none⟩ (.int .i64 n))
    have he2 := HE.out.blk K0.out (by decide) (by omega) (grown_set _ ⟨w.heap.size, 1, none⟩ (.int .i64 n))
    have k3 := K2.out.far (p := ⟨w.heap.size, 1, none⟩) (by show w.heap.size + 2 ≠ w.heap.size; omega) (.int .i64 n)
    have HF := Lib.hid (FIN.out _ ⟨db, n, bo, ep⟩ _ _ true (below_set HB.out (Nat.le_refl _)) hd2 he2 k3 (by rw [e]; rfl) (by rw [e]; rfl))
    clear e hd2 he2 k3 FIN
    go_enter Try.func27, Try.ntmps27
    go_upto_region 1 with fail
    generalize (((w.alloc (.cells #[.slice A1 n1 c1, .int .i64 up, .int .i64 bo, .slice A2 n2 c2] 25)).alloc (.cells #[.int .i64 2, .int .i64 o, .int .i64 q, .slice A3 n3 c3, .int .i64 n, .int .i64 f] 52)).alloc (.cells #[.slice none 0 0, .int .i64 0, .int .i64 0, .slice none 0 0] 25)) = W1 at *
    go_wp2
    refine bodyPost_ret (v := .tuple #[stV ⟨db, n, bo, ep⟩ (.slice A1 n1 c1) (.slice A2 n2 c2), .bool true]) ?_ rfl HF.out
    simp [results, Try.results27, go_sem, z0, z1, z2, z3]
set_option maxRecDepth 100000 in
set_option maxHeartbeats 8000000 in
theorem rdo_boot (s : Sta) (o q n f : Int) (ls : List Lk) (dv ev u : Value) (B0 : Nat) (w : World) (hB0 : B0 ≤ w.heap.size) (h1 : SafeL w B0 dv s.db) (h2 : SafeE w B0 ev s.ep) (h3 : Lks w B0 u ls) :
    Calls Try.prog 27 #[stV s dv ev, chV ⟨3, o, q, ls, n, f⟩ u] w (RDoOut w B0 s ⟨3, o, q, ls, n, f⟩) := by
  obtain ⟨db, up, bo, ep⟩ := s
  obtain ⟨A1, n1, c1, rfl⟩ := h1.form
  obtain ⟨A2, n2, c2, rfl⟩ := h2.form
  obtain ⟨A3, n3, c3, rfl, hq_⟩ := id h3
  clear hq_
  simp only [stV, chV] at *
  obtain ⟨k0, k1, k2, hb, hsz⟩ := box3 w #[.slice A1 n1 c1, .int .i64 up, .int .i64 bo, .slice A2 n2 c2] #[.int .i64 3, .int .i64 o, .int .i64 q, .slice A3 n3 c3, .int .i64 n, .int .i64 f] #[.slice none 0 0, .int .i64 0, .int .i64 0, .slice none 0 0] 25 52 25
  have hd1 := h1.up hB0 hb
  have he1 := h2.up hb
  have hl1 : Lks _ B0 (.slice A3 n3 c3) ls := h3.below hb hB0
  obtain ⟨P1, hP1⟩ : ∃ P1, P1 = RDoOut w B0 ⟨db, up, bo, ep⟩ ⟨3, o, q, ls, n, f⟩ := ⟨_, rfl⟩
  rw [← hP1]
  have hfin : ∀ (W : World) (t : Sta) (d e : Value) (b : Bool), Below w.heap.size w W → SafeL W B0 d t.db → SafeE W B0 e t.ep → Blk W (w.heap.size + 2) 25 #[.slice none 0 0, .int .i64 0, .int .i64 0, .slice none 0 0] → (doS ⟨db, up, bo, ep⟩ ⟨3, o, q, ls, n, f⟩).getD ⟨db, up, bo, ep⟩ = t → (doS ⟨db, up, bo, ep⟩ ⟨3, o, q, ls, n, f⟩).isSome = b → P1 (.returned (.tuple #[stV t d e, .bool b])) (upd4 W (w.heap.size + 2) d (.int .i64 t.up) (.int .i64 t.bo) e) := by
    intro W t d e b hW hd he hk ht hb
    rw [hP1]
    unfold RDoOut
    rw [ht, hb]
    exact ⟨_, _, rfl, hd.blk (by have := hW.size; omega) hk (by decide) (by omega) (upd4_grown _ _ _ _ _ _), he.blk hk (by decide) (by omega) (upd4_grown _ _ _ _ _ _), hW.grown (upd4_grown _ _ _ _ _ _) hW.size (fun q hq => by cases hq; omega)⟩
  have FIN := Lib.hid hfin; clear hfin hP1
  obtain ⟨x0, x1, x2, x3, x4⟩ := blk_cells4 k0
  obtain ⟨y0, y1, y2, y3, y4, y5, y6⟩ := blk_cells6 k1
  obtain ⟨z0, z1, z2, z3, z4⟩ := blk_cells4 k2
  obtain ⟨f0, f1, f2, f3⟩ := blk_fz4 k0
  obtain ⟨g0, g1, g2, g3⟩ := blk_fz4 k2
  have HB := Lib.hid hb; clear hb
  have K0 := Lib.hid k0; clear k0
  have K1 := Lib.hid k1; clear k1
  have K2 := Lib.hid k2; clear k2
  have HD := Lib.hid hd1; clear hd1 h1
  have HE := Lib.hid he1; clear he1 h2
  have HLK := Lib.hid hl1; clear hl1 h3
  have HSZ := Lib.hid hsz; clear hsz
  by_cases hc : n ≤ bo
  · have e : doS ⟨db, up, bo, ep⟩ ⟨3, o, q, ls, n, f⟩ = none := by rw [doS_3, if_pos hc]
    have hdd : decide (n ≤ bo) = true := decide_eq_true hc
    have HF := Lib.hid (FIN.out _ ⟨db, up, bo, ep⟩ _ _ false HB.out HD.out HE.out K2.out (by rw [e]; rfl) (by rw [e]; rfl))
    clear e FIN
    go_enter Try.func27, Try.ntmps27
    go_upto_region 1 with fail
    generalize (((w.alloc (.cells #[.slice A1 n1 c1, .int .i64 up, .int .i64 bo, .slice A2 n2 c2] 25)).alloc (.cells #[.int .i64 3, .int .i64 o, .int .i64 q, .slice A3 n3 c3, .int .i64 n, .int .i64 f] 52)).alloc (.cells #[.slice none 0 0, .int .i64 0, .int .i64 0, .slice none 0 0] 25)) = W1 at *
    go_wp2
    refine bodyPost_ret (v := .tuple #[stV ⟨db, up, bo, ep⟩ (.slice A1 n1 c1) (.slice A2 n2 c2), .bool false]) ?_ rfl HF.out
    simp [results, Try.results27, go_sem, z0, z1, z2, z3]
  · have e : doS ⟨db, up, bo, ep⟩ ⟨3, o, q, ls, n, f⟩ = some ⟨db, up, n, ep⟩ := by rw [doS_3, if_neg hc]
    have hdd : decide (n ≤ bo) = false := decide_eq_false hc
    have hd2 := HD.out.blk (by have := HSZ.out; omega) K0.out (by decide) (by omega) (grown_set _ ⟨w.heap.size, 2, none⟩ (.int .i64 n))
    have he2 := HE.out.blk K0.out (by decide) (by omega) (grown_set _ ⟨w.heap.size, 2, none⟩ (.int .i64 n))
    have k3 := K2.out.far (p := ⟨w.heap.size, 2, none⟩) (by show w.heap.size + 2 ≠ w.heap.size; omega) (.int .i64 n)
    have HF := Lib.hid (FIN.out _ ⟨db, up, n, ep⟩ _ _ true (below_set HB.out (Nat.le_refl _)) hd2 he2 k3 (by rw [e]; rfl) (by rw [e]; rfl))
    clear e hd2 he2 k3 FIN
    go_enter Try.func27, Try.ntmps27
    go_upto_region 1 with fail
    generalize (((w.alloc (.cells #[.slice A1 n1 c1, .int .i64 up, .int .i64 bo, .slice A2 n2 c2] 25)).alloc (.cells #[.int .i64 3, .int .i64 o, .int .i64 q, .slice A3 n3 c3, .int .i64 n, .int .i64 f] 52)).alloc (.cells #[.slice none 0 0, .int .i64 0, .int .i64 0, .slice none 0 0] 25)) = W1 at *
    go_wp2
    refine bodyPost_ret (v := .tuple #[stV ⟨db, up, n, ep⟩ (.slice A1 n1 c1) (.slice A2 n2 c2), .bool true]) ?_ rfl HF.out
    simp [results, Try.results27, go_sem, z0, z1, z2, z3]
set_option maxRecDepth 100000 in
set_option maxHeartbeats 8000000 in
theorem rdo_lsa (s : Sta) (o q n f : Int) (ls : List Lk) (dv ev u : Value) (B0 : Nat) (w : World) (hB0 : B0 ≤ w.heap.size) (h1 : SafeL w B0 dv s.db) (h2 : SafeE w B0 ev s.ep) (h3 : Lks w B0 u ls) (hn : s.db.length ≤ 1000) (hdb : dbOk 0 s.db = true) :
    Calls Try.prog 27 #[stV s dv ev, chV ⟨1, o, q, ls, n, f⟩ u] w (RDoOut w B0 s ⟨1, o, q, ls, n, f⟩) := by
  obtain ⟨db, up, bo, ep⟩ := s
  obtain ⟨A1, n1, c1, rfl⟩ := h1.form
  obtain ⟨A2, n2, c2, rfl⟩ := h2.form
  obtain ⟨A3, n3, c3, rfl, hq_⟩ := id h3
  clear hq_
  simp only [stV, chV] at *
  obtain ⟨k0, k1, k2, hb, hsz⟩ := box3 w #[.slice A1 n1 c1, .int .i64 up, .int .i64 bo, .slice A2 n2 c2] #[.int .i64 1, .int .i64 o, .int .i64 q, .slice A3 n3 c3, .int .i64 n, .int .i64 f] #[.slice none 0 0, .int .i64 0, .int .i64 0, .slice none 0 0] 25 52 25
  have hd1 := h1.up hB0 hb
  have he1 := h2.up hb
  have hl1 : Lks _ B0 (.slice A3 n3 c3) ls := h3.below hb hB0
  obtain ⟨P1, hP1⟩ : ∃ P1, P1 = RDoOut w B0 ⟨db, up, bo, ep⟩ ⟨1, o, q, ls, n, f⟩ := ⟨_, rfl⟩
  rw [← hP1]
  have hfin : ∀ (W : World) (t : Sta) (d e : Value) (b : Bool), Below w.heap.size w W → SafeL W B0 d t.db → SafeE W B0 e t.ep → Blk W (w.heap.size + 2) 25 #[.slice none 0 0, .int .i64 0, .int .i64 0, .slice none 0 0] → (doS ⟨db, up, bo, ep⟩ ⟨1, o, q, ls, n, f⟩).getD ⟨db, up, bo, ep⟩ = t → (doS ⟨db, up, bo, ep⟩ ⟨1, o, q, ls, n, f⟩).isSome = b → P1 (.returned (.tuple #[stV t d e, .bool b])) (upd4 W (w.heap.size + 2) d (.int .i64 t.up) (.int .i64 t.bo) e) := by
    intro W t d e b hW hd he hk ht hb
    rw [hP1]
    unfold RDoOut
    rw [ht, hb]
    exact ⟨_, _, rfl, hd.blk (by have := hW.size; omega) hk (by decide) (by omega) (upd4_grown _ _ _ _ _ _), he.blk hk (by decide) (by omega) (upd4_grown _ _ _ _ _ _), hW.grown (upd4_grown _ _ _ _ _ _) hW.size (fun q hq => by cases hq; omega)⟩
  have FIN := Lib.hid hfin; clear hfin hP1
  obtain ⟨x0, x1, x2, x3, x4⟩ := blk_cells4 k0
  obtain ⟨y0, y1, y2, y3, y4, y5, y6⟩ := blk_cells6 k1
  obtain ⟨z0, z1, z2, z3, z4⟩ := blk_cells4 k2
  obtain ⟨f0, f1, f2, f3⟩ := blk_fz4 k0
  obtain ⟨g0, g1, g2, g3⟩ := blk_fz4 k2
  have HB := Lib.hid hb; clear hb
  have K0 := Lib.hid k0; clear k0
  have K1 := Lib.hid k1; clear k1
  have K2 := Lib.hid k2; clear k2
  have HD := Lib.hid hd1; clear hd1 h1
  have HE := Lib.hid he1; clear he1 h2
  have HLK := Lib.hid hl1; clear hl1 h3
  have HSZ := Lib.hid hsz; clear hsz
  have hl1 := (safeL_len HD.out).1
  have SQ := Lib.hid (rseq_any A1 n1 c1 _ db o ((((w.alloc (.cells #[.slice A1 n1 c1, .int .i64 up, .int .i64 bo, .slice A2 n2 c2] 25)).alloc (.cells #[.int .i64 1, .int .i64 o, .int .i64 q, .slice A3 n3 c3, .int .i64 n, .int .i64 f] 52)).alloc (.cells #[.slice none 0 0, .int .i64 0, .int .i64 0, .slice none 0 0] 25))).drew (HD.out.las (by have := HSZ.out; omega)))
  have HDB := Lib.hid hdb; clear hdb
  have hn1 : n1 ≤ 1000 := by omega
  have PT := Lib.hid (fun (W : World) (hW : B0 ≤ W.heap.size) (hd : SafeL W B0 (.slice A1 n1 c1) db) (hk : Lks W B0 (.slice A3 n3 c3) ls) => rput_db A1 n1 c1 db ⟨o, q, ls⟩ (.slice A3 n3 c3) W B0 hW hd hn1 hk)
  have hrp : refPut ⟨o, q, ls⟩ false db = putOf db ⟨o, q, ls⟩ := refPut_eq HDB.out
  have HRP := Lib.hid hrp; clear hrp hl1
  by_cases hc : q ≤ seqOf db o
  · have e : doS ⟨db, up, bo, ep⟩ ⟨1, o, q, ls, n, f⟩ = none := by rw [doS_1, if_pos hc]
    have hdd : decide (q ≤ seqOf db o) = true := decide_eq_true hc
    have HE0 := Lib.hid e; clear e
    go_enter Try.func27, Try.ntmps27
    go_upto_region 1 with fail
    generalize (((w.alloc (.cells #[.slice A1 n1 c1, .int .i64 up, .int .i64 bo, .slice A2 n2 c2] 25)).alloc (.cells #[.int .i64 1, .int .i64 o, .int .i64 q, .slice A3 n3 c3, .int .i64 n, .int .i64 f] 52)).alloc (.cells #[.slice none 0 0, .int .i64 0, .int .i64 0, .slice none 0 0] 25)) = W1 at *
    go_wp2_with (fail)
    refine wp_region_held_drew (S := fun W => W.cell? ⟨w.heap.size, 0, none⟩ = some (.slice A1 n1 c1) ∧ W.cell? ⟨w.heap.size + 1, 1, none⟩ = some (.int .i64 o) ∧ W.cell? ⟨w.heap.size + 1, 2, none⟩ = some (.int .i64 q)) (by kernel_rfl) ?_ (fun hHeld => ?_)
    · exact ⟨x0, y1, y2⟩
    refine wpAnyH_take (i := 0) (oi := ⟨some 10, _, _, _, _, _⟩) (v := ?_) rfl (by kernel_rfl) (by kernel_rfl) (by kernel_rfl) (fun _ _ _ h => h) (Or.inl ⟨by rfl, ?_⟩) (by assumption) ?_
    rotate_left
    · (intro w hSw; (try dsimp only at hSw); go_simp; try with_reducible rfl)
    try simp only [Act.put, List.setIfInBounds_toArray, List.set_cons_zero, List.set_cons_succ]
    refine wpAnyH_take (i := 1) (oi := ⟨some 11, _, _, _, _, _⟩) (v := ?_) rfl (by kernel_rfl) (by kernel_rfl) (by kernel_rfl) (fun _ _ _ h => h) (Or.inl ⟨by rfl, ?_⟩) (by assumption) ?_
    rotate_left
    · (intro w hSw; (try dsimp only at hSw); go_simp; try with_reducible rfl)
    try simp only [Act.put, List.setIfInBounds_toArray, List.set_cons_zero, List.set_cons_succ]
    refine wpAnyH_take (i := 2) (oi := ⟨some 12, _, _, _, _, _⟩) (v := ?_) rfl (by kernel_rfl) (by kernel_rfl) (by kernel_rfl) (fun _ _ _ h => h) (Or.inl ⟨by rfl, ?_⟩) (by assumption) ?_
    rotate_left
    · (intro w hSw; (try dsimp only at hSw); go_simp; try with_reducible rfl)
    try simp only [Act.put, List.setIfInBounds_toArray, List.set_cons_zero, List.set_cons_succ]
    refine wpAnyH_take (i := 3) (oi := ⟨some 13, _, _, _, _, _⟩) (v := ?_) rfl (by kernel_rfl) (by kernel_rfl) (by kernel_rfl) (fun _ _ _ h => h) (Or.inl ⟨by rfl, ?_⟩) (by assumption) ?_
    rotate_left
    · (intro w hSw; (try dsimp only at hSw); go_simp; try with_reducible rfl)
    try simp only [Act.put, List.setIfInBounds_toArray, List.set_cons_zero, List.set_cons_succ]
    refine wpAnyH_take (i := 4) (oi := ⟨some 14, _, _, _, _, _⟩) (v := ?_) rfl (by kernel_rfl) (by kernel_rfl) (by kernel_rfl) (fun _ _ _ h => h) (Or.inl ⟨by rfl, ?_⟩) (by assumption) ?_
    rotate_left
    · (intro w hSw; (try dsimp only at hSw); go_simp; try with_reducible rfl)
    try simp only [Act.put, List.setIfInBounds_toArray, List.set_cons_zero, List.set_cons_succ]
    refine wpAnyH_take (i := 6) (oi := ⟨some 16, _, _, _, _, _⟩) (v := ?_) rfl (by kernel_rfl) (by kernel_rfl) (by kernel_rfl) (fun _ _ _ h => h) (Or.inl ⟨by rfl, ?_⟩) (by assumption) ?_
    rotate_left
    · (intro w hSw; (try dsimp only at hSw); go_simp; try with_reducible rfl)
    try simp only [Act.put, List.setIfInBounds_toArray, List.set_cons_zero, List.set_cons_succ]
    refine wpAnyH_take (i := 7) (oi := ⟨some 17, _, _, _, _, _⟩) (v := ?_) rfl (by kernel_rfl) (by kernel_rfl) (by kernel_rfl) (fun _ _ _ h => h) (Or.inl ⟨by rfl, ?_⟩) (by assumption) ?_
    rotate_left
    · (intro w hSw; (try dsimp only at hSw); go_simp; try with_reducible rfl)
    try simp only [Act.put, List.setIfInBounds_toArray, List.set_cons_zero, List.set_cons_succ]
    refine wpAnyH_take (i := 8) (oi := ⟨some 18, _, _, _, _, _⟩) (v := ?_) rfl (by kernel_rfl) (by kernel_rfl) (by kernel_rfl) (fun _ _ _ h => h) (Or.inl ⟨by rfl, ?_⟩) (by assumption) ?_
    rotate_left
    · (intro w hSw; (try dsimp only at hSw); go_simp; try with_reducible rfl)
    try simp only [Act.put, List.setIfInBounds_toArray, List.set_cons_zero, List.set_cons_succ]
    refine wpAnyH_ready (rs := [5]) (by kernel_rfl) (by simp) (AllReadyH.cons (o := ⟨some 15, _, _, _, _, _⟩) rfl (fun K hK => ?_) AllReadyH.nil)
    go_simp
    (go_at_call 58; refine (SQ.out).mono ?_; rintro e w3 ⟨rfl, m3, hw3⟩; have HB3 : Hid (Below w.heap.size w w3) := Lib.hid (by rw [hw3]; exact below_drewN HB.out.drew m3); have K03 : Hid (Blk w3 w.heap.size 25 #[.slice A1 n1 c1, .int .i64 up, .int .i64 bo, .slice A2 n2 c2]) := Lib.hid (by rw [hw3]; exact K0.out); have K13 : Hid (Blk w3 (w.heap.size + 1) 52 (#[.int .i64 1, .int .i64 o, .int .i64 q, .slice A3 n3 c3, .int .i64 n, .int .i64 f])) := Lib.hid (by rw [hw3]; exact K1.out); have K23 : Hid (Blk w3 (w.heap.size + 2) 25 #[.slice none 0 0, .int .i64 0, .int .i64 0, .slice none 0 0]) := Lib.hid (by rw [hw3]; exact K2.out); have HD3 : Hid (SafeL w3 B0 (.slice A1 n1 c1) db) := Lib.hid (by rw [hw3]; exact HD.out); have HE3 : Hid (SafeE w3 B0 (.slice A2 n2 c2) ep) := Lib.hid (by rw [hw3]; exact HE.out); have HLK3 : Hid (Lks w3 B0 (.slice A3 n3 c3) ls) := Lib.hid (by rw [hw3]; exact HLK.out); have HSZ3 : Hid (w.heap.size + 2 < w3.heap.size) := Lib.hid (by rw [hw3]; exact HSZ.out); clear hw3 x0 x1 x2 x3 x4 y0 y1 y2 y3 y4 y5 y6 z0 z1 z2 z3 z4 f0 f1 f2 f3 g0 g1 g2 g3; obtain ⟨x0, x1, x2, x3, x4⟩ := blk_cells4 K03.out; obtain ⟨y0, y1, y2, y3, y4, y5, y6⟩ := blk_cells6 K13.out; obtain ⟨z0, z1, z2, z3, z4⟩ := blk_cells4 K23.out; obtain ⟨f0, f1, f2, f3⟩ := blk_fz4 K03.out; obtain ⟨g0, g1, g2, g3⟩ := blk_fz4 K23.out)
    refine hK.out _ _ ?_ (fun hHeld => ?_)
    · exact ⟨x0, y1, y2⟩
    clear hK K
    try simp only [Act.put, List.setIfInBounds_toArray, List.set_cons_zero, List.set_cons_succ]
    refine wpAnyH_take (i := 9) (oi := ⟨some 19, _, _, _, _, _⟩) (v := ?_) rfl (by kernel_rfl) (by kernel_rfl) (by kernel_rfl) (fun _ _ _ h => h) (Or.inl ⟨by rfl, ?_⟩) (by assumption) ?_
    rotate_left
    · (intro w hSw; (try dsimp only at hSw); go_simp; try with_reducible rfl)
    try simp only [Act.put, List.setIfInBounds_toArray, List.set_cons_zero, List.set_cons_succ]
    refine wpAnyH_done (by kernel_rfl) ?_ _
    have HF := Lib.hid (FIN.out _ ⟨db, up, bo, ep⟩ _ _ false HB3.out HD3.out HE3.out K23.out (by rw [HE0.out]; rfl) (by rw [HE0.out]; rfl))
    go_wp2
    refine bodyPost_ret (v := .tuple #[stV ⟨db, up, bo, ep⟩ (.slice A1 n1 c1) (.slice A2 n2 c2), .bool false]) ?_ rfl HF.out
    simp [results, Try.results27, go_sem, z0, z1, z2, z3]
  · have e : doS ⟨db, up, bo, ep⟩ ⟨1, o, q, ls, n, f⟩ = some ⟨putOf db ⟨o, q, ls⟩, up, bo, ep⟩ := by rw [doS_1, if_neg hc]
    have hdd : decide (q ≤ seqOf db o) = false := decide_eq_false hc
    have HE0 := Lib.hid e; clear e
    go_enter Try.func27, Try.ntmps27
    go_upto_region 1 with fail
    generalize (((w.alloc (.cells #[.slice A1 n1 c1, .int .i64 up, .int .i64 bo, .slice A2 n2 c2] 25)).alloc (.cells #[.int .i64 1, .int .i64 o, .int .i64 q, .slice A3 n3 c3, .int .i64 n, .int .i64 f] 52)).alloc (.cells #[.slice none 0 0, .int .i64 0, .int .i64 0, .slice none 0 0] 25)) = W1 at *
    go_wp2_with (fail)
    refine wp_region_held_drew (S := fun W => W.cell? ⟨w.heap.size, 0, none⟩ = some (.slice A1 n1 c1) ∧ W.cell? ⟨w.heap.size + 1, 1, none⟩ = some (.int .i64 o) ∧ W.cell? ⟨w.heap.size + 1, 2, none⟩ = some (.int .i64 q)) (by kernel_rfl) ?_ (fun hHeld => ?_)
    · exact ⟨x0, y1, y2⟩
    refine wpAnyH_take (i := 0) (oi := ⟨some 10, _, _, _, _, _⟩) (v := ?_) rfl (by kernel_rfl) (by kernel_rfl) (by kernel_rfl) (fun _ _ _ h => h) (Or.inl ⟨by rfl, ?_⟩) (by assumption) ?_
    rotate_left
    · (intro w hSw; (try dsimp only at hSw); go_simp; try with_reducible rfl)
    try simp only [Act.put, List.setIfInBounds_toArray, List.set_cons_zero, List.set_cons_succ]
    refine wpAnyH_take (i := 1) (oi := ⟨some 11, _, _, _, _, _⟩) (v := ?_) rfl (by kernel_rfl) (by kernel_rfl) (by kernel_rfl) (fun _ _ _ h => h) (Or.inl ⟨by rfl, ?_⟩) (by assumption) ?_
    rotate_left
    · (intro w hSw; (try dsimp only at hSw); go_simp; try with_reducible rfl)
    try simp only [Act.put, List.setIfInBounds_toArray, List.set_cons_zero, List.set_cons_succ]
    refine wpAnyH_take (i := 2) (oi := ⟨some 12, _, _, _, _, _⟩) (v := ?_) rfl (by kernel_rfl) (by kernel_rfl) (by kernel_rfl) (fun _ _ _ h => h) (Or.inl ⟨by rfl, ?_⟩) (by assumption) ?_
    rotate_left
    · (intro w hSw; (try dsimp only at hSw); go_simp; try with_reducible rfl)
    try simp only [Act.put, List.setIfInBounds_toArray, List.set_cons_zero, List.set_cons_succ]
    refine wpAnyH_take (i := 3) (oi := ⟨some 13, _, _, _, _, _⟩) (v := ?_) rfl (by kernel_rfl) (by kernel_rfl) (by kernel_rfl) (fun _ _ _ h => h) (Or.inl ⟨by rfl, ?_⟩) (by assumption) ?_
    rotate_left
    · (intro w hSw; (try dsimp only at hSw); go_simp; try with_reducible rfl)
    try simp only [Act.put, List.setIfInBounds_toArray, List.set_cons_zero, List.set_cons_succ]
    refine wpAnyH_take (i := 4) (oi := ⟨some 14, _, _, _, _, _⟩) (v := ?_) rfl (by kernel_rfl) (by kernel_rfl) (by kernel_rfl) (fun _ _ _ h => h) (Or.inl ⟨by rfl, ?_⟩) (by assumption) ?_
    rotate_left
    · (intro w hSw; (try dsimp only at hSw); go_simp; try with_reducible rfl)
    try simp only [Act.put, List.setIfInBounds_toArray, List.set_cons_zero, List.set_cons_succ]
    refine wpAnyH_take (i := 6) (oi := ⟨some 16, _, _, _, _, _⟩) (v := ?_) rfl (by kernel_rfl) (by kernel_rfl) (by kernel_rfl) (fun _ _ _ h => h) (Or.inl ⟨by rfl, ?_⟩) (by assumption) ?_
    rotate_left
    · (intro w hSw; (try dsimp only at hSw); go_simp; try with_reducible rfl)
    try simp only [Act.put, List.setIfInBounds_toArray, List.set_cons_zero, List.set_cons_succ]
    refine wpAnyH_take (i := 7) (oi := ⟨some 17, _, _, _, _, _⟩) (v := ?_) rfl (by kernel_rfl) (by kernel_rfl) (by kernel_rfl) (fun _ _ _ h => h) (Or.inl ⟨by rfl, ?_⟩) (by assumption) ?_
    rotate_left
    · (intro w hSw; (try dsimp only at hSw); go_simp; try with_reducible rfl)
    try simp only [Act.put, List.setIfInBounds_toArray, List.set_cons_zero, List.set_cons_succ]
    refine wpAnyH_take (i := 8) (oi := ⟨some 18, _, _, _, _, _⟩) (v := ?_) rfl (by kernel_rfl) (by kernel_rfl) (by kernel_rfl) (fun _ _ _ h => h) (Or.inl ⟨by rfl, ?_⟩) (by assumption) ?_
    rotate_left
    · (intro w hSw; (try dsimp only at hSw); go_simp; try with_reducible rfl)
    try simp only [Act.put, List.setIfInBounds_toArray, List.set_cons_zero, List.set_cons_succ]
    refine wpAnyH_ready (rs := [5]) (by kernel_rfl) (by simp) (AllReadyH.cons (o := ⟨some 15, _, _, _, _, _⟩) rfl (fun K hK => ?_) AllReadyH.nil)
    go_simp
    (go_at_call 58; refine (SQ.out).mono ?_; rintro e w3 ⟨rfl, m3, hw3⟩; have HB3 : Hid (Below w.heap.size w w3) := Lib.hid (by rw [hw3]; exact below_drewN HB.out.drew m3); have K03 : Hid (Blk w3 w.heap.size 25 #[.slice A1 n1 c1, .int .i64 up, .int .i64 bo, .slice A2 n2 c2]) := Lib.hid (by rw [hw3]; exact K0.out); have K13 : Hid (Blk w3 (w.heap.size + 1) 52 (#[.int .i64 1, .int .i64 o, .int .i64 q, .slice A3 n3 c3, .int .i64 n, .int .i64 f])) := Lib.hid (by rw [hw3]; exact K1.out); have K23 : Hid (Blk w3 (w.heap.size + 2) 25 #[.slice none 0 0, .int .i64 0, .int .i64 0, .slice none 0 0]) := Lib.hid (by rw [hw3]; exact K2.out); have HD3 : Hid (SafeL w3 B0 (.slice A1 n1 c1) db) := Lib.hid (by rw [hw3]; exact HD.out); have HE3 : Hid (SafeE w3 B0 (.slice A2 n2 c2) ep) := Lib.hid (by rw [hw3]; exact HE.out); have HLK3 : Hid (Lks w3 B0 (.slice A3 n3 c3) ls) := Lib.hid (by rw [hw3]; exact HLK.out); have HSZ3 : Hid (w.heap.size + 2 < w3.heap.size) := Lib.hid (by rw [hw3]; exact HSZ.out); clear hw3 x0 x1 x2 x3 x4 y0 y1 y2 y3 y4 y5 y6 z0 z1 z2 z3 z4 f0 f1 f2 f3 g0 g1 g2 g3; obtain ⟨x0, x1, x2, x3, x4⟩ := blk_cells4 K03.out; obtain ⟨y0, y1, y2, y3, y4, y5, y6⟩ := blk_cells6 K13.out; obtain ⟨z0, z1, z2, z3, z4⟩ := blk_cells4 K23.out; obtain ⟨f0, f1, f2, f3⟩ := blk_fz4 K03.out; obtain ⟨g0, g1, g2, g3⟩ := blk_fz4 K23.out)
    refine hK.out _ _ ?_ (fun hHeld => ?_)
    · exact ⟨x0, y1, y2⟩
    clear hK K
    try simp only [Act.put, List.setIfInBounds_toArray, List.set_cons_zero, List.set_cons_succ]
    refine wpAnyH_take (i := 9) (oi := ⟨some 19, _, _, _, _, _⟩) (v := ?_) rfl (by kernel_rfl) (by kernel_rfl) (by kernel_rfl) (fun _ _ _ h => h) (Or.inl ⟨by rfl, ?_⟩) (by assumption) ?_
    rotate_left
    · (intro w hSw; (try dsimp only at hSw); go_simp; try with_reducible rfl)
    try simp only [Act.put, List.setIfInBounds_toArray, List.set_cons_zero, List.set_cons_succ]
    refine wpAnyH_done (by kernel_rfl) ?_ _
    go_wp2_with (fail)
    refine (PT.out w3 (by have := HSZ3.out; omega) HD3.out HLK3.out).mono ?_
    rintro e w5 ⟨v5, rfl, ho5, hb5⟩
    have hd5 := safeL_own ho5
    rw [HRP.out] at hd5
    obtain ⟨A5, n5, c5, rfl⟩ := hd5.form
    have k05 := K03.out.below hb5 K03.out.lt
    have k25 := K23.out.below hb5 K23.out.lt
    have hs5 := hb5.size
    have hd6 := hd5.blk (by have := HSZ3.out; omega) k05 (by decide) (by omega) (grown_set w5 ⟨w.heap.size, 0, none⟩ (.slice A5 n5 c5))
    have he6 := (HE3.out.up hb5).blk k05 (by decide) (by omega) (grown_set w5 ⟨w.heap.size, 0, none⟩ (.slice A5 n5 c5))
    have k26 := k25.far (p := ⟨w.heap.size, 0, none⟩) (by show w.heap.size + 2 ≠ w.heap.size; omega) (.slice A5 n5 c5)
    have HF := Lib.hid (FIN.out _ ⟨putOf db ⟨o, q, ls⟩, up, bo, ep⟩ _ _ true (below_set (low_low HB3.out hb5) (Nat.le_refl _)) hd6 he6 k26 (by rw [HE0.out]; rfl) (by rw [HE0.out]; rfl))
    clear x0 x1 x2 x3 x4 z0 z1 z2 z3 z4 f0 f1 f2 f3 g0 g1 g2 g3
    obtain ⟨x0, x1, x2, x3, x4⟩ := blk_cells4 k05
    obtain ⟨z0, z1, z2, z3, z4⟩ := blk_cells4 k25
    obtain ⟨f0, f1, f2, f3⟩ := blk_fz4 k05
    obtain ⟨g0, g1, g2, g3⟩ := blk_fz4 k25
    clear hd6 he6 k26 k05 k25 hd5 ho5 hb5
    go_wp2
    refine bodyPost_ret (v := .tuple #[stV ⟨putOf db ⟨o, q, ls⟩, up, bo, ep⟩ (.slice A5 n5 c5) (.slice A2 n2 c2), .bool true]) ?_ rfl HF.out
    simp [results, Try.results27, go_sem, z0, z1, z2, z3]
set_option maxRecDepth 100000 in
set_option maxHeartbeats 8000000 in
theorem rdo_ep (s : Sta) (o q n f : Int) (ls : List Lk) (dv ev u : Value) (B0 : Nat) (w : World) (hB0 : B0 ≤ w.heap.size) (h1 : SafeL w B0 dv s.db) (h2 : SafeE w B0 ev s.ep) (h3 : Lks w B0 u ls) (hep : epOk 0 s.ep = true) (hw1 : win f 64 = true) (hw2 : win n 1073741824 = true) :
    Calls Try.prog 27 #[stV s dv ev, chV ⟨4, o, q, ls, n, f⟩ u] w (RDoOut w B0 s ⟨4, o, q, ls, n, f⟩) := by
  obtain ⟨db, up, bo, ep⟩ := s
  obtain ⟨A1, n1, c1, rfl⟩ := h1.form
  obtain ⟨A2, n2, c2, rfl⟩ := h2.form
  obtain ⟨A3, n3, c3, rfl, hq_⟩ := id h3
  clear hq_
  simp only [stV, chV] at *
  obtain ⟨k0, k1, k2, hb, hsz⟩ := box3 w #[.slice A1 n1 c1, .int .i64 up, .int .i64 bo, .slice A2 n2 c2] #[.int .i64 4, .int .i64 o, .int .i64 q, .slice A3 n3 c3, .int .i64 n, .int .i64 f] #[.slice none 0 0, .int .i64 0, .int .i64 0, .slice none 0 0] 25 52 25
  have hd1 := h1.up hB0 hb
  have he1 := h2.up hb
  have hl1 : Lks _ B0 (.slice A3 n3 c3) ls := h3.below hb hB0
  obtain ⟨P1, hP1⟩ : ∃ P1, P1 = RDoOut w B0 ⟨db, up, bo, ep⟩ ⟨4, o, q, ls, n, f⟩ := ⟨_, rfl⟩
  rw [← hP1]
  have hfin : ∀ (W : World) (t : Sta) (d e : Value) (b : Bool), Below w.heap.size w W → SafeL W B0 d t.db → SafeE W B0 e t.ep → Blk W (w.heap.size + 2) 25 #[.slice none 0 0, .int .i64 0, .int .i64 0, .slice none 0 0] → (doS ⟨db, up, bo, ep⟩ ⟨4, o, q, ls, n, f⟩).getD ⟨db, up, bo, ep⟩ = t → (doS ⟨db, up, bo, ep⟩ ⟨4, o, q, ls, n, f⟩).isSome = b → P1 (.returned (.tuple #[stV t d e, .bool b])) (upd4 W (w.heap.size + 2) d (.int .i64 t.up) (.int .i64 t.bo) e) := by
    intro W t d e b hW hd he hk ht hb
    rw [hP1]
    unfold RDoOut
    rw [ht, hb]
    exact ⟨_, _, rfl, hd.blk (by have := hW.size; omega) hk (by decide) (by omega) (upd4_grown _ _ _ _ _ _), he.blk hk (by decide) (by omega) (upd4_grown _ _ _ _ _ _), hW.grown (upd4_grown _ _ _ _ _ _) hW.size (fun q hq => by cases hq; omega)⟩
  have FIN := Lib.hid hfin; clear hfin hP1
  obtain ⟨x0, x1, x2, x3, x4⟩ := blk_cells4 k0
  obtain ⟨y0, y1, y2, y3, y4, y5, y6⟩ := blk_cells6 k1
  obtain ⟨z0, z1, z2, z3, z4⟩ := blk_cells4 k2
  obtain ⟨f0, f1, f2, f3⟩ := blk_fz4 k0
  obtain ⟨g0, g1, g2, g3⟩ := blk_fz4 k2
  have HB := Lib.hid hb; clear hb
  have K0 := Lib.hid k0; clear k0
  have K1 := Lib.hid k1; clear k1
  have K2 := Lib.hid k2; clear k2
  have HD := Lib.hid hd1; clear hd1 h1
  have HE := Lib.hid he1; clear he1 h2
  have HLK := Lib.hid hl1; clear hl1 h3
  have HSZ := Lib.hid hsz; clear hsz
  have SQ := Lib.hid (repoch_any A2 n2 c2 _ ep f ((((w.alloc (.cells #[.slice A1 n1 c1, .int .i64 up, .int .i64 bo, .slice A2 n2 c2] 25)).alloc (.cells #[.int .i64 4, .int .i64 o, .int .i64 q, .slice A3 n3 c3, .int .i64 n, .int .i64 f] 52)).alloc (.cells #[.slice none 0 0, .int .i64 0, .int .i64 0, .slice none 0 0] 25))).drew HE.out.lks)
  have PT := Lib.hid (fun (W : World) (hd : SafeE W B0 (.slice A2 n2 c2) ep) => reps_any A2 n2 c2 ep f n W hd.lks)
  have hrp : refEp ep (f, n) = putEp ep (f, n) := refEp_eq hep hw1 hw2
  have HRP := Lib.hid hrp; clear hrp hep hw1 hw2
  by_cases hc : n ≤ epoch ep f
  · have e : doS ⟨db, up, bo, ep⟩ ⟨4, o, q, ls, n, f⟩ = none := by rw [doS_4, if_pos hc]
    have hdd : decide (n ≤ epoch ep f) = true := decide_eq_true hc
    have HE0 := Lib.hid e; clear e
    go_enter Try.func27, Try.ntmps27
    go_upto_region 1 with fail
    generalize (((w.alloc (.cells #[.slice A1 n1 c1, .int .i64 up, .int .i64 bo, .slice A2 n2 c2] 25)).alloc (.cells #[.int .i64 4, .int .i64 o, .int .i64 q, .slice A3 n3 c3, .int .i64 n, .int .i64 f] 52)).alloc (.cells #[.slice none 0 0, .int .i64 0, .int .i64 0, .slice none 0 0] 25)) = W1 at *
    go_wp2_with (fail)
    refine wp_region_held_drew (S := fun W => W.cell? ⟨w.heap.size, 3, none⟩ = some (.slice A2 n2 c2) ∧ W.cell? ⟨w.heap.size + 1, 5, none⟩ = some (.int .i64 f) ∧ W.cell? ⟨w.heap.size + 1, 4, none⟩ = some (.int .i64 n)) (by kernel_rfl) ?_ (fun hHeld => ?_)
    · exact ⟨x3, y5, y4⟩
    refine wpAnyH_take (i := 0) (oi := ⟨some 51, _, _, _, _, _⟩) (v := ?_) rfl (by kernel_rfl) (by kernel_rfl) (by kernel_rfl) (fun _ _ _ h => h) (Or.inl ⟨by rfl, ?_⟩) (by assumption) ?_
    rotate_left
    · (intro w hSw; (try dsimp only at hSw); go_simp; try with_reducible rfl)
    try simp only [Act.put, List.setIfInBounds_toArray, List.set_cons_zero, List.set_cons_succ]
    refine wpAnyH_take (i := 1) (oi := ⟨some 52, _, _, _, _, _⟩) (v := ?_) rfl (by kernel_rfl) (by kernel_rfl) (by kernel_rfl) (fun _ _ _ h => h) (Or.inl ⟨by rfl, ?_⟩) (by assumption) ?_
    rotate_left
    · (intro w hSw; (try dsimp only at hSw); go_simp; try with_reducible rfl)
    try simp only [Act.put, List.setIfInBounds_toArray, List.set_cons_zero, List.set_cons_succ]
    refine wpAnyH_take (i := 2) (oi := ⟨some 53, _, _, _, _, _⟩) (v := ?_) rfl (by kernel_rfl) (by kernel_rfl) (by kernel_rfl) (fun _ _ _ h => h) (Or.inl ⟨by rfl, ?_⟩) (by assumption) ?_
    rotate_left
    · (intro w hSw; (try dsimp only at hSw); go_simp; try with_reducible rfl)
    try simp only [Act.put, List.setIfInBounds_toArray, List.set_cons_zero, List.set_cons_succ]
    refine wpAnyH_take (i := 3) (oi := ⟨some 54, _, _, _, _, _⟩) (v := ?_) rfl (by kernel_rfl) (by kernel_rfl) (by kernel_rfl) (fun _ _ _ h => h) (Or.inl ⟨by rfl, ?_⟩) (by assumption) ?_
    rotate_left
    · (intro w hSw; (try dsimp only at hSw); go_simp; try with_reducible rfl)
    try simp only [Act.put, List.setIfInBounds_toArray, List.set_cons_zero, List.set_cons_succ]
    refine wpAnyH_take (i := 5) (oi := ⟨some 56, _, _, _, _, _⟩) (v := ?_) rfl (by kernel_rfl) (by kernel_rfl) (by kernel_rfl) (fun _ _ _ h => h) (Or.inl ⟨by rfl, ?_⟩) (by assumption) ?_
    rotate_left
    · (intro w hSw; (try dsimp only at hSw); go_simp; try with_reducible rfl)
    try simp only [Act.put, List.setIfInBounds_toArray, List.set_cons_zero, List.set_cons_succ]
    refine wpAnyH_take (i := 6) (oi := ⟨some 57, _, _, _, _, _⟩) (v := ?_) rfl (by kernel_rfl) (by kernel_rfl) (by kernel_rfl) (fun _ _ _ h => h) (Or.inl ⟨by rfl, ?_⟩) (by assumption) ?_
    rotate_left
    · (intro w hSw; (try dsimp only at hSw); go_simp; try with_reducible rfl)
    try simp only [Act.put, List.setIfInBounds_toArray, List.set_cons_zero, List.set_cons_succ]
    refine wpAnyH_ready (rs := [4]) (by kernel_rfl) (by simp) (AllReadyH.cons (o := ⟨some 55, _, _, _, _, _⟩) rfl (fun K hK => ?_) AllReadyH.nil)
    go_simp
    (go_at_call 34; refine (SQ.out).mono ?_; rintro e w3 ⟨rfl, m3, hw3⟩; have HB3 : Hid (Below w.heap.size w w3) := Lib.hid (by rw [hw3]; exact below_drewN HB.out.drew m3); have K03 : Hid (Blk w3 w.heap.size 25 #[.slice A1 n1 c1, .int .i64 up, .int .i64 bo, .slice A2 n2 c2]) := Lib.hid (by rw [hw3]; exact K0.out); have K13 : Hid (Blk w3 (w.heap.size + 1) 52 (#[.int .i64 4, .int .i64 o, .int .i64 q, .slice A3 n3 c3, .int .i64 n, .int .i64 f])) := Lib.hid (by rw [hw3]; exact K1.out); have K23 : Hid (Blk w3 (w.heap.size + 2) 25 #[.slice none 0 0, .int .i64 0, .int .i64 0, .slice none 0 0]) := Lib.hid (by rw [hw3]; exact K2.out); have HD3 : Hid (SafeL w3 B0 (.slice A1 n1 c1) db) := Lib.hid (by rw [hw3]; exact HD.out); have HE3 : Hid (SafeE w3 B0 (.slice A2 n2 c2) ep) := Lib.hid (by rw [hw3]; exact HE.out); have HLK3 : Hid (Lks w3 B0 (.slice A3 n3 c3) ls) := Lib.hid (by rw [hw3]; exact HLK.out); have HSZ3 : Hid (w.heap.size + 2 < w3.heap.size) := Lib.hid (by rw [hw3]; exact HSZ.out); clear hw3 x0 x1 x2 x3 x4 y0 y1 y2 y3 y4 y5 y6 z0 z1 z2 z3 z4 f0 f1 f2 f3 g0 g1 g2 g3; obtain ⟨x0, x1, x2, x3, x4⟩ := blk_cells4 K03.out; obtain ⟨y0, y1, y2, y3, y4, y5, y6⟩ := blk_cells6 K13.out; obtain ⟨z0, z1, z2, z3, z4⟩ := blk_cells4 K23.out; obtain ⟨f0, f1, f2, f3⟩ := blk_fz4 K03.out; obtain ⟨g0, g1, g2, g3⟩ := blk_fz4 K23.out)
    refine hK.out _ _ ?_ (fun hHeld => ?_)
    · exact ⟨x3, y5, y4⟩
    clear hK K
    try simp only [Act.put, List.setIfInBounds_toArray, List.set_cons_zero, List.set_cons_succ]
    refine wpAnyH_take (i := 7) (oi := ⟨some 58, _, _, _, _, _⟩) (v := ?_) rfl (by kernel_rfl) (by kernel_rfl) (by kernel_rfl) (fun _ _ _ h => h) (Or.inl ⟨by rfl, ?_⟩) (by assumption) ?_
    rotate_left
    · (intro w hSw; (try dsimp only at hSw); go_simp; try with_reducible rfl)
    try simp only [Act.put, List.setIfInBounds_toArray, List.set_cons_zero, List.set_cons_succ]
    refine wpAnyH_done (by kernel_rfl) ?_ _
    have HF := Lib.hid (FIN.out _ ⟨db, up, bo, ep⟩ _ _ false HB3.out HD3.out HE3.out K23.out (by rw [HE0.out]; rfl) (by rw [HE0.out]; rfl))
    go_wp2
    refine bodyPost_ret (v := .tuple #[stV ⟨db, up, bo, ep⟩ (.slice A1 n1 c1) (.slice A2 n2 c2), .bool false]) ?_ rfl HF.out
    simp [results, Try.results27, go_sem, z0, z1, z2, z3]
  · have e : doS ⟨db, up, bo, ep⟩ ⟨4, o, q, ls, n, f⟩ = some ⟨db, up, bo, putEp ep (f, n)⟩ := by rw [doS_4, if_neg hc]
    have hdd : decide (n ≤ epoch ep f) = false := decide_eq_false hc
    have HE0 := Lib.hid e; clear e
    go_enter Try.func27, Try.ntmps27
    go_upto_region 1 with fail
    generalize (((w.alloc (.cells #[.slice A1 n1 c1, .int .i64 up, .int .i64 bo, .slice A2 n2 c2] 25)).alloc (.cells #[.int .i64 4, .int .i64 o, .int .i64 q, .slice A3 n3 c3, .int .i64 n, .int .i64 f] 52)).alloc (.cells #[.slice none 0 0, .int .i64 0, .int .i64 0, .slice none 0 0] 25)) = W1 at *
    go_wp2_with (fail)
    refine wp_region_held_drew (S := fun W => W.cell? ⟨w.heap.size, 3, none⟩ = some (.slice A2 n2 c2) ∧ W.cell? ⟨w.heap.size + 1, 5, none⟩ = some (.int .i64 f) ∧ W.cell? ⟨w.heap.size + 1, 4, none⟩ = some (.int .i64 n)) (by kernel_rfl) ?_ (fun hHeld => ?_)
    · exact ⟨x3, y5, y4⟩
    refine wpAnyH_take (i := 0) (oi := ⟨some 51, _, _, _, _, _⟩) (v := ?_) rfl (by kernel_rfl) (by kernel_rfl) (by kernel_rfl) (fun _ _ _ h => h) (Or.inl ⟨by rfl, ?_⟩) (by assumption) ?_
    rotate_left
    · (intro w hSw; (try dsimp only at hSw); go_simp; try with_reducible rfl)
    try simp only [Act.put, List.setIfInBounds_toArray, List.set_cons_zero, List.set_cons_succ]
    refine wpAnyH_take (i := 1) (oi := ⟨some 52, _, _, _, _, _⟩) (v := ?_) rfl (by kernel_rfl) (by kernel_rfl) (by kernel_rfl) (fun _ _ _ h => h) (Or.inl ⟨by rfl, ?_⟩) (by assumption) ?_
    rotate_left
    · (intro w hSw; (try dsimp only at hSw); go_simp; try with_reducible rfl)
    try simp only [Act.put, List.setIfInBounds_toArray, List.set_cons_zero, List.set_cons_succ]
    refine wpAnyH_take (i := 2) (oi := ⟨some 53, _, _, _, _, _⟩) (v := ?_) rfl (by kernel_rfl) (by kernel_rfl) (by kernel_rfl) (fun _ _ _ h => h) (Or.inl ⟨by rfl, ?_⟩) (by assumption) ?_
    rotate_left
    · (intro w hSw; (try dsimp only at hSw); go_simp; try with_reducible rfl)
    try simp only [Act.put, List.setIfInBounds_toArray, List.set_cons_zero, List.set_cons_succ]
    refine wpAnyH_take (i := 3) (oi := ⟨some 54, _, _, _, _, _⟩) (v := ?_) rfl (by kernel_rfl) (by kernel_rfl) (by kernel_rfl) (fun _ _ _ h => h) (Or.inl ⟨by rfl, ?_⟩) (by assumption) ?_
    rotate_left
    · (intro w hSw; (try dsimp only at hSw); go_simp; try with_reducible rfl)
    try simp only [Act.put, List.setIfInBounds_toArray, List.set_cons_zero, List.set_cons_succ]
    refine wpAnyH_take (i := 5) (oi := ⟨some 56, _, _, _, _, _⟩) (v := ?_) rfl (by kernel_rfl) (by kernel_rfl) (by kernel_rfl) (fun _ _ _ h => h) (Or.inl ⟨by rfl, ?_⟩) (by assumption) ?_
    rotate_left
    · (intro w hSw; (try dsimp only at hSw); go_simp; try with_reducible rfl)
    try simp only [Act.put, List.setIfInBounds_toArray, List.set_cons_zero, List.set_cons_succ]
    refine wpAnyH_take (i := 6) (oi := ⟨some 57, _, _, _, _, _⟩) (v := ?_) rfl (by kernel_rfl) (by kernel_rfl) (by kernel_rfl) (fun _ _ _ h => h) (Or.inl ⟨by rfl, ?_⟩) (by assumption) ?_
    rotate_left
    · (intro w hSw; (try dsimp only at hSw); go_simp; try with_reducible rfl)
    try simp only [Act.put, List.setIfInBounds_toArray, List.set_cons_zero, List.set_cons_succ]
    refine wpAnyH_ready (rs := [4]) (by kernel_rfl) (by simp) (AllReadyH.cons (o := ⟨some 55, _, _, _, _, _⟩) rfl (fun K hK => ?_) AllReadyH.nil)
    go_simp
    (go_at_call 34; refine (SQ.out).mono ?_; rintro e w3 ⟨rfl, m3, hw3⟩; have HB3 : Hid (Below w.heap.size w w3) := Lib.hid (by rw [hw3]; exact below_drewN HB.out.drew m3); have K03 : Hid (Blk w3 w.heap.size 25 #[.slice A1 n1 c1, .int .i64 up, .int .i64 bo, .slice A2 n2 c2]) := Lib.hid (by rw [hw3]; exact K0.out); have K13 : Hid (Blk w3 (w.heap.size + 1) 52 (#[.int .i64 4, .int .i64 o, .int .i64 q, .slice A3 n3 c3, .int .i64 n, .int .i64 f])) := Lib.hid (by rw [hw3]; exact K1.out); have K23 : Hid (Blk w3 (w.heap.size + 2) 25 #[.slice none 0 0, .int .i64 0, .int .i64 0, .slice none 0 0]) := Lib.hid (by rw [hw3]; exact K2.out); have HD3 : Hid (SafeL w3 B0 (.slice A1 n1 c1) db) := Lib.hid (by rw [hw3]; exact HD.out); have HE3 : Hid (SafeE w3 B0 (.slice A2 n2 c2) ep) := Lib.hid (by rw [hw3]; exact HE.out); have HLK3 : Hid (Lks w3 B0 (.slice A3 n3 c3) ls) := Lib.hid (by rw [hw3]; exact HLK.out); have HSZ3 : Hid (w.heap.size + 2 < w3.heap.size) := Lib.hid (by rw [hw3]; exact HSZ.out); clear hw3 x0 x1 x2 x3 x4 y0 y1 y2 y3 y4 y5 y6 z0 z1 z2 z3 z4 f0 f1 f2 f3 g0 g1 g2 g3; obtain ⟨x0, x1, x2, x3, x4⟩ := blk_cells4 K03.out; obtain ⟨y0, y1, y2, y3, y4, y5, y6⟩ := blk_cells6 K13.out; obtain ⟨z0, z1, z2, z3, z4⟩ := blk_cells4 K23.out; obtain ⟨f0, f1, f2, f3⟩ := blk_fz4 K03.out; obtain ⟨g0, g1, g2, g3⟩ := blk_fz4 K23.out)
    refine hK.out _ _ ?_ (fun hHeld => ?_)
    · exact ⟨x3, y5, y4⟩
    clear hK K
    try simp only [Act.put, List.setIfInBounds_toArray, List.set_cons_zero, List.set_cons_succ]
    refine wpAnyH_take (i := 7) (oi := ⟨some 58, _, _, _, _, _⟩) (v := ?_) rfl (by kernel_rfl) (by kernel_rfl) (by kernel_rfl) (fun _ _ _ h => h) (Or.inl ⟨by rfl, ?_⟩) (by assumption) ?_
    rotate_left
    · (intro w hSw; (try dsimp only at hSw); go_simp; try with_reducible rfl)
    try simp only [Act.put, List.setIfInBounds_toArray, List.set_cons_zero, List.set_cons_succ]
    refine wpAnyH_done (by kernel_rfl) ?_ _
    go_wp2_with (fail)
    refine (PT.out w3 HE3.out).mono ?_
    rintro e w5 ⟨v5, rfl, ho5, hb5⟩
    have he5 := safeE_own (B0 := B0) ho5
    rw [HRP.out] at he5
    obtain ⟨A5, n5, c5, rfl⟩ := he5.form
    have k05 := K03.out.below hb5 K03.out.lt
    have k25 := K23.out.below hb5 K23.out.lt
    have hs5 := hb5.size
    have hd6 := (HD3.out.up (by have := HSZ3.out; omega) hb5).blk (by have := HSZ3.out; omega) k05 (by decide) (by omega) (grown_set w5 ⟨w.heap.size, 3, none⟩ (.slice A5 n5 c5))
    have he6 := he5.blk k05 (by decide) (by omega) (grown_set w5 ⟨w.heap.size, 3, none⟩ (.slice A5 n5 c5))
    have k26 := k25.far (p := ⟨w.heap.size, 3, none⟩) (by show w.heap.size + 2 ≠ w.heap.size; omega) (.slice A5 n5 c5)
    have HF := Lib.hid (FIN.out _ ⟨db, up, bo, putEp ep (f, n)⟩ _ _ true (below_set (low_low HB3.out hb5) (Nat.le_refl _)) hd6 he6 k26 (by rw [HE0.out]; rfl) (by rw [HE0.out]; rfl))
    clear x0 x1 x2 x3 x4 z0 z1 z2 z3 z4 f0 f1 f2 f3 g0 g1 g2 g3
    obtain ⟨x0, x1, x2, x3, x4⟩ := blk_cells4 k05
    obtain ⟨z0, z1, z2, z3, z4⟩ := blk_cells4 k25
    obtain ⟨f0, f1, f2, f3⟩ := blk_fz4 k05
    obtain ⟨g0, g1, g2, g3⟩ := blk_fz4 k25
    clear hd6 he6 k26 k05 k25 he5 ho5 hb5
    go_wp2
    refine bodyPost_ret (v := .tuple #[stV ⟨db, up, bo, putEp ep (f, n)⟩ (.slice A1 n1 c1) (.slice A5 n5 c5), .bool true]) ?_ rfl HF.out
    simp [results, Try.results27, go_sem, z0, z1, z2, z3]
/-- a change that may be, done to a state that may be -/
theorem rdo_any (s : Sta) (c : Ch) (dv ev u : Value) (B0 : Nat) (w : World) (hB0 : B0 ≤ w.heap.size) (h1 : SafeL w B0 dv s.db) (h2 : SafeE w B0 ev s.ep) (h3 : Lks w B0 u c.ls) (hs : mayS s = true) (hc : mayC c = true) :
    Calls Try.prog 27 #[stV s dv ev, chV c u] w (RDoOut w B0 s c) := by
  obtain ⟨k, o, q, ls, n, f⟩ := c
  obtain ⟨hdb, hep, _⟩ := mayS_iff.1 hs
  obtain ⟨l1, l2⟩ := mayS_len hs
  rcases mayC_kind hc with e | e | e | e <;> simp only at e <;> subst e
  · exact rdo_lsa s o q n f ls dv ev u B0 w hB0 h1 h2 h3 (by omega) hdb
  · exact rdo_upto s o q n f ls dv ev u B0 w hB0 h1 h2 h3
  · exact rdo_boot s o q n f ls dv ev u B0 w hB0 h1 h2 h3
  · rw [mayC_4] at hc
    simp only [Bool.and_eq_true] at hc
    exact rdo_ep s o q n f ls dv ev u B0 w hB0 h1 h2 h3 hep hc.1 hc.2.1
end Go.Proofs.Ytcojimbnenibnaa.Bas
