/- Whether packets are alike (layer 14): the contract of the reference's Same. Printed by tools/packet/same.py. -/
import Derived.Test.YtpolpppnajfhdaaPgBasRef
import Derived.Test.YtpolpppnajfhdaaPgPkRefMay
import Derived.Test.YtpolpppnajfhdaaPgPureAll
namespace Go.Proofs.Ytpolpppnajfhdaa.Pkt
open Go.RowKit Go.Proofs.Ytpolpppnajfhdaa.Mem Go.Proofs.Ytpolpppnajfhdaa.Lsa Go.Proofs.Ytpolpppnajfhdaa.Bas
set_option linter.unusedVariables false
set_option linter.unusedSimpArgs false
/-- alike but for their rows, which are as long -/
def heads (p q : Pk) : Prop := p.k = q.k ∧ p.f = q.f ∧ p.b = q.b ∧ p.t = q.t ∧ p.tb = q.tb ∧ p.e = q.e ∧ p.te = q.te ∧ p.hd.length = q.hd.length ∧ p.it.length = q.it.length
instance (p q : Pk) : Decidable (heads p q) := by unfold heads; exact inferInstance
def sameP (p q : Pk) : Bool := decide (heads p q) && (decide (p.hd = q.hd) && (decide (p.it = q.it) && sameDb p.ls q.ls))
theorem sameP_iff {p q : Pk} : sameP p q = true ↔ p = q := by
  constructor
  · intro h
    simp only [sameP, Bool.and_eq_true, decide_eq_true_eq, sameDb_iff] at h
    obtain ⟨⟨h1, h2, h3, h4, h5, h6, h7, _⟩, h8, h9, h10⟩ := h
    cases p; cases q; simp_all
  · rintro rfl
    simp [sameP, heads, sameDb_iff]
theorem drop_eq_step {l l' : List Lk} {k : Nat} (h : k < l.length) (h' : k < l'.length) : (l.drop k = l'.drop k) ↔ (l.getD k (0, 0) = l'.getD k (0, 0) ∧ l.drop (k + 1) = l'.drop (k + 1)) := by
  rw [drop_at l (0, 0) k h, drop_at l' (0, 0) k h']
  simp
set_option maxRecDepth 100000 in
set_option maxHeartbeats 8000000 in
theorem rsame_no (p q : Pk) (A1 A2 A3 D1 D2 D3 : Option Addr) (n1 z1 n2 z2 n3 z3 m1 y1 m2 y2 m3 y3 : Nat) (w : World) (hl1 : p.hd.length = n1) (hl2 : p.it.length = n2) (hl4 : q.hd.length = m1) (hl5 : q.it.length = m2) (hno : ¬ heads p q) :
    Calls Try.prog 12 #[pkV p (.slice A1 n1 z1) (.slice A2 n2 z2) (.slice A3 n3 z3), pkV q (.slice D1 m1 y1) (.slice D2 m2 y2) (.slice D3 m3 y3)] w fun e w' => e = .returned (.bool false) ∧ Below w.heap.size w w' := by
  unfold heads at hno
  rw [hl1, hl2, hl4, hl5] at hno
  have HN := Lib.hid hno; clear hno hl1 hl2 hl4 hl5
  go_enter Try.func12, Try.ntmps12
  go_upto_region 3 with fail
  all_goals first
    | (exfalso
       simp only [bne_eq_false_iff_eq] at *
       exact HN.out ⟨by omega, by omega, by omega, by omega, by omega, by omega, by omega, by omega, by omega⟩)
    | (go_wp2
       go_ret
       exact ⟨rfl, palloc (palloc (Below.refl w.heap.size w) _ (Nat.le_refl _)) _ (by simp)⟩)
set_option maxRecDepth 100000 in
set_option maxHeartbeats 8000000 in
theorem rsame_yes (p q : Pk) (A1 A2 A3 D1 D2 D3 : Option Addr) (n1 z1 n2 z2 n3 z3 m1 y1 m2 y2 m3 y3 : Nat) (w : World) (h : PkM w w.heap.size (.slice A1 n1 z1) (.slice A2 n2 z2) (.slice A3 n3 z3) p) (h' : PkM w w.heap.size (.slice D1 m1 y1) (.slice D2 m2 y2) (.slice D3 m3 y3) q) (hyes : heads p q) :
    Calls Try.prog 12 #[pkV p (.slice A1 n1 z1) (.slice A2 n2 z2) (.slice A3 n3 z3), pkV q (.slice D1 m1 y1) (.slice D2 m2 y2) (.slice D3 m3 y3)] w fun e w' => e = .returned (.bool (sameP p q)) ∧ Below w.heap.size w w' := by
  obtain ⟨h1, h2, h3⟩ := h
  obtain ⟨h4, h5, h6⟩ := h'
  obtain ⟨hl1, hc1, hm1, _⟩ := lks_len h1
  obtain ⟨hl2, hc2, hm2, _⟩ := lks_len h2
  have hl4 := (lks_len h4).1
  have hl5 := (lks_len h5).1
  have HH := Lib.hid hyes
  obtain ⟨g0, g1, g2, g3, g4, g5, g6, g7, g8⟩ := hyes
  rw [hl1, hl4] at g7
  rw [hl2, hl5] at g8
  unfold maxLen at hm1 hm2
  have b0 : (p.k != q.k) = false := bne_eq_false_iff_eq.2 g0
  have b1 : (p.f != q.f) = false := bne_eq_false_iff_eq.2 g1
  have b2 : (p.b != q.b) = false := bne_eq_false_iff_eq.2 g2
  have b3 : (p.t != q.t) = false := bne_eq_false_iff_eq.2 g3
  have b4 : (p.tb != q.tb) = false := bne_eq_false_iff_eq.2 g4
  have b5 : (p.e != q.e) = false := bne_eq_false_iff_eq.2 g5
  have b6 : (p.te != q.te) = false := bne_eq_false_iff_eq.2 g6
  have b7 : ((n1 : Int) != (m1 : Int)) = false := by rw [g7]; exact bne_self_eq_false _
  have b8 : ((n2 : Int) != (m2 : Int)) = false := by rw [g8]; exact bne_self_eq_false _
  have b9 : n1 ≤ m1 := by omega
  have b10 : m1 ≤ n1 := by omega
  have b11 : n2 ≤ m2 := by omega
  have b12 : m2 ≤ n2 := by omega
  have H1 := Lib.hid h1; have H2 := Lib.hid h2; have H3 := Lib.hid h3; have H4 := Lib.hid h4; have H5 := Lib.hid h5; have H6 := Lib.hid h6
  have HL1 := Lib.hid hl1; have HL2 := Lib.hid hl2; have HL4 := Lib.hid hl4; have HL5 := Lib.hid hl5
  clear h1 h2 h3 h4 h5 h6 hl1 hl2 hl4 hl5 g0 g1 g2 g3 g4 g5 g6 g7 g8
  have KP := Lib.hid ((Blk.new w 26 (pkC p (.slice A1 n1 z1) (.slice A2 n2 z2) (.slice A3 n3 z3))).alloc (.cells (pkC q (.slice D1 m1 y1) (.slice D2 m2 y2) (.slice D3 m3 y3)) 26))
  have kq := Blk.new (w.alloc (.cells (pkC p (.slice A1 n1 z1) (.slice A2 n2 z2) (.slice A3 n3 z3)) 26)) 26 (pkC q (.slice D1 m1 y1) (.slice D2 m2 y2) (.slice D3 m3 y3))
  rw [show (w.alloc (.cells (pkC p (.slice A1 n1 z1) (.slice A2 n2 z2) (.slice A3 n3 z3)) 26)).heap.size = w.heap.size + 1 from by simp] at kq
  have KQ := Lib.hid kq; clear kq
  have HB := Lib.hid (palloc (palloc (Below.refl w.heap.size w) (.cells (pkC p (.slice A1 n1 z1) (.slice A2 n2 z2) (.slice A3 n3 z3)) 26) (Nat.le_refl _)) (.cells (pkC q (.slice D1 m1 y1) (.slice D2 m2 y2) (.slice D3 m3 y3)) 26) (by simp))
  go_enter Try.func12, Try.ntmps12
  go_wp2
  go_loopw [5] (fun i wr => ∃ (k : Nat), k ≤ n1 ∧ i = .int .i64 k ∧ Hid ((p.hd = q.hd) ↔ (p.hd.drop k = q.hd.drop k)) ∧ Hid (Blk wr w.heap.size 26 (pkC p (.slice A1 n1 z1) (.slice A2 n2 z2) (.slice A3 n3 z3))) ∧ Hid (Blk wr (w.heap.size + 1) 26 (pkC q (.slice D1 m1 y1) (.slice D2 m2 y2) (.slice D3 m3 y3))) ∧ Hid (Below w.heap.size w wr)) (fun i _ => n1 - (intOf i).toNat)
  case atStart => exact ⟨0, Nat.zero_le _, rfl, Lib.hid Iff.rfl, KP, KQ, HB⟩
  case round =>
    clear KP KQ HB
    obtain ⟨k, hk, rfl, HOK, KP, KQ, HB⟩ := hrel
    obtain ⟨p0, p1, p2, p3, p4, p5, p6, p7, p8, p9, pl⟩ := blk_cells10 KP.out
    obtain ⟨q0, q1, q2, q3, q4, q5, q6, q7, q8, q9, ql⟩ := blk_cells10 KQ.out
    clear p0 p1 p2 p3 p4 p5 p6 q0 q1 q2 q3 q4 q5 q6
    by_cases hlt : k < n1
    · obtain ⟨b, off, rfl, hb, hc⟩ := lks_at H1.out (by omega)
      obtain ⟨d, off', rfl, hd, hc'⟩ := lks_at H4.out (by omega)
      obtain ⟨c0, c1_⟩ := hc k hlt
      obtain ⟨e0, e1_⟩ := hc' k (by omega)
      replace c0 := (HB.out.cell (p := ⟨b, off + k * 2, none⟩) hb).trans c0
      replace c1_ := (HB.out.cell (p := ⟨b, off + k * 2 + 1, none⟩) hb).trans c1_
      replace e0 := (HB.out.cell (p := ⟨d, off' + k * 2, none⟩) hd).trans e0
      replace e1_ := (HB.out.cell (p := ⟨d, off' + k * 2 + 1, none⟩) hd).trans e1_
      have hst := drop_eq_step (l := p.hd) (l' := q.hd) (k := k) (by have := HL1.out; omega) (by have := HL4.out; omega)
      have hok := HOK.out.trans hst
      have hkm : k < m1 := by omega
      clear hc hc' hst HOK
      generalize p.hd.getD k (0, 0) = x at *
      generalize q.hd.getD k (0, 0) = y at *
      obtain ⟨t, u⟩ := x
      obtain ⟨t', u'⟩ := y
      simp only at c0 c1_ e0 e1_ hok
      have HOK := Lib.hid hok; clear hok
      have hcs : ¬ t = t' ∨ t' = t ∧ ¬ u = u' ∨ t' = t ∧ u' = u := by omega
      rcases hcs with hn | ⟨rfl, hn⟩ | ⟨rfl, rfl⟩
      iterate 2
        · have HN := Lib.hid (show ¬ (p.hd = q.hd) from fun h => by have := HOK.out.1 h; simp only [Prod.mk.injEq] at this; omega)
          go_wp2
          go_quiet (fail)
          go_wp2
          go_ret
          exact ⟨ret_bool (by unfold sameP; rw [decide_eq_false HN.out]; simp), below_drewN HB.out _⟩
      · have HN := Lib.hid (show (p.hd = q.hd) ↔ (p.hd.drop (k + 1) = q.hd.drop (k + 1)) from HOK.out.trans (by simp))
        go_wp2
        go_quiet (fail)
        go_wp2
        go_roundw
        case rel => exact ⟨k + 1, by omega, by go_num, HN, Lib.hid (KP.out.drewN _), Lib.hid (KQ.out.drewN _), Lib.hid (below_drewN HB.out _)⟩
        case measure => simp [intOf]; omega
    · obtain rfl : n1 = k := by omega
      have HE1 := Lib.hid (show p.hd = q.hd from HOK.out.2 (by rw [List.drop_eq_nil_of_le (by have := HL1.out; omega), List.drop_eq_nil_of_le (by have := HL4.out; omega)]))
      go_wp2
      clear p7 p8 p9 q7 q8 q9 pl ql
      go_loopw [6] (fun i wr => ∃ (k : Nat), k ≤ n2 ∧ i = .int .i64 k ∧ Hid ((p.it = q.it) ↔ (p.it.drop k = q.it.drop k)) ∧ Hid (Blk wr w.heap.size 26 (pkC p (.slice A1 n1 z1) (.slice A2 n2 z2) (.slice A3 n3 z3))) ∧ Hid (Blk wr (w.heap.size + 1) 26 (pkC q (.slice D1 m1 y1) (.slice D2 m2 y2) (.slice D3 m3 y3))) ∧ Hid (Below w.heap.size w wr)) (fun i _ => n2 - (intOf i).toNat)
      case atStart => exact ⟨0, Nat.zero_le _, rfl, Lib.hid Iff.rfl, KP, KQ, HB⟩
      case round =>
        clear KP KQ HB
        obtain ⟨k, hk, rfl, HOK, KP, KQ, HB⟩ := hrel
        obtain ⟨p0, p1, p2, p3, p4, p5, p6, p7, p8, p9, pl⟩ := blk_cells10 KP.out
        obtain ⟨q0, q1, q2, q3, q4, q5, q6, q7, q8, q9, ql⟩ := blk_cells10 KQ.out
        clear p0 p1 p2 p3 p4 p5 p6 q0 q1 q2 q3 q4 q5 q6
        by_cases hlt : k < n2
        · obtain ⟨b, off, rfl, hb, hc⟩ := lks_at H2.out (by omega)
          obtain ⟨d, off', rfl, hd, hc'⟩ := lks_at H5.out (by omega)
          obtain ⟨c0, c1_⟩ := hc k hlt
          obtain ⟨e0, e1_⟩ := hc' k (by omega)
          replace c0 := (HB.out.cell (p := ⟨b, off + k * 2, none⟩) hb).trans c0
          replace c1_ := (HB.out.cell (p := ⟨b, off + k * 2 + 1, none⟩) hb).trans c1_
          replace e0 := (HB.out.cell (p := ⟨d, off' + k * 2, none⟩) hd).trans e0
          replace e1_ := (HB.out.cell (p := ⟨d, off' + k * 2 + 1, none⟩) hd).trans e1_
          have hst := drop_eq_step (l := p.it) (l' := q.it) (k := k) (by have := HL2.out; omega) (by have := HL5.out; omega)
          have hok := HOK.out.trans hst
          have hkm : k < m2 := by omega
          clear hc hc' hst HOK
          generalize p.it.getD k (0, 0) = x at *
          generalize q.it.getD k (0, 0) = y at *
          obtain ⟨t, u⟩ := x
          obtain ⟨t', u'⟩ := y
          simp only at c0 c1_ e0 e1_ hok
          have HOK := Lib.hid hok; clear hok
          have hcs : ¬ t = t' ∨ t' = t ∧ ¬ u = u' ∨ t' = t ∧ u' = u := by omega
          rcases hcs with hn | ⟨rfl, hn⟩ | ⟨rfl, rfl⟩
          iterate 2
            · have HN := Lib.hid (show ¬ (p.it = q.it) from fun h => by have := HOK.out.1 h; simp only [Prod.mk.injEq] at this; omega)
              go_wp2
              go_quiet (fail)
              go_wp2
              go_ret
              exact ⟨ret_bool (by unfold sameP; rw [decide_eq_false HN.out]; simp), below_drewN HB.out _⟩
          · have HN := Lib.hid (show (p.it = q.it) ↔ (p.it.drop (k + 1) = q.it.drop (k + 1)) from HOK.out.trans (by simp))
            go_wp2
            go_quiet (fail)
            go_wp2
            go_roundw
            case rel => exact ⟨k + 1, by omega, by go_num, HN, Lib.hid (KP.out.drewN _), Lib.hid (KQ.out.drewN _), Lib.hid (below_drewN HB.out _)⟩
            case measure => simp [intOf]; omega
        · obtain rfl : n2 = k := by omega
          have HE2 := Lib.hid (show p.it = q.it from HOK.out.2 (by rw [List.drop_eq_nil_of_le (by have := HL2.out; omega), List.drop_eq_nil_of_le (by have := HL5.out; omega)]))
          have RA := Lib.hid (fun (W : World) (hW : Below w.heap.size w W) => rall_db A3 D3 n3 m3 z3 y3 p.ls q.ls W (H3.out.up hW) (H6.out.up hW))
          go_wp2_with (go_at_call 32; refine (RA.out _ HB.out).mono ?_; rintro e w6 ⟨rfl, hb6⟩)
          go_ret
          exact ⟨ret_bool (by unfold sameP; rw [decide_eq_true HH.out, decide_eq_true HE1.out, decide_eq_true HE2.out]; simp), HB.out.trans (hb6.mono HB.out.size)⟩
theorem rsame_pk (p q : Pk) (A1 A2 A3 D1 D2 D3 : Option Addr) (n1 z1 n2 z2 n3 z3 m1 y1 m2 y2 m3 y3 : Nat) (w : World) (h : PkM w w.heap.size (.slice A1 n1 z1) (.slice A2 n2 z2) (.slice A3 n3 z3) p) (h' : PkM w w.heap.size (.slice D1 m1 y1) (.slice D2 m2 y2) (.slice D3 m3 y3) q) :
    Calls Try.prog 12 #[pkV p (.slice A1 n1 z1) (.slice A2 n2 z2) (.slice A3 n3 z3), pkV q (.slice D1 m1 y1) (.slice D2 m2 y2) (.slice D3 m3 y3)] w fun e w' => e = .returned (.bool (sameP p q)) ∧ Below w.heap.size w w' := by
  by_cases hh : heads p q
  · exact rsame_yes p q A1 A2 A3 D1 D2 D3 n1 z1 n2 z2 n3 z3 m1 y1 m2 y2 m3 y3 w h h' hh
  · rw [show sameP p q = false by unfold sameP; rw [decide_eq_false hh]; rfl]
    exact rsame_no p q A1 A2 A3 D1 D2 D3 n1 z1 n2 z2 n3 z3 m1 y1 m2 y2 m3 y3 w (lks_len h.1).1 (lks_len h.2.1).1 (lks_len h'.1).1 (lks_len h'.2.1).1 hh
end Go.Proofs.Ytpolpppnajfhdaa.Pkt
