/- The packet whose bytes they are (layer 14): the contract of packet.Get. Condition: at most 2000 bytes. -/
import Derived.Test.YtpolpppnajfhdaaPkOpen
import Derived.Test.YtpolpppnajfhdaaPkRead
import Derived.Test.YtpolpppnajfhdaaPkCheck
import Derived.Test.YtpolpppnajfhdaaReaderEnd
import Derived.Test.YtpolpppnajfhdaaPut
namespace Go.Proofs.Ytpolpppnajfhdaa.Pkt
open Go.RowKit Go.Proofs.Ytpolpppnajfhdaa.Mem Go.Proofs.Ytpolpppnajfhdaa.Oct Go.Proofs.Ytpolpppnajfhdaa.Lsa Go.Proofs.Ytpolpppnajfhdaa.Bas
open Go.Proofs.Ytpolpppnajfhdaa.Chg (low1 low_low low2 blk_second)
set_option linter.unusedVariables false
set_option linter.unusedSimpArgs false
def errP (r : Option Pk) : Int := match r with | some _ => 0 | none => 2
/-- what Get answers -/
def GetOutP (w : World) (r : Option Pk) (e : Ending) (w' : World) : Prop :=
  ∃ h i l, e = .returned (.tuple #[pkV (r.getD zeroP) h i l, .int .i64 (errP r)]) ∧ PkM w' w'.heap.size h i l (r.getD zeroP) ∧ Below w.heap.size w w'
theorem below_gr {w w1 w2 : World} (h : Below w.heap.size w w1) (hg : w1.grownBy w2 (some w.heap.size)) : Below w.heap.size w w2 := h.grown hg h.size (fun q hq => by cases hq; exact Nat.le_refl _)
set_option maxRecDepth 100000 in
set_option maxHeartbeats 16000000 in
theorem pget_any (v : Value) (xs : List Nat) (w : World) (h : Sl w w.heap.size v xs) (hxl : xs.length ≤ 2000) :
    Calls Try.prog 13 #[v] w (GetOutP w (getC xs)) := by
  obtain ⟨A, n, c, rfl, _⟩ := id h
  have hb0 := low1 (Below.refl w.heap.size w) (.cells zC 26)
  have k0 := Blk.new w 26 zC
  have op := open_sl _ xs _ ((h.below hb0 (Nat.le_refl _)).more hb0.size) hxl
  have hol : (Crc.outOf xs).length ≤ 2000 := by unfold Crc.outOf; split <;> simp; omega
  have NO : ∀ (W : World), getC xs = none → Below w.heap.size w W → GetOutP w (getC xs) (.returned (.tuple #[pkV zeroP (.slice none 0 0) (.slice none 0 0) (.slice none 0 0), .int .i64 2])) W := by
    intro W hc hW
    rw [hc]
    exact ⟨_, _, _, rfl, ⟨lks_nil _ _, lks_nil _ _, las_nil _ _⟩, hW⟩
  have HNO := Lib.hid NO; clear NO
  have HB0 := Lib.hid hb0; clear hb0
  have K0 := Lib.hid k0; clear k0
  cases hok : Crc.okOf xs
  · have hc : getC xs = none := by unfold getC; rw [hok]; rfl
    rw [hok] at op
    have OP := Lib.hid op; clear op h
    have HC := Lib.hid hc; clear hc hok
    go_enter Try.func13, Try.ntmps13
    go_wp2_with (first
      | (go_at_call 33; refine (OP.out).mono ?_; rintro e1 w1 ⟨A1, m1, q1, rfl, hs1, hb1⟩; have K1 := Lib.hid (K0.out.below hb1 K0.out.lt); have HB1 := Lib.hid (low_low HB0.out hb1); clear hs1 hb1)
      | (refine wpList_store_blk rfl 26 (.tmp 2) (.tmp 15) rfl w.heap.size zC rfl rfl _ K1.out (by rw [size_pk]; rfl) rfl (by kernel_rfl) ?_; intro w9 hg9 k9; have K9 := Lib.hid k9; have HB9 := Lib.hid (below_gr HB1.out hg9); clear hg9 k9))
    refine bodyPost_ret (v := .tuple #[.agg zC, .int .i64 2]) ?_ rfl (HNO.out w9 HC.out HB9.out)
    exact results_blk_tmp (P := Try.prog) Try.results13 _ rfl _ rfl K9.out Try.underlying26 rfl (by rw [size_pk]; rfl)
  · rw [hok] at op
    have hcv : getC xs = if (endC (Crc.outOf xs) && mayP (rPk (Crc.outOf xs)).2) = true then some (rPk (Crc.outOf xs)).2 else none := by unfold getC; rw [hok]; rfl
    generalize Crc.outOf xs = ys at *
    have rd := fun (A1 : Option Addr) (m1 q1 : Nat) (W : World) (hW : Sl W W.heap.size (.slice A1 m1 q1) ys) => Oct.read_any (.slice A1 m1 q1) ys W hW (by omega)
    have pr := fun (g : Nat) (W : World) (hW : Rdr W g (ys, true)) => pread_any g ys W hW
    unfold ReadOutP at pr
    have dn := fun (g : Nat) (W : World) (hW : Rdr W g (rPk ys).1) => done_any g (rPk ys).1 W hW
    have hend : ((rPk ys).1.2 && decide ((rPk ys).1.1.length = 0)) = endC ys := rfl
    rw [hend] at dn
    have ck := fun (A1 A2 A3 : Option Addr) (n1 z1 n2 z2 n3 z3 : Nat) (W : World) (hW : PkM W W.heap.size (.slice A1 n1 z1) (.slice A2 n2 z2) (.slice A3 n3 z3) (rPk ys).2) => pcheck_any (rPk ys).2 A1 A2 A3 n1 z1 n2 z2 n3 z3 W hW
    clear hend hol hok
    generalize endC ys = z at *
    generalize (rPk ys).1 = t9 at *
    generalize (rPk ys).2 = p at *
    have OP := Lib.hid op; clear op h
    have RD := Lib.hid rd; clear rd
    have PR := Lib.hid pr; clear pr
    have DN := Lib.hid dn; clear dn
    cases z
    · have HC := Lib.hid (show getC xs = none by rw [hcv]; rfl); clear hcv ck
      go_enter Try.func13, Try.ntmps13
      go_wp2_with (first
        | (go_at_call 33; refine (OP.out).mono ?_; rintro e1 w1 ⟨A1, m1, q1, rfl, hs1, hb1⟩; have K1 := Lib.hid (K0.out.below hb1 K0.out.lt); have HB1 := Lib.hid (low_low HB0.out hb1); have HS1 := Lib.hid hs1; clear hs1 hb1)
        | (go_at_call 34; refine (RD.out _ _ _ _ HS1.out).mono ?_; rintro e2 w2 ⟨g, rfl, hg, hr2, hb2⟩; have K2 := Lib.hid (K1.out.below hb2 K1.out.lt); have hwg : w.heap.size < g := (by have := K1.out.lt; omega); have HB2 := Lib.hid (low_low HB1.out hb2); have HR2 := Lib.hid hr2; clear hr2 hb2 hg)
        | (go_at_call 35; refine (PR.out _ _ HR2.out).mono ?_; rintro e3 w3 ⟨h_, i_, l_, rfl, ho3, hr3, hg3⟩; obtain ⟨B1, b1, y1, rfl⟩ := own_form14 ho3.1.choose_spec; obtain ⟨B2, b2, y2, rfl⟩ := own_form14 ho3.2.1.choose_spec; obtain ⟨B3, b3, y3, rfl⟩ := ownL_form14 ho3.2.2; have K3 := Lib.hid ((K2.out.grown hg3 (by simp; omega)).alloc (.cells (pkC p (.slice B1 b1 y1) (.slice B2 b2 y2) (.slice B3 b3 y3)) 26)); have HB3 := Lib.hid (low1 (HB2.out.grown hg3 HB2.out.size (fun q hq => by cases hq; omega)) (.cells (pkC p (.slice B1 b1 y1) (.slice B2 b2 y2) (.slice B3 b3 y3)) 26)); have HR3 := Lib.hid (hr3.alloc (.cells (pkC p (.slice B1 b1 y1) (.slice B2 b2 y2) (.slice B3 b3 y3)) 26)); clear hr3 hg3 ho3)
        | (go_at_call 36; refine (DN.out _ _ HR3.out).mono ?_; rintro e4 w4 ⟨rfl, rfl⟩)
        | (refine wpList_store_blk rfl 26 (.tmp 2) (.tmp 28) rfl w.heap.size zC rfl rfl _ K3.out (by rw [size_pk]; rfl) rfl (by kernel_rfl) ?_; intro w9 hg9 k9; have K9 := Lib.hid k9; have HB9 := Lib.hid (below_gr HB3.out hg9); clear hg9 k9))
      refine bodyPost_ret (v := .tuple #[.agg zC, .int .i64 2]) ?_ rfl (HNO.out w9 HC.out HB9.out)
      exact results_blk_tmp (P := Try.prog) Try.results13 _ rfl _ rfl K9.out Try.underlying26 rfl (by rw [size_pk]; rfl)
    · cases hm : mayP p
      · rw [hm, errI_f] at ck
        have CK := Lib.hid ck; clear ck
        have HC := Lib.hid (show getC xs = none by rw [hcv, hm]; rfl); clear hcv hm
        go_enter Try.func13, Try.ntmps13
        go_wp2_with (first
          | (go_at_call 33; refine (OP.out).mono ?_; rintro e1 w1 ⟨A1, m1, q1, rfl, hs1, hb1⟩; have K1 := Lib.hid (K0.out.below hb1 K0.out.lt); have HB1 := Lib.hid (low_low HB0.out hb1); have HS1 := Lib.hid hs1; clear hs1 hb1)
          | (go_at_call 34; refine (RD.out _ _ _ _ HS1.out).mono ?_; rintro e2 w2 ⟨g, rfl, hg, hr2, hb2⟩; have K2 := Lib.hid (K1.out.below hb2 K1.out.lt); have hwg : w.heap.size < g := (by have := K1.out.lt; omega); have HB2 := Lib.hid (low_low HB1.out hb2); have HR2 := Lib.hid hr2; clear hr2 hb2 hg)
          | (go_at_call 35; refine (PR.out _ _ HR2.out).mono ?_; rintro e3 w3 ⟨h_, i_, l_, rfl, ho3, hr3, hg3⟩; obtain ⟨B1, b1, y1, rfl⟩ := own_form14 ho3.1.choose_spec; obtain ⟨B2, b2, y2, rfl⟩ := own_form14 ho3.2.1.choose_spec; obtain ⟨B3, b3, y3, rfl⟩ := ownL_form14 ho3.2.2; have hbx := low1 (Below.refl w3.heap.size w3) (.cells (pkC p (.slice B1 b1 y1) (.slice B2 b2 y2) (.slice B3 b3 y3)) 26); have HP3 := Lib.hid (ho3.pkM.up hbx); have K3 := Lib.hid ((K2.out.grown hg3 (by simp; omega)).alloc (.cells (pkC p (.slice B1 b1 y1) (.slice B2 b2 y2) (.slice B3 b3 y3)) 26)); have HB3 := Lib.hid (low1 (HB2.out.grown hg3 HB2.out.size (fun q hq => by cases hq; omega)) (.cells (pkC p (.slice B1 b1 y1) (.slice B2 b2 y2) (.slice B3 b3 y3)) 26)); have HR3 := Lib.hid (hr3.alloc (.cells (pkC p (.slice B1 b1 y1) (.slice B2 b2 y2) (.slice B3 b3 y3)) 26)); clear hr3 hg3 ho3 hbx)
          | (go_at_call 36; refine (DN.out _ _ HR3.out).mono ?_; rintro e4 w4 ⟨rfl, rfl⟩)
          | (go_at_call 9; refine (CK.out _ _ _ _ _ _ _ _ _ _ HP3.out).mono ?_; rintro e5 w5 ⟨rfl, hb5⟩; have K5 := Lib.hid (K3.out.below hb5 K3.out.lt); have HB5 := Lib.hid (low_low HB3.out hb5); clear hb5)
          | (refine wpList_store_blk rfl 26 (.tmp 2) (.tmp 28) rfl w.heap.size zC rfl rfl _ K5.out (by rw [size_pk]; rfl) rfl (by kernel_rfl) ?_; intro w9 hg9 k9; have K9 := Lib.hid k9; have HB9 := Lib.hid (below_gr HB5.out hg9); clear hg9 k9))
        refine bodyPost_ret (v := .tuple #[.agg zC, .int .i64 2]) ?_ rfl (HNO.out w9 HC.out HB9.out)
        exact results_blk_tmp (P := Try.prog) Try.results13 _ rfl _ rfl K9.out Try.underlying26 rfl (by rw [size_pk]; rfl)
      · rw [hm, errI_t] at ck
        have CK := Lib.hid ck; clear ck
        have HC := Lib.hid (show getC xs = some p by rw [hcv, hm]; rfl); clear hcv hm HNO
        go_enter Try.func13, Try.ntmps13
        go_wp2_with (first
          | (go_at_call 33; refine (OP.out).mono ?_; rintro e1 w1 ⟨A1, m1, q1, rfl, hs1, hb1⟩; have K1 := Lib.hid (K0.out.below hb1 K0.out.lt); have HB1 := Lib.hid (low_low HB0.out hb1); have HS1 := Lib.hid hs1; clear hs1 hb1)
          | (go_at_call 34; refine (RD.out _ _ _ _ HS1.out).mono ?_; rintro e2 w2 ⟨g, rfl, hg, hr2, hb2⟩; have K2 := Lib.hid (K1.out.below hb2 K1.out.lt); have hwg : w.heap.size < g := (by have := K1.out.lt; omega); have HB2 := Lib.hid (low_low HB1.out hb2); have hw2 := HB2.out.size; have hl2 := K2.out.lt; have HR2 := Lib.hid hr2; clear hr2 hb2 hg)
          | (go_at_call 35; refine (PR.out _ _ HR2.out).mono ?_; rintro e3 w3 ⟨h_, i_, l_, rfl, ho3, hr3, hg3⟩; obtain ⟨B1, b1, y1, rfl⟩ := own_form14 ho3.1.choose_spec; obtain ⟨B2, b2, y2, rfl⟩ := own_form14 ho3.2.1.choose_spec; obtain ⟨B3, b3, y3, rfl⟩ := ownL_form14 ho3.2.2; have hbx := low1 (Below.refl w3.heap.size w3) (.cells (pkC p (.slice B1 b1 y1) (.slice B2 b2 y2) (.slice B3 b3 y3)) 26); have HO3 := Lib.hid ((ho3.below hbx).more (base' := w.heap.size + 1) (by omega)); have HP3 := Lib.hid (ho3.pkM.up hbx); have K3 := Lib.hid ((K2.out.grown hg3 (by simp; omega)).alloc (.cells (pkC p (.slice B1 b1 y1) (.slice B2 b2 y2) (.slice B3 b3 y3)) 26)); have KB3 := Lib.hid (Blk.new w3 26 (pkC p (.slice B1 b1 y1) (.slice B2 b2 y2) (.slice B3 b3 y3))); have HB3 := Lib.hid (low1 (HB2.out.grown hg3 HB2.out.size (fun q hq => by cases hq; omega)) (.cells (pkC p (.slice B1 b1 y1) (.slice B2 b2 y2) (.slice B3 b3 y3)) 26)); have HR3 := Lib.hid (hr3.alloc (.cells (pkC p (.slice B1 b1 y1) (.slice B2 b2 y2) (.slice B3 b3 y3)) 26)); clear hr3 hg3 ho3 hbx)
          | (go_at_call 36; refine (DN.out _ _ HR3.out).mono ?_; rintro e4 w4 ⟨rfl, rfl⟩)
          | (go_at_call 9; refine (CK.out _ _ _ _ _ _ _ _ _ _ HP3.out).mono ?_; rintro e5 w5 ⟨rfl, hb5⟩; have K5 := Lib.hid (K3.out.below hb5 K3.out.lt); have KB5 := Lib.hid (KB3.out.below hb5 KB3.out.lt); have HB5 := Lib.hid (low_low HB3.out hb5); have HO5 := Lib.hid (HO3.out.below hb5); clear hb5)
          | (refine wpList_load_blk rfl 26 (.tmp 7) rfl w3.heap.size rfl (pkC p (.slice B1 b1 y1) (.slice B2 b2 y2) (.slice B3 b3 y3)) KB5.out _ Try.underlying26 rfl (by rw [size_pk]; rfl) ?_)
          | (refine wpList_store_blk rfl 26 (.tmp 2) (.tmp 29) rfl w.heap.size (pkC p (.slice B1 b1 y1) (.slice B2 b2 y2) (.slice B3 b3 y3)) rfl rfl _ K5.out (by rw [size_pk]; rfl) rfl (by kernel_rfl) ?_; intro w9 hg9 k9; have K9 := Lib.hid k9; have HB9 := Lib.hid (below_gr HB5.out hg9); have HO9 := Lib.hid (HO5.out.gr hg9 (Nat.lt_succ_self _)); clear hg9 k9))
        refine bodyPost_ret (v := .tuple #[.agg (pkC p (.slice B1 b1 y1) (.slice B2 b2 y2) (.slice B3 b3 y3)), .int .i64 0]) ?_ rfl (by rw [HC.out]; exact ⟨_, _, _, rfl, HO9.out.pkM, HB9.out⟩)
        exact results_blk_tmp (P := Try.prog) Try.results13 _ rfl _ rfl K9.out Try.underlying26 rfl (by rw [size_pk]; rfl)
end Go.Proofs.Ytpolpppnajfhdaa.Pkt
