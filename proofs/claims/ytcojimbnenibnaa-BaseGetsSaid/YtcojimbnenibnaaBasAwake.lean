/- The laws' own little example of layer 11: it is awake; and whether a state is light. -/
import Derived.Test.YtcojimbnenibnaaBasApply
import Derived.Test.YtcojimbnenibnaaBasPut
import Derived.Test.YtcojimbnenibnaaChgAwake
namespace Go.Proofs.Ytcojimbnenibnaa.Bas
open Go.RowKit Go.Proofs.Ytcojimbnenibnaa.Mem Go.Proofs.Ytcojimbnenibnaa.Oct Go.Proofs.Ytcojimbnenibnaa.Lsa Go.Proofs.Ytcojimbnenibnaa.Chg
set_option linter.unusedVariables false
set_option linter.unusedSimpArgs false
def smallL (a : La) : Bool := decide (a.ls.length ≤ 40)
def lightS (s : Sta) : Bool := (s.db.take 71).all smallL && (decide (s.db.length ≤ 70) && decide (s.ep.length ≤ 70))
theorem smallL_step (l : List La) (k : Nat) (hk : k < l.length) : (l.take (k + 1)).all smallL = ((l.take k).all smallL && smallL (l.getD k zeroL)) := by
  rw [List.take_succ_eq_append_getElem hk, List.all_append]
  simp [List.getD, List.getElem?_eq_getElem hk]
theorem smallL_no (s : Sta) (k : Nat) (hk : k < s.db.length) (h70 : k ≤ 70) (h : smallL (s.db.getD k zeroL) = false) : lightS s = false := by
  have : (s.db.take 71).all smallL = false := by
    rw [List.all_eq_false]
    refine ⟨s.db.getD k zeroL, ?_, by rw [h]; exact Bool.false_ne_true⟩
    rw [List.mem_take_iff_getElem]
    exact ⟨k, by omega, by simp [List.getD, List.getElem?_eq_getElem hk]⟩
  simp [lightS, this]
theorem lightS_iff {s : Sta} : lightS s = true ↔ (∀ a ∈ s.db, a.ls.length ≤ 40) ∧ s.db.length ≤ 70 ∧ s.ep.length ≤ 70 := by
  unfold lightS
  simp only [Bool.and_eq_true, decide_eq_true_eq, List.all_eq_true, smallL]
  constructor
  · rintro ⟨h1, h2, h3⟩
    rw [List.take_of_length_le (by omega)] at h1
    exact ⟨h1, h2, h3⟩
  · rintro ⟨h1, h2, h3⟩
    rw [List.take_of_length_le (by omega)]
    exact ⟨h1, h2, h3⟩
set_option maxRecDepth 20000 in
set_option maxHeartbeats 4000000 in
theorem light11_any (s : Sta) (dv ev : Value) (w : World) (h : StM w w.heap.size dv ev s) :
    Calls Try.prog 7 #[stV s dv ev] w fun e w' => e = .returned (.bool (lightS s)) ∧ Below w.heap.size w w' := by
  obtain ⟨A, n, c, rfl, hq1_⟩ := id h.1
  obtain ⟨A2, n2, c2, rfl, hq2_⟩ := id h.2
  clear hq1_ hq2_
  obtain ⟨hl, hnc, hcm, _⟩ := las_len h.1
  obtain ⟨hl2, hnc2, hcm2, _⟩ := lks_len h.2
  unfold maxLen at hcm hcm2
  have hb := low1 (Below.refl w.heap.size w) (.cells #[.slice A n c, .int .i64 s.up, .int .i64 s.bo, .slice A2 n2 c2] 25)
  have k0 := Blk.new w 25 #[.slice A n c, .int .i64 s.up, .int .i64 s.bo, .slice A2 n2 c2]
  have DB := Lib.hid (fun (W : World) (hW : Below w.heap.size w W) => h.1.keep hW)
  have HL := Lib.hid hl; clear hl
  have HL2 := Lib.hid hl2; clear hl2
  obtain ⟨z, hz⟩ : ∃ z, z = lightS s := ⟨_, rfl⟩
  rw [← hz]
  have HZ := Lib.hid hz; clear hz h
  have HB := Lib.hid hb; clear hb
  have K0 := Lib.hid k0; clear k0
  simp only [stV]
  go_enter Try.func7, Try.ntmps7
  go_wp2_with (fail)
  go_loopw [3] (fun i wr => ∃ k : Nat, k ≤ n ∧ k ≤ 71 ∧ i = .int .i64 k ∧ (s.db.take k).all smallL = true ∧ Below w.heap.size w wr ∧ Blk wr w.heap.size 25 #[.slice A n c, .int .i64 s.up, .int .i64 s.bo, .slice A2 n2 c2]) (fun i _ => n - (intOf i).toNat)
  case atStart => exact ⟨0, Nat.zero_le _, by omega, rfl, rfl, HB.out, K0.out⟩
  case round =>
    clear HB K0
    obtain ⟨k, hk, hk71, rfl, hall, hbw, hkw⟩ := hrel
    have HBW := Lib.hid hbw; clear hbw
    have HKW := Lib.hid hkw; clear hkw
    obtain ⟨x0, x1, x2, x3, x4⟩ := blk_cells4 HKW.out
    by_cases hlt : k < n
    · have p1 : decide (k < n) = true := by simp; omega
      by_cases h70 : k ≤ 70
      · have p2 : decide ((k : Int) ≤ 70) = true := by simp; omega
        obtain ⟨b, off, rfl, hb, hc⟩ := las_at (DB.out wr HBW.out) (by omega)
        obtain ⟨u, hr, hlk⟩ := hc k hlt
        have hst := smallL_step s.db k (by have := HL.out; omega)
        have hno := smallL_no s k (by have := HL.out; omega) h70
        rw [hall, Bool.true_and] at hst
        generalize s.db.getD k zeroL = x at *
        obtain ⟨Au, nu, cu, rfl, hlx, _⟩ := id hlk
        have c0 : wr.cell? ⟨b, off + k * 3, none⟩ = some (.int .i64 x.o) := hr 0 _ rfl
        have c1 : wr.cell? ⟨b, off + k * 3 + 1, none⟩ = some (.int .i64 x.s) := hr 1 _ rfl
        have c2 : wr.cell? ⟨b, off + k * 3 + 2, none⟩ = some (.slice Au nu cu) := hr 2 _ rfl
        clear hc hr hlk hall
        by_cases h40 : nu ≤ 40
        · have lt := light_any x.o x.s Au nu cu wr true (by simp; omega)
          have HST := Lib.hid (hst.trans (show smallL x = true by simp [smallL, hlx, h40])); clear hst hno hlx
          have LT := Lib.hid lt; clear lt
          go_wp2_with (go_at_call 23; refine (LT.out).mono ?_; rintro e w3 ⟨rfl, hb3⟩; have HB3 := Lib.hid (low_low HBW.out hb3); have HK3 := Lib.hid (HKW.out.below hb3 HKW.out.lt); clear hb3)
          go_roundw
          case rel => exact ⟨k + 1, by omega, by omega, by go_num, HST.out, HB3.out, HK3.out⟩
          case measure => simp [intOf]; omega
        · have lt := light_any x.o x.s Au nu cu wr false (by simp; omega)
          have HNO := Lib.hid (hno (show smallL x = false by simp [smallL, hlx]; omega)); clear hst hno hlx
          have LT := Lib.hid lt; clear lt
          go_wp2_with (go_at_call 23; refine (LT.out).mono ?_; rintro e w3 ⟨rfl, hb3⟩; have HB3 := Lib.hid (low_low HBW.out hb3); clear hb3)
          go_ret
          exact ⟨ret_bool (by rw [HZ.out, HNO.out]), HB3.out⟩
      · have p2 : decide ((k : Int) ≤ 70) = false := by simp; omega
        have p3 : decide ((n : Int) ≤ 70) = false := by simp; omega
        have hzf : z = false := by
          rw [HZ.out, lightS, HL.out]
          simp
          omega
        have HZF := Lib.hid hzf; clear hzf hall
        go_wp2
        go_ret
        exact ⟨ret_bool (by rw [HZF.out]), HBW.out⟩
    · have p1 : decide (k < n) = false := by simp; omega
      obtain rfl : n = k := by omega
      have hzt : z = (decide ((n : Int) ≤ 70) && decide ((n2 : Int) ≤ 70)) := by
        rw [HZ.out, lightS, HL.out, HL2.out]
        have e : s.db.take 71 = s.db.take n := by rw [List.take_of_length_le (by have := HL.out; omega), List.take_of_length_le (by have := HL.out; omega)]
        rw [e, hall, Bool.true_and]
        congr 1 <;> exact decide_eq_decide.2 (by omega)
      have HZT := Lib.hid hzt; clear hzt hall
      cases q1 : decide ((n : Int) ≤ 70)
      · go_wp2
        go_ret
        exact ⟨ret_bool (by rw [HZT.out, q1]; rfl), HBW.out⟩
      · go_wp2
        go_ret
        exact ⟨ret_bool (by rw [HZT.out, q1]; simp), HBW.out⟩
set_option maxRecDepth 20000 in
set_option maxHeartbeats 4000000 in
theorem awake11_any (w : World) : Calls Try.prog 9 #[] w fun e w' => e = .returned (.bool true) ∧ Below w.heap.size w w' := by
  have ha1 : applyS zeroS [⟨1, 2, 3, [], 0, 0⟩] = (⟨[⟨2, 3, []⟩], 0, 0, []⟩, 0) := by
    unfold applyS
    rw [if_pos (by decide)]
    rfl
  have ha2 : applyS ⟨[⟨2, 3, []⟩], 0, 0, []⟩ [⟨1, 2, 3, [], 0, 0⟩] = (zeroS, 10) := by
    unfold applyS
    rw [if_pos (by decide)]
    rfl
  have hm0 : mayS zeroS = true := by decide
  have hb1 := low1 (Below.refl w.heap.size w) (.cells #[.int .i64 1, .int .i64 2, .int .i64 3, .slice none 0 0, .int .i64 0, .int .i64 0] 52)
  have p1 := apply_any zeroS (.slice none 0 0) (.slice none 0 0) (some ⟨w.heap.size, 0, none⟩) 1 1 _ (w.alloc (.cells #[.int .i64 1, .int .i64 2, .int .i64 3, .slice none 0 0, .int .i64 0, .int .i64 0] 52)) (stM_nil _ _ _ _) ((chs_lit1 w ⟨1, 2, 3, [], 0, 0⟩ (.slice none 0 0) _ rfl (lks_nil _ _)).more (by simp))
  unfold ApplyOut at p1
  rw [ha1] at p1
  have p2 := fun (dv ev : Value) (g : Nat) (W : World) (hg : g = W.heap.size) (hW : StM W W.heap.size dv ev ⟨[⟨2, 3, []⟩], 0, 0, []⟩) => apply_any ⟨[⟨2, 3, []⟩], 0, 0, []⟩ dv ev (some ⟨g, 0, none⟩) 1 1 _ (W.alloc (.cells #[.int .i64 1, .int .i64 2, .int .i64 3, .slice none 0 0, .int .i64 0, .int .i64 0] 52)) (hW.up (low1 (Below.refl _ _) _)) ((chs_lit1 W ⟨1, 2, 3, [], 0, 0⟩ (.slice none 0 0) g hg (lks_nil _ _)).more (by simp))
  unfold ApplyOut at p2
  rw [ha2] at p2
  have p3 := fun (W : World) => sput_any zeroS (.slice none 0 0) (.slice none 0 0) W (stM_nil _ _ _ _)
  unfold SPutOut at p3
  rw [hm0] at p3
  simp only [stV, zeroS] at p1 p2 p3
  have P1 := Lib.hid p1; clear p1
  have P2 := Lib.hid p2; clear p2
  have P3 := Lib.hid p3; clear p3 ha1 ha2 hm0
  have HB1 := Lib.hid hb1; clear hb1
  go_enter Try.func9, Try.ntmps9
  go_wp2_with (first
    | (have HM1 := P1; go_at_call 10; refine (P1.out).mono ?_; rintro e w2 ⟨dv2, ev2, rfl, hs2, hb2⟩; obtain ⟨A2, n2, c2, rfl, hq_⟩ := id hs2.1; obtain ⟨A3, n3, c3, rfl, hr_⟩ := id hs2.2; have hn2 : n2 = 1 := hq_.1.symm; subst hn2; clear hq_ hr_; have HS2 := Lib.hid hs2; have HB2 := Lib.hid (low_low HB1.out hb2); clear hs2 hb2 HM1 P1)
    | (go_at_call 10; refine (P2.out _ _ _ _ (by simp) (HS2.out.up (low1 (Below.refl _ _) _))).mono ?_; rintro e w3 ⟨dv3, ev3, rfl, hs3, hb3⟩; have HB3 := Lib.hid (low_low (low1 (low1 HB2.out (.cells #[.slice A2 1 c2, .int .i64 0, .int .i64 0, .slice A3 n3 c3] 25)) (.cells #[.int .i64 1, .int .i64 2, .int .i64 3, .slice none 0 0, .int .i64 0, .int .i64 0] 52)) hb3); have hk3 := (Blk.new w2 25 #[.slice A2 1 c2, .int .i64 0, .int .i64 0, .slice A3 n3 c3]).alloc (.cells #[.int .i64 1, .int .i64 2, .int .i64 3, .slice none 0 0, .int .i64 0, .int .i64 0] 52) |>.below hb3 (by simp; omega); have HK3 := Lib.hid hk3; obtain ⟨A4, n4, c4, rfl, hq_⟩ := id hs3.1; obtain ⟨A5, n5, c5, rfl, hr_⟩ := id hs3.2; clear hq_ hr_ hs3 hb3 hk3)
    | (go_at_call 16; refine (P3.out _).mono ?_; rintro e w4 ⟨v4, rfl, hs4, _, hb4⟩; obtain ⟨A6, n6, c6, rfl, ht6, _⟩ := id (hs4 trivial); have hn6 : n6 = 14 := (by rw [← ht6.1]; rfl); subst hn6; obtain ⟨y0, y1, y2, y3, y4⟩ := blk_cells4 ((HK3.out.alloc (.cells #[.slice A4 n4 c4, .int .i64 0, .int .i64 0, .slice A5 n5 c5] 25)).below hb4 (by have := HK3.out.lt; simp; omega)); have HB4 := Lib.hid (low_low (low1 HB3.out _) hb4); clear hs4 hb4 ht6))
  go_ret
  exact ⟨rfl, HB4.out⟩
end Go.Proofs.Ytcojimbnenibnaa.Bas
