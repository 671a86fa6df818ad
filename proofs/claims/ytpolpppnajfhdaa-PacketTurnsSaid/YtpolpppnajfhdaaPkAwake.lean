/- The laws' own little example of layer 14: it is awake; and whether a packet is light. -/
import Derived.Test.YtpolpppnajfhdaaPkPut
import Derived.Test.YtpolpppnajfhdaaPkGot
import Derived.Test.YtpolpppnajfhdaaLsaAwake
namespace Go.Proofs.Ytpolpppnajfhdaa.Pkt
open Go.RowKit Go.Proofs.Ytpolpppnajfhdaa.Mem Go.Proofs.Ytpolpppnajfhdaa.Oct Go.Proofs.Ytpolpppnajfhdaa.Lsa Go.Proofs.Ytpolpppnajfhdaa.Bas
open Go.Proofs.Ytpolpppnajfhdaa.Chg (low1 low_low low2 blk_second)
set_option linter.unusedVariables false
set_option linter.unusedSimpArgs false
theorem sl_row {w : World} {base n : Nat} {v : Value} {xs : List Nat} (h : w.ownsRow base 5 1 v n (vals xs)) (hx : ∀ x ∈ xs, x < 256) (hn : n ≤ 1000000) : Sl w w.heap.size v xs := sl_own h hx hn
def exP : Pk := ⟨3, 1, 1, 2, 0, 1, 2, [], [], []⟩
theorem exP_may : mayP exP = true := by decide
theorem exP_len : (putP exP).length = 23 := by
  rw [putP_length]
  rfl
set_option maxRecDepth 20000 in
set_option maxHeartbeats 4000000 in
theorem awake14_any (w : World) : Calls Try.prog 7 #[] w fun e w' => e = .returned (.bool true) ∧ Below w.heap.size w w' := by
  have p1 := fun (W : World) => pput_yes exP none none none 0 0 0 0 0 0 W ⟨lks_nil _ _, lks_nil _ _, las_nil _ _⟩ exP_may
  have p2 := fun (v : Value) (W : World) (hv : Sl W W.heap.size v (putP exP)) => pget_any v (putP exP) W hv (by rw [exP_len]; omega)
  rw [getC_back exP_may] at p2
  unfold PPutOut at p1
  unfold GetOutP at p2
  rw [exP_len] at p1
  have hlt := putP_lt exP
  generalize putP exP = xs at *
  simp only [pkV, exP, Option.getD, errP] at p1 p2
  have P1 := Lib.hid p1; clear p1
  have P2 := Lib.hid p2; clear p2
  have HLT := Lib.hid hlt; clear hlt
  go_enter Try.func7, Try.ntmps7
  go_wp2_with (first
    | (go_at_call 8; refine (P1.out _).mono ?_; rintro e w1 ⟨A1, n1, c1, rfl, hn1, ho1, hb1⟩; have hd1 : (n1 : Int) = 23 := (by omega); subst hn1; have HS1 := Lib.hid (sl_row ho1 HLT.out (by omega)); have HB1 := Lib.hid hb1; clear ho1 hb1)
    | (go_at_call 13; refine (P2.out _ _ HS1.out).mono ?_; rintro e w2 ⟨h_, i_, l_, rfl, hp2, hb2⟩; obtain ⟨B1, b1, y1, rfl, _⟩ := id hp2.1; obtain ⟨B2, b2, y2, rfl, _⟩ := id hp2.2.1; obtain ⟨B3, b3, y3, rfl, _⟩ := id hp2.2.2; have HB2 := Lib.hid (low_low HB1.out hb2); clear hp2 hb2))
  go_ret
  exact ⟨rfl, low1 HB2.out _⟩
def small14 (a : La) : Bool := decide (a.ls.length ≤ 40)
def lightP (p : Pk) : Bool := (p.ls.take 21).all small14 && (decide (p.ls.length ≤ 20) && (decide (p.hd.length ≤ 40) && decide (p.it.length ≤ 100)))
theorem small14_step (l : List La) (k : Nat) (hk : k < l.length) : (l.take (k + 1)).all small14 = ((l.take k).all small14 && small14 (l.getD k zeroL)) := by
  rw [List.take_succ_eq_append_getElem hk, List.all_append]
  simp [List.getD, List.getElem?_eq_getElem hk]
theorem small14_no (p : Pk) (k : Nat) (hk : k < p.ls.length) (h20 : k ≤ 20) (h : small14 (p.ls.getD k zeroL) = false) : lightP p = false := by
  have : (p.ls.take 21).all small14 = false := by
    rw [List.all_eq_false]
    refine ⟨p.ls.getD k zeroL, ?_, by rw [h]; exact Bool.false_ne_true⟩
    rw [List.mem_take_iff_getElem]
    exact ⟨k, by omega, by simp [List.getD, List.getElem?_eq_getElem hk]⟩
  simp [lightP, this]
set_option maxRecDepth 100000 in
set_option maxHeartbeats 8000000 in
theorem light14_any (p : Pk) (A1 A2 A3 : Option Addr) (n1 z1 n2 z2 n3 z3 : Nat) (w : World) (h : PkM w w.heap.size (.slice A1 n1 z1) (.slice A2 n2 z2) (.slice A3 n3 z3) p) :
    Calls Try.prog 6 #[pkV p (.slice A1 n1 z1) (.slice A2 n2 z2) (.slice A3 n3 z3)] w fun e w' => e = .returned (.bool (lightP p)) ∧ Below w.heap.size w w' := by
  obtain ⟨h1, h2, h3⟩ := h
  obtain ⟨hl, hnc, hcm, _⟩ := las_len h3
  have hl1 := (lks_len h1).1
  have hl2 := (lks_len h2).1
  unfold maxLen at hcm
  have hb := low1 (Below.refl w.heap.size w) (.cells (pkC p (.slice A1 n1 z1) (.slice A2 n2 z2) (.slice A3 n3 z3)) 26)
  have k0 := Blk.new w 26 (pkC p (.slice A1 n1 z1) (.slice A2 n2 z2) (.slice A3 n3 z3))
  have DB := Lib.hid (fun (W : World) (hW : Below w.heap.size w W) => h3.keep hW)
  obtain ⟨z, hz⟩ : ∃ z, z = lightP p := ⟨_, rfl⟩
  rw [← hz]
  have HZ := Lib.hid hz; clear hz
  have HL := Lib.hid hl; clear hl
  have HL1 := Lib.hid hl1; clear hl1
  have HL2 := Lib.hid hl2; clear hl2
  have HB := Lib.hid hb; clear hb
  have K0 := Lib.hid k0; clear k0 h1 h2 h3
  go_enter Try.func6, Try.ntmps6
  go_wp2_with (fail)
  go_loopw [3] (fun i wr => ∃ k : Nat, k ≤ n3 ∧ k ≤ 21 ∧ i = .int .i64 k ∧ (p.ls.take k).all small14 = true ∧ Below w.heap.size w wr ∧ Blk wr w.heap.size 26 (pkC p (.slice A1 n1 z1) (.slice A2 n2 z2) (.slice A3 n3 z3))) (fun i _ => n3 - (intOf i).toNat)
  case atStart => exact ⟨0, Nat.zero_le _, by omega, rfl, rfl, HB.out, K0.out⟩
  case round =>
    clear HB K0
    obtain ⟨k, hk, hk21, rfl, hall, hbw, hkw⟩ := hrel
    have HBW := Lib.hid hbw; clear hbw
    have HKW := Lib.hid hkw; clear hkw
    obtain ⟨x0, x1, x2, x3, x4, x5, x6, x7, x8, x9, x10⟩ := blk_cells10 HKW.out
    by_cases hlt : k < n3
    · have p1 : decide (k < n3) = true := by simp; omega
      by_cases h20 : k ≤ 20
      · have p2 : decide ((k : Int) ≤ 20) = true := by simp; omega
        obtain ⟨b, off, rfl, hb, hc⟩ := las_at (DB.out wr HBW.out) (by omega)
        obtain ⟨u, hr, hlk⟩ := hc k hlt
        have hst := small14_step p.ls k (by have := HL.out; omega)
        have hno := small14_no p k (by have := HL.out; omega) h20
        rw [hall, Bool.true_and] at hst
        generalize p.ls.getD k zeroL = x at *
        obtain ⟨Au, nu, cu, rfl, hlx, _⟩ := id hlk
        have c0 : wr.cell? ⟨b, off + k * 3, none⟩ = some (.int .i64 x.o) := hr 0 _ rfl
        have c1 : wr.cell? ⟨b, off + k * 3 + 1, none⟩ = some (.int .i64 x.s) := hr 1 _ rfl
        have c2 : wr.cell? ⟨b, off + k * 3 + 2, none⟩ = some (.slice Au nu cu) := hr 2 _ rfl
        clear hc hr hlk hall
        by_cases h40 : nu ≤ 40
        · have lt := light_any x.o x.s Au nu cu wr true (by simp; omega)
          have HST := Lib.hid (hst.trans (show small14 x = true by simp [small14, hlx, h40])); clear hst hno hlx
          have LT := Lib.hid lt; clear lt
          go_wp2_with (go_at_call 17; refine (LT.out).mono ?_; rintro e w3 ⟨rfl, hb3⟩; have HB3 := Lib.hid (low_low HBW.out hb3); have HK3 := Lib.hid (HKW.out.below hb3 HKW.out.lt); clear hb3)
          go_roundw
          case rel => exact ⟨k + 1, by omega, by omega, by go_num, HST.out, HB3.out, HK3.out⟩
          case measure => simp [intOf]; omega
        · have lt := light_any x.o x.s Au nu cu wr false (by simp; omega)
          have HNO := Lib.hid (hno (show small14 x = false by simp [small14, hlx]; omega)); clear hst hno hlx
          have LT := Lib.hid lt; clear lt
          go_wp2_with (go_at_call 17; refine (LT.out).mono ?_; rintro e w3 ⟨rfl, hb3⟩; have HB3 := Lib.hid (low_low HBW.out hb3); clear hb3)
          go_ret
          exact ⟨ret_bool (by rw [HZ.out, HNO.out]), HB3.out⟩
      · have p2 : decide ((k : Int) ≤ 20) = false := by simp; omega
        have p3 : decide ((n3 : Int) ≤ 20) = false := by simp; omega
        have hzf : z = false := by
          rw [HZ.out, lightP, HL.out]
          simp
          omega
        have HZF := Lib.hid hzf; clear hzf hall
        go_wp2
        go_ret
        exact ⟨ret_bool (by rw [HZF.out]), HBW.out⟩
    · have p1 : decide (k < n3) = false := by simp; omega
      obtain rfl : n3 = k := by omega
      have hzt : z = (decide ((n3 : Int) ≤ 20) && (decide ((n1 : Int) ≤ 40) && decide ((n2 : Int) ≤ 100))) := by
        rw [HZ.out, lightP, HL.out, HL1.out, HL2.out]
        have e : p.ls.take 21 = p.ls.take n3 := by rw [List.take_of_length_le (by have := HL.out; omega), List.take_of_length_le (by have := HL.out; omega)]
        rw [e, hall, Bool.true_and, show decide (n3 ≤ 20) = decide ((n3 : Int) ≤ 20) from decide_eq_decide.2 (by omega), show decide (n1 ≤ 40) = decide ((n1 : Int) ≤ 40) from decide_eq_decide.2 (by omega), show decide (n2 ≤ 100) = decide ((n2 : Int) ≤ 100) from decide_eq_decide.2 (by omega)]
      have HZT := Lib.hid hzt; clear hzt hall
      cases q1 : decide ((n3 : Int) ≤ 20)
      · go_wp2
        go_ret
        exact ⟨ret_bool (by rw [HZT.out, q1]; rfl), HBW.out⟩
      cases q2 : decide ((n1 : Int) ≤ 40)
      · go_wp2
        go_ret
        exact ⟨ret_bool (by rw [HZT.out, q1, q2]; rfl), HBW.out⟩
      · go_wp2
        go_ret
        exact ⟨ret_bool (by rw [HZT.out, q1, q2]; simp), HBW.out⟩
end Go.Proofs.Ytpolpppnajfhdaa.Pkt
