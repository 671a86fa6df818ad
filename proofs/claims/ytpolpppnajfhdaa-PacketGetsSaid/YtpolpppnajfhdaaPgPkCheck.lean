/- Which packets the code lets be (layer 14): the contracts of packet.isWithin, hasNothing, areHeard, areItems, areLsas, isOfKind, Check. -/
import Derived.Test.YtpolpppnajfhdaaPgChgCheck
import Derived.Test.YtpolpppnajfhdaaPgPkItems
import Derived.Test.YtpolpppnajfhdaaPgPkRefMay
namespace Go.Proofs.Ytpolpppnajfhdaa.Pkt
open Go.RowKit Go.Proofs.Ytpolpppnajfhdaa.Mem Go.Proofs.Ytpolpppnajfhdaa.Lsa Go.Proofs.Ytpolpppnajfhdaa.Bas
open Go.Proofs.Ytpolpppnajfhdaa.Chg (low1 low_low low2 blk_second)
set_option linter.unusedVariables false
set_option linter.unusedSimpArgs false
/-! ### plain -/
def nothing (e te : Int) (a b c : Nat) : Bool := (e == 0) && ((te == 0) && (((a : Int) == 0) && (((b : Int) == 0) && ((c : Int) == 0))))
theorem nothing_iff {e te : Int} {a b c : Nat} : nothing e te a b c = true ↔ e = 0 ∧ te = 0 ∧ a = 0 ∧ b = 0 ∧ c = 0 := by
  simp only [nothing, Bool.and_eq_true, beq_iff_eq]
  omega
def okHd (l : List Lk) : Bool := decide (l.length ≤ 16) && epOk 0 l
def okLs (l : List La) : Bool := win (l.length : Int) 8 && dbOk 0 l
def ofKind (p : Pk) : Bool :=
  if p.k = 1 then okHd p.hd && nothing p.e p.te 0 p.it.length p.ls.length
  else if p.k = 2 then (win p.e 1073741824 && itOk 0 p.it) && nothing 0 p.te p.hd.length 0 p.ls.length
  else if p.k = 5 then itOk 0 p.it && nothing p.e p.te p.hd.length 0 p.ls.length
  else if p.k = 3 then (win p.e 1073741824 && win p.te 1073741824) && nothing 0 0 p.hd.length p.it.length p.ls.length
  else if p.k = 4 then okLs p.ls && nothing p.e p.te p.hd.length p.it.length 0
  else false
theorem nil_of {α : Type} {l : List α} : l.length = 0 ↔ l = [] := List.length_eq_zero_iff
theorem dbOk_nil {l : List La} (h : l.length = 0) : dbOk 0 l = true := by rw [nil_of.1 h]; rfl
theorem itOk_nil {l : List Lk} (h : l.length = 0) : itOk 0 l = true := by rw [nil_of.1 h]; rfl
theorem epOk_nil {l : List Lk} (h : l.length = 0) : epOk 0 l = true := by rw [nil_of.1 h]; rfl
theorem may_ofKind (p : Pk) : mayP p = (ends p && ofKind p) := by
  rw [Bool.eq_iff_iff]
  obtain ⟨k, f, b, t, tb, e, te, hd, it, ls⟩ := p
  rw [mayP_iff, Bool.and_eq_true]
  by_cases k1 : k = 1
  · subst k1
    rw [show ofKind ⟨1, f, b, t, tb, e, te, hd, it, ls⟩ = (okHd hd && nothing e te 0 it.length ls.length) from rfl, show epochs ⟨1, f, b, t, tb, e, te, hd, it, ls⟩ = ((e == 0) && (te == 0)) from rfl, show kindOk ⟨1, f, b, t, tb, e, te, hd, it, ls⟩ = (decide (hd.length ≤ 16) && (decide (it.length = 0) && decide (ls.length = 0))) from rfl]
    simp only [okHd, nothing_iff, Bool.and_eq_true, decide_eq_true_eq, beq_iff_eq]
    constructor
    · rintro ⟨h1, h2, h3, h4, ⟨h5, h6⟩, h7, h8, h9⟩
      exact ⟨h1, ⟨h7, h2⟩, h5, h6, trivial, h8, h9⟩
    · rintro ⟨h1, ⟨h7, h2⟩, h5, h6, _, h8, h9⟩
      exact ⟨h1, h2, dbOk_nil h9, itOk_nil h8, ⟨h5, h6⟩, h7, h8, h9⟩
  by_cases k2 : k = 2
  · subst k2
    rw [show ofKind ⟨2, f, b, t, tb, e, te, hd, it, ls⟩ = ((win e 1073741824 && itOk 0 it) && nothing 0 te hd.length 0 ls.length) from rfl, show epochs ⟨2, f, b, t, tb, e, te, hd, it, ls⟩ = (win e 1073741824 && (te == 0)) from rfl, show kindOk ⟨2, f, b, t, tb, e, te, hd, it, ls⟩ = (decide (hd.length = 0) && decide (ls.length = 0)) from rfl]
    simp only [nothing_iff, Bool.and_eq_true, decide_eq_true_eq, beq_iff_eq]
    constructor
    · rintro ⟨h1, h2, h3, h4, ⟨h5, h6⟩, h7, h8⟩
      exact ⟨h1, ⟨h5, h4⟩, trivial, h6, h7, trivial, h8⟩
    · rintro ⟨h1, ⟨h5, h4⟩, _, h6, h7, _, h8⟩
      exact ⟨h1, epOk_nil h7, dbOk_nil h8, h4, ⟨h5, h6⟩, h7, h8⟩
  by_cases k5 : k = 5
  · subst k5
    rw [show ofKind ⟨5, f, b, t, tb, e, te, hd, it, ls⟩ = (itOk 0 it && nothing e te hd.length 0 ls.length) from rfl, show epochs ⟨5, f, b, t, tb, e, te, hd, it, ls⟩ = ((e == 0) && (te == 0)) from rfl, show kindOk ⟨5, f, b, t, tb, e, te, hd, it, ls⟩ = (decide (hd.length = 0) && decide (ls.length = 0)) from rfl]
    simp only [nothing_iff, Bool.and_eq_true, decide_eq_true_eq, beq_iff_eq]
    constructor
    · rintro ⟨h1, h2, h3, h4, ⟨h5, h6⟩, h7, h8⟩
      exact ⟨h1, h4, h5, h6, h7, trivial, h8⟩
    · rintro ⟨h1, h4, h5, h6, h7, _, h8⟩
      exact ⟨h1, epOk_nil h7, dbOk_nil h8, h4, ⟨h5, h6⟩, h7, h8⟩
  by_cases k3 : k = 3
  · subst k3
    rw [show ofKind ⟨3, f, b, t, tb, e, te, hd, it, ls⟩ = ((win e 1073741824 && win te 1073741824) && nothing 0 0 hd.length it.length ls.length) from rfl, show epochs ⟨3, f, b, t, tb, e, te, hd, it, ls⟩ = (win e 1073741824 && win te 1073741824) from rfl, show kindOk ⟨3, f, b, t, tb, e, te, hd, it, ls⟩ = (decide (hd.length = 0) && (decide (it.length = 0) && decide (ls.length = 0))) from rfl]
    simp only [nothing_iff, Bool.and_eq_true, decide_eq_true_eq, beq_iff_eq]
    constructor
    · rintro ⟨h1, h2, h3, h4, ⟨h5, h6⟩, h7, h8, h9⟩
      exact ⟨h1, ⟨h5, h6⟩, trivial, trivial, h7, h8, h9⟩
    · rintro ⟨h1, ⟨h5, h6⟩, _, _, h7, h8, h9⟩
      exact ⟨h1, epOk_nil h7, dbOk_nil h9, itOk_nil h8, ⟨h5, h6⟩, h7, h8, h9⟩
  by_cases k4 : k = 4
  · subst k4
    rw [show ofKind ⟨4, f, b, t, tb, e, te, hd, it, ls⟩ = (okLs ls && nothing e te hd.length it.length 0) from rfl, show epochs ⟨4, f, b, t, tb, e, te, hd, it, ls⟩ = ((e == 0) && (te == 0)) from rfl, show kindOk ⟨4, f, b, t, tb, e, te, hd, it, ls⟩ = (decide (hd.length = 0) && (decide (it.length = 0) && (decide (1 ≤ ls.length) && decide (ls.length ≤ 8)))) from rfl]
    simp only [okLs, win_iff, nothing_iff, Bool.and_eq_true, decide_eq_true_eq, beq_iff_eq]
    constructor
    · rintro ⟨h1, h2, h3, h4, ⟨h5, h6⟩, h7, h8, h9, h10⟩
      exact ⟨h1, ⟨⟨by omega, by omega⟩, h3⟩, h5, h6, h7, h8, trivial⟩
    · rintro ⟨h1, ⟨⟨h9, h10⟩, h3⟩, h5, h6, h7, h8, _⟩
      exact ⟨h1, epOk_nil h7, h3, itOk_nil h8, ⟨h5, h6⟩, h7, h8, by omega, by omega⟩
  · have : ofKind ⟨k, f, b, t, tb, e, te, hd, it, ls⟩ = false := by simp [ofKind, k1, k2, k3, k4, k5]
    rw [this]
    have h2 : kindOk ⟨k, f, b, t, tb, e, te, hd, it, ls⟩ = false := by simp [kindOk, k1, k2, k3, k4, k5]
    rw [h2]
    simp
/-! ### the calls -/
set_option maxHeartbeats 400000 in
theorem pwithin_any (n hi : Int) (w : World) :
    Calls Try.prog 24 #[.int .i64 n, .int .i64 hi] w fun e w' => e = .returned (.bool (win n hi)) ∧ w = w' := by
  unfold win
  cases h1 : decide (1 ≤ n)
  · go_enter Try.func24, Try.ntmps24
    go_wp2
    go_ret
    exact ⟨rfl, rfl⟩
  · go_enter Try.func24, Try.ntmps24
    go_wp2
    go_ret
    exact ⟨ret_bool (by simp), rfl⟩
set_option maxRecDepth 20000 in
set_option maxHeartbeats 4000000 in
theorem nothing_any (p : Pk) (A1 A2 A3 : Option Addr) (n1 z1 n2 z2 n3 z3 : Nat) (w : World) :
    Calls Try.prog 50 #[pkV p (.slice A1 n1 z1) (.slice A2 n2 z2) (.slice A3 n3 z3)] w fun e w' => e = .returned (.bool (nothing p.e p.te n1 n2 n3)) ∧ Below w.heap.size w w' := by
  have HB := Lib.hid (low1 (Below.refl w.heap.size w) (.cells (pkC p (.slice A1 n1 z1) (.slice A2 n2 z2) (.slice A3 n3 z3)) 26))
  unfold nothing
  cases h0 : (p.e == 0)
  · go_enter Try.func50, Try.ntmps50
    go_wp2
    go_ret
    exact ⟨rfl, HB.out⟩
  cases h1 : (p.te == 0)
  · go_enter Try.func50, Try.ntmps50
    go_wp2
    go_ret
    exact ⟨rfl, HB.out⟩
  cases h2 : ((n1 : Int) == 0)
  · go_enter Try.func50, Try.ntmps50
    go_wp2
    go_ret
    exact ⟨rfl, HB.out⟩
  cases h3 : ((n2 : Int) == 0)
  · go_enter Try.func50, Try.ntmps50
    go_wp2
    go_ret
    exact ⟨rfl, HB.out⟩
  go_enter Try.func50, Try.ntmps50
  go_wp2
  go_ret
  exact ⟨ret_bool (by simp), HB.out⟩
/-- one that may not be -/
def badK (hi last a b : Int) : Bool := decide (a ≤ last) || (decide (64 < a) || !win b hi)
theorem bad_hd {last a b : Int} (h : 0 ≤ last) : epOne last (a, b) = !badK 1073741824 last a b := by
  rw [Bool.eq_iff_iff, epOne_iff14]
  simp [badK, win]
  omega
theorem bad_it {last a b : Int} (h : 0 ≤ last) : itOne last (a, b) = !badK 4611686018427387904 last a b := by
  rw [Bool.eq_iff_iff, itOne_iff]
  simp [badK, win]
  omega
set_option maxRecDepth 20000 in
set_option maxHeartbeats 4000000 in
theorem areItems_any (A : Option Addr) (n c : Nat) (l : List Lk) (w : World) (h : Lks w w.heap.size (.slice A n c) l) :
    Calls Try.prog 48 #[.slice A n c] w fun e w' => e = .returned (.bool (itOk 0 l)) ∧ Below w.heap.size w w' := by
  obtain ⟨hl, hnc, hcm, _⟩ := lks_len h
  unfold maxLen at hcm
  have HL := Lib.hid hl; clear hl
  have HS := Lib.hid h; clear h
  obtain ⟨z, hz⟩ : ∃ z, z = itOk 0 l := ⟨_, rfl⟩
  rw [← hz]
  have HZ := Lib.hid hz; clear hz
  go_enter Try.func48, Try.ntmps48
  go_wp2
  go_loopw [3, 8] (fun s i wr => ∃ (k : Nat) (last : Int), k ≤ n ∧ 0 ≤ last ∧ i = .int .i64 k ∧ s = .int .i64 last ∧ z = itOk last (l.drop k) ∧ Below w.heap.size w wr) (fun _ i _ => n - (intOf i).toNat)
  case atStart => exact ⟨0, 0, Nat.zero_le _, Int.le_refl _, rfl, rfl, HZ.out, Below.refl _ _⟩
  case round =>
    obtain ⟨k, last, hk, h0, rfl, rfl, hz, hbw⟩ := hrel
    have hws := hbw.size
    have HBW := Lib.hid hbw; clear hbw
    by_cases hlt : k < n
    · obtain ⟨b, off, rfl, hb, hc⟩ := lks_at HS.out (by omega)
      obtain ⟨d0, d1⟩ := hc k hlt
      have c0 := (HBW.out.cell (p := ⟨b, off + k * 2, none⟩) hb).trans d0
      have c1 := (HBW.out.cell (p := ⟨b, off + k * 2 + 1, none⟩) hb).trans d1
      rw [itOk_step last l k (by have := HL.out; omega)] at hz
      clear hc d0 d1
      generalize l.getD k (0, 0) = y at *
      obtain ⟨a, b⟩ := y
      rw [bad_it h0] at hz
      simp only at c0 c1 hz
      have HB2 := Lib.hid (low1 HBW.out (.cells #[.int .i64 a, .int .i64 b] 64))
      unfold badK at hz
      cases h1 : decide (a ≤ last)
      · cases h2 : decide (64 < a)
        · cases h3 : win b 4611686018427387904
          · rw [h1, h2, h3] at hz
            have HZ2 := Lib.hid hz; clear hz
            go_wp2_with (go_at_call 24; refine (pwithin_any _ _ _).mono ?_; rintro e w' ⟨rfl, rfl⟩)
            go_ret
            exact ⟨ret_bool (by simp [HZ2.out]), HB2.out⟩
          · rw [h1, h2, h3] at hz
            have HZ2 := Lib.hid hz; clear hz
            have hla : 0 ≤ a := by rw [decide_eq_false_iff_not] at h1; omega
            go_wp2_with (go_at_call 24; refine (pwithin_any _ _ _).mono ?_; rintro e w' ⟨rfl, rfl⟩)
            go_roundw
            case rel => exact ⟨k + 1, a, by omega, hla, by go_num, rfl, by simpa using HZ2.out, HB2.out⟩
            case measure => simp [intOf]; omega
        · rw [h1, h2] at hz
          have HZ2 := Lib.hid hz; clear hz
          go_wp2
          go_ret
          exact ⟨ret_bool (by simp [HZ2.out]), HB2.out⟩
      · rw [h1] at hz
        have HZ2 := Lib.hid hz; clear hz
        go_wp2
        go_ret
        exact ⟨ret_bool (by simp [HZ2.out]), HB2.out⟩
    · obtain rfl : k = n := by omega
      rw [List.drop_eq_nil_of_le (by have := HL.out; omega)] at hz
      have HZ2 := Lib.hid hz; clear hz
      go_wp2
      go_ret
      exact ⟨ret_bool (by simp [HZ2.out, itOk]), HBW.out⟩
set_option maxRecDepth 20000 in
set_option maxHeartbeats 4000000 in
theorem areHeard_any (A : Option Addr) (n c : Nat) (l : List Lk) (w : World) (h : Lks w w.heap.size (.slice A n c) l) :
    Calls Try.prog 47 #[.slice A n c] w fun e w' => e = .returned (.bool (okHd l)) ∧ Below w.heap.size w w' := by
  obtain ⟨hl, hnc, hcm, _⟩ := lks_len h
  unfold maxLen at hcm
  unfold okHd
  have hgt : decide ((16 : Int) < n) = !decide (l.length ≤ 16) := by rw [hl, ← decide_not]; exact decide_eq_decide.2 (by omega)
  cases h3 : decide (l.length ≤ 16)
  · rw [h3] at hgt
    simp only [Bool.not_false] at hgt
    clear h hl h3
    go_enter Try.func47, Try.ntmps47
    go_wp2
    go_ret
    exact ⟨rfl, Below.refl _ _⟩
  rw [h3] at hgt
  simp only [Bool.not_true] at hgt
  rw [Bool.true_and]
  clear h3
  have HL := Lib.hid hl; clear hl
  have HS := Lib.hid h; clear h
  obtain ⟨z, hz⟩ : ∃ z, z = epOk 0 l := ⟨_, rfl⟩
  rw [← hz]
  have HZ := Lib.hid hz; clear hz
  go_enter Try.func47, Try.ntmps47
  go_wp2
  go_loopw [3, 11] (fun s i wr => ∃ (k : Nat) (last : Int), k ≤ n ∧ 0 ≤ last ∧ i = .int .i64 k ∧ s = .int .i64 last ∧ z = epOk last (l.drop k) ∧ Below w.heap.size w wr) (fun _ i _ => n - (intOf i).toNat)
  case atStart => exact ⟨0, 0, Nat.zero_le _, Int.le_refl _, rfl, rfl, HZ.out, Below.refl _ _⟩
  case round =>
    obtain ⟨k, last, hk, h0, rfl, rfl, hz, hbw⟩ := hrel
    have hws := hbw.size
    have HBW := Lib.hid hbw; clear hbw
    by_cases hlt : k < n
    · obtain ⟨b, off, rfl, hb, hc⟩ := lks_at HS.out (by omega)
      obtain ⟨d0, d1⟩ := hc k hlt
      have c0 := (HBW.out.cell (p := ⟨b, off + k * 2, none⟩) hb).trans d0
      have c1 := (HBW.out.cell (p := ⟨b, off + k * 2 + 1, none⟩) hb).trans d1
      rw [epOk_step14 last l k (by have := HL.out; omega)] at hz
      clear hc d0 d1
      generalize l.getD k (0, 0) = y at *
      obtain ⟨a, b⟩ := y
      rw [bad_hd h0] at hz
      simp only at c0 c1 hz
      have HB2 := Lib.hid (low1 HBW.out (.cells #[.int .i64 a, .int .i64 b] 59))
      unfold badK at hz
      cases h1 : decide (a ≤ last)
      · cases h2 : decide (64 < a)
        · cases h3 : win b 1073741824
          · rw [h1, h2, h3] at hz
            have HZ2 := Lib.hid hz; clear hz
            go_wp2_with (go_at_call 24; refine (pwithin_any _ _ _).mono ?_; rintro e w' ⟨rfl, rfl⟩)
            go_ret
            exact ⟨ret_bool (by simp [HZ2.out]), HB2.out⟩
          · rw [h1, h2, h3] at hz
            have HZ2 := Lib.hid hz; clear hz
            have hla : 0 ≤ a := by rw [decide_eq_false_iff_not] at h1; omega
            go_wp2_with (go_at_call 24; refine (pwithin_any _ _ _).mono ?_; rintro e w' ⟨rfl, rfl⟩)
            go_roundw
            case rel => exact ⟨k + 1, a, by omega, hla, by go_num, rfl, by simpa using HZ2.out, HB2.out⟩
            case measure => simp [intOf]; omega
        · rw [h1, h2] at hz
          have HZ2 := Lib.hid hz; clear hz
          go_wp2
          go_ret
          exact ⟨ret_bool (by simp [HZ2.out]), HB2.out⟩
      · rw [h1] at hz
        have HZ2 := Lib.hid hz; clear hz
        go_wp2
        go_ret
        exact ⟨ret_bool (by simp [HZ2.out]), HB2.out⟩
    · obtain rfl : k = n := by omega
      rw [List.drop_eq_nil_of_le (by have := HL.out; omega)] at hz
      have HZ2 := Lib.hid hz; clear hz
      go_wp2
      go_ret
      exact ⟨ret_bool (by simp [HZ2.out, epOk]), HBW.out⟩
set_option maxRecDepth 20000 in
set_option maxHeartbeats 4000000 in
theorem pareLsas_any (A : Option Addr) (n c : Nat) (l : List La) (w : World) (h : Las w w.heap.size (.slice A n c) l) :
    Calls Try.prog 49 #[.slice A n c] w fun e w' => e = .returned (.bool (okLs l)) ∧ Below w.heap.size w w' := by
  obtain ⟨hl, hnc, hcm, _⟩ := las_len h
  unfold maxLen at hcm
  unfold okLs
  have hwl : win (l.length : Int) 8 = win (n : Int) 8 := by rw [hl]
  rw [hwl]
  clear hwl
  cases h3 : win (n : Int) 8
  · clear h hl
    go_enter Try.func49, Try.ntmps49
    go_wp2_with (go_at_call 24; refine (pwithin_any _ _ _).mono ?_; rintro e w' ⟨rfl, rfl⟩)
    go_ret
    exact ⟨rfl, Below.refl _ _⟩
  rw [Bool.true_and]
  have WI := fun (W : World) => pwithin_any (n : Int) 8 W
  rw [h3] at WI
  have HWI := Lib.hid WI; clear WI h3
  have HL := Lib.hid hl; clear hl
  have HS := Lib.hid h; clear h
  obtain ⟨z, hz⟩ : ∃ z, z = dbOk 0 l := ⟨_, rfl⟩
  rw [← hz]
  have HZ := Lib.hid hz; clear hz
  go_enter Try.func49, Try.ntmps49
  go_wp2_with (go_at_call 24; refine (HWI.out _).mono ?_; rintro e w' ⟨rfl, rfl⟩)
  go_loopw [3, 12] (fun s i wr => ∃ (k : Nat) (last : Int), k ≤ n ∧ i = .int .i64 k ∧ s = .int .i64 last ∧ z = dbOk last (l.drop k) ∧ Below w.heap.size w wr) (fun _ i _ => n - (intOf i).toNat)
  case atStart => exact ⟨0, 0, Nat.zero_le _, rfl, rfl, HZ.out, Below.refl _ _⟩
  case round =>
    obtain ⟨k, last, hk, rfl, rfl, hz, hbw⟩ := hrel
    have hws := hbw.size
    have HBW := Lib.hid hbw; clear hbw
    by_cases hlt : k < n
    · obtain ⟨b, off, rfl, hb, hc⟩ := las_at HS.out (by omega)
      obtain ⟨u, hr, hk2⟩ := hc k hlt
      have c0 := (HBW.out.cell (p := ⟨b, off + k * 3 + 0, none⟩) hb).trans (hr 0 _ rfl)
      have c1 := (HBW.out.cell (p := ⟨b, off + k * 3 + 1, none⟩) hb).trans (hr 1 _ rfl)
      have c2_ := (HBW.out.cell (p := ⟨b, off + k * 3 + 2, none⟩) hb).trans (hr 2 _ rfl)
      rw [Nat.add_zero] at c0
      rw [dbOk_step last l k (by have := HL.out; omega)] at hz
      clear hc hr
      generalize l.getD k zeroL = y at *
      obtain ⟨yo, ys, yl⟩ := y
      obtain ⟨Au, nu, cu, rfl, _⟩ := id hk2
      simp only at c0 c1 c2_ hz hk2
      have hb2 := low1 HBW.out (.cells #[.int .i64 yo, .int .i64 ys, .slice Au nu cu] 49)
      have ck := check_any yo ys Au nu cu yl _ ((hk2.below hb2 (Nat.le_refl _)).more hb2.size)
      have K2 := Lib.hid (Blk.new wr 49 #[.int .i64 yo, .int .i64 ys, .slice Au nu cu])
      have hlo : laOk ⟨yo, ys, yl⟩ = may yo ys yl := rfl
      rw [hlo] at hz
      have HB2 := Lib.hid hb2; clear hb2 hk2 hlo
      cases hm : may yo ys yl
      · rw [hm] at ck hz
        have CK := Lib.hid ck; clear ck
        have HZ2 := Lib.hid hz; clear hz
        go_wp2_with (go_at_call 63; refine (CK.out).mono ?_; rintro e w3 ⟨rfl, hb3⟩; have HB3 := Lib.hid (low_low HB2.out hb3); obtain ⟨x0, x1, x2, x3⟩ := blk_cells3 (K2.out.below hb3 K2.out.lt); clear hb3)
        go_ret
        exact ⟨ret_bool (by simp [HZ2.out]), HB3.out⟩
      · rw [hm] at ck hz
        have CK := Lib.hid ck; clear ck
        cases hd : decide (last < yo)
        · rw [hd] at hz
          have HZ2 := Lib.hid hz; clear hz
          have hd2 : decide (yo ≤ last) = true := by rw [decide_eq_false_iff_not] at hd; simpa using hd
          go_wp2_with (go_at_call 63; refine (CK.out).mono ?_; rintro e w3 ⟨rfl, hb3⟩; have HB3 := Lib.hid (low_low HB2.out hb3); obtain ⟨x0, x1, x2, x3⟩ := blk_cells3 (K2.out.below hb3 K2.out.lt); clear hb3)
          go_ret
          exact ⟨ret_bool (by simp [HZ2.out]), HB3.out⟩
        · rw [hd, Bool.true_and, Bool.true_and] at hz
          have HZ2 := Lib.hid hz; clear hz
          have hd2 : decide (yo ≤ last) = false := by rw [decide_eq_true_iff] at hd; simpa using hd
          go_wp2_with (go_at_call 63; refine (CK.out).mono ?_; rintro e w3 ⟨rfl, hb3⟩; have HB3 := Lib.hid (low_low HB2.out hb3); obtain ⟨x0, x1, x2, x3⟩ := blk_cells3 (K2.out.below hb3 K2.out.lt); clear hb3)
          go_roundw
          case rel => exact ⟨k + 1, yo, by omega, by go_num, rfl, HZ2.out, HB3.out⟩
          case measure => simp [intOf]; omega
    · obtain rfl : k = n := by omega
      rw [List.drop_eq_nil_of_le (by have := HL.out; omega)] at hz
      have HZ2 := Lib.hid hz; clear hz
      go_wp2
      go_ret
      exact ⟨ret_bool (by simp [HZ2.out, dbOk]), HBW.out⟩
/-- what a Kind asks -/
theorem ofK1 {p : Pk} (h : p.k = 1) : ofKind p = (okHd p.hd && nothing p.e p.te 0 p.it.length p.ls.length) := by simp [ofKind, h]
theorem ofK2 {p : Pk} (h : p.k = 2) : ofKind p = ((win p.e 1073741824 && itOk 0 p.it) && nothing 0 p.te p.hd.length 0 p.ls.length) := by simp [ofKind, h]
theorem ofK5 {p : Pk} (h : p.k = 5) : ofKind p = (itOk 0 p.it && nothing p.e p.te p.hd.length 0 p.ls.length) := by simp [ofKind, h]
theorem ofK3 {p : Pk} (h : p.k = 3) : ofKind p = ((win p.e 1073741824 && win p.te 1073741824) && nothing 0 0 p.hd.length p.it.length p.ls.length) := by simp [ofKind, h]
theorem ofK4 {p : Pk} (h : p.k = 4) : ofKind p = (okLs p.ls && nothing p.e p.te p.hd.length p.it.length 0) := by simp [ofKind, h]
theorem ofK0 {p : Pk} (h1 : p.k ≠ 1) (h2 : p.k ≠ 2) (h3 : p.k ≠ 3) (h4 : p.k ≠ 4) (h5 : p.k ≠ 5) : ofKind p = false := by simp [ofKind, h1, h2, h3, h4, h5]
set_option maxRecDepth 100000 in
set_option maxHeartbeats 8000000 in
theorem ofKind_one (p : Pk) (A1 A2 A3 : Option Addr) (n1 z1 n2 z2 n3 z3 : Nat) (w : World) (hk : p.k = 1) (h : PkM w w.heap.size (.slice A1 n1 z1) (.slice A2 n2 z2) (.slice A3 n3 z3) p) :
    Calls Try.prog 25 #[pkV p (.slice A1 n1 z1) (.slice A2 n2 z2) (.slice A3 n3 z3)] w fun e w' => e = .returned (.bool (ofKind p)) ∧ Below w.heap.size w w' := by
  rw [ofK1 hk]
  obtain ⟨h1, h2, h3⟩ := h
  have hl1 := (lks_len h1).1
  have hl2 := (lks_len h2).1
  have hl3 := (las_len h3).1
  rw [hl2, hl3]
  have no := fun (W : World) => nothing_any p none A2 A3 0 0 n2 z2 n3 z3 W
  simp only [pkV] at no ⊢
  rw [hk] at no ⊢
  generalize hz : nothing p.e p.te 0 n2 n3 = z at *
  clear hz
  have NO := Lib.hid no; clear no
  have HB0 := Lib.hid (low2 w (.cells #[.int .i64 1, .int .i64 p.f, .int .i64 p.b, .int .i64 p.t, .int .i64 p.tb, .int .i64 p.e, .int .i64 p.te, .slice A1 n1 z1, .slice A2 n2 z2, .slice A3 n3 z3] 26) (.cells #[.int .i64 1, .int .i64 p.f, .int .i64 p.b, .int .i64 p.t, .int .i64 p.tb, .int .i64 p.e, .int .i64 p.te, .slice none 0 0, .slice A2 n2 z2, .slice A3 n3 z3] 26))
  have K0 := Lib.hid (blk_second w (.cells #[.int .i64 1, .int .i64 p.f, .int .i64 p.b, .int .i64 p.t, .int .i64 p.tb, .int .i64 p.e, .int .i64 p.te, .slice A1 n1 z1, .slice A2 n2 z2, .slice A3 n3 z3] 26) 26 #[.int .i64 1, .int .i64 p.f, .int .i64 p.b, .int .i64 p.t, .int .i64 p.tb, .int .i64 p.e, .int .i64 p.te, .slice none 0 0, .slice A2 n2 z2, .slice A3 n3 z3])
  have ca := areHeard_any A1 n1 z1 p.hd _ (h1.up HB0.out)
  generalize hy : okHd p.hd = y at *
  clear hy
  have CA := Lib.hid ca; clear ca
  clear h1 h2 h3 hl1 hl2 hl3
  cases y
  · clear NO
    go_enter Try.func25, Try.ntmps25
    go_wp2_with (first
      | (go_at_call 47; refine (CA.out).mono ?_; rintro e w2 ⟨rfl, hb2⟩; obtain ⟨x0, x1, x2, x3, x4, x5, x6, x7, x8, x9, x10⟩ := blk_cells10 (K0.out.below hb2 K0.out.lt); have HB2 := Lib.hid (low_low HB0.out hb2); clear hb2))
    go_ret
    exact ⟨ret_bool (by simp), HB2.out⟩
  go_enter Try.func25, Try.ntmps25
  go_wp2_with (first
    | (go_at_call 47; refine (CA.out).mono ?_; rintro e w2 ⟨rfl, hb2⟩; obtain ⟨x0, x1, x2, x3, x4, x5, x6, x7, x8, x9, x10⟩ := blk_cells10 (K0.out.below hb2 K0.out.lt); have HB2 := Lib.hid (low_low HB0.out hb2); clear hb2)
    | (go_at_call 50; refine (NO.out _).mono ?_; rintro e w3 ⟨rfl, hb3⟩; have HB3 := Lib.hid (low_low HB2.out hb3); clear hb3))
  go_ret
  exact ⟨ret_bool (by simp), HB3.out⟩
set_option maxRecDepth 100000 in
set_option maxHeartbeats 8000000 in
theorem ofKind_two (p : Pk) (A1 A2 A3 : Option Addr) (n1 z1 n2 z2 n3 z3 : Nat) (w : World) (hk : p.k = 2) (h : PkM w w.heap.size (.slice A1 n1 z1) (.slice A2 n2 z2) (.slice A3 n3 z3) p) :
    Calls Try.prog 25 #[pkV p (.slice A1 n1 z1) (.slice A2 n2 z2) (.slice A3 n3 z3)] w fun e w' => e = .returned (.bool (ofKind p)) ∧ Below w.heap.size w w' := by
  rw [ofK2 hk]
  obtain ⟨h1, h2, h3⟩ := h
  have hl1 := (lks_len h1).1
  have hl2 := (lks_len h2).1
  have hl3 := (las_len h3).1
  rw [hl1, hl3]
  have no := fun (W : World) => nothing_any { p with e := 0 } A1 none A3 n1 z1 0 0 n3 z3 W
  simp only [pkV] at no ⊢
  rw [hk] at no ⊢
  generalize hz : nothing 0 p.te n1 0 n3 = z at *
  clear hz
  have NO := Lib.hid no; clear no
  have HB0 := Lib.hid (low2 w (.cells #[.int .i64 2, .int .i64 p.f, .int .i64 p.b, .int .i64 p.t, .int .i64 p.tb, .int .i64 p.e, .int .i64 p.te, .slice A1 n1 z1, .slice A2 n2 z2, .slice A3 n3 z3] 26) (.cells #[.int .i64 2, .int .i64 p.f, .int .i64 p.b, .int .i64 p.t, .int .i64 p.tb, .int .i64 0, .int .i64 p.te, .slice A1 n1 z1, .slice none 0 0, .slice A3 n3 z3] 26))
  have K0 := Lib.hid (blk_second w (.cells #[.int .i64 2, .int .i64 p.f, .int .i64 p.b, .int .i64 p.t, .int .i64 p.tb, .int .i64 p.e, .int .i64 p.te, .slice A1 n1 z1, .slice A2 n2 z2, .slice A3 n3 z3] 26) 26 #[.int .i64 2, .int .i64 p.f, .int .i64 p.b, .int .i64 p.t, .int .i64 p.tb, .int .i64 0, .int .i64 p.te, .slice A1 n1 z1, .slice none 0 0, .slice A3 n3 z3])
  have ca := areItems_any A2 n2 z2 p.it _ (h2.up HB0.out)
  generalize hy : itOk 0 p.it = y at *
  clear hy
  have CA := Lib.hid ca; clear ca
  clear h1 h2 h3 hl1 hl2 hl3
  cases q0 : win p.e 1073741824
  · clear NO
    go_enter Try.func25, Try.ntmps25
    go_wp2_with (go_at_call 24; refine (pwithin_any _ _ _).mono ?_; rintro e w' ⟨rfl, rfl⟩)
    go_ret
    exact ⟨ret_bool (by simp), HB0.out⟩
  cases y
  · clear NO
    go_enter Try.func25, Try.ntmps25
    go_wp2_with (first
      | (go_at_call 24; refine (pwithin_any _ _ _).mono ?_; rintro e w' ⟨rfl, rfl⟩)
      | (go_at_call 48; refine (CA.out).mono ?_; rintro e w2 ⟨rfl, hb2⟩; obtain ⟨x0, x1, x2, x3, x4, x5, x6, x7, x8, x9, x10⟩ := blk_cells10 (K0.out.below hb2 K0.out.lt); have HB2 := Lib.hid (low_low HB0.out hb2); clear hb2))
    go_ret
    exact ⟨ret_bool (by simp), HB2.out⟩
  go_enter Try.func25, Try.ntmps25
  go_wp2_with (first
    | (go_at_call 24; refine (pwithin_any _ _ _).mono ?_; rintro e w' ⟨rfl, rfl⟩)
    | (go_at_call 48; refine (CA.out).mono ?_; rintro e w2 ⟨rfl, hb2⟩; obtain ⟨x0, x1, x2, x3, x4, x5, x6, x7, x8, x9, x10⟩ := blk_cells10 (K0.out.below hb2 K0.out.lt); have HB2 := Lib.hid (low_low HB0.out hb2); clear hb2)
    | (go_at_call 50; refine (NO.out _).mono ?_; rintro e w3 ⟨rfl, hb3⟩; have HB3 := Lib.hid (low_low HB2.out hb3); clear hb3))
  go_ret
  exact ⟨ret_bool (by simp), HB3.out⟩
set_option maxRecDepth 100000 in
set_option maxHeartbeats 8000000 in
theorem ofKind_five (p : Pk) (A1 A2 A3 : Option Addr) (n1 z1 n2 z2 n3 z3 : Nat) (w : World) (hk : p.k = 5) (h : PkM w w.heap.size (.slice A1 n1 z1) (.slice A2 n2 z2) (.slice A3 n3 z3) p) :
    Calls Try.prog 25 #[pkV p (.slice A1 n1 z1) (.slice A2 n2 z2) (.slice A3 n3 z3)] w fun e w' => e = .returned (.bool (ofKind p)) ∧ Below w.heap.size w w' := by
  rw [ofK5 hk]
  obtain ⟨h1, h2, h3⟩ := h
  have hl1 := (lks_len h1).1
  have hl2 := (lks_len h2).1
  have hl3 := (las_len h3).1
  rw [hl1, hl3]
  have no := fun (W : World) => nothing_any p A1 none A3 n1 z1 0 0 n3 z3 W
  simp only [pkV] at no ⊢
  rw [hk] at no ⊢
  generalize hz : nothing p.e p.te n1 0 n3 = z at *
  clear hz
  have NO := Lib.hid no; clear no
  have HB0 := Lib.hid (low2 w (.cells #[.int .i64 5, .int .i64 p.f, .int .i64 p.b, .int .i64 p.t, .int .i64 p.tb, .int .i64 p.e, .int .i64 p.te, .slice A1 n1 z1, .slice A2 n2 z2, .slice A3 n3 z3] 26) (.cells #[.int .i64 5, .int .i64 p.f, .int .i64 p.b, .int .i64 p.t, .int .i64 p.tb, .int .i64 p.e, .int .i64 p.te, .slice A1 n1 z1, .slice none 0 0, .slice A3 n3 z3] 26))
  have K0 := Lib.hid (blk_second w (.cells #[.int .i64 5, .int .i64 p.f, .int .i64 p.b, .int .i64 p.t, .int .i64 p.tb, .int .i64 p.e, .int .i64 p.te, .slice A1 n1 z1, .slice A2 n2 z2, .slice A3 n3 z3] 26) 26 #[.int .i64 5, .int .i64 p.f, .int .i64 p.b, .int .i64 p.t, .int .i64 p.tb, .int .i64 p.e, .int .i64 p.te, .slice A1 n1 z1, .slice none 0 0, .slice A3 n3 z3])
  have ca := areItems_any A2 n2 z2 p.it _ (h2.up HB0.out)
  generalize hy : itOk 0 p.it = y at *
  clear hy
  have CA := Lib.hid ca; clear ca
  clear h1 h2 h3 hl1 hl2 hl3
  cases y
  · clear NO
    go_enter Try.func25, Try.ntmps25
    go_wp2_with (first
      | (go_at_call 48; refine (CA.out).mono ?_; rintro e w2 ⟨rfl, hb2⟩; obtain ⟨x0, x1, x2, x3, x4, x5, x6, x7, x8, x9, x10⟩ := blk_cells10 (K0.out.below hb2 K0.out.lt); have HB2 := Lib.hid (low_low HB0.out hb2); clear hb2))
    go_ret
    exact ⟨ret_bool (by simp), HB2.out⟩
  go_enter Try.func25, Try.ntmps25
  go_wp2_with (first
    | (go_at_call 48; refine (CA.out).mono ?_; rintro e w2 ⟨rfl, hb2⟩; obtain ⟨x0, x1, x2, x3, x4, x5, x6, x7, x8, x9, x10⟩ := blk_cells10 (K0.out.below hb2 K0.out.lt); have HB2 := Lib.hid (low_low HB0.out hb2); clear hb2)
    | (go_at_call 50; refine (NO.out _).mono ?_; rintro e w3 ⟨rfl, hb3⟩; have HB3 := Lib.hid (low_low HB2.out hb3); clear hb3))
  go_ret
  exact ⟨ret_bool (by simp), HB3.out⟩
set_option maxRecDepth 100000 in
set_option maxHeartbeats 8000000 in
theorem ofKind_three (p : Pk) (A1 A2 A3 : Option Addr) (n1 z1 n2 z2 n3 z3 : Nat) (w : World) (hk : p.k = 3) (h : PkM w w.heap.size (.slice A1 n1 z1) (.slice A2 n2 z2) (.slice A3 n3 z3) p) :
    Calls Try.prog 25 #[pkV p (.slice A1 n1 z1) (.slice A2 n2 z2) (.slice A3 n3 z3)] w fun e w' => e = .returned (.bool (ofKind p)) ∧ Below w.heap.size w w' := by
  rw [ofK3 hk]
  obtain ⟨h1, h2, h3⟩ := h
  have hl1 := (lks_len h1).1
  have hl2 := (lks_len h2).1
  have hl3 := (las_len h3).1
  rw [hl1, hl2, hl3]
  have no := fun (W : World) => nothing_any { p with e := 0, te := 0 } A1 A2 A3 n1 z1 n2 z2 n3 z3 W
  simp only [pkV] at no ⊢
  rw [hk] at no ⊢
  generalize hz : nothing 0 0 n1 n2 n3 = z at *
  clear hz
  have NO := Lib.hid no; clear no
  have HB0 := Lib.hid (low2 w (.cells #[.int .i64 3, .int .i64 p.f, .int .i64 p.b, .int .i64 p.t, .int .i64 p.tb, .int .i64 p.e, .int .i64 p.te, .slice A1 n1 z1, .slice A2 n2 z2, .slice A3 n3 z3] 26) (.cells #[.int .i64 3, .int .i64 p.f, .int .i64 p.b, .int .i64 p.t, .int .i64 p.tb, .int .i64 0, .int .i64 0, .slice A1 n1 z1, .slice A2 n2 z2, .slice A3 n3 z3] 26))
  have K0 := Lib.hid (blk_second w (.cells #[.int .i64 3, .int .i64 p.f, .int .i64 p.b, .int .i64 p.t, .int .i64 p.tb, .int .i64 p.e, .int .i64 p.te, .slice A1 n1 z1, .slice A2 n2 z2, .slice A3 n3 z3] 26) 26 #[.int .i64 3, .int .i64 p.f, .int .i64 p.b, .int .i64 p.t, .int .i64 p.tb, .int .i64 0, .int .i64 0, .slice A1 n1 z1, .slice A2 n2 z2, .slice A3 n3 z3])
  clear h1 h2 h3 hl1 hl2 hl3
  cases q0 : win p.e 1073741824
  · clear NO
    go_enter Try.func25, Try.ntmps25
    go_wp2_with (go_at_call 24; refine (pwithin_any _ _ _).mono ?_; rintro e w' ⟨rfl, rfl⟩)
    go_ret
    exact ⟨ret_bool (by simp), HB0.out⟩
  cases q1 : win p.te 1073741824
  · clear NO
    go_enter Try.func25, Try.ntmps25
    go_wp2_with (go_at_call 24; refine (pwithin_any _ _ _).mono ?_; rintro e w' ⟨rfl, rfl⟩)
    go_ret
    exact ⟨ret_bool (by simp), HB0.out⟩
  go_enter Try.func25, Try.ntmps25
  go_wp2_with (first
    | (go_at_call 24; refine (pwithin_any _ _ _).mono ?_; rintro e w' ⟨rfl, rfl⟩)
    | (go_at_call 24; refine (pwithin_any _ _ _).mono ?_; rintro e w' ⟨rfl, rfl⟩)
    | (go_at_call 50; refine (NO.out _).mono ?_; rintro e w3 ⟨rfl, hb3⟩; have HB3 := Lib.hid (low_low HB0.out hb3); clear hb3))
  go_ret
  exact ⟨ret_bool (by simp), HB3.out⟩
set_option maxRecDepth 100000 in
set_option maxHeartbeats 8000000 in
theorem ofKind_four (p : Pk) (A1 A2 A3 : Option Addr) (n1 z1 n2 z2 n3 z3 : Nat) (w : World) (hk : p.k = 4) (h : PkM w w.heap.size (.slice A1 n1 z1) (.slice A2 n2 z2) (.slice A3 n3 z3) p) :
    Calls Try.prog 25 #[pkV p (.slice A1 n1 z1) (.slice A2 n2 z2) (.slice A3 n3 z3)] w fun e w' => e = .returned (.bool (ofKind p)) ∧ Below w.heap.size w w' := by
  rw [ofK4 hk]
  obtain ⟨h1, h2, h3⟩ := h
  have hl1 := (lks_len h1).1
  have hl2 := (lks_len h2).1
  have hl3 := (las_len h3).1
  rw [hl1, hl2]
  have no := fun (W : World) => nothing_any p A1 A2 none n1 z1 n2 z2 0 0 W
  simp only [pkV] at no ⊢
  rw [hk] at no ⊢
  generalize hz : nothing p.e p.te n1 n2 0 = z at *
  clear hz
  have NO := Lib.hid no; clear no
  have HB0 := Lib.hid (low2 w (.cells #[.int .i64 4, .int .i64 p.f, .int .i64 p.b, .int .i64 p.t, .int .i64 p.tb, .int .i64 p.e, .int .i64 p.te, .slice A1 n1 z1, .slice A2 n2 z2, .slice A3 n3 z3] 26) (.cells #[.int .i64 4, .int .i64 p.f, .int .i64 p.b, .int .i64 p.t, .int .i64 p.tb, .int .i64 p.e, .int .i64 p.te, .slice A1 n1 z1, .slice A2 n2 z2, .slice none 0 0] 26))
  have K0 := Lib.hid (blk_second w (.cells #[.int .i64 4, .int .i64 p.f, .int .i64 p.b, .int .i64 p.t, .int .i64 p.tb, .int .i64 p.e, .int .i64 p.te, .slice A1 n1 z1, .slice A2 n2 z2, .slice A3 n3 z3] 26) 26 #[.int .i64 4, .int .i64 p.f, .int .i64 p.b, .int .i64 p.t, .int .i64 p.tb, .int .i64 p.e, .int .i64 p.te, .slice A1 n1 z1, .slice A2 n2 z2, .slice none 0 0])
  have ca := pareLsas_any A3 n3 z3 p.ls _ (h3.up HB0.out)
  generalize hy : okLs p.ls = y at *
  clear hy
  have CA := Lib.hid ca; clear ca
  clear h1 h2 h3 hl1 hl2 hl3
  cases y
  · clear NO
    go_enter Try.func25, Try.ntmps25
    go_wp2_with (first
      | (go_at_call 49; refine (CA.out).mono ?_; rintro e w2 ⟨rfl, hb2⟩; obtain ⟨x0, x1, x2, x3, x4, x5, x6, x7, x8, x9, x10⟩ := blk_cells10 (K0.out.below hb2 K0.out.lt); have HB2 := Lib.hid (low_low HB0.out hb2); clear hb2))
    go_ret
    exact ⟨ret_bool (by simp), HB2.out⟩
  go_enter Try.func25, Try.ntmps25
  go_wp2_with (first
    | (go_at_call 49; refine (CA.out).mono ?_; rintro e w2 ⟨rfl, hb2⟩; obtain ⟨x0, x1, x2, x3, x4, x5, x6, x7, x8, x9, x10⟩ := blk_cells10 (K0.out.below hb2 K0.out.lt); have HB2 := Lib.hid (low_low HB0.out hb2); clear hb2)
    | (go_at_call 50; refine (NO.out _).mono ?_; rintro e w3 ⟨rfl, hb3⟩; have HB3 := Lib.hid (low_low HB2.out hb3); clear hb3))
  go_ret
  exact ⟨ret_bool (by simp), HB3.out⟩
set_option maxRecDepth 100000 in
set_option maxHeartbeats 8000000 in
theorem ofKind_none (p : Pk) (A1 A2 A3 : Option Addr) (n1 z1 n2 z2 n3 z3 : Nat) (w : World) (k1 : p.k ≠ 1) (k2 : p.k ≠ 2) (k3 : p.k ≠ 3) (k4 : p.k ≠ 4) (k5 : p.k ≠ 5) :
    Calls Try.prog 25 #[pkV p (.slice A1 n1 z1) (.slice A2 n2 z2) (.slice A3 n3 z3)] w fun e w' => e = .returned (.bool (ofKind p)) ∧ Below w.heap.size w w' := by
  rw [ofK0 k1 k2 k3 k4 k5]
  have d1 : (p.k == 1) = false := beq_false_of_ne k1
  have d2 : (p.k == 2) = false := beq_false_of_ne k2
  have d3 : (p.k == 3) = false := beq_false_of_ne k3
  have d4 : (p.k == 4) = false := beq_false_of_ne k4
  have d5 : (p.k == 5) = false := beq_false_of_ne k5
  clear k1 k2 k3 k4 k5
  go_enter Try.func25, Try.ntmps25
  go_wp2
  go_ret
  exact ⟨rfl, low2 _ _ _⟩
theorem ofKind_any (p : Pk) (A1 A2 A3 : Option Addr) (n1 z1 n2 z2 n3 z3 : Nat) (w : World) (h : PkM w w.heap.size (.slice A1 n1 z1) (.slice A2 n2 z2) (.slice A3 n3 z3) p) :
    Calls Try.prog 25 #[pkV p (.slice A1 n1 z1) (.slice A2 n2 z2) (.slice A3 n3 z3)] w fun e w' => e = .returned (.bool (ofKind p)) ∧ Below w.heap.size w w' := by
  by_cases k1 : p.k = 1
  · exact ofKind_one p A1 A2 A3 n1 z1 n2 z2 n3 z3 w k1 h
  by_cases k2 : p.k = 2
  · exact ofKind_two p A1 A2 A3 n1 z1 n2 z2 n3 z3 w k2 h
  by_cases k3 : p.k = 3
  · exact ofKind_three p A1 A2 A3 n1 z1 n2 z2 n3 z3 w k3 h
  by_cases k4 : p.k = 4
  · exact ofKind_four p A1 A2 A3 n1 z1 n2 z2 n3 z3 w k4 h
  by_cases k5 : p.k = 5
  · exact ofKind_five p A1 A2 A3 n1 z1 n2 z2 n3 z3 w k5 h
  exact ofKind_none p A1 A2 A3 n1 z1 n2 z2 n3 z3 w k1 k2 k3 k4 k5
theorem ends_or (p : Pk) : ends p = (win p.f 64 && (win p.t 64 && (!(p.f == p.t) && (win p.b 1073741824 && ((p.tb == 0) || win p.tb 1073741824))))) := by
  rw [Bool.eq_iff_iff, ends_iff]
  simp [win]
  omega
set_option maxRecDepth 100000 in
set_option maxHeartbeats 8000000 in
theorem pcheck_any (p : Pk) (A1 A2 A3 : Option Addr) (n1 z1 n2 z2 n3 z3 : Nat) (w : World) (h : PkM w w.heap.size (.slice A1 n1 z1) (.slice A2 n2 z2) (.slice A3 n3 z3) p) :
    Calls Try.prog 9 #[pkV p (.slice A1 n1 z1) (.slice A2 n2 z2) (.slice A3 n3 z3)] w fun e w' => e = .returned (.int .i64 (errI (mayP p))) ∧ Below w.heap.size w w' := by
  rw [may_ofKind, ends_or]
  have HB := Lib.hid (low1 (Below.refl w.heap.size w) (.cells (pkC p (.slice A1 n1 z1) (.slice A2 n2 z2) (.slice A3 n3 z3)) 26))
  have ok := ofKind_any p A1 A2 A3 n1 z1 n2 z2 n3 z3 _ (h.up HB.out)
  generalize ofKind p = z at *
  have OK := Lib.hid ok; clear ok h
  cases q0 : win p.f 64
  · go_enter Try.func9, Try.ntmps9
    go_wp2_with (go_at_call 24; refine (pwithin_any _ _ _).mono ?_; rintro e w' ⟨rfl, rfl⟩)
    go_ret
    exact ⟨rfl, HB.out⟩
  cases q1 : win p.t 64
  · go_enter Try.func9, Try.ntmps9
    go_wp2_with (go_at_call 24; refine (pwithin_any _ _ _).mono ?_; rintro e w' ⟨rfl, rfl⟩)
    go_ret
    exact ⟨rfl, HB.out⟩
  cases q2 : (p.f == p.t)
  case true =>
    go_enter Try.func9, Try.ntmps9
    go_wp2_with (go_at_call 24; refine (pwithin_any _ _ _).mono ?_; rintro e w' ⟨rfl, rfl⟩)
    go_ret
    exact ⟨rfl, HB.out⟩
  cases q3 : win p.b 1073741824
  · go_enter Try.func9, Try.ntmps9
    go_wp2_with (go_at_call 24; refine (pwithin_any _ _ _).mono ?_; rintro e w' ⟨rfl, rfl⟩)
    go_ret
    exact ⟨rfl, HB.out⟩
  cases q4 : (p.tb == 0)
  · have q4' : (p.tb != 0) = true := by rw [bne, q4]; rfl
    cases q5 : win p.tb 1073741824
    · go_enter Try.func9, Try.ntmps9
      go_wp2_with (go_at_call 24; refine (pwithin_any _ _ _).mono ?_; rintro e w' ⟨rfl, rfl⟩)
      go_ret
      exact ⟨rfl, HB.out⟩
    cases z
    all_goals
      go_enter Try.func9, Try.ntmps9
      go_wp2_with (first
        | (go_at_call 24; refine (pwithin_any _ _ _).mono ?_; rintro e w' ⟨rfl, rfl⟩)
        | (go_at_call 25; refine (OK.out).mono ?_; rintro e w2 ⟨rfl, hb2⟩; have HB2 := Lib.hid (low_low HB.out hb2); clear hb2))
      go_ret
      exact ⟨rfl, HB2.out⟩
  · have q4' : (p.tb != 0) = false := by rw [bne, q4]; rfl
    cases z
    all_goals
      go_enter Try.func9, Try.ntmps9
      go_wp2_with (first
        | (go_at_call 24; refine (pwithin_any _ _ _).mono ?_; rintro e w' ⟨rfl, rfl⟩)
        | (go_at_call 25; refine (OK.out).mono ?_; rintro e w2 ⟨rfl, hb2⟩; have HB2 := Lib.hid (low_low HB.out hb2); clear hb2))
      go_ret
      exact ⟨rfl, HB2.out⟩
end Go.Proofs.Ytpolpppnajfhdaa.Pkt
