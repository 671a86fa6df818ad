/- A log turns (layer 8): the contract of the wal's Turn. -/
import Derived.Test.YtddhkajcakndlaaWalActs
namespace Go.Proofs.Ytddhkajcakndlaa.Wl
open Go.RowKit Go.Proofs.Ytddhkajcakndlaa.Mem Go.Proofs.Ytddhkajcakndlaa.Pg Go.Proofs.Ytddhkajcakndlaa.Rcd Go.Proofs.Ytddhkajcakndlaa.Slt
open Go.Proofs.Ytddhkajcakndlaa.Dsk (KeptBut SMap DiskAt St ptr kept_of_below kept_of_grown kept_drew)
open Go.Proofs.Ytddhkajcakndlaa.Plt (sl plV sl_le sl_pos)
set_option linter.unusedVariables false
set_option linter.unusedSimpArgs false
section
variable (x g bs bw k : Nat) (s : St) (v : Wn) (A : Option Addr) (n c : Nat) (b : List Nat) (w : World)
set_option maxHeartbeats 2000000 in
theorem turn_br (hw : WalAt w x g k v) (hd : DiskAt w g bs bw s) (hbr : v.br = true) : Calls Try.prog 8 #[ptr x, .slice A n c] w (ActOut w x g bs bw k (turnP k s v b)) := by
  have C := broken_any x g k v w hw
  rw [hbr] at C
  have C := Lib.hid C
  have ho : ActOut w x g bs bw k (turnP k s v b) (.returned (.int .i64 6)) w := by
    unfold turnP
    rw [if_pos hbr]
    exact ⟨rfl, hw, hd, KeptBut.refl _ _⟩
  have HO := Lib.hid ho; clear ho hw hd hbr
  go_enter Try.func8, Try.ntmps8
  go_wp2_with (go_at_call 15; refine (C.out).mono ?_; rintro e w' ⟨rfl, rfl⟩)
  go_ret
  exact HO.out
set_option maxHeartbeats 2000000 in
theorem turn_big (hw : WalAt w x g k v) (hd : DiskAt w g bs bw s) (hbr : v.br = false) (hbn : b.length = n) (hn : n ≤ 7808) (hp : sl k < parts n) : Calls Try.prog 8 #[ptr x, .slice A n c] w (ActOut w x g bs bw k (turnP k s v b)) := by
  have C := broken_any x g k v w hw
  rw [hbr] at C
  have C := Lib.hid C
  have p := fun (W : World) => parts_any (n : Int) W
  rw [partsI_nat] at p
  have P := Lib.hid p; clear p
  have c1 := hw.c1
  have hx := hw.lt
  have h1 := parts_pos hn
  have ho : ActOut w x g bs bw k (turnP k s v b) (.returned (.int .i64 5)) w := by
    unfold turnP
    rw [if_neg (by rw [hbr]; simp), if_pos (by rw [hbn]; exact hp)]
    exact ⟨rfl, hw, hd, KeptBut.refl _ _⟩
  have HO := Lib.hid ho; clear ho hw hd hbr hbn
  generalize parts n = m at *
  generalize sl k = l at *
  have hd1 : ((m : Int) == 0) = false := by rw [beq_eq_false_iff_ne]; omega
  have hd2 : decide (l < m) = true := by simpa using hp
  go_enter Try.func8, Try.ntmps8
  go_wp2_with (first
    | (go_at_call 15; refine (C.out).mono ?_; rintro e w' ⟨rfl, rfl⟩)
    | (go_at_call 28; refine (P.out _).mono ?_; rintro e w' ⟨rfl, rfl⟩))
  go_ret
  exact HO.out
set_option maxHeartbeats 2000000 in
theorem turn_full (hw : WalAt w x g k v) (hd : DiskAt w g bs bw s) (hbr : v.br = false) (hbn : b.length = n) (hn : n ≤ 7808) (hp : ¬ sl k < parts n) (hg : v.gen = 2147483648) : Calls Try.prog 8 #[ptr x, .slice A n c] w (ActOut w x g bs bw k (turnP k s v b)) := by
  have C := broken_any x g k v w hw
  rw [hbr] at C
  have C := Lib.hid C
  have p := fun (W : World) => parts_any (n : Int) W
  rw [partsI_nat] at p
  have P := Lib.hid p; clear p
  have c1 := hw.c1
  have c4 := hw.c4
  rw [hg] at c4
  have hx := hw.lt
  have h1 := parts_pos hn
  have ho : ActOut w x g bs bw k (turnP k s v b) (.returned (.int .i64 4)) w := by
    unfold turnP
    rw [if_neg (by rw [hbr]; simp), if_neg (by rw [hbn]; exact hp), if_pos hg]
    exact ⟨rfl, hw, hd, KeptBut.refl _ _⟩
  have HO := Lib.hid ho; clear ho hw hd hbr hbn hg
  generalize parts n = m at *
  generalize sl k = l at *
  have hd1 : ((m : Int) == 0) = false := by rw [beq_eq_false_iff_ne]; omega
  have hd2 : decide (l < m) = false := by simpa using hp
  go_enter Try.func8, Try.ntmps8
  go_wp2_with (first
    | (go_at_call 15; refine (C.out).mono ?_; rintro e w' ⟨rfl, rfl⟩)
    | (go_at_call 28; refine (P.out _).mono ?_; rintro e w' ⟨rfl, rfl⟩))
  go_ret
  exact HO.out
set_option maxRecDepth 20000 in
set_option maxHeartbeats 4000000 in
theorem turn_goes (hw : WalAt w x g k v) (hd : DiskAt w g bs bw s) (hk1 : 6 ≤ k) (hk2 : k ≤ 1000) (hv : WnOk k v) (hbr : v.br = false) (hb : Sl w w.heap.size (.slice A n c) b) (hbn : b.length = n) (hn : n ≤ 7808) (hp : ¬ sl k < parts n) (hg : v.gen ≠ 2147483648) :
    Calls Try.prog 8 #[ptr x, .slice A n c] w (ActOut w x g bs bw k (turnP k s v b)) := by
  obtain ⟨hg0, hg1, hm0, hm1, hnx⟩ := hv
  have C := broken_any x g k v w hw
  rw [hbr] at C
  have C := Lib.hid C
  have p := fun (W : World) => parts_any (n : Int) W
  rw [partsI_nat] at p
  have P := Lib.hid p; clear p
  have c1 := hw.c1
  have c4 := hw.c4
  have hx := hw.lt
  have h1 := parts_pos hn
  have ly := fun (W : World) (hW : Below w.heap.size w W) => lay_any x g bs bw k s v (v.gen + 1) A n c b W (hw.up hW) (hd.below hW) hk1 hk2 (by omega) (by omega) (sl_up hb hW) hbn (err_ok (by omega) ⟨hm0, hm1⟩ (by omega) (by rw [hbn]; omega))
  have e0 : turnP k s v b = ((writes s (slotAt (sl k) (v.gen + 1)) (secL (bP (v.gen + 1) v.mark) b)).1, (if (writes s (slotAt (sl k) (v.gen + 1)) (secL (bP (v.gen + 1) v.mark) b)).2 = 0 then ⟨v.gen + 1, v.mark, 0, false⟩ else ⟨v.gen, v.mark, v.next, true⟩), (writes s (slotAt (sl k) (v.gen + 1)) (secL (bP (v.gen + 1) v.mark) b)).2) := by
    unfold turnP
    rw [if_neg (by rw [hbr]; simp), if_neg (by rw [hbn]; exact hp), if_neg hg]
  obtain ⟨R, hR⟩ : ∃ R, R = writes s (slotAt (sl k) (v.gen + 1)) (secL (bP (v.gen + 1) v.mark) b) := ⟨_, rfl⟩
  rw [← hR] at ly e0
  obtain ⟨s', e'⟩ := R
  simp only at ly e0
  have HO : Hid (∀ (w' : World) (v' : Wn), v' = (if e' = 0 then ⟨v.gen + 1, v.mark, 0, false⟩ else ⟨v.gen, v.mark, v.next, true⟩) → WalAt w' x g k v' → DiskAt w' g bs bw s' → KeptBut w w' [x, g, bs, bw] → ActOut w x g bs bw k (turnP k s v b) (.returned (.int .i64 e')) w') := Lib.hid (fun w' v' h1 h2 h3 h4 => by
    subst h1
    rw [e0]
    exact ⟨rfl, h2, h3, h4⟩)
  have kb := Blk.new w 52 #[.int .i64 (v.gen + 1), .slice A n c]
  have HB0 := Lib.hid (palloc (Below.refl w.heap.size w) (.cells #[.int .i64 (v.gen + 1), .slice A n c] 52))
  have KB := Lib.hid kb; clear kb
  have LY := Lib.hid ly; clear ly
  obtain ⟨n1, n2, n3⟩ := wal_ne hw hd
  have hlt := hd.lt
  have HSEP := Lib.hid (show w.heap.size ∉ [x, g, bs, bw] by simp; omega)
  have hbw : ({ v with br := false } : Wn) = v := by obtain ⟨a, b', c', d⟩ := v; simp only at hbr; rw [hbr]
  have HV := Lib.hid (show (v.brk 0) = v by rw [brk_0]; exact hbw)
  have HLT := Lib.hid hlt; clear hlt
  clear hw hd hbn e0 hR hbw hb
  have hgf : (v.gen == 2147483648) = false := by rw [beq_eq_false_iff_ne]; exact hg
  clear hg
  generalize parts n = m at *
  generalize hll : sl k = l at *
  clear hll
  have hd1 : ((m : Int) == 0) = false := by rw [beq_eq_false_iff_ne]; omega
  have hd2 : decide (l < m) = false := by simpa using hp
  by_cases he : e' = 0
  · subst he
    simp only [if_pos] at HO
    rw [HV.out] at LY
    obtain ⟨gen, mark, next, br⟩ := v
    simp only at c4 LY HO HV hg0 hg1 hgf HB0 KB hm0 hm1 hnx ⊢
    clear HV
    go_enter Try.func8, Try.ntmps8
    go_wp2_with (first
      | (go_at_call 15; refine (C.out).mono ?_; rintro e w' ⟨rfl, rfl⟩)
      | (go_at_call 28; refine (P.out _).mono ?_; rintro e w' ⟨rfl, rfl⟩)
      | (go_at_call 29; refine (LY.out _ HB0.out).mono ?_; rintro e w2 ⟨rfl, hw2, hd2, hk2⟩; have kb2 := hk2.blk KB.out HSEP.out; have q0 := kb2.cell 0; have q2 := kb2.lt; simp at q0; have d4 := hw2.c4; have d6 := hw2.c6; have f4 := hw2.fz 4; have f6 := hw2.fz 6; have hx2 := hw2.lt; have HW2 := Lib.hid hw2; have HD2 := Lib.hid hd2; have HK2 := Lib.hid ((kept_of_below (S := [x, g, bs, bw]) HB0.out (Nat.le_refl _)).trans hk2); have hwx : w.heap.size ≠ x := (by have := HSEP.out; simp at this; omega); clear hw2 hd2 hk2 kb2))
    go_ret
    have hw3 := HW2.out.set_gen (gen + 1)
    have hw4 := hw3.set_next 0
    have hd3 := DiskAt.set_far (i := 4) HD2.out (.int .i64 (gen + 1)) n1 n2 n3
    have hd4 := DiskAt.set_far (i := 6) hd3 (.int .i64 0) n1 n2 n3
    have hk3 := HK2.out.trans ((kept_set1 (x := x) (i := 4) (.int .i64 (gen + 1))).more (fun y hy => by simp at hy; simp [hy]))
    have hk4 := hk3.trans ((kept_set1 (x := x) (i := 6) (.int .i64 0)).more (fun y hy => by simp at hy; simp [hy]))
    subst hbr
    exact HO.out _ _ rfl hw4 hd4 hk4
  · have hne : (e' != 0) = true := bne_iff_ne.2 he
    simp only [if_neg he] at HO
    have hbv := brk_n v he
    rw [hbv] at LY
    clear HV he hbv
    obtain ⟨gen, mark, next, br⟩ := v
    simp only at c4 LY HO hg0 hg1 hgf HB0 KB hm0 hm1 hnx ⊢
    go_enter Try.func8, Try.ntmps8
    go_wp2_with (first
      | (go_at_call 15; refine (C.out).mono ?_; rintro e w' ⟨rfl, rfl⟩)
      | (go_at_call 28; refine (P.out _).mono ?_; rintro e w' ⟨rfl, rfl⟩)
      | (go_at_call 29; refine (LY.out _ HB0.out).mono ?_; rintro e w2 ⟨rfl, hw2, hd2, hk2⟩; have HW2 := Lib.hid hw2; have HD2 := Lib.hid hd2; have HK2 := Lib.hid ((kept_of_below (S := [x, g, bs, bw]) HB0.out (Nat.le_refl _)).trans hk2); clear hw2 hd2 hk2))
    go_ret
    exact HO.out _ _ rfl HW2.out HD2.out HK2.out
theorem turn_any (hw : WalAt w x g k v) (hd : DiskAt w g bs bw s) (hk1 : 6 ≤ k) (hk2 : k ≤ 1000) (hv : WnOk k v) (hb : Sl w w.heap.size (.slice A n c) b) (hbn : b.length = n) (hn : n ≤ 7808) :
    Calls Try.prog 8 #[ptr x, .slice A n c] w (ActOut w x g bs bw k (turnP k s v b)) := by
  cases hbr : v.br with
  | true => exact turn_br x g bs bw k s v A n c b w hw hd hbr
  | false =>
    by_cases hp : sl k < parts n
    · exact turn_big x g bs bw k s v A n c b w hw hd hbr hbn hn hp
    · by_cases hg : v.gen = 2147483648
      · exact turn_full x g bs bw k s v A n c b w hw hd hbr hbn hn hp hg
      · exact turn_goes x g bs bw k s v A n c b w hw hd hk1 hk2 hv hbr hb hbn hn hp hg
end
end Go.Proofs.Ytddhkajcakndlaa.Wl
