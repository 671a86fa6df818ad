/- The law's own awake (layer 8), and how a log is opened, told plainly. -/
import Derived.Test.YtddhkajcakndlaaCrash
import Derived.Test.YtddhkajcakndlaaWalCommit
import Derived.Test.YtddhkajcakndlaaWalOpened
import Derived.Test.YtddhkajcakndlaaWalReady
import Derived.Test.YtddhkajcakndlaaWalTurn
namespace Go.Proofs.Ytddhkajcakndlaa.Wl
open Go.RowKit Go.Proofs.Ytddhkajcakndlaa.Mem Go.Proofs.Ytddhkajcakndlaa.Pg Go.Proofs.Ytddhkajcakndlaa.Rcd Go.Proofs.Ytddhkajcakndlaa.Slt
open Go.Proofs.Ytddhkajcakndlaa.Dsk (KeptBut SMap DiskAt St ptr kept_of_below kept_of_grown kept_drew IsSec NoneAt TearsAt)
open Go.Proofs.Ytddhkajcakndlaa.Plt (sl plV sl_le sl_pos)
set_option linter.unusedVariables false
set_option linter.unusedSimpArgs false
/-- a log is opened -/
def YesOut (w : World) (g bs bw k : Nat) (s1 : St) (v : Wn) (b : List Nat) (recs : List (List Nat)) (e : Ending) (w' : World) : Prop := ∃ (x : Nat) (A : Option Addr) (n c : Nat) (A2 : Option Addr) (n2 c2 : Nat), e = .returned (.tuple #[ptr x, .slice A n c, .slice A2 n2 c2, .int .i64 0]) ∧ b.length = n ∧ recs.length = n2 ∧
  Bts w' w'.heap.size A n b ∧ Sls w' w'.heap.size (.slice A2 n2 c2) recs ∧ DiskAt w' g bs bw s1 ∧ WalAt w' x g k v ∧ w.heap.size ≤ x ∧ KeptBut w w' [g, bs, bw]
theorem open_yes {g bs bw : Nat} {s s1 : St} {w : World} {v : Wn} {b : List Nat} {recs : List (List Nat)} (h : DiskAt w g bs bw s) (hn : s.n ≤ 1000) (ho : openP s = ⟨s1, some v, b, recs, 0⟩) :
    Calls Try.prog 6 #[ptr g] w (YesOut w g bs bw s.n s1 v b recs) := by
  refine (open_any g bs bw s w h hn).mono ?_
  rintro e w' ⟨vw, A, n, c, vr, h1, h2, h3, h4, h5, h6, h7⟩
  rw [ho] at h1 h2 h4 h5 h7
  obtain ⟨x, rfl, hx, hw⟩ := h7 v rfl
  obtain ⟨A2, n2, c2, rfl, hl, _⟩ := id h5
  exact ⟨x, A, n, c, A2, n2, c2, h1, h4.1, hl, h4, h5, h2, hw, hx, h3⟩
theorem open_no {g bs bw : Nat} {s s1 : St} {w : World} {er : Int} (h : DiskAt w g bs bw s) (hn : s.n ≤ 1000) (ho : openP s = ⟨s1, none, [], [], er⟩) :
    Calls Try.prog 6 #[ptr g] w fun e w' => ∃ A c A2 c2, e = .returned (.tuple #[.pointer none, .slice A 0 c, .slice A2 0 c2, .int .i64 er]) ∧ DiskAt w' g bs bw s1 ∧ KeptBut w w' [g, bs, bw] := by
  refine (open_any g bs bw s w h hn).mono ?_
  rintro e w' ⟨vw, A, n, c, vr, h1, h2, h3, h4, h5, h6, h7⟩
  rw [ho] at h1 h2 h4 h5 h6
  have h8 := h6 rfl
  subst h8
  obtain ⟨A2, n2, c2, rfl, hl, _⟩ := id h5
  have e1 : n = 0 := h4.1.symm
  have e2 : n2 = 0 := hl.symm
  subst e1 e2
  exact ⟨A, c, A2, c2, h1, h2, h3⟩
/-- a crash that loses all that waits -/
theorem crashed_nil (s : St) : Crashed s (s.crash []) := by
  have e : (s.crash []).fs = s.fs := by unfold St.crash; simp [St.tears]
  have en : (s.crash []).n = s.n := by unfold St.crash; simp [St.tears]
  have eg : ∀ i, (s.crash []).get i = (s.fs i).getD Dsk.noughts := fun i => by
    unfold St.get
    rw [e]
    rfl
  exact ⟨en, rfl, fun _ => rfl, fun i _ => eg i, fun i y _ => .inr (.inl (eg i))⟩
theorem sl20 : sl 20 = 5 := rfl
theorem lg20 : lg 20 = 10 := rfl
theorem awake_pure : ∃ (s1 s2 : St) (mk : Int), openP (Dsk.St.new 20) = ⟨s1, some ⟨1, 1, 0, false⟩, [], [], 0⟩ ∧ s1.n = 20 ∧ commitP 20 s1 ⟨1, 1, 0, false⟩ [7] = (s2, ⟨1, 1, 1, false⟩, 0) ∧ (s2.crash []).n = 20 ∧
    openP (s2.crash []) = ⟨s2.crash [], some ⟨1, mk, 1, false⟩, [], [[7]], 0⟩ := by
  obtain ⟨s1, h1, h2, h3, h4⟩ := open_fresh 20 (by omega)
  have hp : parts ([7] : List Nat).length = 1 := by decide
  rcases commit_ready (k := 20) (b := [7]) h4 (by decide) (by omega) (by omega) (by decide) with ⟨c1, _⟩ | ⟨s2, c1, c2, c3, _⟩ | ⟨s2, c1, c2, c3, c4, _⟩
  · rw [hp, lg20] at c1
    omega
  · rw [hp] at c1 c2
    have hc := crashed_nil s2
    obtain ⟨r1, r2⟩ := crash_calm c2 hc (by omega)
    have hn : (s2.crash []).n = 20 := by rw [hc.n, c3, h2]
    refine ⟨s1, s2, openMark (s2.crash []), h1, h2, c1, hn, ?_⟩
    have := openP_ready (s := s2.crash []) (by rw [hn]; exact r1) (by omega) (by omega)
    exact this
  · omega
theorem lit7 (W : World) : Sl (W.alloc (.cells #[.int .u8 7] 5)) (W.alloc (.cells #[.int .u8 7] 5)).heap.size (.slice (some ⟨W.heap.size, 0, none⟩) 1 1) [7] :=
  sl_own (World.ownsRow_lit W #[.int .u8 7] 1 (Nat.le_refl _) (by unfold maxLen; omega) rfl : (W.alloc (.cells #[.int .u8 7] 5)).ownsRow W.heap.size 5 1 (.slice (some ⟨W.heap.size, 0, none⟩) 1 1) 1 (vals [7])) (by simp) (by omega)
theorem kept_low {w w1 w2 : World} {S : List Nat} (hb : Below w.heap.size w w1) (hk : KeptBut w1 w2 S) (hS : ∀ g ∈ S, w.heap.size ≤ g) : Below w.heap.size w w2 := hb.trans (hk.below hS hb.size)
set_option maxRecDepth 20000 in
set_option maxHeartbeats 8000000 in
theorem awake8_any (w : World) : Calls Try.prog 5 #[] w fun e w' => e = .returned (.bool true) ∧ Below w.heap.size w w' := by
  obtain ⟨s1, s2, mk, p1, p2, p3, p4, p5⟩ := awake_pure
  have nw := Dsk.new_ok 20 w (by omega) (by omega)
  have o1 := fun (g bs bw : Nat) (W : World) (h : DiskAt W g bs bw (Dsk.St.new 20)) => open_yes h (by show 20 ≤ 1000; omega) p1
  have cm := fun (x g bs bw : Nat) (W : World) (h1 : WalAt W x g 20 ⟨1, 1, 0, false⟩) (h2 : DiskAt W g bs bw s1) => commit_any x g bs bw 20 s1 ⟨1, 1, 0, false⟩ (some ⟨W.heap.size, 0, none⟩) 1 1 [7] (W.alloc (.cells #[.int .u8 7] 5)) (h1.up (palloc (Below.refl _ _) _)) (h2.below (palloc (Below.refl _ _) _)) (by omega) (by omega) ⟨by simp, by simp, by simp, by simp, by simp⟩ (lit7 W) rfl (by omega)
  rw [p3] at cm
  have cr := fun (g bs bw : Nat) (W : World) (h : DiskAt W g bs bw s2) => Dsk.crash_any g bs bw 0 s2 (.slice none 0 0) [] W h (Dsk.tears_nil W 0) (fun _ _ => Nat.zero_le _)
  have o2 := fun (g bs bw : Nat) (W : World) (h : DiskAt W g bs bw (s2.crash [])) => open_yes h (by rw [p4]; omega) p5
  rw [p4] at o2
  have e20 : (Dsk.St.new 20).n = 20 := rfl
  rw [e20] at o1
  have f1 := fun (x g : Nat) (W : World) (h : WalAt W x g 20 ⟨1, 1, 0, false⟩) => gen_any x g 20 _ W h
  have f2 := fun (x g : Nat) (W : World) (h : WalAt W x g 20 ⟨1, 1, 0, false⟩) => free_any x g 20 _ W h (by omega) (by simp)
  have f3 := fun (x g : Nat) (W : World) (h : WalAt W x g 20 ⟨1, 1, 0, false⟩) => room_any x g 20 _ W h
  have f4 := fun (x g : Nat) (W : World) (h : WalAt W x g 20 ⟨1, mk, 1, false⟩) => free_any x g 20 _ W h (by omega) (by simp)
  rw [lg20] at f2 f4
  rw [sl20] at f3
  simp only at f1
  have e10 : ((10 : Nat) : Int) - ((0 : Nat) : Int) = 10 := rfl
  have e9 : ((10 : Nat) : Int) - ((1 : Nat) : Int) = 9 := rfl
  have e5 : ((5 : Nat) : Int) = 5 := rfl
  simp only [e10] at f2
  simp only [e9] at f4
  simp only [e5] at f3
  have e20' : ((20 : Nat) : Int) = 20 := rfl
  rw [e20'] at nw
  have NW := Lib.hid nw; clear nw
  have O1 := Lib.hid o1; clear o1
  have CM := Lib.hid cm; clear cm
  have CR := Lib.hid cr; clear cr
  have O2 := Lib.hid o2; clear o2
  have F1 := Lib.hid f1; clear f1
  have F2 := Lib.hid f2; clear f2
  have F3 := Lib.hid f3; clear f3
  have F4 := Lib.hid f4; clear f4
  have HM0 := Lib.hid (rfl : (0 : Nat) = 0)
  clear p1 p2 p3 p4 p5 e10 e9 e5 e20 e20'
  go_enter Try.func5, Try.ntmps5
  go_wp2_with (first
    | (go_at_call 4; refine (NW.out).mono ?_; rintro e w1 ⟨g, bs, bw, rfl, hd, hb, hge⟩; have HD1 := Lib.hid hd; have HB1 := Lib.hid hb; have HGE := Lib.hid hge; clear hd hb hge)
    | (have HM1 := HM0; go_at_call 6; refine (O1.out g bs bw _ HD1.out).mono ?_; rintro e w2 ⟨x, A, n, c, A2, n2, c2, rfl, hn, hn2, hbt, hs, hd, hw, hx, hk⟩; obtain rfl : n = 0 := hn.symm; obtain rfl : n2 = 0 := hn2.symm; clear HM0; have HM2 := HM1; clear HM1; have HW2 := Lib.hid hw; have HD2 := Lib.hid hd; have HX := Lib.hid (Nat.le_trans HB1.out.size hx); have HB2 := Lib.hid (kept_low HB1.out hk HGE.out); clear hn hn2 hbt hs hd hw hx hk)
    | (go_at_call 12; refine (F1.out x g _ HW2.out).mono ?_; rintro e w' ⟨rfl, rfl⟩)
    | (have HM3 := HM2; go_at_call 13; refine (F2.out x g _ HW2.out).mono ?_; rintro e w3 ⟨rfl, q, hq⟩; clear HM3; have hb3 : Below w2.heap.size w2 w3 := (by rw [hq]; exact below_drewN (Below.refl _ _) q); have HW3 := Lib.hid (HW2.out.up hb3); have HD3 := Lib.hid (HD2.out.below hb3); have HB3 := Lib.hid (HB2.out.trans (hb3.mono HB2.out.size)); clear hb3 hq)
    | (go_at_call 14; refine (F3.out x g _ HW3.out).mono ?_; rintro e w' ⟨rfl, rfl⟩)
    | (go_at_call 7; refine (CM.out x g bs bw _ HW3.out HD3.out).mono ?_; rintro e w4 ⟨rfl, hw, hd, hk⟩; clear HM2; have HD4 := Lib.hid hd; have HB4 := Lib.hid (kept_low (palloc HB3.out (.cells #[.int .u8 7] 5)) hk (by have h := HGE.out; have h2 := HX.out; intro y hy; simp at hy h; omega)); clear hd hw hk)
    | (go_at_call 16; refine (CR.out g bs bw _ HD4.out).mono ?_; rintro e w5 ⟨rfl, hd, hk⟩; have HD5 := Lib.hid hd; have HB5 := Lib.hid (kept_low HB4.out hk HGE.out); clear hd hk)
    | (go_at_call 6; refine (O2.out g bs bw _ HD5.out).mono ?_; rintro e w6 ⟨x6, A6, n6, c6, A7, n7, c7, rfl, hn, hn2, hbt, hs, hd, hw, hx, hk⟩; obtain rfl : n6 = 0 := hn.symm; obtain rfl : n7 = 1 := hn2.symm; have HW6 := Lib.hid hw; obtain ⟨b7, o7, rfl, hb7, hc7⟩ := sls_at hs (by omega); obtain ⟨u7, hu7, A8, n8, c8, rfl, hb8, _⟩ := hc7 0 (by omega); obtain rfl : n8 = 1 := hb8.1.symm; rw [Nat.add_zero] at hu7; obtain ⟨hnc7, hcm7⟩ : 1 ≤ c7 ∧ c7 ≤ maxLen := ⟨(sls_len hs).2.1, (sls_len hs).2.2⟩; have HB6 := Lib.hid (kept_low HB5.out hk HGE.out); clear hn hn2 hbt hs hd hw hx hk hc7 hb8)
    | (go_at_call 13; refine (F4.out x6 g _ HW6.out).mono ?_; rintro e w7 ⟨rfl, q7, rfl⟩))
  go_ret
  exact ⟨rfl, below_drewN HB6.out _⟩
end Go.Proofs.Ytddhkajcakndlaa.Wl
