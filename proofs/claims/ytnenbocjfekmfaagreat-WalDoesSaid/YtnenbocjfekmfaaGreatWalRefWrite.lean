/- The reference's log (layer 8): what it writes. -/
import Derived.Test.YtnenbocjfekmfaaGreatDiskAll
import Derived.Test.YtnenbocjfekmfaaGreatWalRefBlank
import Derived.Deep.RegionHeld3
namespace Go.Proofs.YtnenbocjfekmfaaGreat.Wl
open Go.RowKit Go.Proofs.YtnenbocjfekmfaaGreat.Mem Go.Proofs.YtnenbocjfekmfaaGreat.Pg Go.Proofs.YtnenbocjfekmfaaGreat.Rcd Go.Proofs.YtnenbocjfekmfaaGreat.Slt
open Go.Proofs.YtnenbocjfekmfaaGreat.Dsk (KeptBut SMap DiskAt St kept_of_below kept_of_grown kept_drew RefAt RowS SlS Good refV armedOf)
open Go.Proofs.YtnenbocjfekmfaaGreat.Plt (sl plV sl_le sl_pos)
set_option linter.unusedVariables false
set_option linter.unusedSimpArgs false
theorem set4c {w : World} {g b o : Nat} {a' b' c' d' : Value} (h : b ≠ g) : (Dsk.set4 w g a' b' c' d').cell? ⟨b, o, none⟩ = w.cell? ⟨b, o, none⟩ :=
  (Dsk.far_cell _ h).trans ((Dsk.far_cell _ h).trans ((Dsk.far_cell _ h).trans (Dsk.far_cell _ h)))
set_option maxRecDepth 20000 in
set_option maxHeartbeats 8000000 in
theorem rwwrite_any (S : List Nat) (val : Value) (s : St) (p0 p1 p2 g m nx : Int) (br is_ : Bool) (fr : Nat) (A : Option Addr) (n c : Nat) (l : List (List Nat)) (w : World) (hg : Dsk.Fine s) (h : RWal w S val s p0 p1 p2 g m nx br is_) (hS : ∀ x ∈ S, x < w.heap.size)
    (hl : Sls w w.heap.size (.slice A n c) l) (hn : n ≤ 1000) (hf : fr ≤ 2000) :
    Calls Tryz.prog 48 #[val, .int .i64 (fr : Nat), .slice A n c] w fun e w' => ∃ val', e = .returned (.tuple #[val', .int .i64 (writes s fr l).2]) ∧ RWal w' S val' (writes s fr l).1 p0 p1 p2 g m nx ((writes s fr l).2 != 0) is_ ∧ Below w.heap.size w w' := by
  obtain ⟨v1, v2, rfl, hr⟩ := h
  obtain ⟨hll, hnc, hcm⟩ := sls_len hl
  obtain ⟨R, hR⟩ : ∃ R, R = writes s fr l := ⟨_, rfl⟩
  rw [← hR]
  have hb0 : Below w.heap.size w ((w.alloc (.cells (rwA v1 v2 (armedOf s.left) s.dead p0 p1 p2 g m nx br is_) 40)).alloc (.cells #[.slice none 0 0, .slice none 0 0, .int .i64 0, .bool false, .int .i64 0, .int .i64 0, .int .i64 0, .int .i64 0, .int .i64 0, .int .i64 0, .bool false, .bool false] 40)) := palloc (palloc (Below.refl _ _) _) _
  have hr0 := (hr.raise (S' := (w.heap.size + 1) :: w.heap.size :: S) (fun x hx => by
      rcases List.mem_cons.1 hx with rfl | hx
      · exact .inr (Nat.le_succ _)
      · rcases List.mem_cons.1 hx with rfl | hx
        · exact .inr (Nat.le_refl _)
        · exact .inl hx)).below hb0
  have hS0 : ∀ x ∈ (w.heap.size + 1) :: w.heap.size :: S, x < w.heap.size + 2 := fun x hx => by
      rcases List.mem_cons.1 hx with rfl | hx
      · omega
      · rcases List.mem_cons.1 hx with rfl | hx
        · omega
        · have := hS x hx; omega
  have k0 := (Blk.new w 40 (rwA v1 v2 (armedOf s.left) s.dead p0 p1 p2 g m nx br is_)).alloc (.cells #[.slice none 0 0, .slice none 0 0, .int .i64 0, .bool false, .int .i64 0, .int .i64 0, .int .i64 0, .int .i64 0, .int .i64 0, .int .i64 0, .bool false, .bool false] 40)
  have k1 : Blk ((w.alloc (.cells (rwA v1 v2 (armedOf s.left) s.dead p0 p1 p2 g m nx br is_) 40)).alloc (.cells #[.slice none 0 0, .slice none 0 0, .int .i64 0, .bool false, .int .i64 0, .int .i64 0, .int .i64 0, .int .i64 0, .int .i64 0, .int .i64 0, .bool false, .bool false] 40)) (w.heap.size + 1) 40 #[.slice none 0 0, .slice none 0 0, .int .i64 0, .bool false, .int .i64 0, .int .i64 0, .int .i64 0, .int .i64 0, .int .i64 0, .int .i64 0, .bool false, .bool false] := by
    have := Blk.new (w.alloc (.cells (rwA v1 v2 (armedOf s.left) s.dead p0 p1 p2 g m nx br is_) 40)) 40 #[.slice none 0 0, .slice none 0 0, .int .i64 0, .bool false, .int .i64 0, .int .i64 0, .int .i64 0, .int .i64 0, .int .i64 0, .int .i64 0, .bool false, .bool false]
    simpa using this
  have hlen : w.heap.size + 2 ≤ ((w.alloc (.cells (rwA v1 v2 (armedOf s.left) s.dead p0 p1 p2 g m nx br is_) 40)).alloc (.cells #[.slice none 0 0, .slice none 0 0, .int .i64 0, .bool false, .int .i64 0, .int .i64 0, .int .i64 0, .int .i64 0, .int .i64 0, .int .i64 0, .bool false, .bool false] 40)).heap.size := by simp
  have HLL := Lib.hid hll; clear hll
  have HL := Lib.hid hl; clear hl
  have HB0 := Lib.hid hb0; clear hb0
  have HR0 := Lib.hid hr0; clear hr0
  have HS0 := Lib.hid hS0; clear hS0
  have HG := Lib.hid hg; clear hg
  have K0 := Lib.hid k0; clear k0
  have K1 := Lib.hid k1; clear k1
  have HLEN := Lib.hid hlen; clear hlen
  have HR := Lib.hid hR; clear hR
  clear hr hS
  go_enter Tryz.func48, Tryz.ntmps48
  go_wp2
  go_loopw [8] (fun i wr => ∃ (j : Nat) (sj : St) (u1 u2 : Value), j ≤ n ∧ i = .int .i64 j ∧ R = writes sj (fr + j) (l.drop j) ∧ Dsk.Fine sj ∧ RefAt wr ((w.heap.size + 1) :: w.heap.size :: S) (refV u1 u2 sj) sj ∧ Blk wr w.heap.size 40 (rwA u1 u2 (armedOf sj.left) sj.dead p0 p1 p2 g m nx br is_) ∧ Blk wr (w.heap.size + 1) 40 #[.slice none 0 0, .slice none 0 0, .int .i64 0, .bool false, .int .i64 0, .int .i64 0, .int .i64 0, .int .i64 0, .int .i64 0, .int .i64 0, .bool false, .bool false] ∧ Below w.heap.size w wr ∧ w.heap.size + 2 ≤ wr.heap.size) (fun i _ => n - (intOf i).toNat)
  case atStart => exact ⟨0, s, v1, v2, Nat.zero_le _, rfl, HR.out, HG.out, HR0.out, K0.out, K1.out, HB0.out, HLEN.out⟩
  case round =>
    obtain ⟨j, sj, u1, u2, hj, rfl, hRj, hgj, hrj, kb, kr, hbj, hsz⟩ := hrel
    obtain ⟨A1, c1, A2, c2, huv⟩ := refAt_two hrj
    have hu : u1 = .slice A1 sj.n c1 ∧ u2 = .slice A2 sj.n c2 := by
      unfold refV at huv
      injection huv with h
      injection h with h
      injection h with h1 h
      injection h with h2 h
      exact ⟨h1, h2⟩
    obtain ⟨rfl, rfl⟩ := hu
    clear huv
    have a0 := kb.cell 0
    have a1 := kb.cell 1
    have a2 := kb.cell 2
    have a3 := kb.cell 3
    simp at a0 a1 a2 a3
    have KB := Lib.hid kb; clear kb
    have KR := Lib.hid kr; clear kr
    have HBJ := Lib.hid hbj; clear hbj
    by_cases hlt : j < n
    · have hls := HL.out.keep HBJ.out
      obtain ⟨b, off, e, hb, hc⟩ := sls_at hls (by omega)
      subst e
      obtain ⟨u, hu, hus⟩ := hc j hlt
      obtain ⟨A3, n3, c3, rfl, hbt, _⟩ := id hus
      rw [drop_at l j [] (by rw [HLL.out]; exact hlt), writes_go] at hRj
      obtain ⟨y, hy⟩ : ∃ y, y = l.getD j [] := ⟨_, rfl⟩
      rw [← hy] at hus hRj hbt
      have e1 : ((fr + j : Nat) : Int) = (fr : Int) + (j : Int) := by omega
      rw [e1] at hRj
      have hfn := Dsk.fine_write hgj ((fr : Int) + (j : Int)) y hus.lt
      have hus2 := hus.more (Nat.le_trans (by omega : w.heap.size ≤ w.heap.size + 2) hsz)
      have cw : ∀ (T : List Nat) (W : World), Below wr.heap.size wr W → (∀ x ∈ T, x ∈ ((w.heap.size + 1) :: w.heap.size :: S) ∨ wr.heap.size ≤ x) → (∀ x ∈ T, x < W.heap.size) → Calls Tryz.prog 78 #[refV (.slice A1 sj.n c1) (.slice A2 sj.n c2) sj, .int .i64 ((fr : Int) + (j : Int)), .slice A3 n3 c3] W fun e w' => ∃ B1 B2 d1 d2, e = .returned (.tuple #[.agg #[.slice B1 (sj.write ((fr : Int) + (j : Int)) y).1.n d1, .slice B2 (sj.write ((fr : Int) + (j : Int)) y).1.n d2, .int .i64 (armedOf (sj.write ((fr : Int) + (j : Int)) y).1.left), .bool (sj.write ((fr : Int) + (j : Int)) y).1.dead], .int .i64 (sj.write ((fr : Int) + (j : Int)) y).2]) ∧ RefAt w' T (refV (.slice B1 (sj.write ((fr : Int) + (j : Int)) y).1.n d1) (.slice B2 (sj.write ((fr : Int) + (j : Int)) y).1.n d2) (sj.write ((fr : Int) + (j : Int)) y).1) (sj.write ((fr : Int) + (j : Int)) y).1 ∧ Below W.heap.size W w' ∧ Below wr.heap.size wr w' := fun T W hW hT hT2 => by
        refine (Dsk.ref_write T (refV (.slice A1 sj.n c1) (.slice A2 sj.n c2) sj) (.slice A3 n3 c3) sj ((fr : Int) + (j : Int)) y W hgj.1 ((hrj.raise hT).below hW) hT2 ((hus2.below hW (Nat.le_refl _)).more hW.size)).mono ?_
        rintro e w' ⟨v', rfl, hR, hb'⟩
        obtain ⟨B1, d1, B2, d2, rfl⟩ := refAt_two hR
        exact ⟨B1, B2, d1, d2, rfl, hR, hb', hW.trans (hb'.mono hW.size)⟩
      have hxg : w.heap.size ≠ wr.heap.size := by omega
      have hbg : b ≠ wr.heap.size := by omega
      have HT1 := Lib.hid (show ∀ x ∈ ((w.heap.size + 1) :: w.heap.size :: S), x < wr.heap.size from fun x hx => by have := HS0.out x hx; omega)
      obtain ⟨r, hr⟩ : ∃ r, r = sj.write ((fr : Int) + (j : Int)) y := ⟨_, rfl⟩
      rw [← hr] at cw hRj hfn
      obtain ⟨s', e'⟩ := r
      simp only at cw hRj hfn
      unfold refV at cw
      have CW := Lib.hid cw; clear cw
      have HFN := Lib.hid hfn; clear hfn
      have HRJ := Lib.hid hRj; clear hRj
      have HRR := Lib.hid hrj; clear hrj
      clear hr hy e1 hus hus2 hbt hls hc hgj
      have b0 := (KB.out.alloc (.cells #[.slice none 0 0, .slice none 0 0, .int .i64 0, .bool false] 36)).cell 0
      have b1 := (KB.out.alloc (.cells #[.slice none 0 0, .slice none 0 0, .int .i64 0, .bool false] 36)).cell 1
      have b2 := (KB.out.alloc (.cells #[.slice none 0 0, .slice none 0 0, .int .i64 0, .bool false] 36)).cell 2
      have b3 := (KB.out.alloc (.cells #[.slice none 0 0, .slice none 0 0, .int .i64 0, .bool false] 36)).cell 3
      simp at b0 b1 b2 b3
      have hbw : b < wr.heap.size := by omega
      have b4 := ((palloc (Below.refl wr.heap.size wr) (.cells #[.slice none 0 0, .slice none 0 0, .int .i64 0, .bool false] 36)).cell (p := ⟨b, off + j, none⟩) hbw).trans hu
      have hk0 : (0 : Int) ≤ (j : Int) := by omega
      have hk1 : (j : Int) < (n : Int) := by omega
      have hfj : IntKind.i64.wrap ((fr : Int) + (j : Int)) = (fr : Int) + (j : Int) := IntWalk.i64_in _ (by omega)
      generalize sj.n = nj at *
      generalize armedOf sj.left = ar at *
      generalize sj.dead = dd at *
      go_wp2
      go_region_held3 (fun W => W.cell? ⟨w.heap.size, 0, none⟩ = some (.slice A1 nj c1) ∧ W.cell? ⟨w.heap.size, 1, none⟩ = some (.slice A2 nj c2) ∧ W.cell? ⟨w.heap.size, 2, none⟩ = some (.int .i64 ar) ∧ W.cell? ⟨w.heap.size, 3, none⟩ = some (.bool dd) ∧ W.cell? ⟨b, off + j, none⟩ = some (.slice A3 n3 c3))
        (first
          | with_reducible exact ⟨a0, a1, a2, a3, hu⟩
          | with_reducible exact ⟨b0, b1, b2, b3, b4⟩
          | with_reducible exact ⟨q0, q1, q2, q3, q4⟩
          | with_reducible exact ⟨(set4c hxg).trans q0, (set4c hxg).trans q1, (set4c hxg).trans q2, (set4c hxg).trans q3, (set4c hbg).trans q4⟩
          | go_keep)
        (first
          | (go_at_call 78; refine (CW.out ((w.heap.size + 1) :: w.heap.size :: S) _ (by exact (Below.refl _ _).drew) (fun x hx => .inl hx) (by exact HT1.out)).mono ?_; rintro e w2 ⟨B1, B2, d1, d2, rfl, hR2, hb2, hw2⟩; have kb2 := KB.out.below hw2 KB.out.lt; have q0 := kb2.cell 0; have q1 := kb2.cell 1; have q2 := kb2.cell 2; have q3 := kb2.cell 3; simp at q0 q1 q2 q3; have q4 := (hw2.cell (p := ⟨b, off + j, none⟩) hbw).trans hu; have KB2 := Lib.hid kb2; have HR2 := Lib.hid hR2; have HW2 := Lib.hid hw2; clear kb2 hR2 hb2 hw2)
          | (go_at_call 78; refine (CW.out (wr.heap.size :: (w.heap.size + 1) :: w.heap.size :: S) _ (by exact (palloc (Below.refl wr.heap.size wr) _).drew) (fun x hx => by rcases List.mem_cons.1 hx with rfl | hx; exact .inr (Nat.le_refl _); exact .inl hx) (fun x hx => by simp; rcases List.mem_cons.1 hx with rfl | hx; omega; have := HT1.out x hx; omega)).mono ?_; rintro e w2 ⟨B1, B2, d1, d2, rfl, hR2, hb2, hw2⟩; have kb2 := KB.out.below hw2 KB.out.lt; have q0 := kb2.cell 0; have q1 := kb2.cell 1; have q2 := kb2.cell 2; have q3 := kb2.cell 3; simp at q0 q1 q2 q3; have q4 := (hw2.cell (p := ⟨b, off + j, none⟩) hbw).trans hu; have ky : Blk w2 wr.heap.size 36 #[.slice none 0 0, .slice none 0 0, .int .i64 0, .bool false] := (by exact (Blk.new wr _ _).drew.below hb2 (by simp)); have z0 := ky.cell 0; have z1 := ky.cell 1; have z2 := ky.cell 2; have z3 := ky.cell 3; simp at z0 z1 z2 z3; have z4 := ky.frozen 0; have z5 := ky.frozen 1; have z6 := ky.frozen 2; have z7 := ky.frozen 3; have z8 := ky.lt; have KY := Lib.hid ky; have KB2 := Lib.hid kb2; have HR2 := Lib.hid hR2; have HW2 := Lib.hid hw2; clear ky kb2 hR2 hb2 hw2))
      all_goals first
        | (have fY : Blk (Dsk.set4 w2 wr.heap.size (.slice B1 s'.n d1) (.slice B2 s'.n d2) (.int .i64 (armedOf s'.left)) (.bool s'.dead)) wr.heap.size 36 #[.slice B1 s'.n d1, .slice B2 s'.n d2, .int .i64 (armedOf s'.left), .bool s'.dead] := (((KY.out.set_ 0 _).set_ 1 _).set_ 2 _).set_ 3 _
           have fB := (((KB2.out.far (p := ⟨wr.heap.size, 0, none⟩) hxg (.slice B1 s'.n d1)).far (p := ⟨wr.heap.size, 1, none⟩) hxg (.slice B2 s'.n d2)).far (p := ⟨wr.heap.size, 2, none⟩) hxg (.int .i64 (armedOf s'.left))).far (p := ⟨wr.heap.size, 3, none⟩) hxg (.bool s'.dead)
           have fW := Dsk.set4_below (a := .slice B1 s'.n d1) (b := .slice B2 s'.n d2) (c := .int .i64 (armedOf s'.left)) (d := .bool s'.dead) HW2.out (Nat.le_refl _)
           have fR := (HR2.out.kept (Dsk.set4_kept (a := .slice B1 s'.n d1) (b := .slice B2 s'.n d2) (c := .int .i64 (armedOf s'.left)) (d := .bool s'.dead) (KeptBut.refl _ _) (List.mem_cons_self ..))).more (S' := (w.heap.size + 1) :: w.heap.size :: S) (fun y hy => List.mem_cons_of_mem _ hy)
           unfold Dsk.set4 at fY fW fR
           generalize (((w2.setCell ⟨wr.heap.size, 0, none⟩ (.slice B1 s'.n d1)).setCell ⟨wr.heap.size, 1, none⟩ (.slice B2 s'.n d2)).setCell ⟨wr.heap.size, 2, none⟩ (.int .i64 (armedOf s'.left))).setCell ⟨wr.heap.size, 3, none⟩ (.bool s'.dead) = w3 at *
           have hy1 : w.heap.size + 1 < wr.heap.size := by omega
           clear q0 q1 q2 q3 q4 z0 z1 z2 z3 z4 z5 z6 z7 z8 KY
           generalize hyy : wr.heap.size = yb at fY hy1 ⊢)
        | (have fY := Blk.new w2 36 #[.slice B1 s'.n d1, .slice B2 s'.n d2, .int .i64 (armedOf s'.left), .bool s'.dead]
           have fB := KB2.out.alloc (.cells #[.slice B1 s'.n d1, .slice B2 s'.n d2, .int .i64 (armedOf s'.left), .bool s'.dead] 36)
           have fW := palloc HW2.out (.cells #[.slice B1 s'.n d1, .slice B2 s'.n d2, .int .i64 (armedOf s'.left), .bool s'.dead] 36)
           have fR := HR2.out.below (palloc (Below.refl _ _) (.cells #[.slice B1 s'.n d1, .slice B2 s'.n d2, .int .i64 (armedOf s'.left), .bool s'.dead] 36))
           generalize w2.alloc (.cells #[.slice B1 s'.n d1, .slice B2 s'.n d2, .int .i64 (armedOf s'.left), .bool s'.dead] 36) = w3 at *
           have hy1 : w.heap.size + 1 < w2.heap.size := by have := HW2.out.size; omega
           clear q0 q1 q2 q3 q4
           generalize hyy : w2.heap.size = yb at fY hy1 ⊢)
      all_goals
        have fr3 := KR.out.below fW (by omega)
        have hbw3 := HBJ.out.trans (fW.mono HBJ.out.size)
        have hsz3 := Nat.le_trans hsz fW.size
        have FB := Lib.hid fB
        have FRR := Lib.hid fR
        have HBW3 := Lib.hid hbw3
        have KR3 := Lib.hid fr3
        clear hyy fW
        have y0 := fY.cell 0
        have y1 := fY.cell 1
        have y2 := fY.cell 2
        have y3 := fY.cell 3
        simp at y0 y1 y2 y3
        have x0 := fB.cell 0
        have x1 := fB.cell 1
        have x2 := fB.cell 2
        have x3 := fB.cell 3
        have x4 := fB.cell 4
        have x5 := fB.cell 5
        have x6 := fB.cell 6
        have x7 := fB.cell 7
        have x8 := fB.cell 8
        have x9 := fB.cell 9
        have x10 := fB.cell 10
        have x11 := fB.cell 11
        have x12 := fB.frozen 0
        have x13 := fB.frozen 1
        have x14 := fB.frozen 2
        have x15 := fB.frozen 3
        have x16 := fB.frozen 10
        have x17 := fB.lt
        simp at x0 x1 x2 x3 x4 x5 x6 x7 x8 x9 x10 x11
        clear fB fY fR fr3 hbw3 b0 b1 b2 b3 b4 a0 a1 a2 a3
        by_cases he : e' = 0
        · subst he
          have hrj' := HRJ.out
          rw [if_pos rfl] at hrj'
          have HRJ' := Lib.hid hrj'; clear hrj'
          go_wp2
          go_roundw
          case rel =>
            refine ⟨j + 1, s', .slice B1 s'.n d1, .slice B2 s'.n d2, by omega, by go_num, ?_, HFN.out, FRR.out.kept (Dsk.set4_kept (KeptBut.refl _ _) (by simp)), (((FB.out.set_ 0 _).set_ 1 _).set_ 2 _).set_ 3 _, (((KR3.out.far (p := ⟨w.heap.size, 0, none⟩) (by simp) _).far (p := ⟨w.heap.size, 1, none⟩) (by simp) _).far (p := ⟨w.heap.size, 2, none⟩) (by simp) _).far (p := ⟨w.heap.size, 3, none⟩) (by simp) _, Dsk.set4_below HBW3.out (Nat.le_refl _), ?_⟩
            · rw [HRJ'.out]; congr 1
            · simp [World.setCell]; omega
          case measure => simp [intOf]; omega
        · have hrj' := HRJ.out
          rw [if_neg he] at hrj'
          have HRJ' := Lib.hid hrj'; clear hrj'
          have hne : (e' != 0) = true := bne_iff_ne.2 he
          have hne2 : ¬ w.heap.size + 1 = w.heap.size := by omega
          have r0 := KR3.out.cell 0
          have r1 := KR3.out.cell 1
          have r2 := KR3.out.cell 2
          have r3 := KR3.out.cell 3
          have r4 := KR3.out.cell 4
          have r5 := KR3.out.cell 5
          have r6 := KR3.out.cell 6
          have r7 := KR3.out.cell 7
          have r8 := KR3.out.cell 8
          have r9 := KR3.out.cell 9
          have r10 := KR3.out.cell 10
          have r11 := KR3.out.cell 11
          simp at r0 r1 r2 r3 r4 r5 r6 r7 r8 r9 r10 r11
          have rf := fun i => KR3.out.frozen i
          have rf0 := rf 0
          have rf1 := rf 1
          have rf2 := rf 2
          have rf3 := rf 3
          have rf4 := rf 4
          have rf5 := rf 5
          have rf6 := rf 6
          have rf7 := rf 7
          have rf8 := rf 8
          have rf9 := rf 9
          have rf10 := rf 10
          have rf11 := rf 11
          clear rf
          go_wp2
          refine bodyPost_ret (v := .tuple #[.agg (rwA (.slice B1 s'.n d1) (.slice B2 s'.n d2) (armedOf s'.left) s'.dead p0 p1 p2 g m nx true is_), .int .i64 e']) ?_ rfl ?_
          · simp [results, Tryz.results48, go_sem, r0, r1, r2, r3, r4, r5, r6, r7, r8, r9, r10, r11]
          · rw [HRJ'.out]
            refine ⟨_, rfl, ⟨_, _, by rw [hne], (FRR.out.kept (((Dsk.set4_kept (KeptBut.refl _ _) (by simp)).trans (Dsk.kept_set _ _ (by simp))).trans (set12_kept (by simp)))).more (fun x hx => List.mem_cons_of_mem _ (List.mem_cons_of_mem _ hx))⟩, set12_below ((Dsk.set4_below HBW3.out (Nat.le_refl _)).setCell (Nat.le_refl _) _) (Nat.le_succ _)⟩
    · obtain rfl : j = n := by omega
      rw [List.drop_of_length_le (by rw [HLL.out]; exact Nat.le_refl _), writes_nil] at hRj
      have cf := Dsk.ref_flush ((w.heap.size + 1) :: w.heap.size :: S) (refV (.slice A1 sj.n c1) (.slice A2 sj.n c2) sj) sj wr hgj.1 hrj (fun x hx => by have := HS0.out x hx; omega)
      rw [← hRj] at cf
      obtain ⟨s', e'⟩ := R
      simp only at cf ⊢
      unfold refV at cf
      have CF := Lib.hid cf; clear cf
      have HRR := Lib.hid hrj; clear hrj
      clear hRj hgj HR
      generalize sj.n = nj at *
      generalize armedOf sj.left = ar at *
      generalize sj.dead = dd at *
      go_wp2_with (go_at_call 79; refine (CF.out).mono ?_; rintro e w2 ⟨v', rfl, hR2, hb2⟩; obtain ⟨B1, d1, B2, d2, rfl⟩ := refAt_two hR2; unfold refV; have kb2 := KB.out.below hb2 KB.out.lt; have x0 := kb2.cell 0; have x1 := kb2.cell 1; have x2 := kb2.cell 2; have x3 := kb2.cell 3; have x4 := kb2.cell 4; have x5 := kb2.cell 5; have x6 := kb2.cell 6; have x7 := kb2.cell 7; have x8 := kb2.cell 8; have x9 := kb2.cell 9; have x10 := kb2.cell 10; have x11 := kb2.cell 11; have x12 := kb2.frozen 0; have x13 := kb2.frozen 1; have x14 := kb2.frozen 2; have x15 := kb2.frozen 3; have x16 := kb2.frozen 10; have x17 := kb2.lt; simp at x0 x1 x2 x3 x4 x5 x6 x7 x8 x9 x10 x11; have kr2 := KR.out.below hb2 (by omega); have r0 := kr2.cell 0; have rf0 := kr2.frozen 0; have r1 := kr2.cell 1; have rf1 := kr2.frozen 1; have r2 := kr2.cell 2; have rf2 := kr2.frozen 2; have r3 := kr2.cell 3; have rf3 := kr2.frozen 3; have r4 := kr2.cell 4; have rf4 := kr2.frozen 4; have r5 := kr2.cell 5; have rf5 := kr2.frozen 5; have r6 := kr2.cell 6; have rf6 := kr2.frozen 6; have r7 := kr2.cell 7; have rf7 := kr2.frozen 7; have r8 := kr2.cell 8; have rf8 := kr2.frozen 8; have r9 := kr2.cell 9; have rf9 := kr2.frozen 9; have r10 := kr2.cell 10; have rf10 := kr2.frozen 10; have r11 := kr2.cell 11; have rf11 := kr2.frozen 11; simp at r0 r1 r2 r3 r4 r5 r6 r7 r8 r9 r10 r11; have r12 := kr2.lt; have r13 : ¬ w.heap.size + 1 = w.heap.size := (by omega); have r14 : ¬ w.heap.size = w2.heap.size := (by omega); have r15 : ¬ w.heap.size + 1 = w2.heap.size := (by omega); have KB2 := Lib.hid kb2; have KR2 := Lib.hid kr2; have HR2 := Lib.hid hR2; have HW2 := Lib.hid hb2; clear kb2 kr2 hR2 hb2)
      refine bodyPost_ret (v := .tuple #[.agg (rwA (.slice B1 s'.n d1) (.slice B2 s'.n d2) (armedOf s'.left) s'.dead p0 p1 p2 g m nx (e' != 0) is_), .int .i64 e']) ?_ rfl ?_
      · simp [results, Tryz.results48, go_sem, r0, r1, r2, r3, r4, r5, r6, r7, r8, r9, r10, r11, r12, r13, r14, r15]
      · exact ⟨_, rfl, ⟨_, _, rfl, ((HR2.out.kept (((Dsk.set4_kept (KeptBut.refl _ _) (by simp)).trans (Dsk.kept_set _ _ (by simp))).trans (set12_kept (by simp)))).more (fun x hx => List.mem_cons_of_mem _ (List.mem_cons_of_mem _ hx))).below (palloc (Below.refl _ _) _)⟩, palloc (set12_below ((Dsk.set4_below (HBJ.out.trans (HW2.out.mono HBJ.out.size)) (Nat.le_refl _)).setCell (Nat.le_refl _) _) (Nat.le_succ _)) _⟩
end Go.Proofs.YtnenbocjfekmfaaGreat.Wl
