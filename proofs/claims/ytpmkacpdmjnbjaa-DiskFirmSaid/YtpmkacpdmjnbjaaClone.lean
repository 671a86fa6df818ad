/- The contract of a disk's Clone (layer 3). -/
import Derived.Test.YtpmkacpdmjnbjaaCrash
import Derived.Deep.RegionHeld3
namespace Go.Proofs.Ytpmkacpdmjnbjaa.Dsk
open Go.RowKit Go.Maps Go.Proofs.Ytpmkacpdmjnbjaa.Mem
set_option linter.unusedVariables false
set_option linter.unusedSimpArgs false
set_option maxRecDepth 20000 in
set_option maxHeartbeats 4000000 in
theorem clone_any (g bs bw : Nat) (s : St) (w : World) (h : DiskAt w g bs bw s) :
    Calls Try.prog 25 #[ptr g] w fun e w' => ∃ g' bs' bw', e = .returned (ptr g') ∧ DiskAt w' g' bs' bw' s ∧ Below w.heap.size w w' ∧ (∀ x ∈ [g', bs', bw'], w.heap.size ≤ x) := by
  have c1 := isNone_no g bs bw s w h
  have C1 := Lib.hid c1; clear c1
  have T := Lib.hid clone_map
  have k0 := h.c0
  have k1 := h.c1
  have k2 := h.c2
  have k3 := h.c3
  have k4 := h.c4
  have hlt := h.1.lt
  have H := Lib.hid h; clear h
  obtain ⟨n, fs, fw, L, dead⟩ := s
  simp only at k0 k1 k2 k3 k4
  go_enter Try.func25, Try.ntmps25
  go_wp2_with (go_at_call 43; refine (C1.out).mono ?_; rintro e w' ⟨rfl, rfl⟩)
  have HD1 := Lib.hid (H.out.alloc (Obj.cells #[.int .i64 (n : Nat), .map (some bs), .map (some bw), .int .i64 L, .bool dead] 60))
  have KC1 := Lib.hid (Blk.new w 60 #[.int .i64 (n : Nat), .map (some bs), .map (some bw), .int .i64 L, .bool dead])
  have HB1 := Lib.hid ((Below.refl w.heap.size w).alloc (Nat.le_refl _) (Obj.cells #[.int .i64 (n : Nat), .map (some bs), .map (some bw), .int .i64 L, .bool dead] 60))
  have hcs := KC1.out.lt
  have hbs := H.out.2.1.lt
  have hgc : g ≠ w.heap.size := by omega
  have hgc2 : w.heap.size ≠ g := by omega
  have hbw := H.out.2.2.1.lt
  generalize w.alloc (Obj.cells #[.int .i64 (n : Nat), .map (some bs), .map (some bw), .int .i64 L, .bool dead] 60) = w1 at *
  have HP := Lib.hid H.out.2.2.2.2; clear H k0 k3 k4
  generalize hcw : w.heap.size = c at *
  have HCW := Lib.hid hcw; clear hcw
  have k1 := HD1.out.c1
  have k2 := HD1.out.c2
  have hgs := HD1.out.1.lt
  have HS1 := Lib.hid HD1.out.2.1
  have HW1 := Lib.hid HD1.out.2.2.1
  have y1 := KC1.out.cell 1
  have y2 := KC1.out.cell 2
  have z1 := KC1.out.frozen 1
  have z2 := KC1.out.frozen 2
  simp at k1 k2 y1 y2
  clear HD1
  go_region_held3 (fun W => W.cell? ⟨g, 1, none⟩ = some (.map (some bs)) ∧ W.cell? ⟨g, 2, none⟩ = some (.map (some bw)))
    (first
      | go_keep
      | exact ⟨k1, k2⟩)
    (first
      | (go_at_call 49; refine (T.out bs fs _ (by exact HS1.out)).mono ?_; rintro e w2 ⟨rfl, hm, hb⟩; have hb : Below w1.heap.size w1 w2 := ⟨hb.os, hb.tape, hb.output, hb.size, hb.block⟩; have FA : Hid (SMap w2 w1.heap.size fs) := hm; clear hm; have hcs2 : c < w2.heap.size := Nat.lt_of_lt_of_le hcs hb.size; have hgs2 : g < w2.heap.size := Nat.lt_of_lt_of_le hgs hb.size; have hp2 := FA.out.lt; have k1 := (hb.cell (p := ⟨g, 1, none⟩) hgs).trans k1; have k2 := (hb.cell (p := ⟨g, 2, none⟩) hgs).trans k2; have kc2 := KC1.out.below hb hcs; have y1 := kc2.cell 1; have y2 := kc2.cell 2; have z1 := kc2.frozen 1; have z2 := kc2.frozen 2; simp at y1 y2; have KC2 := Lib.hid kc2; clear kc2; have HW2 := Lib.hid (HW1.out.kept (grown_of_below (row := none) hb) (by simp)); have hx2 := HW2.out.kept (grown_set w2 ⟨c, 1, none⟩ (.map (some w1.heap.size))) (by simp; omega); have HW3 := Lib.hid hx2; clear hx2; have HB2 := Lib.hid (HB1.out.trans (hb.mono (by omega))); clear hb)
      | (go_at_call 49; refine (T.out bw fw _ (by exact HW2.out)).mono ?_; rintro e w3 ⟨rfl, hm, hb⟩; have hb : Below w2.heap.size w2 w3 := hb.mono (by simp); have SB : Hid (SMap w3 w2.heap.size fw) := hm; clear hm; have k1 := (hb.cell (p := ⟨g, 1, none⟩) hgs2).trans k1; have k2 := (hb.cell (p := ⟨g, 2, none⟩) hgs2).trans k2; have hcs3 : c < w3.heap.size := Nat.lt_of_lt_of_le (by simpa using hcs2) hb.size; have hp3 := SB.out.lt; have FA3 := Lib.hid (FA.out.kept (grown_of_below (row := none) (hb.mono (by simp))) (by simp)); have kc3 := KC2.out.below hb hcs2; have y1 := kc3.cell 1; have y2 := kc3.cell 2; have z1 := kc3.frozen 1; have z2 := kc3.frozen 2; simp at y1 y2; have KC3 := Lib.hid kc3; clear kc3; have HB3 := Lib.hid (HB2.out.trans (hb.mono (by omega))); clear hb))
  go_wp2
  go_ret
  have q1 := grown_set w3 ⟨c, 1, none⟩ (.map (some w1.heap.size))
  have q2 := grown_set (w3.setCell ⟨c, 1, none⟩ (.map (some w1.heap.size))) ⟨c, 2, none⟩ (.map (some w2.heap.size))
  obtain ⟨r1, r2, r3, r4, r5⟩ := HP.out
  rw [HCW.out]
  refine ⟨c, w1.heap.size, w2.heap.size, rfl, ⟨?_, (FA3.out.kept q1 (by simp; omega)).kept q2 (by simp; omega), (SB.out.kept q1 (by simp; omega)).kept q2 (by simp; omega), by omega, r1, r2, r3, r4, r5⟩, (HB3.out.setCell (Nat.le_refl _) _).setCell (Nat.le_refl _) _, by simp; omega⟩
  exact (KC3.out.set_ 1 _).set_ 2 _
end Go.Proofs.Ytpmkacpdmjnbjaa.Dsk
