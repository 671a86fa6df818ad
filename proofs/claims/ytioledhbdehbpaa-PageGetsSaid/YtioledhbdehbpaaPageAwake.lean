/- Blank, and the law's own awake (layer 4). -/
import Derived.Test.YtioledhbdehbpaaPageGot
import Derived.Deep.OwnRows
namespace Go.Proofs.Ytioledhbdehbpaa.Pg
open Go.RowKit Go.Proofs.Ytioledhbdehbpaa.Mem Go.Proofs.Ytioledhbdehbpaa.Oct
set_option linter.unusedVariables false
set_option linter.unusedSimpArgs false
def noughts : List Nat := List.replicate 512 0
theorem made_all (z : Value) (n : Nat) : madeCells #[z] n = (List.replicate n z).toArray := by
  apply Array.ext
  · simp [madeCells]
  · intro i h1 h2
    simp [madeCells, Nat.mod_one]
theorem made512 : madeCells #[.int .u8 0] 512 = (vals noughts).toArray := by
  rw [made_all]
  simp only [vals, noughts, List.map_replicate]
  rfl
theorem make512 (w : World) : (Instr.makeSlice 22 (.int .i64 512) (.int .i64 512)).run Try.prog w = .ok (.slice (some ⟨w.heap.size, 0, none⟩) 512 512) (w.alloc (.cells (vals noughts).toArray 5)) := by
  have := run_make_row' (P := Try.prog) 22 5 (.int .u8 0) 1 Try.underlying22 Try.info5 rfl .i64 .i64 512 (by omega) (by omega) w
  rw [made512] at this
  exact this
theorem blk_bts {w : World} {g : Nat} {xs : List Nat} (h : Blk w g 5 (vals xs).toArray) (hx : ∀ x ∈ xs, x < 256) (hl : xs.length ≤ 1000000) : Bts w w.heap.size (some ⟨g, 0, none⟩) xs.length xs :=
  bts_row h.lt hx hl rfl fun i hi => by
    rw [h.cell]
    simpa using vals_get xs i hi
set_option maxHeartbeats 2000000 in
theorem blank_any (A : Option Addr) (n c B : Nat) (xs : List Nat) (w : World) (h : Bts w B A n xs) (hB : B ≤ w.heap.size) :
    Calls Try.prog 18 #[.slice A n c] w fun e w' => e = .returned (.bool (decide (xs = noughts))) ∧ Below w.heap.size w w' := by
  have hmk := make512
  have hz := blk_bts (Blk.new w 5 (vals noughts).toArray) (zeros_lt 512) (by rw [show noughts.length = 512 from List.length_replicate]; omega)
  have hl : noughts.length = 512 := List.length_replicate
  rw [hl] at hz
  obtain ⟨N, hN⟩ : ∃ N, N = 512 := ⟨_, rfl⟩
  rw [show (512 : Nat) = N from hN.symm] at hmk hz
  clear hl hN
  have eq := Crc.equal_any A (some ⟨w.heap.size, 0, none⟩) n N c N _ _ xs noughts _ (h.alloc hB (.cells (vals noughts).toArray 5)) hz
  generalize noughts = zs at *
  have EQ := Lib.hid eq; clear eq hz h
  go_enter Try.func18, Try.ntmps18
  go_wp2_with (go_at_call 33; refine (EQ.out).mono ?_; rintro e w' ⟨rfl, rfl⟩)
  go_ret
  exact ⟨rfl, (Below.refl _ w).alloc (Nat.le_refl _) _⟩
def aP : P := ⟨1, 0, 0, 0, 0, 1, [7]⟩
theorem aP_may : aP.May := (may_iff _).1 (by decide)
theorem lit7 (W : World) : Sb (W.alloc (.cells #[.int .u8 7] 5)) (W.alloc (.cells #[.int .u8 7] 5)).heap.size (.slice (some ⟨W.heap.size, 0, none⟩) 1 1) [7] := by
  refine ⟨_, 1, 1, rfl, rfl, by decide, by omega, fun _ => ⟨W.heap.size, 0, rfl, by simp, fun i hi => ?_⟩⟩
  obtain rfl : i = 0 := by omega
  exact (Blk.new W 5 #[.int .u8 7]).cell 0
set_option maxRecDepth 20000 in
set_option maxHeartbeats 8000000 in
theorem awake_any (w : World) : Calls Try.prog 9 #[] w fun e w' => e = .returned (.bool true) ∧ Below w.heap.size w w' := by
  have pu := put_ok aP (.slice (some ⟨w.heap.size, 0, none⟩) 1 1) (w.alloc (.cells #[.int .u8 7] 5)) aP_may (lit7 w)
  have hsl := sector_length aP_may.l
  have hgo := got_sector aP_may
  obtain ⟨_, _, hrd, _⟩ := of_decode (b := aP.sector) (p := aP) ⟨aP_may, rfl⟩
  have hb0 := (Below.refl w.heap.size w).alloc (Nat.le_refl _) (Obj.cells #[.int .u8 7] 5)
  generalize hsec : aP.sector = sec at *
  have hmay := aP_may
  have HMQ := Lib.hid (show aP.May ∧ aP.sector = sec from ⟨hmay, hsec⟩)
  have HB0 := Lib.hid hb0; clear hb0
  have HSL := Lib.hid hsl; clear hsl
  have HRD := Lib.hid hrd; clear hrd
  clear hgo hsec hmay
  unfold pgV aP at pu
  simp only at pu
  have PU := Lib.hid pu; clear pu
  have hmk := make512
  have hl0 : noughts.length = 512 := List.length_replicate
  obtain ⟨N, hN⟩ : ∃ N, N = 512 := ⟨_, rfl⟩
  rw [show (512 : Nat) = N from hN.symm] at hmk
  have HN := Lib.hid hN; clear hN
  have HL0 := Lib.hid hl0; clear hl0
  have HZ0 := Lib.hid (zeros_lt 512)
  have hzz : noughts = List.replicate 512 0 := rfl
  rw [← hzz] at HZ0
  clear hzz
  generalize hzs : noughts = zs at *
  have HZS := Lib.hid hzs; clear hzs
  go_enter Try.func9, Try.ntmps9
  go_wp2_with (first
    | (go_at_call 10; refine (PU.out).mono ?_; rintro e w2 ⟨v2, rfl, hs, hb⟩; obtain ⟨A2, n2, c2, rfl, hbt, _⟩ := id hs; have hn2 : ((n2 : Int) == 512) = true := (by have h1 := hbt.1; have h2 := HSL.out; rw [show n2 = 512 by omega]; rfl); have gt := get_ok A2 n2 c2 sec aP w2 hs (by have := HSL.out; omega) HRD.out HMQ.out; have GT := Lib.hid gt; have HB2 := Lib.hid (HB0.out.trans (hb.mono HB0.out.size)); clear gt hs hbt hb)
    | (go_at_call 14; refine (GT.out).mono ?_; rintro e w3 ⟨v3, rfl, ⟨vb, rfl, A3, k3, c3, rfl, hbt⟩, hb⟩; have HB3 := Lib.hid (HB2.out.trans (hb.mono HB2.out.size)); have hk3 : k3 = 1 := hbt.1.symm; subst hk3; obtain ⟨b3, o3, hA3, hb3, hc3⟩ := hbt.2.2.2 (by omega); subst hA3; have c0 := hc3 0 (by omega); have c1 := (World.cell?_alloc_lt w3 (.cells #[.int .i64 1, .int .i64 0, .int .i64 0, .int .i64 0, .int .i64 0, .int .i64 1, .slice (some ⟨b3, o3, none⟩) 1 c3] 24) ⟨b3, o3 + 0, none⟩ hb3).trans c0; simp [aP] at c1; have KQ := Lib.hid (Blk.new w3 24 #[.int .i64 1, .int .i64 0, .int .i64 0, .int .i64 0, .int .i64 0, .int .i64 1, .slice (some ⟨b3, o3, none⟩) 1 c3]); have d6 := KQ.out.cell 6; simp at d6; have HB4 := Lib.hid (HB3.out.alloc HB3.out.size (.cells #[.int .i64 1, .int .i64 0, .int .i64 0, .int .i64 0, .int .i64 0, .int .i64 1, .slice (some ⟨b3, o3, none⟩) 1 c3] 24)); have hbk := Blk.new (w3.alloc (.cells #[.int .i64 1, .int .i64 0, .int .i64 0, .int .i64 0, .int .i64 0, .int .i64 1, .slice (some ⟨b3, o3, none⟩) 1 c3] 24)) 5 (vals zs).toArray; rw [show (w3.alloc (.cells #[.int .i64 1, .int .i64 0, .int .i64 0, .int .i64 0, .int .i64 0, .int .i64 1, .slice (some ⟨b3, o3, none⟩) 1 c3] 24)).heap.size = w3.heap.size + 1 from by simp] at hbk; have BL := Lib.hid (blank_any (some ⟨w3.heap.size + 1, 0, none⟩) zs.length N _ zs _ (blk_bts hbk HZ0.out (by have := HL0.out; omega)) (Nat.le_refl _)); clear hbk; rw [HL0.out, decide_eq_true HZS.out.symm, show (512 : Nat) = N from HN.out.symm] at BL; clear hb hbt hc3 c0; unfold pgV aP)
    | (go_at_call 18; refine (BL.out).mono ?_; rintro e w5 ⟨rfl, hb5⟩))
  go_ret
  exact ⟨rfl, (HB4.out.alloc HB4.out.size _).trans (hb5.mono (by simp; have := HB4.out.size; simp at this; omega))⟩
end Go.Proofs.Ytioledhbdehbpaa.Pg
