/- The reference of layer 3: New. -/
import Derived.Test.YtpmkacpdmjnbjaaRefU
import Derived.Deep.RegionLaw
import Derived.Deep.OwnRows
namespace Go.Proofs.Ytpmkacpdmjnbjaa.Dsk
open Go.RowKit Go.Maps Go.Proofs.Ytpmkacpdmjnbjaa.Mem
set_option linter.unusedVariables false
set_option linter.unusedSimpArgs false
abbrev nilS : Value := .slice none 0 0
theorem made_all (z : Value) (n : Nat) : madeCells #[z] n = (List.replicate n z).toArray := by
  apply Array.ext
  · simp [madeCells]
  · intro i h1 h2
    simp [madeCells, Nat.mod_one]
theorem made512 : madeCells #[.int .u8 0] 512 = (vals noughts).toArray := by
  rw [made_all]
  simp only [vals, noughts, List.map_replicate]
  rfl
theorem make512 (w : World) : (Instr.makeSlice 35 (.int .i64 512) (.int .i64 512)).run Try.prog w = .ok (.slice (some ⟨w.heap.size, 0, none⟩) 512 512) (w.alloc (.cells (vals noughts).toArray 5)) := by
  have := run_make_row' (P := Try.prog) 35 5 (.int .u8 0) 1 Try.underlying35 Try.info5 rfl .i64 .i64 512 (by omega) (by omega) w
  rw [made512] at this
  exact this
theorem make_rows (n : Nat) (hn : n ≤ 1024) (w : World) : (Instr.makeSlice 29 (.int .i64 (n : Nat)) (.int .i64 (n : Nat))).run Try.prog w = .ok (.slice (some ⟨w.heap.size, 0, none⟩) n n) (w.alloc (.cells (madeCells #[nilS] n) 35)) :=
  run_make_row' (P := Try.prog) 29 35 nilS 24 Try.underlying29 Try.info35 rfl .i64 .i64 n (by omega) (by omega) w
/-- a new row of noughts -/
def NewSec (w : World) (base : Nat) (u : Value) : Prop := ∃ b, u = .slice (some ⟨b, 0, none⟩) 512 512 ∧ base ≤ b ∧ Blk w b 5 (vals noughts).toArray
theorem NewSec.slS {w : World} {base : Nat} {u : Value} {S : List Nat} (h : NewSec w base u) (hS : ∀ x ∈ S, x < base) : SlS w S u noughts := by
  obtain ⟨b, rfl, hb, hk⟩ := h
  refine ⟨_, 512, 512, rfl, isSec_noughts.1, isSec_noughts.2, by omega, Nat.le_refl _, by unfold maxLen; omega, fun e => (by cases e), fun _ => ⟨b, 0, rfl, hk.lt, fun hm => by have := hS b hm; omega, fun i hi => ?_⟩⟩
  rw [Nat.zero_add, hk.cell]
  simpa using vals_get noughts i (by rw [isSec_noughts.1]; omega)
theorem NewSec.grown {w w' : World} {base : Nat} {u : Value} {row : Option Nat} (h : NewSec w base u) (hg : w.grownBy w' row) (hr : ∀ b cs, Blk w b 5 cs → some b ≠ row) : NewSec w' base u := by
  obtain ⟨b, e, hb, hk⟩ := h
  exact ⟨b, e, hb, hk.grown hg (hr b _ hk)⟩
theorem NewSec.far {w : World} {base g : Nat} {i : Nat} {u x : Value} (h : NewSec w base u) {t : TypeId} {cs : Array Value} (hk : Blk w g t cs) (ht : t ≠ 5) : NewSec (w.setCell ⟨g, i, none⟩ x) base u := by
  obtain ⟨b, e, hb, hk'⟩ := h
  exact ⟨b, e, hb, hk'.far (p := ⟨g, i, none⟩) (hk'.ne_ hk (fun e => ht e.symm)) x⟩
theorem madeRow {w : World} {S : List Nat} (n : Nat) (hn : n ≤ 1024) {b : Nat} (hb : Blk w b 35 (madeCells #[nilS] n)) (hS : ∀ x ∈ S, x < b) : RowS w S (.slice (some ⟨b, 0, none⟩) n n) n (fun _ => nilS) := by
  refine ⟨_, n, rfl, Nat.le_refl _, by unfold maxLen; omega, fun e => (by cases e), fun _ => ⟨b, 0, rfl, hb.lt, fun hm => by have := hS b hm; omega, fun i hi => ?_⟩⟩
  rw [Nat.zero_add, hb.cell]
  simp [made_all, hi]
set_option maxRecDepth 20000 in
set_option maxHeartbeats 4000000 in
theorem ref_new (S : List Nat) (n : Nat) (w : World) (h1 : 1 ≤ n) (h2 : n ≤ 1024) (hS : ∀ x ∈ S, x < w.heap.size) :
    Calls Try.prog 13 #[.int .i64 (n : Nat)] w fun e w' => ∃ v, e = .returned v ∧ RefAt w' S v (St.new n) ∧ Below w.heap.size w w' := by
  obtain ⟨i0, hi, hz0, hz1, hz2⟩ := info_parts Try.info35
  have HI := Lib.hid hi; clear hi
  have HZ0 := Lib.hid hz0; clear hz0
  have HZ1 := Lib.hid hz1; clear hz1
  have HZ2 := Lib.hid hz2; clear hz2
  have hmk := make512
  have hmr := make_rows n h2
  obtain ⟨w3, hw3⟩ : ∃ w3, w3 = ((w.alloc (Obj.cells #[nilS, nilS, .int .i64 0, .bool false] 31)).alloc (Obj.cells (madeCells #[nilS] n) 35)).alloc (Obj.cells #[nilS, .slice (some ⟨w.heap.size + 1, 0, none⟩) n n, .int .i64 (-1), .bool false] 31) := ⟨_, rfl⟩
  have r0 : Blk w3 w.heap.size 31 #[nilS, nilS, .int .i64 0, .bool false] := by rw [hw3]; exact ((Blk.new _ _ _).alloc _).alloc _
  have r1 : Blk w3 (w.heap.size + 1) 35 (madeCells #[nilS] n) := by
    rw [hw3]
    have := (Blk.new (w.alloc (Obj.cells #[nilS, nilS, .int .i64 0, .bool false] 31)) 35 (madeCells #[nilS] n))
    exact (by simpa using this : Blk _ (w.heap.size + 1) _ _).alloc _
  have r2 : Blk w3 (w.heap.size + 1 + 1) 31 #[nilS, .slice (some ⟨w.heap.size + 1, 0, none⟩) n n, .int .i64 (-1), .bool false] := by
    rw [hw3]
    have := Blk.new ((w.alloc (Obj.cells #[nilS, nilS, .int .i64 0, .bool false] 31)).alloc (Obj.cells (madeCells #[nilS] n) 35)) 31 #[nilS, .slice (some ⟨w.heap.size + 1, 0, none⟩) n n, .int .i64 (-1), .bool false]
    simpa using this
  have r3 : w3.heap.size = w.heap.size + 1 + 1 + 1 := by rw [hw3]; simp
  have r4 : Below w.heap.size w w3 := by rw [hw3]; exact (((Below.refl _ w).alloc (Nat.le_refl _) _).alloc (by simp) _).alloc (by simp; omega) _
  have R0 := Lib.hid r0; clear r0
  have R1 := Lib.hid r1; clear r1
  have R2 := Lib.hid r2; clear r2
  have R3 := Lib.hid r3; clear r3
  have R4 := Lib.hid r4; clear r4
  have HS := Lib.hid hS; clear hS
  go_enter Try.func13, Try.ntmps13
  go_wp2
  rw [← hw3]
  have HW3 := Lib.hid hw3; clear hw3
  go_loopw [4] (fun i wr => ∃ (k : Nat) (A : Option Addr) (c : Nat) (zs : List Value), k ≤ n ∧ i = .int .i64 k ∧ Blk wr (w.heap.size + 1 + 1) 31 #[.slice A k c, .slice (some ⟨w.heap.size + 1, 0, none⟩) n n, .int .i64 (-1), .bool false] ∧
    wr.ownsRow (w.heap.size + 1 + 1 + 1) 35 1 (.slice A k c) k zs ∧ (∀ j, j < k → NewSec wr (w.heap.size + 1 + 1 + 1) (zs.getD j nilS)) ∧ Below (w.heap.size + 1 + 1) w3 wr) (fun i _ => n - (intOf i).toNat)
  case atStart => exact ⟨0, none, 0, [], Nat.zero_le _, rfl, R2.out, World.ownsRow_nil _ _ _ _, fun j hj => absurd hj (by omega), Below.refl _ _⟩
  case round =>
    obtain ⟨k, A, c, zs, hk, rfl, hd, hown, hsec, hbel⟩ := hrel
    have d0 := hd.cell 0
    have f0 := hd.frozen 0
    have dlt := hd.lt
    have HBel := Lib.hid hbel; clear hbel
    have HOwn := Lib.hid hown; clear hown
    have HSec := Lib.hid hsec; clear hsec
    have hkb : (k + 1) * 24 ≤ 140737488355328 := by omega
    have HKB := Lib.hid hkb; clear hkb
    simp at d0
    have HD := Lib.hid hd; clear hd
    by_cases hlt : k < n
    · go_wp2
      have hsz : w.heap.size + 1 + 1 + 1 ≤ wr.heap.size := by omega
      have hrd : Reads (((wr.alloc (.cells (vals noughts).toArray 5)).alloc (.cells #[.slice (some ⟨wr.heap.size, 0, none⟩) 512 512] 35)).drew) (wr.heap.size + 1 + 1) 1 (some ⟨wr.heap.size + 1, 0, none⟩) 1 [.slice (some ⟨wr.heap.size, 0, none⟩) 512 512] := by
        refine ⟨by simp, fun _ => ⟨_, rfl, by simp, fun j u hu => ?_⟩⟩
        have hj : j = 0 := by
          have := (List.getElem?_eq_some_iff.1 hu).1
          simp at this
          omega
        subst hj
        simp at hu
        subst hu
        have hk2 := Blk.new (wr.alloc (.cells (vals noughts).toArray 5)) 35 #[.slice (some ⟨wr.heap.size, 0, none⟩) 512 512]
        have hs2 : (wr.alloc (.cells (vals noughts).toArray 5)).heap.size = wr.heap.size + 1 := by simp
        rw [hs2] at hk2
        rw [add_plain]
        exact hk2.drew.cell 0
      have HRD := Lib.hid hrd; clear hrd
      have d1 := (HD.out.alloc (.cells (vals noughts).toArray 5)).cell 0
      have d2 := ((HD.out.alloc (.cells (vals noughts).toArray 5)).alloc (.cells #[.slice (some ⟨wr.heap.size, 0, none⟩) 512 512] 35)).cell 0
      simp at d1 d2
      have hnew : NewSec ((wr.alloc (.cells (vals noughts).toArray 5)).alloc (.cells #[.slice (some ⟨wr.heap.size, 0, none⟩) 512 512] 35)).drew (w.heap.size + 1 + 1 + 1) (.slice (some ⟨wr.heap.size, 0, none⟩) 512 512) := ⟨_, rfl, hsz, ((Blk.new wr _ _).alloc _).drew⟩
      have HNEW := Lib.hid hnew; clear hnew
      have hg0 : wr.grownBy ((wr.alloc (.cells (vals noughts).toArray 5)).alloc (.cells #[.slice (some ⟨wr.heap.size, 0, none⟩) 512 512] 35)).drew none := grown_of_below ((((Below.refl _ wr).alloc (Nat.le_refl _) _).alloc (by simp) _).drew)
      have HG0 := Lib.hid hg0; clear hg0
      go_region_law (refine step_append_any _ rfl (.tmp 14) (.tmp 16) 29 rfl (w.heap.size + 1 + 1 + 1) 35 i0 nilS 1 24 Try.underlying29 HI.out HZ0.out HZ1.out HZ2.out rfl (by decide) (.slice A k c) k zs rfl ((HOwn.out.alloc (.cells (vals noughts).toArray 5)).alloc (.cells #[.slice (some ⟨wr.heap.size, 0, none⟩) 512 512] 35)) (wr.heap.size + 1 + 1) (some ⟨wr.heap.size + 1, 0, none⟩) 1 1 [.slice (some ⟨wr.heap.size, 0, none⟩) 512 512] rfl HRD.out (by intro u hu; simp at hu; subst hu; rfl) (by unfold maxLen; omega) HKB.out (by simp; omega) ?_; intro v2 w2 hown2 hg2 _; obtain ⟨A2, c2, rfl⟩ := own_form hown2; have kd2 := (((HD.out.alloc (.cells (vals noughts).toArray 5)).alloc (.cells #[.slice (some ⟨wr.heap.size, 0, none⟩) 512 512] 35)).drew).grown hg2 (fun e => own_blk_ne HOwn.out HD.out (by decide) e.symm); have e0 := kd2.cell 0; have e1 := kd2.frozen 0; have e2 := kd2.lt; simp at e0; have KD2 := Lib.hid kd2; clear kd2; have HO2 := Lib.hid hown2; clear hown2; have HG2 := Lib.hid hg2; clear hg2)
      all_goals
        go_wp2
        have hrow := (HOwn.out.alloc (.cells (vals noughts).toArray 5)).alloc (.cells #[.slice (some ⟨wr.heap.size, 0, none⟩) 512 512] 35)
        have hne : ∀ (b : Nat) (cs : Array Value), Blk ((wr.alloc (.cells (vals noughts).toArray 5)).alloc (.cells #[.slice (some ⟨wr.heap.size, 0, none⟩) 512 512] 35)).drew b 5 cs → some b ≠ (Value.slice A k c).ownBlock := fun b cs hb e => own_blk_ne hrow hb (by decide) e.symm
        have hb2 : Below (w.heap.size + 1 + 1) w3 w2 := ((((HBel.out.alloc (by omega) _).alloc (by simp; omega) _).drew).grown HG2.out (by simp; omega) (fun q hq => by have := (HOwn.out.lt q hq).1; omega))
        have HB2 := Lib.hid hb2; clear hb2
        go_roundw
        case rel =>
          refine ⟨k + 1, A2, c2, _, by omega, by go_num, KD2.out.set_ 0 _, ownsRow_setCell_below HO2.out (by simp) _, fun j hj => ?_, HB2.out.setCell (Nat.le_refl _) _⟩
          by_cases hjk : j < k
          · have := (((HSec.out j hjk).grown HG0.out (fun b cs _ e => by cases e)).grown HG2.out hne).far (i := 0) (x := .slice A2 (k + 1) c2) KD2.out (by decide)
            have hl := HOwn.out.1
            rw [show (zs ++ [Value.slice (some ⟨wr.heap.size, 0, none⟩) 512 512]).getD j nilS = zs.getD j nilS from by simp [List.getD, List.getElem?_append_left (show j < zs.length by omega)]]
            exact this
          · have hl := HOwn.out.1
            obtain rfl : j = k := by omega
            rw [show (zs ++ [Value.slice (some ⟨wr.heap.size, 0, none⟩) 512 512]).getD j nilS = Value.slice (some ⟨wr.heap.size, 0, none⟩) 512 512 from by simp [List.getD, List.getElem?_append_right (show zs.length ≤ j by omega), show j - zs.length = 0 by omega]]
            exact (HNEW.out.grown HG2.out hne).far (i := 0) (x := .slice A2 (j + 1) c2) KD2.out (by decide)
        case measure => simp [intOf]; omega
    · have hkn : k = n := by omega
      subst hkn
      have d1 := HD.out.cell 1
      have d2 := HD.out.cell 2
      have d3 := HD.out.cell 3
      have kr := R0.out.below HBel.out (by omega)
      have q0 := kr.cell 0
      have q1 := kr.cell 1
      have q2 := kr.cell 2
      have q3 := kr.cell 3
      have p0 := kr.frozen 0
      have p1 := kr.frozen 1
      have p2 := kr.frozen 2
      have p3 := kr.frozen 3
      have hrlt := kr.lt
      simp at d1 d2 d3 q0 q1 q2 q3
      have KR := Lib.hid kr; clear kr
      go_wp2
      have hS2 : ∀ x ∈ w.heap.size :: S, x < w.heap.size + 1 := by
        intro x hx
        rcases List.mem_cons.1 hx with rfl | hx
        · omega
        · have := HS.out x hx; omega
      have hra : RefAt wr (w.heap.size :: S) (refV (.slice A k c) (.slice (some ⟨w.heap.size + 1, 0, none⟩) k k) (St.new k)) (St.new k) := by
        refine ⟨_, _, fun j => zs.getD j nilS, fun _ => nilS, rfl, rowS_own HOwn.out (fun x hx => by have := hS2 x hx; omega), madeRow k h2 (R1.out.below HBel.out (by omega)) (fun x hx => hS2 x hx), fun i hi => (HSec.out i hi).slS (fun x hx => by have := hS2 x hx; omega), fun i hi => slS_nil _ _⟩
      have hfin : RefAt (set4 wr w.heap.size (.slice A k c) (.slice (some ⟨w.heap.size + 1, 0, none⟩) k k) (.int .i64 (-1)) (.bool false)) S (refV (.slice A k c) (.slice (some ⟨w.heap.size + 1, 0, none⟩) k k) (St.new k)) (St.new k) :=
        (hra.kept (set4_kept (KeptBut.refl _ _) (List.mem_cons_self ..))).more (fun x hx => List.mem_cons_of_mem _ hx)
      have hbf := set4_below (a := .slice A k c) (b := .slice (some ⟨w.heap.size + 1, 0, none⟩) k k) (c := .int .i64 (-1)) (d := .bool false) (R4.out.trans (HBel.out.mono (by omega))) (Nat.le_refl _)
      exact bodyPost_ret (v := .agg #[.slice A k c, .slice (some ⟨w.heap.size + 1, 0, none⟩) k k, .int .i64 (-1), .bool false]) (by simp [results, Try.results13, go_sem, q0, q1, q2, q3, hrlt]) rfl ⟨_, rfl, hfin, hbf⟩
end Go.Proofs.Ytpmkacpdmjnbjaa.Dsk
