/- PagePuts: which pages there may be, any one's sector, that it is got, and which are alike: the walk, and the law. -/
import Derived.Test.YtpmkacpdmjnbjaaPageAwake
import Derived.Test.YtpmkacpdmjnbjaaPageRef
import Derived.Deep.RegionHeld3
import Derived.Test.YtpmkacpdmjnbjaaAgg
import Derived.IntWalk
import Derived.WalkKit
import Derived.ProofKit
import Derived.OpenShut
import Derived.ShutString
import Derived.ChangeOld
import Derived.Below
namespace Go.Proofs.Ytpmkacpdmjnbjaa.Pg
open Go.RowKit Go.Proofs.Ytpmkacpdmjnbjaa.Mem Go.Proofs.Ytpmkacpdmjnbjaa.Oct
set_option linter.unusedVariables false
set_option linter.unusedSimpArgs false
set_option maxRecDepth 20000 in
set_option maxHeartbeats 32000000 in
theorem puts_no (p q : P) (Ap Aq : Option Addr) (np cp nq cq : Nat) (w : World) (hp : Sl w w.heap.size (.slice Ap np cp) p.b) (hq : Sl w w.heap.size (.slice Aq nq cq) q.b) (h1 : np ≤ 1000) (h2 : nq ≤ 1000) (hm : p.may = false) :
    Calls Try.prog 7 #[pgV p (.slice Ap np cp), pgV q (.slice Aq nq cq)] w fun e w' => e = .returned (.bool true) ∧ Below w.heap.size w w' := by
  have sp := fun (W : World) (hW : Below w.heap.size w W) => (hp.below hW (Nat.le_refl _)).more hW.size
  have sq := fun (W : World) (hW : Below w.heap.size w W) => (hq.below hW (Nat.le_refl _)).more hW.size
  have hsame := fun (W : World) (hW : Below w.heap.size w W) => same_any p q (.slice Ap np cp) (.slice Aq nq cq) W (sb_of (sp W hW)) (sb_of (sq W hW))
  have hrsame := fun (W : World) (hW : Below w.heap.size w W) => refsame_any p q (.slice Ap np cp) (.slice Aq nq cq) W (sb_of (sp W hW)) (sb_of (sq W hW))
  have hself := fun (W : World) (hW : Below w.heap.size w W) => same_any p p (.slice Ap np cp) (.slice Ap np cp) W (sb_of (sp W hW)) (sb_of (sp W hW))
  simp only [decide_true] at hself
  generalize decide (p = q) = t at hsame hrsame
  have htt : (t != t) = false := by cases t <;> rfl
  have hmay := fun (W : World) (hW : Below w.heap.size w W) => may_any p (.slice Ap np cp) W (sb_of (sp W hW))
  simp only [hm] at hmay
  have hput := fun (W : World) (hW : Below w.heap.size w W) => put_no p (.slice Ap np cp) W hm (sb_of (sp W hW))
  have hd1 : decide (1000 < (np : Int)) = false := by simp; omega
  have hd2 : decide (1000 < (nq : Int)) = false := by simp; omega
  unfold pgV at hsame hrsame hself hmay hput ⊢
  have SAME := Lib.hid hsame; clear hsame
  have RSAME := Lib.hid hrsame; clear hrsame
  have SELF := Lib.hid hself; clear hself
  have MAY := Lib.hid hmay; clear hmay
  have PUT := Lib.hid hput; clear hput
  have SP := Lib.hid sp; clear sp
  have HM := Lib.hid hm
  clear hm hp hq sq
  have HB := Lib.hid (((Below.refl w.heap.size w).alloc (Nat.le_refl _) (Obj.cells #[.int .i64 p.kind, .int .i64 p.gen, .int .i64 p.mark, .int .i64 p.index, .int .i64 p.part, .int .i64 p.parts, .slice Ap np cp] 65)).alloc (by simp) (Obj.cells #[.int .i64 q.kind, .int .i64 q.gen, .int .i64 q.mark, .int .i64 q.index, .int .i64 q.part, .int .i64 q.parts, .slice Aq nq cq] 65))
  have KP := Lib.hid ((Blk.new w 65 #[.int .i64 p.kind, .int .i64 p.gen, .int .i64 p.mark, .int .i64 p.index, .int .i64 p.part, .int .i64 p.parts, .slice Ap np cp]).alloc (Obj.cells #[.int .i64 q.kind, .int .i64 q.gen, .int .i64 q.mark, .int .i64 q.index, .int .i64 q.part, .int .i64 q.parts, .slice Aq nq cq] 65))
  have KQ0 := Blk.new (w.alloc (Obj.cells #[.int .i64 p.kind, .int .i64 p.gen, .int .i64 p.mark, .int .i64 p.index, .int .i64 p.part, .int .i64 p.parts, .slice Ap np cp] 65)) 65 #[.int .i64 q.kind, .int .i64 q.gen, .int .i64 q.mark, .int .i64 q.index, .int .i64 q.part, .int .i64 q.parts, .slice Aq nq cq]
  rw [show (w.alloc (Obj.cells #[.int .i64 p.kind, .int .i64 p.gen, .int .i64 p.mark, .int .i64 p.index, .int .i64 p.part, .int .i64 p.parts, .slice Ap np cp] 65)).heap.size = w.heap.size + 1 from by simp] at KQ0
  have KQ := Lib.hid KQ0; clear KQ0
  have z_0 := KP.out.cell 0; have z_1 := KP.out.cell 1; have z_2 := KP.out.cell 2; have z_3 := KP.out.cell 3; have z_4 := KP.out.cell 4; have z_5 := KP.out.cell 5; have z_6 := KP.out.cell 6; simp at z_0 z_1 z_2 z_3 z_4 z_5 z_6
  have y_0 := KQ.out.cell 0; have y_1 := KQ.out.cell 1; have y_2 := KQ.out.cell 2; have y_3 := KQ.out.cell 3; have y_4 := KQ.out.cell 4; have y_5 := KQ.out.cell 5; have y_6 := KQ.out.cell 6; simp at y_0 y_1 y_2 y_3 y_4 y_5 y_6
  go_enter Try.func7, Try.ntmps7
  go_wp2_with (go_at_call 29; refine (PUT.out _ HB.out).mono ?_; rintro e w2 ⟨rfl, hb⟩; clear z_0 z_1 z_2 z_3 z_4 z_5 z_6 y_0 y_1 y_2 y_3 y_4 y_5 y_6; have KPn := Lib.hid (KP.out.below hb KP.out.lt); have KQn := Lib.hid (KQ.out.below hb KQ.out.lt); have HBn := Lib.hid (HB.out.trans (hb.mono HB.out.size)); clear KP KQ HB; have KP := KPn; have KQ := KQn; have HB := HBn; clear KPn KQn HBn; have c_0 := KP.out.cell 0; have c_1 := KP.out.cell 1; have c_2 := KP.out.cell 2; have c_3 := KP.out.cell 3; have c_4 := KP.out.cell 4; have c_5 := KP.out.cell 5; have c_6 := KP.out.cell 6; simp at c_0 c_1 c_2 c_3 c_4 c_5 c_6; have d_0 := KQ.out.cell 0; have d_1 := KQ.out.cell 1; have d_2 := KQ.out.cell 2; have d_3 := KQ.out.cell 3; have d_4 := KQ.out.cell 4; have d_5 := KQ.out.cell 5; have d_6 := KQ.out.cell 6; simp at d_0 d_1 d_2 d_3 d_4 d_5 d_6; have c_l := KP.out.lt; have d_l := KQ.out.lt; clear hb)
  go_region_held3 (fun W => W.cell? ⟨w.heap.size, 0, none⟩ = some (.int .i64 p.kind) ∧ W.cell? ⟨w.heap.size, 1, none⟩ = some (.int .i64 p.gen) ∧ W.cell? ⟨w.heap.size, 2, none⟩ = some (.int .i64 p.mark) ∧ W.cell? ⟨w.heap.size, 3, none⟩ = some (.int .i64 p.index) ∧ W.cell? ⟨w.heap.size, 4, none⟩ = some (.int .i64 p.part) ∧ W.cell? ⟨w.heap.size, 5, none⟩ = some (.int .i64 p.parts) ∧ W.cell? ⟨w.heap.size, 6, none⟩ = some (.slice Ap np cp) ∧ W.cell? ⟨w.heap.size + 1, 0, none⟩ = some (.int .i64 q.kind) ∧ W.cell? ⟨w.heap.size + 1, 1, none⟩ = some (.int .i64 q.gen) ∧ W.cell? ⟨w.heap.size + 1, 2, none⟩ = some (.int .i64 q.mark) ∧ W.cell? ⟨w.heap.size + 1, 3, none⟩ = some (.int .i64 q.index) ∧ W.cell? ⟨w.heap.size + 1, 4, none⟩ = some (.int .i64 q.part) ∧ W.cell? ⟨w.heap.size + 1, 5, none⟩ = some (.int .i64 q.parts) ∧ W.cell? ⟨w.heap.size + 1, 6, none⟩ = some (.slice Aq nq cq))
    (first
      | with_reducible exact ⟨c_0, c_1, c_2, c_3, c_4, c_5, c_6, d_0, d_1, d_2, d_3, d_4, d_5, d_6⟩
      | with_reducible exact ⟨e_0, e_1, e_2, e_3, e_4, e_5, e_6, f_0, f_1, f_2, f_3, f_4, f_5, f_6⟩
      | with_reducible exact ⟨g_0, g_1, g_2, g_3, g_4, g_5, g_6, h_0, h_1, h_2, h_3, h_4, h_5, h_6⟩
      | with_reducible exact ⟨i_0, i_1, i_2, i_3, i_4, i_5, i_6, j_0, j_1, j_2, j_3, j_4, j_5, j_6⟩
      | go_keep)
    (first
      | (go_at_call 30; first
        | (have zz := R1; refine (SELF.out _ (by exact HB.out.drew)).mono ?_; rintro e w5 ⟨rfl, hb⟩; have KPn := Lib.hid (KP.out.below hb KP.out.lt); have KQn := Lib.hid (KQ.out.below hb KQ.out.lt); have HBn := Lib.hid (HB.out.trans (hb.mono HB.out.size)); clear KP KQ HB; have KP := KPn; have KQ := KQn; have HB := HBn; clear KPn KQn HBn; have i_0 := KP.out.cell 0; have i_1 := KP.out.cell 1; have i_2 := KP.out.cell 2; have i_3 := KP.out.cell 3; have i_4 := KP.out.cell 4; have i_5 := KP.out.cell 5; have i_6 := KP.out.cell 6; simp at i_0 i_1 i_2 i_3 i_4 i_5 i_6; have j_0 := KQ.out.cell 0; have j_1 := KQ.out.cell 1; have j_2 := KQ.out.cell 2; have j_3 := KQ.out.cell 3; have j_4 := KQ.out.cell 4; have j_5 := KQ.out.cell 5; have j_6 := KQ.out.cell 6; simp at j_0 j_1 j_2 j_3 j_4 j_5 j_6; have i_l := KP.out.lt; have j_l := KQ.out.lt; clear hb)
        | (have zz := R1; refine (SELF.out _ (by exact HB.out)).mono ?_; rintro e w5 ⟨rfl, hb⟩; have KPn := Lib.hid (KP.out.below hb KP.out.lt); have KQn := Lib.hid (KQ.out.below hb KQ.out.lt); have HBn := Lib.hid (HB.out.trans (hb.mono HB.out.size)); clear KP KQ HB; have KP := KPn; have KQ := KQn; have HB := HBn; clear KPn KQn HBn; have i_0 := KP.out.cell 0; have i_1 := KP.out.cell 1; have i_2 := KP.out.cell 2; have i_3 := KP.out.cell 3; have i_4 := KP.out.cell 4; have i_5 := KP.out.cell 5; have i_6 := KP.out.cell 6; simp at i_0 i_1 i_2 i_3 i_4 i_5 i_6; have j_0 := KQ.out.cell 0; have j_1 := KQ.out.cell 1; have j_2 := KQ.out.cell 2; have j_3 := KQ.out.cell 3; have j_4 := KQ.out.cell 4; have j_5 := KQ.out.cell 5; have j_6 := KQ.out.cell 6; simp at j_0 j_1 j_2 j_3 j_4 j_5 j_6; have i_l := KP.out.lt; have j_l := KQ.out.lt; clear hb)
        | (refine (SAME.out _ (by exact HB.out.drew)).mono ?_; rintro e w3 ⟨rfl, hb⟩; have hb : Below w2.heap.size w2 w3 := ⟨hb.os, hb.tape, hb.output, hb.size, hb.block⟩; have KPn := Lib.hid (KP.out.below hb KP.out.lt); have KQn := Lib.hid (KQ.out.below hb KQ.out.lt); have HBn := Lib.hid (HB.out.trans (hb.mono HB.out.size)); clear KP KQ HB; have KP := KPn; have KQ := KQn; have HB := HBn; clear KPn KQn HBn; have e_0 := KP.out.cell 0; have e_1 := KP.out.cell 1; have e_2 := KP.out.cell 2; have e_3 := KP.out.cell 3; have e_4 := KP.out.cell 4; have e_5 := KP.out.cell 5; have e_6 := KP.out.cell 6; simp at e_0 e_1 e_2 e_3 e_4 e_5 e_6; have f_0 := KQ.out.cell 0; have f_1 := KQ.out.cell 1; have f_2 := KQ.out.cell 2; have f_3 := KQ.out.cell 3; have f_4 := KQ.out.cell 4; have f_5 := KQ.out.cell 5; have f_6 := KQ.out.cell 6; simp at f_0 f_1 f_2 f_3 f_4 f_5 f_6; have e_l := KP.out.lt; have f_l := KQ.out.lt; clear hb))
      | (go_at_call 31; refine (RSAME.out _ (by exact HB.out)).mono ?_; rintro e w4 ⟨rfl, hb⟩; have KPn := Lib.hid (KP.out.below hb KP.out.lt); have KQn := Lib.hid (KQ.out.below hb KQ.out.lt); have HBn := Lib.hid (HB.out.trans (hb.mono HB.out.size)); clear KP KQ HB; have KP := KPn; have KQ := KQn; have HB := HBn; clear KPn KQn HBn; have g_0 := KP.out.cell 0; have g_1 := KP.out.cell 1; have g_2 := KP.out.cell 2; have g_3 := KP.out.cell 3; have g_4 := KP.out.cell 4; have g_5 := KP.out.cell 5; have g_6 := KP.out.cell 6; simp at g_0 g_1 g_2 g_3 g_4 g_5 g_6; have h_0 := KQ.out.cell 0; have h_1 := KQ.out.cell 1; have h_2 := KQ.out.cell 2; have h_3 := KQ.out.cell 3; have h_4 := KQ.out.cell 4; have h_5 := KQ.out.cell 5; have h_6 := KQ.out.cell 6; simp at h_0 h_1 h_2 h_3 h_4 h_5 h_6; have g_l := KP.out.lt; have h_l := KQ.out.lt; have R1 := Lib.hid trivial; clear hb))
  go_wp2_with (first
    | (go_at_call 32; refine (MAY.out _ HB.out).mono ?_; rintro e w6 ⟨rfl, hb⟩; have HB6 := Lib.hid (HB.out.trans (hb.mono HB.out.size)); clear hb)
    | (go_at_call 28; refine (awake_any _).mono ?_; rintro e w8 ⟨rfl, hb8⟩))
  go_ret
  exact ⟨rfl, HB6.out.trans (hb8.mono HB6.out.size)⟩
set_option maxRecDepth 20000 in
set_option maxHeartbeats 32000000 in
theorem puts_yes (p q : P) (Ap Aq : Option Addr) (np cp nq cq : Nat) (w : World) (hp : Sl w w.heap.size (.slice Ap np cp) p.b) (hq : Sl w w.heap.size (.slice Aq nq cq) q.b) (h1 : np ≤ 1000) (h2 : nq ≤ 1000) (hm : p.may = true) :
    Calls Try.prog 7 #[pgV p (.slice Ap np cp), pgV q (.slice Aq nq cq)] w fun e w' => e = .returned (.bool true) ∧ Below w.heap.size w w' := by
  have sp := fun (W : World) (hW : Below w.heap.size w W) => (hp.below hW (Nat.le_refl _)).more hW.size
  have sq := fun (W : World) (hW : Below w.heap.size w W) => (hq.below hW (Nat.le_refl _)).more hW.size
  have hsame := fun (W : World) (hW : Below w.heap.size w W) => same_any p q (.slice Ap np cp) (.slice Aq nq cq) W (sb_of (sp W hW)) (sb_of (sq W hW))
  have hrsame := fun (W : World) (hW : Below w.heap.size w W) => refsame_any p q (.slice Ap np cp) (.slice Aq nq cq) W (sb_of (sp W hW)) (sb_of (sq W hW))
  have hself := fun (W : World) (hW : Below w.heap.size w W) => same_any p p (.slice Ap np cp) (.slice Ap np cp) W (sb_of (sp W hW)) (sb_of (sp W hW))
  simp only [decide_true] at hself
  generalize decide (p = q) = t at hsame hrsame
  have htt : (t != t) = false := by cases t <;> rfl
  have hmay := fun (W : World) (hW : Below w.heap.size w W) => may_any p (.slice Ap np cp) W (sb_of (sp W hW))
  simp only [hm] at hmay
  have hput := fun (W : World) (hW : Below w.heap.size w W) => put_ok p (.slice Ap np cp) W ((may_iff p).1 hm) (sb_of (sp W hW))
  have hd1 : decide (1000 < (np : Int)) = false := by simp; omega
  have hd2 : decide (1000 < (nq : Int)) = false := by simp; omega
  have hrput := fun (W : World) (hW : Below w.heap.size w W) => ref_put p (.slice Ap np cp) W ((may_iff p).1 hm) (sp W hW)
  have hsl := sector_length ((may_iff p).1 hm).l
  obtain ⟨_, _, hrd, _⟩ := of_decode (b := p.sector) (p := p) ⟨(may_iff p).1 hm, rfl⟩
  have hmq : p.May ∧ p.sector = p.sector := ⟨(may_iff p).1 hm, rfl⟩
  generalize hsec : p.sector = sec at *
  have HMQ : Hid (p.May ∧ p.sector = sec) := ⟨hmq.1, hsec⟩
  have HSL := Lib.hid hsl; clear hsl
  have HRD := Lib.hid hrd; clear hrd
  have RPUT := Lib.hid hrput; clear hrput hmq hsec
  unfold pgV at hsame hrsame hself hmay hput RPUT ⊢
  have SAME := Lib.hid hsame; clear hsame
  have RSAME := Lib.hid hrsame; clear hrsame
  have SELF := Lib.hid hself; clear hself
  have MAY := Lib.hid hmay; clear hmay
  have PUT := Lib.hid hput; clear hput
  have SP := Lib.hid sp; clear sp
  have HM := Lib.hid hm
  clear hm hp hq sq
  have HB := Lib.hid (((Below.refl w.heap.size w).alloc (Nat.le_refl _) (Obj.cells #[.int .i64 p.kind, .int .i64 p.gen, .int .i64 p.mark, .int .i64 p.index, .int .i64 p.part, .int .i64 p.parts, .slice Ap np cp] 65)).alloc (by simp) (Obj.cells #[.int .i64 q.kind, .int .i64 q.gen, .int .i64 q.mark, .int .i64 q.index, .int .i64 q.part, .int .i64 q.parts, .slice Aq nq cq] 65))
  have KP := Lib.hid ((Blk.new w 65 #[.int .i64 p.kind, .int .i64 p.gen, .int .i64 p.mark, .int .i64 p.index, .int .i64 p.part, .int .i64 p.parts, .slice Ap np cp]).alloc (Obj.cells #[.int .i64 q.kind, .int .i64 q.gen, .int .i64 q.mark, .int .i64 q.index, .int .i64 q.part, .int .i64 q.parts, .slice Aq nq cq] 65))
  have KQ0 := Blk.new (w.alloc (Obj.cells #[.int .i64 p.kind, .int .i64 p.gen, .int .i64 p.mark, .int .i64 p.index, .int .i64 p.part, .int .i64 p.parts, .slice Ap np cp] 65)) 65 #[.int .i64 q.kind, .int .i64 q.gen, .int .i64 q.mark, .int .i64 q.index, .int .i64 q.part, .int .i64 q.parts, .slice Aq nq cq]
  rw [show (w.alloc (Obj.cells #[.int .i64 p.kind, .int .i64 p.gen, .int .i64 p.mark, .int .i64 p.index, .int .i64 p.part, .int .i64 p.parts, .slice Ap np cp] 65)).heap.size = w.heap.size + 1 from by simp] at KQ0
  have KQ := Lib.hid KQ0; clear KQ0
  have z_0 := KP.out.cell 0; have z_1 := KP.out.cell 1; have z_2 := KP.out.cell 2; have z_3 := KP.out.cell 3; have z_4 := KP.out.cell 4; have z_5 := KP.out.cell 5; have z_6 := KP.out.cell 6; simp at z_0 z_1 z_2 z_3 z_4 z_5 z_6
  have y_0 := KQ.out.cell 0; have y_1 := KQ.out.cell 1; have y_2 := KQ.out.cell 2; have y_3 := KQ.out.cell 3; have y_4 := KQ.out.cell 4; have y_5 := KQ.out.cell 5; have y_6 := KQ.out.cell 6; simp at y_0 y_1 y_2 y_3 y_4 y_5 y_6
  go_enter Try.func7, Try.ntmps7
  go_wp2_with (go_at_call 29; refine (PUT.out _ HB.out).mono ?_; rintro e w2 ⟨v2, rfl, hs, hb⟩; obtain ⟨A2, n2, c2, rfl, hbt2, _⟩ := id hs; have SB0 := Lib.hid hs; have hn2 := hbt2.1; clear hs hbt2; clear z_0 z_1 z_2 z_3 z_4 z_5 z_6 y_0 y_1 y_2 y_3 y_4 y_5 y_6; have KPn := Lib.hid (KP.out.below hb KP.out.lt); have KQn := Lib.hid (KQ.out.below hb KQ.out.lt); have HBn := Lib.hid (HB.out.trans (hb.mono HB.out.size)); clear KP KQ HB; have KP := KPn; have KQ := KQn; have HB := HBn; clear KPn KQn HBn; have c_0 := KP.out.cell 0; have c_1 := KP.out.cell 1; have c_2 := KP.out.cell 2; have c_3 := KP.out.cell 3; have c_4 := KP.out.cell 4; have c_5 := KP.out.cell 5; have c_6 := KP.out.cell 6; simp at c_0 c_1 c_2 c_3 c_4 c_5 c_6; have d_0 := KQ.out.cell 0; have d_1 := KQ.out.cell 1; have d_2 := KQ.out.cell 2; have d_3 := KQ.out.cell 3; have d_4 := KQ.out.cell 4; have d_5 := KQ.out.cell 5; have d_6 := KQ.out.cell 6; simp at d_0 d_1 d_2 d_3 d_4 d_5 d_6; have c_l := KP.out.lt; have d_l := KQ.out.lt; have SB := SB0; clear SB0; clear hb)
  go_region_held3 (fun W => W.cell? ⟨w.heap.size, 0, none⟩ = some (.int .i64 p.kind) ∧ W.cell? ⟨w.heap.size, 1, none⟩ = some (.int .i64 p.gen) ∧ W.cell? ⟨w.heap.size, 2, none⟩ = some (.int .i64 p.mark) ∧ W.cell? ⟨w.heap.size, 3, none⟩ = some (.int .i64 p.index) ∧ W.cell? ⟨w.heap.size, 4, none⟩ = some (.int .i64 p.part) ∧ W.cell? ⟨w.heap.size, 5, none⟩ = some (.int .i64 p.parts) ∧ W.cell? ⟨w.heap.size, 6, none⟩ = some (.slice Ap np cp) ∧ W.cell? ⟨w.heap.size + 1, 0, none⟩ = some (.int .i64 q.kind) ∧ W.cell? ⟨w.heap.size + 1, 1, none⟩ = some (.int .i64 q.gen) ∧ W.cell? ⟨w.heap.size + 1, 2, none⟩ = some (.int .i64 q.mark) ∧ W.cell? ⟨w.heap.size + 1, 3, none⟩ = some (.int .i64 q.index) ∧ W.cell? ⟨w.heap.size + 1, 4, none⟩ = some (.int .i64 q.part) ∧ W.cell? ⟨w.heap.size + 1, 5, none⟩ = some (.int .i64 q.parts) ∧ W.cell? ⟨w.heap.size + 1, 6, none⟩ = some (.slice Aq nq cq))
    (first
      | with_reducible exact ⟨c_0, c_1, c_2, c_3, c_4, c_5, c_6, d_0, d_1, d_2, d_3, d_4, d_5, d_6⟩
      | with_reducible exact ⟨e_0, e_1, e_2, e_3, e_4, e_5, e_6, f_0, f_1, f_2, f_3, f_4, f_5, f_6⟩
      | with_reducible exact ⟨g_0, g_1, g_2, g_3, g_4, g_5, g_6, h_0, h_1, h_2, h_3, h_4, h_5, h_6⟩
      | with_reducible exact ⟨i_0, i_1, i_2, i_3, i_4, i_5, i_6, j_0, j_1, j_2, j_3, j_4, j_5, j_6⟩
      | go_keep)
    (first
      | (go_at_call 30; first
        | (have zz := R1; refine (SELF.out _ (by exact HB.out.drew)).mono ?_; rintro e w5 ⟨rfl, hb⟩; have KPn := Lib.hid (KP.out.below hb KP.out.lt); have KQn := Lib.hid (KQ.out.below hb KQ.out.lt); have HBn := Lib.hid (HB.out.trans (hb.mono HB.out.size)); have SBn := Lib.hid ((SB.out.below hb (Nat.le_refl _)).more hb.size); clear SB; have SB := SBn; clear SBn; clear KP KQ HB; have KP := KPn; have KQ := KQn; have HB := HBn; clear KPn KQn HBn; have i_0 := KP.out.cell 0; have i_1 := KP.out.cell 1; have i_2 := KP.out.cell 2; have i_3 := KP.out.cell 3; have i_4 := KP.out.cell 4; have i_5 := KP.out.cell 5; have i_6 := KP.out.cell 6; simp at i_0 i_1 i_2 i_3 i_4 i_5 i_6; have j_0 := KQ.out.cell 0; have j_1 := KQ.out.cell 1; have j_2 := KQ.out.cell 2; have j_3 := KQ.out.cell 3; have j_4 := KQ.out.cell 4; have j_5 := KQ.out.cell 5; have j_6 := KQ.out.cell 6; simp at j_0 j_1 j_2 j_3 j_4 j_5 j_6; have i_l := KP.out.lt; have j_l := KQ.out.lt; clear hb)
        | (have zz := R1; refine (SELF.out _ (by exact HB.out)).mono ?_; rintro e w5 ⟨rfl, hb⟩; have KPn := Lib.hid (KP.out.below hb KP.out.lt); have KQn := Lib.hid (KQ.out.below hb KQ.out.lt); have HBn := Lib.hid (HB.out.trans (hb.mono HB.out.size)); have SBn := Lib.hid ((SB.out.below hb (Nat.le_refl _)).more hb.size); clear SB; have SB := SBn; clear SBn; clear KP KQ HB; have KP := KPn; have KQ := KQn; have HB := HBn; clear KPn KQn HBn; have i_0 := KP.out.cell 0; have i_1 := KP.out.cell 1; have i_2 := KP.out.cell 2; have i_3 := KP.out.cell 3; have i_4 := KP.out.cell 4; have i_5 := KP.out.cell 5; have i_6 := KP.out.cell 6; simp at i_0 i_1 i_2 i_3 i_4 i_5 i_6; have j_0 := KQ.out.cell 0; have j_1 := KQ.out.cell 1; have j_2 := KQ.out.cell 2; have j_3 := KQ.out.cell 3; have j_4 := KQ.out.cell 4; have j_5 := KQ.out.cell 5; have j_6 := KQ.out.cell 6; simp at j_0 j_1 j_2 j_3 j_4 j_5 j_6; have i_l := KP.out.lt; have j_l := KQ.out.lt; clear hb)
        | (refine (SAME.out _ (by exact HB.out.drew)).mono ?_; rintro e w3 ⟨rfl, hb⟩; have hb : Below w2.heap.size w2 w3 := ⟨hb.os, hb.tape, hb.output, hb.size, hb.block⟩; have KPn := Lib.hid (KP.out.below hb KP.out.lt); have KQn := Lib.hid (KQ.out.below hb KQ.out.lt); have HBn := Lib.hid (HB.out.trans (hb.mono HB.out.size)); have SBn := Lib.hid ((SB.out.below hb (Nat.le_refl _)).more hb.size); clear SB; have SB := SBn; clear SBn; clear KP KQ HB; have KP := KPn; have KQ := KQn; have HB := HBn; clear KPn KQn HBn; have e_0 := KP.out.cell 0; have e_1 := KP.out.cell 1; have e_2 := KP.out.cell 2; have e_3 := KP.out.cell 3; have e_4 := KP.out.cell 4; have e_5 := KP.out.cell 5; have e_6 := KP.out.cell 6; simp at e_0 e_1 e_2 e_3 e_4 e_5 e_6; have f_0 := KQ.out.cell 0; have f_1 := KQ.out.cell 1; have f_2 := KQ.out.cell 2; have f_3 := KQ.out.cell 3; have f_4 := KQ.out.cell 4; have f_5 := KQ.out.cell 5; have f_6 := KQ.out.cell 6; simp at f_0 f_1 f_2 f_3 f_4 f_5 f_6; have e_l := KP.out.lt; have f_l := KQ.out.lt; clear hb))
      | (go_at_call 31; refine (RSAME.out _ (by exact HB.out)).mono ?_; rintro e w4 ⟨rfl, hb⟩; have KPn := Lib.hid (KP.out.below hb KP.out.lt); have KQn := Lib.hid (KQ.out.below hb KQ.out.lt); have HBn := Lib.hid (HB.out.trans (hb.mono HB.out.size)); have SBn := Lib.hid ((SB.out.below hb (Nat.le_refl _)).more hb.size); clear SB; have SB := SBn; clear SBn; clear KP KQ HB; have KP := KPn; have KQ := KQn; have HB := HBn; clear KPn KQn HBn; have g_0 := KP.out.cell 0; have g_1 := KP.out.cell 1; have g_2 := KP.out.cell 2; have g_3 := KP.out.cell 3; have g_4 := KP.out.cell 4; have g_5 := KP.out.cell 5; have g_6 := KP.out.cell 6; simp at g_0 g_1 g_2 g_3 g_4 g_5 g_6; have h_0 := KQ.out.cell 0; have h_1 := KQ.out.cell 1; have h_2 := KQ.out.cell 2; have h_3 := KQ.out.cell 3; have h_4 := KQ.out.cell 4; have h_5 := KQ.out.cell 5; have h_6 := KQ.out.cell 6; simp at h_0 h_1 h_2 h_3 h_4 h_5 h_6; have g_l := KP.out.lt; have h_l := KQ.out.lt; have R1 := Lib.hid trivial; clear hb))
  go_wp2_with (first
    | (go_at_call 32; refine (MAY.out _ HB.out).mono ?_; rintro e w6 ⟨rfl, hb⟩; have KPn := Lib.hid (KP.out.below hb KP.out.lt); have KQn := Lib.hid (KQ.out.below hb KQ.out.lt); have HBn := Lib.hid (HB.out.trans (hb.mono HB.out.size)); have SBn := Lib.hid ((SB.out.below hb (Nat.le_refl _)).more hb.size); clear SB; have SB := SBn; clear SBn; clear KP KQ HB; have KP := KPn; have KQ := KQn; have HB := HBn; clear KPn KQn HBn; have k_0 := KP.out.cell 0; have k_1 := KP.out.cell 1; have k_2 := KP.out.cell 2; have k_3 := KP.out.cell 3; have k_4 := KP.out.cell 4; have k_5 := KP.out.cell 5; have k_6 := KP.out.cell 6; simp at k_0 k_1 k_2 k_3 k_4 k_5 k_6; have l_0 := KQ.out.cell 0; have l_1 := KQ.out.cell 1; have l_2 := KQ.out.cell 2; have l_3 := KQ.out.cell 3; have l_4 := KQ.out.cell 4; have l_5 := KQ.out.cell 5; have l_6 := KQ.out.cell 6; simp at l_0 l_1 l_2 l_3 l_4 l_5 l_6; have k_l := KP.out.lt; have l_l := KQ.out.lt; have GT := Lib.hid (get_ok A2 n2 c2 sec p w6 SB.out (by have := HSL.out; omega) HRD.out HMQ.out); clear hb)
    | (go_at_call 33; refine (GT.out).mono ?_; rintro e w7 ⟨v7, rfl, ⟨vb, rfl, A3, k3, c3, rfl, hbt⟩, hb⟩; have hbx := hb.alloc hb.size (.cells #[.int .i64 p.kind, .int .i64 p.gen, .int .i64 p.mark, .int .i64 p.index, .int .i64 p.part, .int .i64 p.parts, .slice A3 k3 c3] 65); have KPn := Lib.hid (KP.out.below hbx KP.out.lt); have KQn := Lib.hid (KQ.out.below hbx KQ.out.lt); have HBn := Lib.hid (HB.out.trans (hbx.mono HB.out.size)); have SBn := Lib.hid ((SB.out.below hbx (Nat.le_refl _)).more hbx.size); clear SB; have SB := SBn; clear SBn; clear KP KQ HB; have KP := KPn; have KQ := KQn; have HB := HBn; clear KPn KQn HBn; have n_0 := KP.out.cell 0; have n_1 := KP.out.cell 1; have n_2 := KP.out.cell 2; have n_3 := KP.out.cell 3; have n_4 := KP.out.cell 4; have n_5 := KP.out.cell 5; have n_6 := KP.out.cell 6; simp at n_0 n_1 n_2 n_3 n_4 n_5 n_6; have o_0 := KQ.out.cell 0; have o_1 := KQ.out.cell 1; have o_2 := KQ.out.cell 2; have o_3 := KQ.out.cell 3; have o_4 := KQ.out.cell 4; have o_5 := KQ.out.cell 5; have o_6 := KQ.out.cell 6; simp at o_0 o_1 o_2 o_3 o_4 o_5 o_6; have n_l := KP.out.lt; have o_l := KQ.out.lt; have KX := Lib.hid (Blk.new w7 65 #[.int .i64 p.kind, .int .i64 p.gen, .int .i64 p.mark, .int .i64 p.index, .int .i64 p.part, .int .i64 p.parts, .slice A3 k3 c3]); have x_0 := KX.out.cell 0; have x_1 := KX.out.cell 1; have x_2 := KX.out.cell 2; have x_3 := KX.out.cell 3; have x_4 := KX.out.cell 4; have x_5 := KX.out.cell 5; have x_6 := KX.out.cell 6; simp at x_0 x_1 x_2 x_3 x_4 x_5 x_6; have xl := KX.out.lt; have HX := Lib.hid (show Sb (w7.alloc (.cells #[.int .i64 p.kind, .int .i64 p.gen, .int .i64 p.mark, .int .i64 p.index, .int .i64 p.part, .int .i64 p.parts, .slice A3 k3 c3] 65)) (w7.alloc (.cells #[.int .i64 p.kind, .int .i64 p.gen, .int .i64 p.mark, .int .i64 p.index, .int .i64 p.part, .int .i64 p.parts, .slice A3 k3 c3] 65)).heap.size (.slice A3 k3 c3) p.b from ⟨A3, k3, c3, rfl, (hbt.alloc (Nat.le_refl _) _).more (by simp)⟩); clear hb hbx hbt; unfold pgV)
    | (go_at_call 34; refine (RPUT.out _ HB.out).mono ?_; rintro e w8 ⟨v8, rfl, hs8, hb⟩; obtain ⟨A8, n8, c8, rfl, hbt8, _⟩ := hs8; have KPn := Lib.hid (KP.out.below hb KP.out.lt); have KQn := Lib.hid (KQ.out.below hb KQ.out.lt); have HBn := Lib.hid (HB.out.trans (hb.mono HB.out.size)); have SBn := Lib.hid ((SB.out.below hb (Nat.le_refl _)).more hb.size); clear SB; have SB := SBn; clear SBn; clear KP KQ HB; have KP := KPn; have KQ := KQn; have HB := HBn; clear KPn KQn HBn; have p_0 := KP.out.cell 0; have p_1 := KP.out.cell 1; have p_2 := KP.out.cell 2; have p_3 := KP.out.cell 3; have p_4 := KP.out.cell 4; have p_5 := KP.out.cell 5; have p_6 := KP.out.cell 6; simp at p_0 p_1 p_2 p_3 p_4 p_5 p_6; have q_0 := KQ.out.cell 0; have q_1 := KQ.out.cell 1; have q_2 := KQ.out.cell 2; have q_3 := KQ.out.cell 3; have q_4 := KQ.out.cell 4; have q_5 := KQ.out.cell 5; have q_6 := KQ.out.cell 6; simp at q_0 q_1 q_2 q_3 q_4 q_5 q_6; have p_l := KP.out.lt; have q_l := KQ.out.lt; have KXn := Lib.hid (KX.out.below hb KX.out.lt); have HXn := Lib.hid ((HX.out.below hb (Nat.le_refl _)).more hb.size); clear KX HX; have KX := KXn; have HX := HXn; clear KXn HXn; have r_0 := KX.out.cell 0; have r_1 := KX.out.cell 1; have r_2 := KX.out.cell 2; have r_3 := KX.out.cell 3; have r_4 := KX.out.cell 4; have r_5 := KX.out.cell 5; have r_6 := KX.out.cell 6; simp at r_0 r_1 r_2 r_3 r_4 r_5 r_6; have r_l := KX.out.lt; have sm := rsame_any A2 A8 n2 n8 c2 c8 _ _ sec sec w8 (sl_bts SB.out) hbt8; rw [decide_eq_true rfl] at sm; have SM := Lib.hid sm; clear sm hbt8 hb)
    | (go_at_call 21; refine (SM.out).mono ?_; rintro e w9 ⟨rfl, q9, hq9⟩; have hb : Below w8.heap.size w8 w9 := hq9 ▸ below_drewN (Below.refl _ w8) q9; have KPn := Lib.hid (KP.out.below hb KP.out.lt); have KQn := Lib.hid (KQ.out.below hb KQ.out.lt); have HBn := Lib.hid (HB.out.trans (hb.mono HB.out.size)); have SBn := Lib.hid ((SB.out.below hb (Nat.le_refl _)).more hb.size); clear SB; have SB := SBn; clear SBn; clear KP KQ HB; have KP := KPn; have KQ := KQn; have HB := HBn; clear KPn KQn HBn; have s_0 := KP.out.cell 0; have s_1 := KP.out.cell 1; have s_2 := KP.out.cell 2; have s_3 := KP.out.cell 3; have s_4 := KP.out.cell 4; have s_5 := KP.out.cell 5; have s_6 := KP.out.cell 6; simp at s_0 s_1 s_2 s_3 s_4 s_5 s_6; have u_0 := KQ.out.cell 0; have u_1 := KQ.out.cell 1; have u_2 := KQ.out.cell 2; have u_3 := KQ.out.cell 3; have u_4 := KQ.out.cell 4; have u_5 := KQ.out.cell 5; have u_6 := KQ.out.cell 6; simp at u_0 u_1 u_2 u_3 u_4 u_5 u_6; have s_l := KP.out.lt; have u_l := KQ.out.lt; have KXn := Lib.hid (KX.out.below hb KX.out.lt); have HXn := Lib.hid ((HX.out.below hb (Nat.le_refl _)).more hb.size); clear KX HX; have KX := KXn; have HX := HXn; clear KXn HXn; have v_0 := KX.out.cell 0; have v_1 := KX.out.cell 1; have v_2 := KX.out.cell 2; have v_3 := KX.out.cell 3; have v_4 := KX.out.cell 4; have v_5 := KX.out.cell 5; have v_6 := KX.out.cell 6; simp at v_0 v_1 v_2 v_3 v_4 v_5 v_6; have v_l := KX.out.lt; have rs := refsame_any p p (.slice A3 k3 c3) (.slice Ap np cp) w9 HX.out (sb_of (SP.out w9 HB.out)); simp only [decide_true] at rs; unfold pgV at rs; have RS := Lib.hid rs; clear rs hb hq9)
    | (go_at_call 31; refine (RS.out).mono ?_; rintro e w10 ⟨rfl, hb⟩; have HB10 := Lib.hid (HB.out.trans (hb.mono HB.out.size)); clear hb)
    | (go_at_call 28; refine (awake_any _).mono ?_; rintro e w11 ⟨rfl, hb11⟩))
  go_ret
  exact ⟨rfl, HB10.out.trans (hb11.mono HB10.out.size)⟩
set_option maxRecDepth 20000 in
set_option maxHeartbeats 2000000 in
theorem puts_awake (ka kb kc kd ke kf la lb lc ld le lf : Int) (Ap Aq : Option Addr) (np cp nq cq : Nat) (w : World) (h : 1000 < np ∨ (np ≤ 1000 ∧ 1000 < nq)) :
    Calls Try.prog 7 #[.agg #[.int .i64 ka, .int .i64 kb, .int .i64 kc, .int .i64 kd, .int .i64 ke, .int .i64 kf, .slice Ap np cp], .agg #[.int .i64 la, .int .i64 lb, .int .i64 lc, .int .i64 ld, .int .i64 le, .int .i64 lf, .slice Aq nq cq]] w fun e w' => e = .returned (.bool true) ∧ Below w.heap.size w w' := by
  have hb := ((Below.refl w.heap.size w).alloc (Nat.le_refl _) (Obj.cells #[.int .i64 ka, .int .i64 kb, .int .i64 kc, .int .i64 kd, .int .i64 ke, .int .i64 kf, .slice Ap np cp] 65)).alloc (by simp) (Obj.cells #[.int .i64 la, .int .i64 lb, .int .i64 lc, .int .i64 ld, .int .i64 le, .int .i64 lf, .slice Aq nq cq] 65)
  have HB := Lib.hid hb; clear hb
  rcases h with h | ⟨h1, h2⟩
  · have hd1 : decide (1000 < (np : Int)) = true := by simp; omega
    clear h
    go_enter Try.func7, Try.ntmps7
    go_wp2_with (go_at_call 28; refine (awake_any _).mono ?_; rintro e w8 ⟨rfl, hb8⟩)
    go_ret
    exact ⟨rfl, HB.out.trans (hb8.mono (by simp; omega))⟩
  · have hd1 : decide (1000 < (np : Int)) = false := by simp; omega
    have hd2 : decide (1000 < (nq : Int)) = true := by simp; omega
    clear h1 h2
    go_enter Try.func7, Try.ntmps7
    go_wp2_with (go_at_call 28; refine (awake_any _).mono ?_; rintro e w8 ⟨rfl, hb8⟩)
    go_ret
    exact ⟨rfl, HB.out.trans (hb8.mono (by simp; omega))⟩
end Go.Proofs.Ytpmkacpdmjnbjaa.Pg
namespace Go.Proofs.Ytpmkacpdmjnbjaa.pagePuts
open Go.Proofs.Ytpmkacpdmjnbjaa.Mem Go.Proofs.Ytpmkacpdmjnbjaa.Pg
open Go.ChangeShapes Go.WideShapes Go.ChangeAt Go.RowKit
set_option linter.unusedVariables false
theorem own : ownKnob Try.prog.godebug = none := by kernel_rfl
theorem laidOut : laidOutB Try.prog = true := by kernel_rfl
theorem walk (a0a a0b a0c a0d a0e a0f : Int) (a0g : Option Addr) (len0g cap0g : Nat) (z0g : List Int) (a1a a1b a1c a1d a1e a1f : Int) (a1g : Option Addr) (len1g cap1g : Nat) (z1g : List Int) (w : World)
    (w0a : (Lit.int .i64 a0a).wf = true) (w0b : (Lit.int .i64 a0b).wf = true) (w0c : (Lit.int .i64 a0c).wf = true) (w0d : (Lit.int .i64 a0d).wf = true) (w0e : (Lit.int .i64 a0e).wf = true) (w0f : (Lit.int .i64 a0f).wf = true) (w0g : IsRow .u8 w a0g len0g cap0g z0g)
    (w1a : (Lit.int .i64 a1a).wf = true) (w1b : (Lit.int .i64 a1b).wf = true) (w1c : (Lit.int .i64 a1c).wf = true) (w1d : (Lit.int .i64 a1d).wf = true) (w1e : (Lit.int .i64 a1e).wf = true) (w1f : (Lit.int .i64 a1f).wf = true) (w1g : IsRow .u8 w a1g len1g cap1g z1g) :
    Calls Try.prog 7 #[.agg #[.int .i64 a0a, .int .i64 a0b, .int .i64 a0c, .int .i64 a0d, .int .i64 a0e, .int .i64 a0f, .slice a0g len0g cap0g], .agg #[.int .i64 a1a, .int .i64 a1b, .int .i64 a1c, .int .i64 a1d, .int .i64 a1e, .int .i64 a1f, .slice a1g len1g cap1g]] w fun e w' => e = .returned (.bool true) ∧ Below w.heap.size w w' := by
  by_cases h1 : len0g ≤ 1000
  · by_cases h2 : len1g ≤ 1000
    · obtain ⟨xs, hs, _⟩ := sl_of_row w0g (by omega)
      obtain ⟨ys, hs', _⟩ := sl_of_row w1g (by omega)
      cases hm : (⟨a0a, a0b, a0c, a0d, a0e, a0f, xs⟩ : P).may
      · exact puts_no ⟨a0a, a0b, a0c, a0d, a0e, a0f, xs⟩ ⟨a1a, a1b, a1c, a1d, a1e, a1f, ys⟩ a0g a1g len0g cap0g len1g cap1g w hs hs' h1 h2 hm
      · exact puts_yes ⟨a0a, a0b, a0c, a0d, a0e, a0f, xs⟩ ⟨a1a, a1b, a1c, a1d, a1e, a1f, ys⟩ a0g a1g len0g cap0g len1g cap1g w hs hs' h1 h2 hm
    · exact puts_awake a0a a0b a0c a0d a0e a0f a1a a1b a1c a1d a1e a1f a0g a1g len0g cap0g len1g cap1g w (.inr ⟨h1, by omega⟩)
  · exact puts_awake a0a a0b a0c a0d a0e a0f a1a a1b a1c a1d a1e a1f a0g a1g len0g cap0g len1g cap1g w (.inl (by omega))
/-! the step from the walk to the row -/
set_option maxRecDepth 100000 in
theorem lifted (os : Os) (started : os.Started) (H : Type) (enc : TypeId × Value → H) :
    ReturnsInHanded {} Try.checked os 7 .any (Rows.pagePutsSpec.pre6 enc Try.prog Try.f7 Rows.pagePutsRow.domain false) (Rows.pagePutsSpec.post enc Try.prog Try.f7 false true false false) := by
  refine returnsInHanded_of_change (C := Try.checked) own started (by kernel_rfl) Try.func7
    (ChangeSpec.witness6 (enc := enc) (C := Try.checked) false ⟨#[], #[.agg #[.int .i64 0, .int .i64 0, .int .i64 0, .int .i64 0, .int .i64 0, .int .i64 0, .slice none 0 0], .agg #[.int .i64 0, .int .i64 0, .int .i64 0, .int .i64 0, .int .i64 0, .int .i64 0, .slice none 0 0]], []⟩ 8 (by kernel_rfl) (by kernel_rfl) (by kernel_rfl) (by kernel_rfl)) ?_
  intro W base args ds gs before hval0 hW hcnd _
  have hval : ∀ (j : Nat) t v, Try.f7.params[j]? = some t → args[j]? = some v → Value.okWide Try.prog W .any base t v := hval0
  have hW' := hW
  obtain ⟨p, q, hA0, hV, rfl, hfz, hnd⟩ := hW
  have hA : DataW.TrodAll enc Try.prog W 0 (fun _ => true) true Try.f7.params.toList args.toList ds p := hA0
  rw [Try.params7] at hA hval
  obtain ⟨v0, vs0, d0, ds0, p0, q0, hargs, rfl, rfl, h0, r0⟩ := trodAll_cons hA
  obtain ⟨v1, vs1, d1, ds1, p1, q1, rfl, rfl, rfl, h1, r1⟩ := trodAll_cons r0
  obtain ⟨rfl, rfl, rfl⟩ := trodAll_nil r1
  obtain rfl : args = #[v0, v1] := by cases args; simp_all
  obtain ⟨rfl, rfl⟩ := trodVars_none hV
  have k0 := h0
  have lt0 : ∀ x ∈ p0, x.block < W.heap.size := by obtain ⟨m, hm⟩ := k0; exact DataW.trod_lt m _ _ _ hm
  obtain ⟨u0a, u0b, u0c, u0d, u0e, u0f, u0g, _, _, _, _, _, _, _, _, rfl, _, _, g0a, g0b, g0c, g0d, g0e, g0f, g0g⟩ := open_agg7 Try.underlying65 (by kernel_rfl) (by kernel_rfl) (hval 0 65 v0 rfl rfl) h0
  obtain ⟨a0a, rfl, w0a⟩ := open_num_at Try.underlying3 g0a
  obtain ⟨a0b, rfl, w0b⟩ := open_num_at Try.underlying3 g0b
  obtain ⟨a0c, rfl, w0c⟩ := open_num_at Try.underlying3 g0c
  obtain ⟨a0d, rfl, w0d⟩ := open_num_at Try.underlying3 g0d
  obtain ⟨a0e, rfl, w0e⟩ := open_num_at Try.underlying3 g0e
  obtain ⟨a0f, rfl, w0f⟩ := open_num_at Try.underlying3 g0f
  obtain ⟨a0g, len0g, cap0g, z0g, rfl, w0g⟩ := open_row_at Try.underlying35 Try.underlying5 (by kernel_rfl) g0g
  have k1 := h1
  have lt1 : ∀ x ∈ p1, x.block < W.heap.size := by obtain ⟨m, hm⟩ := k1; exact DataW.trod_lt m _ _ _ hm
  obtain ⟨u1a, u1b, u1c, u1d, u1e, u1f, u1g, _, _, _, _, _, _, _, _, rfl, _, _, g1a, g1b, g1c, g1d, g1e, g1f, g1g⟩ := open_agg7 Try.underlying65 (by kernel_rfl) (by kernel_rfl) (hval 1 65 v1 rfl rfl) h1
  obtain ⟨a1a, rfl, w1a⟩ := open_num_at Try.underlying3 g1a
  obtain ⟨a1b, rfl, w1b⟩ := open_num_at Try.underlying3 g1b
  obtain ⟨a1c, rfl, w1c⟩ := open_num_at Try.underlying3 g1c
  obtain ⟨a1d, rfl, w1d⟩ := open_num_at Try.underlying3 g1d
  obtain ⟨a1e, rfl, w1e⟩ := open_num_at Try.underlying3 g1e
  obtain ⟨a1f, rfl, w1f⟩ := open_num_at Try.underlying3 g1f
  obtain ⟨a1g, len1g, cap1g, z1g, rfl, w1g⟩ := open_row_at Try.underlying35 Try.underlying5 (by kernel_rfl) g1g
  clear hA0 hval0
  refine (walk a0a a0b a0c a0d a0e a0f a0g len0g cap0g z0g a1a a1b a1c a1d a1e a1f a1g len1g cap1g z1g W w0a w0b w0c w0d w0e w0f w0g w1a w1b w1c w1d w1e w1f w1g).mono fun e W' ⟨he, bel⟩ => ?_
  subst he
  exact ⟨_, rfl, _, _, _, [], _, [], hW', trodAll_mk1 (shut_bool Try.underlying4 _), (trodAll_cons_mk (Below.trod laidOut (by kernel_rfl) (of_decide_eq_true (by kernel_rfl)) k0 bel lt0) (trodAll_cons_mk (Below.trod laidOut (by kernel_rfl) (of_decide_eq_true (by kernel_rfl)) k1 bel lt1) trodAll_mk0)), rfl, bel.frame _, fun h => by cases h⟩

theorem over : Rows.pagePutsRow.holds Try.pinned (OpenSpec.ofChange Rows.pagePutsSpec) :=
  OpenClaim.holds_of_wide 7 Try.f7 rfl rfl rfl rfl rfl rfl rfl ⟨rfl, rfl, rfl, rfl, rfl⟩ rfl rfl rfl rfl rfl (by kernel_rfl) Try.func7 (by kernel_rfl)
    (of_decide_eq_true (by kernel_rfl)) (by unfold Func.isWrapper; first | (rw [if_pos (by decide +kernel)]; kernel_rfl) | (rw [if_neg (by decide +kernel)]; exact ⟨rfl, rfl⟩))
    (fun os started H enc _ => lifted os started H enc)

/-- the statement -/
theorem proved : Rows.PagePutsSaid := over
end Go.Proofs.Ytpmkacpdmjnbjaa.pagePuts
