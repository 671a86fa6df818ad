/- A store is turned (layer 12): the contracts of kept.turn and Store.Turn. -/
import Derived.Test.YtplpmemlaohlaaaGreatNbStoAt
import Derived.Test.YtplpmemlaohlaaaGreatNbWalAllB
import Derived.BigQuiet
import Derived.Deep.RegionHeld3
namespace Go.Proofs.YtplpmemlaohlaaaGreat.Sto
open Go.RowKit Go.Proofs.YtplpmemlaohlaaaGreat.Mem Go.Proofs.YtplpmemlaohlaaaGreat.Oct Go.Proofs.YtplpmemlaohlaaaGreat.Lsa Go.Proofs.YtplpmemlaohlaaaGreat.Chg Go.Proofs.YtplpmemlaohlaaaGreat.Bas Go.Proofs.YtplpmemlaohlaaaGreat.Wl
open Go.Proofs.YtplpmemlaohlaaaGreat.Dsk (KeptBut SMap DiskAt kept_of_below kept_of_grown kept_drew)
open Go.Proofs.YtplpmemlaohlaaaGreat.Plt (sl)
set_option linter.unusedVariables false
set_option linter.unusedSimpArgs false
/-- behind an act of a wal -/
def ActS (w : World) (x g bs bw k : Nat) (r : Dsk.St × Wn × Int) (e : Ending) (w' : World) : Prop := e = .returned (.int .i64 r.2.2) ∧ WalAt w' x g k r.2.1 ∧ DiskAt w' g bs bw r.1 ∧ KeptBut w w' [x, g, bs, bw]
section
variable (y q x g bs bw k : Nat) (v : Wn) (s : Sta) (d : Dsk.St) (w : World)
set_option maxRecDepth 20000 in
set_option maxHeartbeats 4000000 in
theorem kturn_any (dv ev : Value) (t : Sta) (hw : WalAt w x g k v) (hq : w.cell? ⟨q, 0, none⟩ = some (ptr x)) (hql : q < w.heap.size) (hd : DiskAt w g bs bw d) (hk1 : 6 ≤ k) (hk2 : k ≤ 1000) (hv : WnOk k v) (hs : StM w w.heap.size dv ev t) (ht : mayS t = true) :
    Calls Tryz.prog 43 #[ptr q, stV t dv ev] w (ActS w x g bs bw k (turnTo k d v t)) := by
  obtain ⟨A1, n1, c1, rfl, hq1_⟩ := id hs.1
  obtain ⟨A2, n2, c2, rfl, hq2_⟩ := id hs.2
  clear hq1_ hq2_
  have hb := low1 (Below.refl w.heap.size w) (.cells #[.slice A1 n1 c1, .int .i64 t.up, .int .i64 t.bo, .slice A2 n2 c2] 43)
  have k0 := Blk.new w 43 #[.slice A1 n1 c1, .int .i64 t.up, .int .i64 t.bo, .slice A2 n2 c2]
  have PT := Lib.hid (sput_any t (.slice A1 n1 c1) (.slice A2 n2 c2) _ (hs.up hb))
  have hlen := bytesS_len ht
  unfold SPutOut at PT
  rw [ht] at PT
  have TN := Lib.hid (fun (A : Option Addr) (n c : Nat) (W : World) (hW : Below w.heap.size w W) (hS : Sl W W.heap.size (.slice A n c) (bytesS t)) => turn_any x g bs bw k d v A n c (bytesS t) W (hw.up hW) (hd.below hW) hk1 hk2 hv hS (sl_n hS) (by have := sl_n hS; omega))
  unfold ActOut at TN
  obtain ⟨P1, hP1⟩ : ∃ P1, P1 = ActS w x g bs bw k (turnTo k d v t) := ⟨_, rfl⟩
  rw [← hP1]
  have hfin : ∀ (W W' : World), Below w.heap.size w W → WalAt W' x g k (turnP k d v (bytesS t)).2.1 → DiskAt W' g bs bw (turnP k d v (bytesS t)).1 → KeptBut W W' [x, g, bs, bw] → P1 (.returned (.int .i64 (full5 (turnP k d v (bytesS t)).2.2))) W' := by
    intro W W' hW h1 h2 h3
    rw [hP1]
    exact ⟨rfl, h1, h2, (kept_of_below hW (Nat.le_refl _)).trans h3⟩
  have FIN := Lib.hid hfin; clear hfin hP1
  have HB := Lib.hid hb; clear hb
  generalize turnP k d v (bytesS t) = r at *
  obtain ⟨d1, v1, er⟩ := r
  simp only at TN FIN
  obtain ⟨x0, x1, x2, x3, x4⟩ := blk_cells4 k0
  have HQ := Lib.hid (fun (W : World) (hW : Below w.heap.size w W) => (hW.cell (p := ⟨q, 0, none⟩) hql).trans hq)
  have HQL := Lib.hid hql
  clear hs hw hd hv hq hlen k0 ht
  by_cases h5 : er = 5
  · subst h5
    rw [show full5 5 = 4 from rfl] at FIN
    go_enter Tryz.func43, Tryz.ntmps43
    go_wp2_with (first
      | (go_at_call 102; refine (PT.out).mono ?_; rintro e w3 ⟨v3, rfl, hsl, _, hb3⟩; have hs3 := hsl rfl; obtain ⟨A3, n3, c3, rfl, _⟩ := id hs3; have HS3 := Lib.hid hs3; have HB3 := Lib.hid (low_low HB.out hb3); have q0 := HQ.out w3 HB3.out; have q1 := Nat.lt_of_lt_of_le HQL.out HB3.out.size; clear hsl hb3 hs3)
      | (go_at_call 103; refine (TN.out A3 n3 c3 _ HB3.out HS3.out).mono ?_; rintro e w4 ⟨rfl, h1, h2, h3⟩; have HF := Lib.hid (FIN.out _ _ HB3.out h1 h2 h3); clear h1 h2 h3))
    exact HF.out
  · have b5 : (er == 5) = false := beq_false_of_ne h5
    have hf5 : full5 er = er := by unfold full5; rw [if_neg h5]
    rw [hf5] at FIN
    clear hf5
    go_enter Tryz.func43, Tryz.ntmps43
    go_wp2_with (first
      | (go_at_call 102; refine (PT.out).mono ?_; rintro e w3 ⟨v3, rfl, hsl, _, hb3⟩; have hs3 := hsl rfl; obtain ⟨A3, n3, c3, rfl, _⟩ := id hs3; have HS3 := Lib.hid hs3; have HB3 := Lib.hid (low_low HB.out hb3); have q0 := HQ.out w3 HB3.out; have q1 := Nat.lt_of_lt_of_le HQL.out HB3.out.size; clear hsl hb3 hs3)
      | (go_at_call 103; refine (TN.out A3 n3 c3 _ HB3.out HS3.out).mono ?_; rintro e w4 ⟨rfl, h1, h2, h3⟩; have HF := Lib.hid (FIN.out _ _ HB3.out h1 h2 h3); clear h1 h2 h3))
    exact HF.out
/-- behind Turn, or Do -/
def DoneOut (w : World) (y q x g bs bw k : Nat) (r : Done) (e : Ending) (w' : World) : Prop := e = .returned (.int .i64 r.e) ∧ StoreAt w' y q x g k r.v r.s ∧ DiskAt w' g bs bw r.d ∧ KeptBut w w' [q, x, g, bs, bw]
end
end Go.Proofs.YtplpmemlaohlaaaGreat.Sto
