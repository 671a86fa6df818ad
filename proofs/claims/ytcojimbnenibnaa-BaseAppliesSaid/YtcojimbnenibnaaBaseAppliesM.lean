/- BaseAppliesM: the texts BasIn, BasRefWithin, BaseApplies in one. (Printed by tools/merge.py.) -/
import Derived.Test.YtcojimbnenibnaaBasAwake
import Derived.Test.YtcojimbnenibnaaBasMem
import Derived.Test.YtcojimbnenibnaaBasRef
import Derived.Test.YtcojimbnenibnaaBasRefApply
import Derived.Test.YtcojimbnenibnaaBasRefSame
import Derived.Test.YtcojimbnenibnaaBaseWithin
import Derived.Below
import Derived.ChangeOld
import Derived.Deep.Cut
import Derived.Deep.RegionHeld3
import Derived.IntWalk
import Derived.OpenShut
import Derived.ProofKit
import Derived.ShutString
import Derived.WalkKit
/- States that came in (layer 11): what a law is told of a state by value; no program's function is named here. -/
namespace Go.Proofs.Ytcojimbnenibnaa.Bas
open Go.RowKit Go.Proofs.Ytcojimbnenibnaa.Mem Go.Proofs.Ytcojimbnenibnaa.Oct Go.Proofs.Ytcojimbnenibnaa.Lsa Go.Proofs.Ytcojimbnenibnaa.Chg
set_option linter.unusedVariables false
set_option linter.unusedSimpArgs false
/-- the fields of an Lsa that came in -/
def LaR (w : World) : Nat → Value → Prop
  | 0, v => NumOf .i64 v
  | 1, v => NumOf .i64 v
  | 2, v => LkR w v
  | _, _ => True
def LasR (w : World) (v : Value) : Prop := ∃ A l c, v = .slice A l c ∧ IsRecs w A l c 3 (LaR w)
section
open Go.ChangeShapes Go.WideShapes Go.ChangeAt Go.Joins
variable {H : Type} {enc : TypeId × Value → H} {W : World} {base : Nat} {held : Bool}
set_option maxRecDepth 20000 in
theorem open_lsas_at {fuel : Nat} {v : Value} {y : DataW H × List MemPlace} (h : DataW.trod enc Try.prog W base (fun _ => true) held fuel 22 [v] = some y) : LasR W v := by
  rcases open_slice_fields Try.underlying22 Try.underlying50 (by kernel_rfl) (by kernel_rfl) h with ⟨hcs, _⟩ | ⟨x, l, c, m, D, Pl, hcs, _, hl, hm, hmm, _, hh⟩
  · injection hcs with hcs _
    exact ⟨none, 0, 0, hcs, .inl ⟨rfl, rfl, rfl⟩⟩
  · injection hcs with hcs _
    refine ⟨some x, l, c, hcs, .inr ⟨_, rfl, hl, hm, fun i hi j hj => ?_⟩⟩
    obtain ⟨ys, n, _, _, _, hg⟩ := hh i (by rw [hmm, if_pos rfl]; exact hi)
    match j, hj with
    | 0, _ =>
      obtain ⟨v, y, hc, _, ht⟩ := hg 0 _ rfl
      exact ⟨v, hc, open_num_at Try.underlying3 ht⟩
    | 1, _ =>
      obtain ⟨v, y, hc, _, ht⟩ := hg 1 _ rfl
      exact ⟨v, hc, open_num_at Try.underlying3 ht⟩
    | 2, _ =>
      obtain ⟨v, y, hc, _, ht⟩ := hg 2 _ rfl
      exact ⟨v, hc, open_links_at ht⟩
set_option maxRecDepth 20000 in
theorem open_eps_at {fuel : Nat} {v : Value} {y : DataW H × List MemPlace} (h : DataW.trod enc Try.prog W base (fun _ => true) held fuel 23 [v] = some y) : LkR W v := by
  rcases open_slice_fields Try.underlying23 Try.underlying60 (by kernel_rfl) (by kernel_rfl) h with ⟨hcs, _⟩ | ⟨x, l, c, m, D, Pl, hcs, _, hl, hm, hmm, _, hh⟩
  · injection hcs with hcs _
    exact ⟨none, 0, 0, hcs, .inl ⟨rfl, rfl, rfl⟩⟩
  · injection hcs with hcs _
    refine ⟨some x, l, c, hcs, .inr ⟨_, rfl, hl, hm, fun i hi j hj => ?_⟩⟩
    obtain ⟨ys, n, _, _, _, hg⟩ := hh i (by rw [hmm, if_pos rfl]; exact hi)
    match j, hj with
    | 0, _ =>
      obtain ⟨v, y, hc, _, ht⟩ := hg 0 _ rfl
      exact ⟨v, hc, open_num_at Try.underlying3 ht⟩
    | 1, _ =>
      obtain ⟨v, y, hc, _, ht⟩ := hg 1 _ rfl
      exact ⟨v, hc, open_num_at Try.underlying3 ht⟩
set_option maxRecDepth 20000 in
theorem open_state_at {v : Value} {d : DataW H} {p : List MemPlace} {r : Reach} {b0 : Nat} (hv : Value.okWide Try.prog W r b0 25 v) (h : DataW.Trod enc Try.prog W base (fun _ => true) held 25 v d p) :
    ∃ c0 c1 c2 c3, v = .agg #[c0, c1, c2, c3] ∧ LasR W c0 ∧ NumOf .i64 c1 ∧ NumOf .i64 c2 ∧ LkR W c3 := by
  obtain ⟨u0, u1, u2, u3, _, _, _, _, _, rfl, _, _, g0, g1, g2, g3⟩ := Go.Joins.open_agg4 Try.underlying25 (by kernel_rfl) (by kernel_rfl) hv h
  exact ⟨u0, u1, u2, u3, rfl, open_lsas_at g0, open_num_at Try.underlying3 g1, open_num_at Try.underlying3 g2, open_eps_at g3⟩
end
theorem las_in {w : World} {v : Value} (h : LasR w v) : ∃ l, Las w w.heap.size v l := by
  obtain ⟨A, n, c, rfl, h⟩ := h
  have hnc : n ≤ c ∧ c ≤ maxLen ∧ (A = none → c = 0) := by
    rcases h with ⟨rfl, rfl, rfl⟩ | ⟨x, rfl, h1, h2, _⟩
    · exact ⟨Nat.le_refl _, by unfold maxLen; omega, fun _ => rfl⟩
    · exact ⟨h1, h2, fun e => by cases e⟩
  by_cases h0 : n = 0
  · subst h0
    exact ⟨[], ⟨A, 0, c, rfl, rfl, hnc.1, hnc.2.1, hnc.2.2, fun h => absurd h (by omega)⟩⟩
  · obtain ⟨b, off, rfl, hb, hc⟩ := rec_at h (by omega) (by omega)
    have hch : ∀ i, i < n → ∃ (q : La) (u : Value), w.rangeAt b (off + i * 3) (rowL q u) ∧ Lks w w.heap.size u q.ls := fun i hi => by
      obtain ⟨v0, e0, z0, rfl, _⟩ := hc i hi 0 (by omega)
      obtain ⟨v1, e1, z1, rfl, _⟩ := hc i hi 1 (by omega)
      obtain ⟨v2, e2, A3, l3, c3, rfl, hr⟩ := hc i hi 2 (by omega)
      obtain ⟨ls, hls⟩ := lks_in hr
      refine ⟨⟨z0, z1, ls⟩, .slice A3 l3 c3, fun j v hv => ?_, hls⟩
      rw [Nat.add_assoc]
      match j, hv with
      | 0, hv => simp [rowL] at hv; subst hv; exact e0
      | 1, hv => simp [rowL] at hv; subst hv; exact e1
      | 2, hv => simp [rowL] at hv; subst hv; exact e2
      | j + 3, hv => simp [rowL] at hv
    obtain ⟨f, hf⟩ : ∃ f : Nat → La, ∀ i, i < n → ∃ u, w.rangeAt b (off + i * 3) (rowL (f i) u) ∧ Lks w w.heap.size u (f i).ls :=
      ⟨fun i => if h : i < n then Classical.choose (hch i h) else zeroL, fun i hi => by simp only [hi, dif_pos]; exact Classical.choose_spec (hch i hi)⟩
    have hg : ∀ i, i < n → ((List.range n).map f).getD i zeroL = f i := fun i hi => by simp [List.getD, hi]
    refine ⟨(List.range n).map f, ⟨_, n, c, rfl, by simp, hnc.1, hnc.2.1, hnc.2.2, fun _ => ⟨b, off, rfl, hb, fun i hi => ?_⟩⟩⟩
    rw [hg i hi]
    exact hf i hi
/-- a state that came in -/
theorem st_in {w : World} {dv uv bv ev : Value} (h1 : LasR w dv) (h2 : NumOf .i64 uv) (h3 : NumOf .i64 bv) (h4 : LkR w ev) : ∃ s : Sta, uv = .int .i64 s.up ∧ bv = .int .i64 s.bo ∧ StM w w.heap.size dv ev s := by
  obtain ⟨l, hl⟩ := las_in h1
  obtain ⟨u, rfl, _⟩ := h2
  obtain ⟨b, rfl, _⟩ := h3
  obtain ⟨A, n, c, rfl, hr⟩ := h4
  obtain ⟨ep, he⟩ := lks_in hr
  exact ⟨⟨l, u, b, ep⟩, rfl, rfl, hl, he⟩
end Go.Proofs.Ytcojimbnenibnaa.Bas
/- Nothing is less, or older, by the document's own answer (layer 11): waymarkref11.Within where that is so. -/
namespace Go.Proofs.Ytcojimbnenibnaa.Bas
open Go.RowKit Go.Proofs.Ytcojimbnenibnaa.Mem Go.Proofs.Ytcojimbnenibnaa.Oct Go.Proofs.Ytcojimbnenibnaa.Lsa Go.Proofs.Ytcojimbnenibnaa.Chg
set_option linter.unusedVariables false
set_option linter.unusedSimpArgs false
/-- an origin's Lsa: its links lie where they lay -/
def GetLow (w : World) (B : Nat) (db : List La) (o : Int) (e : Ending) (w' : World) : Prop := ∃ u, e = .returned (lsaV (getOf db o).o (getOf db o).s u) ∧ Lks w' B u (getOf db o).ls ∧ Below w.heap.size w w'
set_option maxRecDepth 20000 in
set_option maxHeartbeats 4000000 in
theorem rget_low (A : Option Addr) (n c B : Nat) (db : List La) (o : Int) (w : World) (hB : B ≤ w.heap.size) (h : Las w B (.slice A n c) db) :
    Calls Try.prog 32 #[.slice A n c, .int .i64 o] w (GetLow w B db o) := by
  obtain ⟨hl, hnc, hcm, _⟩ := las_len h
  unfold maxLen at hcm
  have HL := Lib.hid hl; clear hl
  have HS := Lib.hid h; clear h
  obtain ⟨P1, hP1⟩ : ∃ P1, P1 = GetLow w B db o := ⟨_, rfl⟩
  rw [← hP1]
  have HP1 := Lib.hid hP1; clear hP1
  obtain ⟨z, hz⟩ : ∃ z, z = getOf db o := ⟨_, rfl⟩
  have HZ := Lib.hid hz; clear hz
  have HB := Lib.hid (low1 (Below.refl w.heap.size w) (.cells #[.int .i64 0, .int .i64 0, .slice none 0 0] 50))
  have K0 := Lib.hid (Blk.new w 50 #[.int .i64 0, .int .i64 0, .slice none 0 0])
  go_enter Try.func32, Try.ntmps32
  go_wp2
  go_loopw [5] (fun i wr => ∃ k : Nat, k ≤ n ∧ i = .int .i64 k ∧ Hid (z = getOf (db.drop k) o) ∧ Hid (Blk wr w.heap.size 50 #[.int .i64 0, .int .i64 0, .slice none 0 0]) ∧ Hid (Below w.heap.size w wr)) (fun i _ => n - (intOf i).toNat)
  case atStart => exact ⟨0, Nat.zero_le _, rfl, HZ, K0, HB⟩
  case round =>
    clear HB K0
    obtain ⟨k, hk, rfl, HZ2, K0, HBW⟩ := hrel
    obtain ⟨x0, x1, x2, x3⟩ := blk_cells3 K0.out
    obtain ⟨f0, f1, f2⟩ := blk_fz3 K0.out
    by_cases hlt : k < n
    · obtain ⟨b, off, rfl, hb', hc⟩ := las_at HS.out (by omega)
      have hb := Nat.lt_of_lt_of_le hb' hB
      obtain ⟨u, hr, hk2⟩ := hc k hlt
      have c0 := (HBW.out.cell (p := ⟨b, off + k * 3 + 0, none⟩) hb).trans (hr 0 _ rfl)
      have c1 := (HBW.out.cell (p := ⟨b, off + k * 3 + 1, none⟩) hb).trans (hr 1 _ rfl)
      have c2_ := (HBW.out.cell (p := ⟨b, off + k * 3 + 2, none⟩) hb).trans (hr 2 _ rfl)
      rw [Nat.add_zero] at c0
      have hz := HZ2.out
      rw [get_step db o k (by have := HL.out; omega)] at hz
      clear hc hr
      generalize db.getD k zeroL = y at *
      obtain ⟨yo, ys, yl⟩ := y
      obtain ⟨Au, nu, cu, rfl, hq_⟩ := id hk2
      clear hq_
      simp only at c0 c1 c2_ hz hk2
      by_cases e : yo = o
      · subst e
        rw [if_pos rfl] at hz
        have hb2 := HBW.out.grown (upd3_grown wr w.heap.size (.int .i64 yo) (.int .i64 ys) (.slice Au nu cu)) HBW.out.size (fun q hq => by cases hq; exact Nat.le_refl _)
        have hfin : P1 (.returned (lsaV yo ys (.slice Au nu cu))) (upd3 wr w.heap.size (.int .i64 yo) (.int .i64 ys) (.slice Au nu cu)) := by
          rw [HP1.out]
          unfold GetLow
          rw [← HZ.out, hz]
          exact ⟨_, rfl, hk2.below hb2 hB, hb2⟩
        have FIN := Lib.hid hfin
        clear hfin hb2 hz hk2
        go_wp2
        refine bodyPost_ret (v := lsaV yo ys (.slice Au nu cu)) ?_ rfl FIN.out
        simp [results, Try.results32, go_sem, x0, x1, x2]
      · rw [if_neg e] at hz
        have HZ3 := Lib.hid hz; clear hz hk2
        have hb0 : (yo == o) = false := beq_false_of_ne e
        go_wp2
        go_roundw
        case rel => exact ⟨k + 1, by omega, by go_num, HZ3, K0, HBW⟩
        case measure => simp [intOf]; omega
    · obtain rfl : k = n := by omega
      have hz := HZ2.out
      rw [List.drop_eq_nil_of_le (by have := HL.out; omega)] at hz
      have hb2 := HBW.out.grown (upd3_grown wr w.heap.size (.int .i64 0) (.int .i64 0) (.slice none 0 0)) HBW.out.size (fun q hq => by cases hq; exact Nat.le_refl _)
      have hfin : P1 (.returned (lsaV 0 0 (.slice none 0 0))) (upd3 wr w.heap.size (.int .i64 0) (.int .i64 0) (.slice none 0 0)) := by
        rw [HP1.out]
        unfold GetLow
        rw [← HZ.out, hz]
        exact ⟨_, rfl, lks_nil _ _, hb2⟩
      have FIN := Lib.hid hfin
      clear hfin hb2 hz
      go_wp2
      refine bodyPost_ret (v := lsaV 0 0 (.slice none 0 0)) ?_ rfl FIN.out
      simp [results, Try.results32, go_sem, x0, x1, x2]
theorem quiet_two {P : Program} {f : FuncId} {args : Array Value} {w : World} {n : Nat} {v : Value} (h : Calls P f args (w.drewN n) fun e w' => e = .returned v ∧ ∃ m, w' = (w.drewN n).drewN m) :
    Calls P f args (w.drewN n) fun e w'' => e = .returned v ∧ ∃ m, w'' = w.drewN m := h.mono fun _ _ ⟨he, m, hm⟩ => ⟨he, n + m, by rw [hm]; simp [World.drewN, Nat.add_assoc]⟩
theorem within_at {s t : Sta} (h : within s t = true) : (∀ k, k < s.db.length → laIn t.db (s.db.getD k zeroL) = true) ∧ (∀ k, k < s.ep.length → ¬ epoch t.ep (s.ep.getD k (0, 0)).1 < (s.ep.getD k (0, 0)).2) ∧ s.up ≤ t.up ∧ s.bo ≤ t.bo := by
  unfold within at h
  simp only [Bool.and_eq_true, List.all_eq_true, decide_eq_true_eq] at h
  obtain ⟨h1, h2, h3, h4⟩ := h
  refine ⟨fun k hk => h1 _ ?_, fun k hk => ?_, h3, h4⟩
  · simp only [List.getD, List.getElem?_eq_getElem hk, Option.getD_some]
    exact List.getElem_mem _
  · have := h2 (s.ep.getD k (0, 0)) (by simp only [List.getD, List.getElem?_eq_getElem hk, Option.getD_some]; exact List.getElem_mem _)
    unfold epIn at this
    simpa using this
theorem laIn_iff {db : List La} {a : La} (h : laIn db a = true) : ¬ (getOf db a.o).s < a.s ∧ ((getOf db a.o).s = a.s → sameB (getOf db a.o).o (getOf db a.o).s (getOf db a.o).ls a.o a.s a.ls = true) := by
  unfold laIn at h
  have e := sameL_eq (getOf db a.o) a
  unfold sameL at e
  rw [e] at h
  generalize getOf db a.o = g at *
  simp only [Bool.not_eq_true', Bool.or_eq_false_iff, decide_eq_false_iff_not, Bool.and_eq_false_iff, beq_eq_false_iff_ne, Bool.not_eq_false'] at h
  refine ⟨h.1, fun he => ?_⟩
  rcases h.2 with h2 | h2
  · exact absurd he h2
  · exact h2
set_option maxRecDepth 20000 in
set_option maxHeartbeats 8000000 in
theorem rwithin_yes (s t : Sta) (dv ev dv' ev' : Value) (w : World) (h : StM w w.heap.size dv ev s) (h' : StM w w.heap.size dv' ev' t) (hw : within s t = true) :
    Calls Try.prog 15 #[stV s dv ev, stV t dv' ev'] w fun e w' => e = .returned (.bool true) ∧ Below w.heap.size w w' := by
  obtain ⟨hdb, hep, hup, hbo⟩ := within_at hw
  obtain ⟨db, up, bo, ep⟩ := s
  obtain ⟨db', up', bo', ep'⟩ := t
  obtain ⟨h1, h2⟩ := h
  obtain ⟨h1', h2'⟩ := h'
  obtain ⟨A1, n1, c1, rfl, hr_⟩ := id h1
  obtain ⟨A2, n2, c2, rfl, hs_⟩ := id h2
  obtain ⟨A3, n3, c3, rfl, ht_⟩ := id h1'
  obtain ⟨A4, n4, c4, rfl, hu_⟩ := id h2'
  clear hr_ hs_ ht_ hu_ hw
  obtain ⟨hl, hnc, hcm, _⟩ := las_len h1
  obtain ⟨hl2, hnc2, hcm2, _⟩ := lks_len h2
  unfold maxLen at hcm hcm2
  simp only [stV] at *
  have hb := low2 w (.cells #[.slice A1 n1 c1, .int .i64 up, .int .i64 bo, .slice A2 n2 c2] 25) (.cells #[.slice A3 n3 c3, .int .i64 up', .int .i64 bo', .slice A4 n4 c4] 25)
  have k0 := (Blk.new w 25 #[.slice A1 n1 c1, .int .i64 up, .int .i64 bo, .slice A2 n2 c2]).alloc (.cells #[.slice A3 n3 c3, .int .i64 up', .int .i64 bo', .slice A4 n4 c4] 25)
  have k1 := blk_second w (.cells #[.slice A1 n1 c1, .int .i64 up, .int .i64 bo, .slice A2 n2 c2] 25) 25 #[.slice A3 n3 c3, .int .i64 up', .int .i64 bo', .slice A4 n4 c4]
  have d1 : decide (up ≤ up') = true := decide_eq_true hup
  have d2 : decide (bo ≤ bo') = true := decide_eq_true hbo
  rw [hl] at hdb
  rw [hl2] at hep
  have HDB := Lib.hid hdb; clear hdb
  have HEP := Lib.hid hep; clear hep
  have K0 := Lib.hid k0; clear k0
  have K1 := Lib.hid k1; clear k1
  have HB := Lib.hid hb; clear hb
  have HS := Lib.hid h1; clear h1
  have HE := Lib.hid h2; clear h2
  have HS' := Lib.hid h1'; clear h1'
  have HE' := Lib.hid h2'; clear h2'
  clear hl hl2
  go_enter Try.func15, Try.ntmps15
  go_wp2
  go_loopw [5] (fun i wr => ∃ k : Nat, k ≤ n1 ∧ i = .int .i64 k ∧ Hid (Blk wr w.heap.size 25 #[.slice A1 n1 c1, .int .i64 up, .int .i64 bo, .slice A2 n2 c2]) ∧ Hid (Blk wr (w.heap.size + 1) 25 #[.slice A3 n3 c3, .int .i64 up', .int .i64 bo', .slice A4 n4 c4]) ∧ Hid (Below w.heap.size w wr)) (fun i _ => n1 - (intOf i).toNat)
  case atStart => exact ⟨0, Nat.zero_le _, rfl, K0, K1, HB⟩
  case round =>
    clear K0 K1 HB
    obtain ⟨k, hk, rfl, K0, K1, HB⟩ := hrel
    obtain ⟨x0, x1, x2, x3, x4⟩ := blk_cells4 K0.out
    obtain ⟨y0, y1, y2, y3, y4⟩ := blk_cells4 K1.out
    by_cases hlt : k < n1
    · obtain ⟨b, off, rfl, hb, hc⟩ := las_at HS.out (by omega)
      obtain ⟨u, hr, hk2⟩ := hc k hlt
      have hin := laIn_iff (HDB.out k hlt)
      have c0 := (HB.out.cell (p := ⟨b, off + k * 3 + 0, none⟩) hb).trans (hr 0 _ rfl)
      rw [Nat.add_zero] at c0
      clear hc
      generalize db.getD k zeroL = x at *
      have HR := Lib.hid hr; clear hr
      obtain ⟨g, hg⟩ : ∃ g, g = getOf db' x.o := ⟨_, rfl⟩
      have gt := fun (W : World) (hW : Below w.heap.size w W) => rget_low A3 n3 c3 w.heap.size db' x.o W hW.size (HS'.out.keep hW)
      unfold GetLow at gt
      rw [← hg] at gt hin
      obtain ⟨hin1, hin2⟩ := hin
      have GT := Lib.hid gt; clear gt hg
      have hk3 := fun (W : World) (hW : Below w.heap.size w W) => (hk2.below hW (Nat.le_refl _)).more hW.size
      have HK3 := Lib.hid hk3; clear hk3
      obtain ⟨Au, nu, cu, rfl, hq_⟩ := id hk2
      clear hq_ hk2
      have gc := HB.out.size
      go_wp2_with (fail)
      go_region_held3 (fun W => W.cell? ⟨w.heap.size, 0, none⟩ = some (.slice (some ⟨b, off, none⟩) n1 c1) ∧ W.cell? ⟨w.heap.size + 1, 0, none⟩ = some (.slice A3 n3 c3) ∧ W.cell? ⟨b, off + k * 3, none⟩ = some (.int .i64 x.o))
        (first
          | with_reducible exact ⟨x0, y0, c0⟩
          | with_reducible exact ⟨r0, s0, t0⟩
          | with_reducible exact ⟨v0, u0, z0⟩
          | go_keep)
        (first
          | (go_at_call 32; refine (GT.out _ ?hw).mono ?_; (case hw => with_reducible exact HB.out.drew); rintro e w5 ⟨v5, rfl, hs5, hb5⟩; have hb5 : Below wr.heap.size wr w5 := ⟨hb5.os, hb5.tape, hb5.output, hb5.size, hb5.block⟩; obtain ⟨A5, n5, c5, rfl, hq_⟩ := id hs5; clear hq_; have HS5 := Lib.hid hs5; have HB5 := Lib.hid (low_low HB.out hb5); have K5 := Lib.hid (K0.out.below hb5 K0.out.lt); have J5 := Lib.hid (K1.out.below hb5 K1.out.lt); have r0 := (blk_cells4 K5.out).1; have s0 := (blk_cells4 J5.out).1; have t0 := (HB5.out.cell (p := ⟨b, off + k * 3 + 0, none⟩) hb).trans (HR.out 0 _ rfl); rewrite [Nat.add_zero] at t0; clear hs5 hb5)
          | (go_at_call 32; refine (GT.out _ ?hw).mono ?_; (case hw => exact (low1 HB.out _).drew); rintro e w5 ⟨v5, rfl, hs5, hb5⟩; have hb5' : Below (wr.alloc (.cells #[.int .i64 0, .int .i64 0, .slice none 0 0] 50)).heap.size (wr.alloc (.cells #[.int .i64 0, .int .i64 0, .slice none 0 0] 50)) w5 := ⟨hb5.os, hb5.tape, hb5.output, hb5.size, hb5.block⟩; obtain ⟨A5, n5, c5, rfl, hq_⟩ := id hs5; clear hq_; have HS5 := Lib.hid hs5; have HB5 := Lib.hid (low_low (low1 HB.out _) hb5'); have K5 := Lib.hid ((K0.out.alloc (.cells #[.int .i64 0, .int .i64 0, .slice none 0 0] 50)).below hb5' (by have := K0.out.lt; simp; omega)); have J5 := Lib.hid ((K1.out.alloc (.cells #[.int .i64 0, .int .i64 0, .slice none 0 0] 50)).below hb5' (by have := K1.out.lt; simp; omega)); have L5 := Lib.hid ((Blk.new wr 50 #[.int .i64 0, .int .i64 0, .slice none 0 0]).below hb5' (by simp)); have r0 := (blk_cells4 K5.out).1; have s0 := (blk_cells4 J5.out).1; have t0 := (HB5.out.cell (p := ⟨b, off + k * 3 + 0, none⟩) hb).trans (HR.out 0 _ rfl); rewrite [Nat.add_zero] at t0; obtain ⟨p0, p1, p2, p3⟩ := blk_cells3 L5.out; obtain ⟨f0, f1, f2⟩ := blk_fz3 L5.out; have hgu := upd3_grown w5 wr.heap.size (.int .i64 g.o) (.int .i64 g.s) (.slice A5 n5 c5); have HB5U := Lib.hid (HB5.out.grown hgu HB5.out.size (fun q hq => by cases hq; exact gc)); have v0 := (blk_cells4 (K5.out.grown hgu (by have := K0.out.lt; simp; omega))).1; have u0 := (blk_cells4 (J5.out.grown hgu (by have := K1.out.lt; simp; omega))).1; have z0 := (HB5U.out.cell (p := ⟨b, off + k * 3 + 0, none⟩) hb).trans (HR.out 0 _ rfl); rewrite [Nat.add_zero] at z0; clear hs5 hb5 hb5'))
      · have L6 := Lib.hid (Blk.new w5 50 #[.int .i64 g.o, .int .i64 g.s, .slice A5 n5 c5])
        have K6 := Lib.hid (K5.out.alloc (.cells #[.int .i64 g.o, .int .i64 g.s, .slice A5 n5 c5] 50))
        have J6 := Lib.hid (J5.out.alloc (.cells #[.int .i64 g.o, .int .i64 g.s, .slice A5 n5 c5] 50))
        have HB6 := Lib.hid (low1 HB5.out (.cells #[.int .i64 g.o, .int .i64 g.s, .slice A5 n5 c5] 50))
        have HL6 := Lib.hid (HS5.out.alloc HB5.out.size (.cells #[.int .i64 g.o, .int .i64 g.s, .slice A5 n5 c5] 50))
        clear K5 J5 HB5 HS5 K0 K1 HB r0 s0 t0 x0 x1 x2 x3 x4 y0 y1 y2 y3 y4 c0 GT gc
        generalize w5.alloc (.cells #[.int .i64 g.o, .int .i64 g.s, .slice A5 n5 c5] 50) = w6 at *
        generalize w5.heap.size = gl at *
        have hls := HL6.out
        obtain ⟨l0, l1, l2, l3⟩ := blk_cells3 L6.out
        obtain ⟨m0, m1, m2, m3, m4⟩ := blk_cells4 K6.out
        have c0 := (HB6.out.cell (p := ⟨b, off + k * 3 + 0, none⟩) hb).trans (HR.out 0 _ rfl)
        have c1_ := (HB6.out.cell (p := ⟨b, off + k * 3 + 1, none⟩) hb).trans (HR.out 1 _ rfl)
        have c2_ := (HB6.out.cell (p := ⟨b, off + k * 3 + 2, none⟩) hb).trans (HR.out 2 _ rfl)
        rewrite [Nat.add_zero] at c0
        have dl : decide (g.s < x.s) = false := decide_eq_false (by omega)
        by_cases he : g.s = x.s
        · have sm := rsame_lsa g.o g.s x.o x.s (.slice A5 n5 c5) (.slice Au nu cu) g.ls x.ls w6.drew ((hls.drew).more HB6.out.size) ((HK3.out w6 HB6.out).drew)
          rewrite [hin2 he] at sm
          have SM := Lib.hid sm; clear sm hls
          have be_ : (g.s == x.s) = true := by rw [he]; exact beq_self_eq_true _
          clear he hin1 hin2
          go_wp2_with (fail)
          refine wp_region_held_drew (S := fun W => W.cell? ⟨gl, 0, none⟩ = some (.int .i64 g.o) ∧ W.cell? ⟨gl, 1, none⟩ = some (.int .i64 g.s) ∧ W.cell? ⟨gl, 2, none⟩ = some (.slice A5 n5 c5) ∧ W.cell? ⟨w.heap.size, 0, none⟩ = some (.slice (some ⟨b, off, none⟩) n1 c1) ∧ W.cell? ⟨b, off + k * 3, none⟩ = some (.int .i64 x.o) ∧ W.cell? ⟨b, off + k * 3 + 1, none⟩ = some (.int .i64 x.s) ∧ W.cell? ⟨b, off + k * 3 + 2, none⟩ = some (.slice Au nu cu)) (by kernel_rfl) ?_ (fun hHeld => ?_)
          · exact ⟨l0, l1, l2, m0, c0, c1_, c2_⟩
          refine wpAnyH_take (i := 0) (oi := ⟨some 24, _, _, _, _, _⟩) (v := ?_) rfl (by kernel_rfl) (by kernel_rfl) (by kernel_rfl) (fun _ _ _ h => h) (Or.inl ⟨by rfl, ?_⟩) (by assumption) ?_
          rotate_left
          · (intro w hSw; (try dsimp only at hSw); go_simp; try with_reducible rfl)
          try simp only [Act.put, List.setIfInBounds_toArray, List.set_cons_zero, List.set_cons_succ]
          refine wpAnyH_take (i := 1) (oi := ⟨some 25, _, _, _, _, _⟩) (v := ?_) rfl (by kernel_rfl) (by kernel_rfl) (by kernel_rfl) (fun _ _ _ h => h) (Or.inl ⟨by rfl, ?_⟩) (by assumption) ?_
          rotate_left
          · (intro w hSw; (try dsimp only at hSw); go_simp; try with_reducible rfl)
          try simp only [Act.put, List.setIfInBounds_toArray, List.set_cons_zero, List.set_cons_succ]
          refine wpAnyH_take (i := 2) (oi := ⟨some 26, _, _, _, _, _⟩) (v := ?_) rfl (by kernel_rfl) (by kernel_rfl) (by kernel_rfl) (fun _ _ _ h => h) (Or.inl ⟨by rfl, ?_⟩) (by assumption) ?_
          rotate_left
          · (intro w hSw; (try dsimp only at hSw); go_simp; try with_reducible rfl)
          try simp only [Act.put, List.setIfInBounds_toArray, List.set_cons_zero, List.set_cons_succ]
          refine wpAnyH_take (i := 3) (oi := ⟨some 27, _, _, _, _, _⟩) (v := ?_) rfl (by kernel_rfl) (by kernel_rfl) (by kernel_rfl) (fun _ _ _ h => h) (Or.inl ⟨by rfl, ?_⟩) (by assumption) ?_
          rotate_left
          · (intro w hSw; (try dsimp only at hSw); go_simp; try with_reducible rfl)
          try simp only [Act.put, List.setIfInBounds_toArray, List.set_cons_zero, List.set_cons_succ]
          refine wpAnyH_take (i := 4) (oi := ⟨some 28, _, _, _, _, _⟩) (v := ?_) rfl (by kernel_rfl) (by kernel_rfl) (by kernel_rfl) (fun _ _ _ h => h) (Or.inl ⟨by rfl, ?_⟩) (by assumption) ?_
          rotate_left
          · (intro w hSw; (try dsimp only at hSw); go_simp; try with_reducible rfl)
          try simp only [Act.put, List.setIfInBounds_toArray, List.set_cons_zero, List.set_cons_succ]
          refine wpAnyH_take (i := 5) (oi := ⟨some 29, _, _, _, _, _⟩) (v := ?_) rfl (by kernel_rfl) (by kernel_rfl) (by kernel_rfl) (fun _ _ _ h => h) (Or.inl ⟨by rfl, ?_⟩) (by assumption) ?_
          rotate_left
          · (intro w hSw; (try dsimp only at hSw); go_simp; try with_reducible rfl)
          try simp only [Act.put, List.setIfInBounds_toArray, List.set_cons_zero, List.set_cons_succ]
          refine wpAnyH_take (i := 6) (oi := ⟨some 30, _, _, _, _, _⟩) (v := ?_) rfl (by kernel_rfl) (by kernel_rfl) (by kernel_rfl) (fun _ _ _ h => h) (Or.inl ⟨by rfl, ?_⟩) (by assumption) ?_
          rotate_left
          · (intro w hSw; (try dsimp only at hSw); go_simp; try with_reducible rfl)
          try simp only [Act.put, List.setIfInBounds_toArray, List.set_cons_zero, List.set_cons_succ]
          refine wpAnyH_take (i := 7) (oi := ⟨some 31, _, _, _, _, _⟩) (v := ?_) rfl (by kernel_rfl) (by kernel_rfl) (by kernel_rfl) (fun _ _ _ h => h) (Or.inl ⟨by rfl, ?_⟩) (by assumption) ?_
          rotate_left
          · (intro w hSw; (try dsimp only at hSw); go_simp; try with_reducible rfl)
          try simp only [Act.put, List.setIfInBounds_toArray, List.set_cons_zero, List.set_cons_succ]
          refine wpAnyH_take (i := 8) (oi := ⟨some 32, _, _, _, _, _⟩) (v := ?_) rfl (by kernel_rfl) (by kernel_rfl) (by kernel_rfl) (fun _ _ _ h => h) (Or.inl ⟨by rfl, ?_⟩) (by assumption) ?_
          rotate_left
          · (intro w hSw; (try dsimp only at hSw); go_simp; try with_reducible rfl)
          try simp only [Act.put, List.setIfInBounds_toArray, List.set_cons_zero, List.set_cons_succ]
          refine wpAnyH_take (i := 9) (oi := ⟨some 33, _, _, _, _, _⟩) (v := ?_) rfl (by kernel_rfl) (by kernel_rfl) (by kernel_rfl) (fun _ _ _ h => h) (Or.inl ⟨by rfl, ?_⟩) (by assumption) ?_
          rotate_left
          · (intro w hSw; (try dsimp only at hSw); go_simp; try with_reducible rfl)
          try simp only [Act.put, List.setIfInBounds_toArray, List.set_cons_zero, List.set_cons_succ]
          refine wpAnyH_take (i := 10) (oi := ⟨some 34, _, _, _, _, _⟩) (v := ?_) rfl (by kernel_rfl) (by kernel_rfl) (by kernel_rfl) (fun _ _ _ h => h) (Or.inl ⟨by rfl, ?_⟩) (by assumption) ?_
          rotate_left
          · (intro w hSw; (try dsimp only at hSw); go_simp; try with_reducible rfl)
          try simp only [Act.put, List.setIfInBounds_toArray, List.set_cons_zero, List.set_cons_succ]
          refine wpAnyH_take (i := 11) (oi := ⟨some 35, _, _, _, _, _⟩) (v := ?_) rfl (by kernel_rfl) (by kernel_rfl) (by kernel_rfl) (fun _ _ _ h => h) (Or.inl ⟨by rfl, ?_⟩) (by assumption) ?_
          rotate_left
          · (intro w hSw; (try dsimp only at hSw); go_simp; try with_reducible rfl)
          try simp only [Act.put, List.setIfInBounds_toArray, List.set_cons_zero, List.set_cons_succ]
          refine wpAnyH_take (i := 12) (oi := ⟨some 36, _, _, _, _, _⟩) (v := ?_) rfl (by kernel_rfl) (by kernel_rfl) (by kernel_rfl) (fun _ _ _ h => h) (Or.inl ⟨by rfl, ?_⟩) (by assumption) ?_
          rotate_left
          · (intro w hSw; (try dsimp only at hSw); go_simp; try with_reducible rfl)
          try simp only [Act.put, List.setIfInBounds_toArray, List.set_cons_zero, List.set_cons_succ]
          refine wpAnyH_take (i := 13) (oi := ⟨some 37, _, _, _, _, _⟩) (v := ?_) rfl (by kernel_rfl) (by kernel_rfl) (by kernel_rfl) (fun _ _ _ h => h) (Or.inl ⟨by rfl, ?_⟩) (by assumption) ?_
          rotate_left
          · (intro w hSw; (try dsimp only at hSw); go_simp; try with_reducible rfl)
          try simp only [Act.put, List.setIfInBounds_toArray, List.set_cons_zero, List.set_cons_succ]
          refine wpAnyH_take (i := 14) (oi := ⟨some 38, _, _, _, _, _⟩) (v := ?_) rfl (by kernel_rfl) (by kernel_rfl) (by kernel_rfl) (fun _ _ _ h => h) (Or.inl ⟨by rfl, ?_⟩) (by assumption) ?_
          rotate_left
          · (intro w hSw; (try dsimp only at hSw); go_simp; try with_reducible rfl)
          try simp only [Act.put, List.setIfInBounds_toArray, List.set_cons_zero, List.set_cons_succ]
          refine wpAnyH_take (i := 15) (oi := ⟨some 39, _, _, _, _, _⟩) (v := ?_) rfl (by kernel_rfl) (by kernel_rfl) (by kernel_rfl) (fun _ _ _ h => h) (Or.inl ⟨by rfl, ?_⟩) (by assumption) ?_
          rotate_left
          · (intro w hSw; (try dsimp only at hSw); go_simp; try with_reducible rfl)
          try simp only [Act.put, List.setIfInBounds_toArray, List.set_cons_zero, List.set_cons_succ]
          refine wpAnyH_take (i := 16) (oi := ⟨some 40, _, _, _, _, _⟩) (v := ?_) rfl (by kernel_rfl) (by kernel_rfl) (by kernel_rfl) (fun _ _ _ h => h) (Or.inl ⟨by rfl, ?_⟩) (by assumption) ?_
          rotate_left
          · (intro w hSw; (try dsimp only at hSw); go_simp; try with_reducible rfl)
          try simp only [Act.put, List.setIfInBounds_toArray, List.set_cons_zero, List.set_cons_succ]
          refine wpAnyH_take (i := 17) (oi := ⟨some 41, _, _, _, _, _⟩) (v := ?_) rfl (by kernel_rfl) (by kernel_rfl) (by kernel_rfl) (fun _ _ _ h => h) (Or.inl ⟨by rfl, ?_⟩) (by assumption) ?_
          rotate_left
          · (intro w hSw; (try dsimp only at hSw); go_simp; try with_reducible rfl)
          try simp only [Act.put, List.setIfInBounds_toArray, List.set_cons_zero, List.set_cons_succ]
          refine wpAnyH_take (i := 18) (oi := ⟨some 42, _, _, _, _, _⟩) (v := ?_) rfl (by kernel_rfl) (by kernel_rfl) (by kernel_rfl) (fun _ _ _ h => h) (Or.inl ⟨by rfl, ?_⟩) (by assumption) ?_
          rotate_left
          · (intro w hSw; (try dsimp only at hSw); go_simp; try with_reducible rfl)
          try simp only [Act.put, List.setIfInBounds_toArray, List.set_cons_zero, List.set_cons_succ]
          refine wpAnyH_take (i := 19) (oi := ⟨some 43, _, _, _, _, _⟩) (v := ?_) rfl (by kernel_rfl) (by kernel_rfl) (by kernel_rfl) (fun _ _ _ h => h) (Or.inl ⟨by rfl, ?_⟩) (by assumption) ?_
          rotate_left
          · (intro w hSw; (try dsimp only at hSw); go_simp; try with_reducible rfl)
          try simp only [Act.put, List.setIfInBounds_toArray, List.set_cons_zero, List.set_cons_succ]
          refine wpAnyH_take (i := 20) (oi := ⟨some 44, _, _, _, _, _⟩) (v := ?_) rfl (by kernel_rfl) (by kernel_rfl) (by kernel_rfl) (fun _ _ _ h => h) (Or.inl ⟨by rfl, ?_⟩) (by assumption) ?_
          rotate_left
          · (intro w hSw; (try dsimp only at hSw); go_simp; try with_reducible rfl)
          try simp only [Act.put, List.setIfInBounds_toArray, List.set_cons_zero, List.set_cons_succ]
          refine wpAnyH_take (i := 21) (oi := ⟨some 45, _, _, _, _, _⟩) (v := ?_) rfl (by kernel_rfl) (by kernel_rfl) (by kernel_rfl) (fun _ _ _ h => h) (Or.inl ⟨by rfl, ?_⟩) (by assumption) ?_
          rotate_left
          · (intro w hSw; (try dsimp only at hSw); go_simp; try with_reducible rfl)
          try simp only [Act.put, List.setIfInBounds_toArray, List.set_cons_zero, List.set_cons_succ]
          refine wpAnyH_take (i := 22) (oi := ⟨some 46, _, _, _, _, _⟩) (v := ?_) rfl (by kernel_rfl) (by kernel_rfl) (by kernel_rfl) (fun _ _ _ h => h) (Or.inl ⟨by rfl, ?_⟩) (by assumption) ?_
          rotate_left
          · (intro w hSw; (try dsimp only at hSw); go_simp; try with_reducible rfl)
          try simp only [Act.put, List.setIfInBounds_toArray, List.set_cons_zero, List.set_cons_succ]
          refine wpAnyH_take (i := 23) (oi := ⟨some 47, _, _, _, _, _⟩) (v := ?_) rfl (by kernel_rfl) (by kernel_rfl) (by kernel_rfl) (fun _ _ _ h => h) (Or.inl ⟨by rfl, ?_⟩) (by assumption) ?_
          rotate_left
          · (intro w hSw; (try dsimp only at hSw); go_simp; try with_reducible rfl)
          try simp only [Act.put, List.setIfInBounds_toArray, List.set_cons_zero, List.set_cons_succ]
          refine wpAnyH_take (i := 24) (oi := ⟨some 48, _, _, _, _, _⟩) (v := ?_) rfl (by kernel_rfl) (by kernel_rfl) (by kernel_rfl) (fun _ _ _ h => h) (Or.inl ⟨by rfl, ?_⟩) (by assumption) ?_
          rotate_left
          · (intro w hSw; (try dsimp only at hSw); go_simp; try with_reducible rfl)
          try simp only [Act.put, List.setIfInBounds_toArray, List.set_cons_zero, List.set_cons_succ]
          refine wpAnyH_take (i := 25) (oi := ⟨some 49, _, _, _, _, _⟩) (v := ?_) rfl (by kernel_rfl) (by kernel_rfl) (by kernel_rfl) (fun _ _ _ h => h) (Or.inl ⟨by rfl, ?_⟩) (by assumption) ?_
          rotate_left
          · (intro w hSw; (try dsimp only at hSw); go_simp; try with_reducible rfl)
          try simp only [Act.put, List.setIfInBounds_toArray, List.set_cons_zero, List.set_cons_succ]
          refine wpAnyH_ready (rs := [26]) (by kernel_rfl) (by simp) (AllReadyH.cons (o := ⟨some 50, _, _, _, _, _⟩) rfl (fun K hK => ?_) AllReadyH.nil)
          go_simp
          (go_at_call 33; refine (SM.out).mono ?_; rintro e w7 ⟨rfl, hb7⟩; have hb7 : Below w6.heap.size w6 w7 := ⟨hb7.os, hb7.tape, hb7.output, hb7.size, hb7.block⟩; have HB7 := Lib.hid (low_low HB6.out hb7); have K7 := Lib.hid (K6.out.below hb7 K6.out.lt); have J7 := Lib.hid (J6.out.below hb7 J6.out.lt); obtain ⟨p0, p1, p2, p3⟩ := blk_cells3 (L6.out.below hb7 L6.out.lt); obtain ⟨q0, q1, q2, q3, q4⟩ := blk_cells4 K7.out; have t0 := (HB7.out.cell (p := ⟨b, off + k * 3 + 0, none⟩) hb).trans (HR.out 0 _ rfl); have t1 := (HB7.out.cell (p := ⟨b, off + k * 3 + 1, none⟩) hb).trans (HR.out 1 _ rfl); have t2 := (HB7.out.cell (p := ⟨b, off + k * 3 + 2, none⟩) hb).trans (HR.out 2 _ rfl); rewrite [Nat.add_zero] at t0; clear hb7)
          refine hK.out _ _ ?_ (fun hHeld => ?_)
          · exact ⟨p0, p1, p2, q0, t0, t1, t2⟩
          clear hK K
          try simp only [Act.put, List.setIfInBounds_toArray, List.set_cons_zero, List.set_cons_succ]
          refine wpAnyH_take (i := 27) (oi := ⟨some 51, _, _, _, _, _⟩) (v := ?_) rfl (by kernel_rfl) (by kernel_rfl) (by kernel_rfl) (fun _ _ _ h => h) (Or.inl ⟨by rfl, ?_⟩) (by assumption) ?_
          rotate_left
          · (intro w hSw; (try dsimp only at hSw); go_simp; try with_reducible rfl)
          try simp only [Act.put, List.setIfInBounds_toArray, List.set_cons_zero, List.set_cons_succ]
          refine wpAnyH_take (i := 28) (oi := ⟨some 52, _, _, _, _, _⟩) (v := ?_) rfl (by kernel_rfl) (by kernel_rfl) (by kernel_rfl) (fun _ _ _ h => h) (Or.inl ⟨by rfl, ?_⟩) (by assumption) ?_
          rotate_left
          · (intro w hSw; (try dsimp only at hSw); go_simp; try with_reducible rfl)
          try simp only [Act.put, List.setIfInBounds_toArray, List.set_cons_zero, List.set_cons_succ]
          refine wpAnyH_take (i := 29) (oi := ⟨some 53, _, _, _, _, _⟩) (v := ?_) rfl (by kernel_rfl) (by kernel_rfl) (by kernel_rfl) (fun _ _ _ h => h) (Or.inl ⟨by rfl, ?_⟩) (by assumption) ?_
          rotate_left
          · (intro w hSw; (try dsimp only at hSw); go_simp; try with_reducible rfl)
          try simp only [Act.put, List.setIfInBounds_toArray, List.set_cons_zero, List.set_cons_succ]
          refine wpAnyH_done (by kernel_rfl) ?_ _
          go_wp2
          go_roundw
          case rel => exact ⟨k + 1, by omega, by go_num, K7, J7, HB7⟩
          case measure => simp [intOf]; omega
        · have be_ : (g.s == x.s) = false := beq_false_of_ne he
          clear hls he hin1 hin2
          go_wp2_with (fail)
          refine wp_region_held_drew (S := fun W => W.cell? ⟨gl, 1, none⟩ = some (.int .i64 g.s) ∧ W.cell? ⟨w.heap.size, 0, none⟩ = some (.slice (some ⟨b, off, none⟩) n1 c1) ∧ W.cell? ⟨b, off + k * 3 + 1, none⟩ = some (.int .i64 x.s)) (by kernel_rfl) ?_ (fun hHeld => ?_)
          · exact ⟨l1, m0, c1_⟩
          refine wpAnyH_take (i := 0) (oi := ⟨some 24, _, _, _, _, _⟩) (v := ?_) rfl (by kernel_rfl) (by kernel_rfl) (by kernel_rfl) (fun _ _ _ h => h) (Or.inl ⟨by rfl, ?_⟩) (by assumption) ?_
          rotate_left
          · (intro w hSw; (try dsimp only at hSw); go_simp; try with_reducible rfl)
          try simp only [Act.put, List.setIfInBounds_toArray, List.set_cons_zero, List.set_cons_succ]
          refine wpAnyH_take (i := 1) (oi := ⟨some 25, _, _, _, _, _⟩) (v := ?_) rfl (by kernel_rfl) (by kernel_rfl) (by kernel_rfl) (fun _ _ _ h => h) (Or.inl ⟨by rfl, ?_⟩) (by assumption) ?_
          rotate_left
          · (intro w hSw; (try dsimp only at hSw); go_simp; try with_reducible rfl)
          try simp only [Act.put, List.setIfInBounds_toArray, List.set_cons_zero, List.set_cons_succ]
          refine wpAnyH_take (i := 2) (oi := ⟨some 26, _, _, _, _, _⟩) (v := ?_) rfl (by kernel_rfl) (by kernel_rfl) (by kernel_rfl) (fun _ _ _ h => h) (Or.inl ⟨by rfl, ?_⟩) (by assumption) ?_
          rotate_left
          · (intro w hSw; (try dsimp only at hSw); go_simp; try with_reducible rfl)
          try simp only [Act.put, List.setIfInBounds_toArray, List.set_cons_zero, List.set_cons_succ]
          refine wpAnyH_take (i := 3) (oi := ⟨some 27, _, _, _, _, _⟩) (v := ?_) rfl (by kernel_rfl) (by kernel_rfl) (by kernel_rfl) (fun _ _ _ h => h) (Or.inl ⟨by rfl, ?_⟩) (by assumption) ?_
          rotate_left
          · (intro w hSw; (try dsimp only at hSw); go_simp; try with_reducible rfl)
          try simp only [Act.put, List.setIfInBounds_toArray, List.set_cons_zero, List.set_cons_succ]
          refine wpAnyH_take (i := 4) (oi := ⟨some 28, _, _, _, _, _⟩) (v := ?_) rfl (by kernel_rfl) (by kernel_rfl) (by kernel_rfl) (fun _ _ _ h => h) (Or.inl ⟨by rfl, ?_⟩) (by assumption) ?_
          rotate_left
          · (intro w hSw; (try dsimp only at hSw); go_simp; try with_reducible rfl)
          try simp only [Act.put, List.setIfInBounds_toArray, List.set_cons_zero, List.set_cons_succ]
          refine wpAnyH_take (i := 5) (oi := ⟨some 29, _, _, _, _, _⟩) (v := ?_) rfl (by kernel_rfl) (by kernel_rfl) (by kernel_rfl) (fun _ _ _ h => h) (Or.inl ⟨by rfl, ?_⟩) (by assumption) ?_
          rotate_left
          · (intro w hSw; (try dsimp only at hSw); go_simp; try with_reducible rfl)
          try simp only [Act.put, List.setIfInBounds_toArray, List.set_cons_zero, List.set_cons_succ]
          refine wpAnyH_take (i := 6) (oi := ⟨some 30, _, _, _, _, _⟩) (v := ?_) rfl (by kernel_rfl) (by kernel_rfl) (by kernel_rfl) (fun _ _ _ h => h) (Or.inl ⟨by rfl, ?_⟩) (by assumption) ?_
          rotate_left
          · (intro w hSw; (try dsimp only at hSw); go_simp; try with_reducible rfl)
          try simp only [Act.put, List.setIfInBounds_toArray, List.set_cons_zero, List.set_cons_succ]
          refine wpAnyH_take (i := 7) (oi := ⟨some 31, _, _, _, _, _⟩) (v := ?_) rfl (by kernel_rfl) (by kernel_rfl) (by kernel_rfl) (fun _ _ _ h => h) (Or.inl ⟨by rfl, ?_⟩) (by assumption) ?_
          rotate_left
          · (intro w hSw; (try dsimp only at hSw); go_simp; try with_reducible rfl)
          try simp only [Act.put, List.setIfInBounds_toArray, List.set_cons_zero, List.set_cons_succ]
          refine wpAnyH_take (i := 8) (oi := ⟨some 32, _, _, _, _, _⟩) (v := ?_) rfl (by kernel_rfl) (by kernel_rfl) (by kernel_rfl) (fun _ _ _ h => h) (Or.inl ⟨by rfl, ?_⟩) (by assumption) ?_
          rotate_left
          · (intro w hSw; (try dsimp only at hSw); go_simp; try with_reducible rfl)
          try simp only [Act.put, List.setIfInBounds_toArray, List.set_cons_zero, List.set_cons_succ]
          refine wpAnyH_take (i := 9) (oi := ⟨some 33, _, _, _, _, _⟩) (v := ?_) rfl (by kernel_rfl) (by kernel_rfl) (by kernel_rfl) (fun _ _ _ h => h) (Or.inl ⟨by rfl, ?_⟩) (by assumption) ?_
          rotate_left
          · (intro w hSw; (try dsimp only at hSw); go_simp; try with_reducible rfl)
          try simp only [Act.put, List.setIfInBounds_toArray, List.set_cons_zero, List.set_cons_succ]
          refine wpAnyH_take (i := 10) (oi := ⟨some 34, _, _, _, _, _⟩) (v := ?_) rfl (by kernel_rfl) (by kernel_rfl) (by kernel_rfl) (fun _ _ _ h => h) (Or.inl ⟨by rfl, ?_⟩) (by assumption) ?_
          rotate_left
          · (intro w hSw; (try dsimp only at hSw); go_simp; try with_reducible rfl)
          try simp only [Act.put, List.setIfInBounds_toArray, List.set_cons_zero, List.set_cons_succ]
          refine wpAnyH_take (i := 11) (oi := ⟨some 35, _, _, _, _, _⟩) (v := ?_) rfl (by kernel_rfl) (by kernel_rfl) (by kernel_rfl) (fun _ _ _ h => h) (Or.inl ⟨by rfl, ?_⟩) (by assumption) ?_
          rotate_left
          · (intro w hSw; (try dsimp only at hSw); go_simp; try with_reducible rfl)
          try simp only [Act.put, List.setIfInBounds_toArray, List.set_cons_zero, List.set_cons_succ]
          refine wpAnyH_take (i := 12) (oi := ⟨some 36, _, _, _, _, _⟩) (v := ?_) rfl (by kernel_rfl) (by kernel_rfl) (by kernel_rfl) (fun _ _ _ h => h) (Or.inl ⟨by rfl, ?_⟩) (by assumption) ?_
          rotate_left
          · (intro w hSw; (try dsimp only at hSw); go_simp; try with_reducible rfl)
          try simp only [Act.put, List.setIfInBounds_toArray, List.set_cons_zero, List.set_cons_succ]
          refine wpAnyH_take (i := 13) (oi := ⟨some 37, _, _, _, _, _⟩) (v := ?_) rfl (by kernel_rfl) (by kernel_rfl) (by kernel_rfl) (fun _ _ _ h => h) (Or.inl ⟨by rfl, ?_⟩) (by assumption) ?_
          rotate_left
          · (intro w hSw; (try dsimp only at hSw); go_simp; try with_reducible rfl)
          try simp only [Act.put, List.setIfInBounds_toArray, List.set_cons_zero, List.set_cons_succ]
          refine wpAnyH_take (i := 14) (oi := ⟨some 38, _, _, _, _, _⟩) (v := ?_) rfl (by kernel_rfl) (by kernel_rfl) (by kernel_rfl) (fun _ _ _ h => h) (Or.inl ⟨by rfl, ?_⟩) (by assumption) ?_
          rotate_left
          · (intro w hSw; (try dsimp only at hSw); go_simp; try with_reducible rfl)
          try simp only [Act.put, List.setIfInBounds_toArray, List.set_cons_zero, List.set_cons_succ]
          refine wpAnyH_take (i := 15) (oi := ⟨some 39, _, _, _, _, _⟩) (v := ?_) rfl (by kernel_rfl) (by kernel_rfl) (by kernel_rfl) (fun _ _ _ h => h) (Or.inl ⟨by rfl, ?_⟩) (by assumption) ?_
          rotate_left
          · (intro w hSw; (try dsimp only at hSw); go_simp; try with_reducible rfl)
          try simp only [Act.put, List.setIfInBounds_toArray, List.set_cons_zero, List.set_cons_succ]
          refine wpAnyH_take (i := 16) (oi := ⟨some 40, _, _, _, _, _⟩) (v := ?_) rfl (by kernel_rfl) (by kernel_rfl) (by kernel_rfl) (fun _ _ _ h => h) (Or.inl ⟨by rfl, ?_⟩) (by assumption) ?_
          rotate_left
          · (intro w hSw; (try dsimp only at hSw); go_simp; try with_reducible rfl)
          try simp only [Act.put, List.setIfInBounds_toArray, List.set_cons_zero, List.set_cons_succ]
          refine wpAnyH_take (i := 17) (oi := ⟨some 41, _, _, _, _, _⟩) (v := ?_) rfl (by kernel_rfl) (by kernel_rfl) (by kernel_rfl) (fun _ _ _ h => h) (Or.inl ⟨by rfl, ?_⟩) (by assumption) ?_
          rotate_left
          · (intro w hSw; (try dsimp only at hSw); go_simp; try with_reducible rfl)
          try simp only [Act.put, List.setIfInBounds_toArray, List.set_cons_zero, List.set_cons_succ]
          refine wpAnyH_take (i := 18) (oi := ⟨some 42, _, _, _, _, _⟩) (v := ?_) rfl (by kernel_rfl) (by kernel_rfl) (by kernel_rfl) (fun _ _ _ h => h) (Or.inl ⟨by rfl, ?_⟩) (by assumption) ?_
          rotate_left
          · (intro w hSw; (try dsimp only at hSw); go_simp; try with_reducible rfl)
          try simp only [Act.put, List.setIfInBounds_toArray, List.set_cons_zero, List.set_cons_succ]
          refine wpAnyH_take (i := 19) (oi := ⟨some 43, _, _, _, _, _⟩) (v := ?_) rfl (by kernel_rfl) (by kernel_rfl) (by kernel_rfl) (fun _ _ _ h => h) (Or.inl ⟨by rfl, ?_⟩) (by assumption) ?_
          rotate_left
          · (intro w hSw; (try dsimp only at hSw); go_simp; try with_reducible rfl)
          try simp only [Act.put, List.setIfInBounds_toArray, List.set_cons_zero, List.set_cons_succ]
          refine wpAnyH_take (i := 20) (oi := ⟨some 44, _, _, _, _, _⟩) (v := undef) rfl (by kernel_rfl) (by kernel_rfl) (by kernel_rfl) (fun _ _ _ h => h) (Or.inr ⟨by rfl, rfl⟩) (by assumption) ?_
          try simp only [Act.put, List.setIfInBounds_toArray, List.set_cons_zero, List.set_cons_succ]
          refine wpAnyH_take (i := 21) (oi := ⟨some 45, _, _, _, _, _⟩) (v := undef) rfl (by kernel_rfl) (by kernel_rfl) (by kernel_rfl) (fun _ _ _ h => h) (Or.inr ⟨by rfl, rfl⟩) (by assumption) ?_
          try simp only [Act.put, List.setIfInBounds_toArray, List.set_cons_zero, List.set_cons_succ]
          refine wpAnyH_take (i := 22) (oi := ⟨some 46, _, _, _, _, _⟩) (v := undef) rfl (by kernel_rfl) (by kernel_rfl) (by kernel_rfl) (fun _ _ _ h => h) (Or.inr ⟨by rfl, rfl⟩) (by assumption) ?_
          try simp only [Act.put, List.setIfInBounds_toArray, List.set_cons_zero, List.set_cons_succ]
          refine wpAnyH_take (i := 23) (oi := ⟨some 47, _, _, _, _, _⟩) (v := undef) rfl (by kernel_rfl) (by kernel_rfl) (by kernel_rfl) (fun _ _ _ h => h) (Or.inr ⟨by rfl, rfl⟩) (by assumption) ?_
          try simp only [Act.put, List.setIfInBounds_toArray, List.set_cons_zero, List.set_cons_succ]
          refine wpAnyH_take (i := 24) (oi := ⟨some 48, _, _, _, _, _⟩) (v := undef) rfl (by kernel_rfl) (by kernel_rfl) (by kernel_rfl) (fun _ _ _ h => h) (Or.inr ⟨by rfl, rfl⟩) (by assumption) ?_
          try simp only [Act.put, List.setIfInBounds_toArray, List.set_cons_zero, List.set_cons_succ]
          refine wpAnyH_take (i := 25) (oi := ⟨some 49, _, _, _, _, _⟩) (v := undef) rfl (by kernel_rfl) (by kernel_rfl) (by kernel_rfl) (fun _ _ _ h => h) (Or.inr ⟨by rfl, rfl⟩) (by assumption) ?_
          try simp only [Act.put, List.setIfInBounds_toArray, List.set_cons_zero, List.set_cons_succ]
          refine wpAnyH_take (i := 26) (oi := ⟨some 50, _, _, _, _, _⟩) (v := undef) rfl (by kernel_rfl) (by kernel_rfl) (by kernel_rfl) (fun _ _ _ h => h) (Or.inr ⟨by rfl, rfl⟩) (by assumption) ?_
          try simp only [Act.put, List.setIfInBounds_toArray, List.set_cons_zero, List.set_cons_succ]
          refine wpAnyH_take (i := 27) (oi := ⟨some 51, _, _, _, _, _⟩) (v := undef) rfl (by kernel_rfl) (by kernel_rfl) (by kernel_rfl) (fun _ _ _ h => h) (Or.inr ⟨by rfl, rfl⟩) (by assumption) ?_
          try simp only [Act.put, List.setIfInBounds_toArray, List.set_cons_zero, List.set_cons_succ]
          refine wpAnyH_take (i := 28) (oi := ⟨some 52, _, _, _, _, _⟩) (v := ?_) rfl (by kernel_rfl) (by kernel_rfl) (by kernel_rfl) (fun _ _ _ h => h) (Or.inl ⟨by rfl, ?_⟩) (by assumption) ?_
          rotate_left
          · (intro w hSw; (try dsimp only at hSw); go_simp; try with_reducible rfl)
          try simp only [Act.put, List.setIfInBounds_toArray, List.set_cons_zero, List.set_cons_succ]
          refine wpAnyH_take (i := 29) (oi := ⟨some 53, _, _, _, _, _⟩) (v := ?_) rfl (by kernel_rfl) (by kernel_rfl) (by kernel_rfl) (fun _ _ _ h => h) (Or.inl ⟨by rfl, ?_⟩) (by assumption) ?_
          rotate_left
          · (intro w hSw; (try dsimp only at hSw); go_simp; try with_reducible rfl)
          try simp only [Act.put, List.setIfInBounds_toArray, List.set_cons_zero, List.set_cons_succ]
          refine wpAnyH_done (by kernel_rfl) ?_ _
          go_wp2
          go_roundw
          case rel => exact ⟨k + 1, by omega, by go_num, Lib.hid K6.out.drew, Lib.hid J6.out.drew, Lib.hid HB6.out.drew⟩
          case measure => simp [intOf]; omega
      · have l6 := upd3_blk (u0 := .int .i64 g.o) (u1 := .int .i64 g.s) (u2 := .slice A5 n5 c5) L5.out
        have k6 := K5.out.grown hgu (by have := K0.out.lt; simp; omega)
        have j6 := J5.out.grown hgu (by have := K1.out.lt; simp; omega)
        have hl6 := HS5.out.grown hgu HB5.out.size (fun q hq => by cases hq; exact gc)
        have hb6 := HB5U.out
        simp only [upd3] at l6 k6 j6 hl6 hb6
        have L6 := Lib.hid l6; clear l6
        have K6 := Lib.hid k6; clear k6
        have J6 := Lib.hid j6; clear j6
        have HL6 := Lib.hid hl6; clear hl6
        have HB6 := Lib.hid hb6; clear hb6
        clear K5 J5 HB5 HS5 K0 K1 HB HB5U L5 hgu r0 s0 t0 v0 u0 z0 p0 p1 p2 p3 f0 f1 f2 x0 x1 x2 x3 x4 y0 y1 y2 y3 y4 c0 GT gc
        generalize ((w5.setCell ⟨wr.heap.size, 0, none⟩ (.int .i64 g.o)).setCell ⟨wr.heap.size, 1, none⟩ (.int .i64 g.s)).setCell ⟨wr.heap.size, 2, none⟩ (.slice A5 n5 c5) = w6 at *
        generalize wr.heap.size = gl at *
        have hls := HL6.out
        obtain ⟨l0, l1, l2, l3⟩ := blk_cells3 L6.out
        obtain ⟨m0, m1, m2, m3, m4⟩ := blk_cells4 K6.out
        have c0 := (HB6.out.cell (p := ⟨b, off + k * 3 + 0, none⟩) hb).trans (HR.out 0 _ rfl)
        have c1_ := (HB6.out.cell (p := ⟨b, off + k * 3 + 1, none⟩) hb).trans (HR.out 1 _ rfl)
        have c2_ := (HB6.out.cell (p := ⟨b, off + k * 3 + 2, none⟩) hb).trans (HR.out 2 _ rfl)
        rewrite [Nat.add_zero] at c0
        have dl : decide (g.s < x.s) = false := decide_eq_false (by omega)
        by_cases he : g.s = x.s
        · have sm := rsame_lsa g.o g.s x.o x.s (.slice A5 n5 c5) (.slice Au nu cu) g.ls x.ls w6.drew ((hls.drew).more HB6.out.size) ((HK3.out w6 HB6.out).drew)
          rewrite [hin2 he] at sm
          have SM := Lib.hid sm; clear sm hls
          have be_ : (g.s == x.s) = true := by rw [he]; exact beq_self_eq_true _
          clear he hin1 hin2
          go_wp2_with (fail)
          refine wp_region_held_drew (S := fun W => W.cell? ⟨gl, 0, none⟩ = some (.int .i64 g.o) ∧ W.cell? ⟨gl, 1, none⟩ = some (.int .i64 g.s) ∧ W.cell? ⟨gl, 2, none⟩ = some (.slice A5 n5 c5) ∧ W.cell? ⟨w.heap.size, 0, none⟩ = some (.slice (some ⟨b, off, none⟩) n1 c1) ∧ W.cell? ⟨b, off + k * 3, none⟩ = some (.int .i64 x.o) ∧ W.cell? ⟨b, off + k * 3 + 1, none⟩ = some (.int .i64 x.s) ∧ W.cell? ⟨b, off + k * 3 + 2, none⟩ = some (.slice Au nu cu)) (by kernel_rfl) ?_ (fun hHeld => ?_)
          · exact ⟨l0, l1, l2, m0, c0, c1_, c2_⟩
          refine wpAnyH_take (i := 0) (oi := ⟨some 24, _, _, _, _, _⟩) (v := ?_) rfl (by kernel_rfl) (by kernel_rfl) (by kernel_rfl) (fun _ _ _ h => h) (Or.inl ⟨by rfl, ?_⟩) (by assumption) ?_
          rotate_left
          · (intro w hSw; (try dsimp only at hSw); go_simp; try with_reducible rfl)
          try simp only [Act.put, List.setIfInBounds_toArray, List.set_cons_zero, List.set_cons_succ]
          refine wpAnyH_take (i := 1) (oi := ⟨some 25, _, _, _, _, _⟩) (v := ?_) rfl (by kernel_rfl) (by kernel_rfl) (by kernel_rfl) (fun _ _ _ h => h) (Or.inl ⟨by rfl, ?_⟩) (by assumption) ?_
          rotate_left
          · (intro w hSw; (try dsimp only at hSw); go_simp; try with_reducible rfl)
          try simp only [Act.put, List.setIfInBounds_toArray, List.set_cons_zero, List.set_cons_succ]
          refine wpAnyH_take (i := 2) (oi := ⟨some 26, _, _, _, _, _⟩) (v := ?_) rfl (by kernel_rfl) (by kernel_rfl) (by kernel_rfl) (fun _ _ _ h => h) (Or.inl ⟨by rfl, ?_⟩) (by assumption) ?_
          rotate_left
          · (intro w hSw; (try dsimp only at hSw); go_simp; try with_reducible rfl)
          try simp only [Act.put, List.setIfInBounds_toArray, List.set_cons_zero, List.set_cons_succ]
          refine wpAnyH_take (i := 3) (oi := ⟨some 27, _, _, _, _, _⟩) (v := ?_) rfl (by kernel_rfl) (by kernel_rfl) (by kernel_rfl) (fun _ _ _ h => h) (Or.inl ⟨by rfl, ?_⟩) (by assumption) ?_
          rotate_left
          · (intro w hSw; (try dsimp only at hSw); go_simp; try with_reducible rfl)
          try simp only [Act.put, List.setIfInBounds_toArray, List.set_cons_zero, List.set_cons_succ]
          refine wpAnyH_take (i := 4) (oi := ⟨some 28, _, _, _, _, _⟩) (v := ?_) rfl (by kernel_rfl) (by kernel_rfl) (by kernel_rfl) (fun _ _ _ h => h) (Or.inl ⟨by rfl, ?_⟩) (by assumption) ?_
          rotate_left
          · (intro w hSw; (try dsimp only at hSw); go_simp; try with_reducible rfl)
          try simp only [Act.put, List.setIfInBounds_toArray, List.set_cons_zero, List.set_cons_succ]
          refine wpAnyH_take (i := 5) (oi := ⟨some 29, _, _, _, _, _⟩) (v := ?_) rfl (by kernel_rfl) (by kernel_rfl) (by kernel_rfl) (fun _ _ _ h => h) (Or.inl ⟨by rfl, ?_⟩) (by assumption) ?_
          rotate_left
          · (intro w hSw; (try dsimp only at hSw); go_simp; try with_reducible rfl)
          try simp only [Act.put, List.setIfInBounds_toArray, List.set_cons_zero, List.set_cons_succ]
          refine wpAnyH_take (i := 6) (oi := ⟨some 30, _, _, _, _, _⟩) (v := ?_) rfl (by kernel_rfl) (by kernel_rfl) (by kernel_rfl) (fun _ _ _ h => h) (Or.inl ⟨by rfl, ?_⟩) (by assumption) ?_
          rotate_left
          · (intro w hSw; (try dsimp only at hSw); go_simp; try with_reducible rfl)
          try simp only [Act.put, List.setIfInBounds_toArray, List.set_cons_zero, List.set_cons_succ]
          refine wpAnyH_take (i := 7) (oi := ⟨some 31, _, _, _, _, _⟩) (v := ?_) rfl (by kernel_rfl) (by kernel_rfl) (by kernel_rfl) (fun _ _ _ h => h) (Or.inl ⟨by rfl, ?_⟩) (by assumption) ?_
          rotate_left
          · (intro w hSw; (try dsimp only at hSw); go_simp; try with_reducible rfl)
          try simp only [Act.put, List.setIfInBounds_toArray, List.set_cons_zero, List.set_cons_succ]
          refine wpAnyH_take (i := 8) (oi := ⟨some 32, _, _, _, _, _⟩) (v := ?_) rfl (by kernel_rfl) (by kernel_rfl) (by kernel_rfl) (fun _ _ _ h => h) (Or.inl ⟨by rfl, ?_⟩) (by assumption) ?_
          rotate_left
          · (intro w hSw; (try dsimp only at hSw); go_simp; try with_reducible rfl)
          try simp only [Act.put, List.setIfInBounds_toArray, List.set_cons_zero, List.set_cons_succ]
          refine wpAnyH_take (i := 9) (oi := ⟨some 33, _, _, _, _, _⟩) (v := ?_) rfl (by kernel_rfl) (by kernel_rfl) (by kernel_rfl) (fun _ _ _ h => h) (Or.inl ⟨by rfl, ?_⟩) (by assumption) ?_
          rotate_left
          · (intro w hSw; (try dsimp only at hSw); go_simp; try with_reducible rfl)
          try simp only [Act.put, List.setIfInBounds_toArray, List.set_cons_zero, List.set_cons_succ]
          refine wpAnyH_take (i := 10) (oi := ⟨some 34, _, _, _, _, _⟩) (v := ?_) rfl (by kernel_rfl) (by kernel_rfl) (by kernel_rfl) (fun _ _ _ h => h) (Or.inl ⟨by rfl, ?_⟩) (by assumption) ?_
          rotate_left
          · (intro w hSw; (try dsimp only at hSw); go_simp; try with_reducible rfl)
          try simp only [Act.put, List.setIfInBounds_toArray, List.set_cons_zero, List.set_cons_succ]
          refine wpAnyH_take (i := 11) (oi := ⟨some 35, _, _, _, _, _⟩) (v := ?_) rfl (by kernel_rfl) (by kernel_rfl) (by kernel_rfl) (fun _ _ _ h => h) (Or.inl ⟨by rfl, ?_⟩) (by assumption) ?_
          rotate_left
          · (intro w hSw; (try dsimp only at hSw); go_simp; try with_reducible rfl)
          try simp only [Act.put, List.setIfInBounds_toArray, List.set_cons_zero, List.set_cons_succ]
          refine wpAnyH_take (i := 12) (oi := ⟨some 36, _, _, _, _, _⟩) (v := ?_) rfl (by kernel_rfl) (by kernel_rfl) (by kernel_rfl) (fun _ _ _ h => h) (Or.inl ⟨by rfl, ?_⟩) (by assumption) ?_
          rotate_left
          · (intro w hSw; (try dsimp only at hSw); go_simp; try with_reducible rfl)
          try simp only [Act.put, List.setIfInBounds_toArray, List.set_cons_zero, List.set_cons_succ]
          refine wpAnyH_take (i := 13) (oi := ⟨some 37, _, _, _, _, _⟩) (v := ?_) rfl (by kernel_rfl) (by kernel_rfl) (by kernel_rfl) (fun _ _ _ h => h) (Or.inl ⟨by rfl, ?_⟩) (by assumption) ?_
          rotate_left
          · (intro w hSw; (try dsimp only at hSw); go_simp; try with_reducible rfl)
          try simp only [Act.put, List.setIfInBounds_toArray, List.set_cons_zero, List.set_cons_succ]
          refine wpAnyH_take (i := 14) (oi := ⟨some 38, _, _, _, _, _⟩) (v := ?_) rfl (by kernel_rfl) (by kernel_rfl) (by kernel_rfl) (fun _ _ _ h => h) (Or.inl ⟨by rfl, ?_⟩) (by assumption) ?_
          rotate_left
          · (intro w hSw; (try dsimp only at hSw); go_simp; try with_reducible rfl)
          try simp only [Act.put, List.setIfInBounds_toArray, List.set_cons_zero, List.set_cons_succ]
          refine wpAnyH_take (i := 15) (oi := ⟨some 39, _, _, _, _, _⟩) (v := ?_) rfl (by kernel_rfl) (by kernel_rfl) (by kernel_rfl) (fun _ _ _ h => h) (Or.inl ⟨by rfl, ?_⟩) (by assumption) ?_
          rotate_left
          · (intro w hSw; (try dsimp only at hSw); go_simp; try with_reducible rfl)
          try simp only [Act.put, List.setIfInBounds_toArray, List.set_cons_zero, List.set_cons_succ]
          refine wpAnyH_take (i := 16) (oi := ⟨some 40, _, _, _, _, _⟩) (v := ?_) rfl (by kernel_rfl) (by kernel_rfl) (by kernel_rfl) (fun _ _ _ h => h) (Or.inl ⟨by rfl, ?_⟩) (by assumption) ?_
          rotate_left
          · (intro w hSw; (try dsimp only at hSw); go_simp; try with_reducible rfl)
          try simp only [Act.put, List.setIfInBounds_toArray, List.set_cons_zero, List.set_cons_succ]
          refine wpAnyH_take (i := 17) (oi := ⟨some 41, _, _, _, _, _⟩) (v := ?_) rfl (by kernel_rfl) (by kernel_rfl) (by kernel_rfl) (fun _ _ _ h => h) (Or.inl ⟨by rfl, ?_⟩) (by assumption) ?_
          rotate_left
          · (intro w hSw; (try dsimp only at hSw); go_simp; try with_reducible rfl)
          try simp only [Act.put, List.setIfInBounds_toArray, List.set_cons_zero, List.set_cons_succ]
          refine wpAnyH_take (i := 18) (oi := ⟨some 42, _, _, _, _, _⟩) (v := ?_) rfl (by kernel_rfl) (by kernel_rfl) (by kernel_rfl) (fun _ _ _ h => h) (Or.inl ⟨by rfl, ?_⟩) (by assumption) ?_
          rotate_left
          · (intro w hSw; (try dsimp only at hSw); go_simp; try with_reducible rfl)
          try simp only [Act.put, List.setIfInBounds_toArray, List.set_cons_zero, List.set_cons_succ]
          refine wpAnyH_take (i := 19) (oi := ⟨some 43, _, _, _, _, _⟩) (v := ?_) rfl (by kernel_rfl) (by kernel_rfl) (by kernel_rfl) (fun _ _ _ h => h) (Or.inl ⟨by rfl, ?_⟩) (by assumption) ?_
          rotate_left
          · (intro w hSw; (try dsimp only at hSw); go_simp; try with_reducible rfl)
          try simp only [Act.put, List.setIfInBounds_toArray, List.set_cons_zero, List.set_cons_succ]
          refine wpAnyH_take (i := 20) (oi := ⟨some 44, _, _, _, _, _⟩) (v := ?_) rfl (by kernel_rfl) (by kernel_rfl) (by kernel_rfl) (fun _ _ _ h => h) (Or.inl ⟨by rfl, ?_⟩) (by assumption) ?_
          rotate_left
          · (intro w hSw; (try dsimp only at hSw); go_simp; try with_reducible rfl)
          try simp only [Act.put, List.setIfInBounds_toArray, List.set_cons_zero, List.set_cons_succ]
          refine wpAnyH_take (i := 21) (oi := ⟨some 45, _, _, _, _, _⟩) (v := ?_) rfl (by kernel_rfl) (by kernel_rfl) (by kernel_rfl) (fun _ _ _ h => h) (Or.inl ⟨by rfl, ?_⟩) (by assumption) ?_
          rotate_left
          · (intro w hSw; (try dsimp only at hSw); go_simp; try with_reducible rfl)
          try simp only [Act.put, List.setIfInBounds_toArray, List.set_cons_zero, List.set_cons_succ]
          refine wpAnyH_take (i := 22) (oi := ⟨some 46, _, _, _, _, _⟩) (v := ?_) rfl (by kernel_rfl) (by kernel_rfl) (by kernel_rfl) (fun _ _ _ h => h) (Or.inl ⟨by rfl, ?_⟩) (by assumption) ?_
          rotate_left
          · (intro w hSw; (try dsimp only at hSw); go_simp; try with_reducible rfl)
          try simp only [Act.put, List.setIfInBounds_toArray, List.set_cons_zero, List.set_cons_succ]
          refine wpAnyH_take (i := 23) (oi := ⟨some 47, _, _, _, _, _⟩) (v := ?_) rfl (by kernel_rfl) (by kernel_rfl) (by kernel_rfl) (fun _ _ _ h => h) (Or.inl ⟨by rfl, ?_⟩) (by assumption) ?_
          rotate_left
          · (intro w hSw; (try dsimp only at hSw); go_simp; try with_reducible rfl)
          try simp only [Act.put, List.setIfInBounds_toArray, List.set_cons_zero, List.set_cons_succ]
          refine wpAnyH_take (i := 24) (oi := ⟨some 48, _, _, _, _, _⟩) (v := ?_) rfl (by kernel_rfl) (by kernel_rfl) (by kernel_rfl) (fun _ _ _ h => h) (Or.inl ⟨by rfl, ?_⟩) (by assumption) ?_
          rotate_left
          · (intro w hSw; (try dsimp only at hSw); go_simp; try with_reducible rfl)
          try simp only [Act.put, List.setIfInBounds_toArray, List.set_cons_zero, List.set_cons_succ]
          refine wpAnyH_take (i := 25) (oi := ⟨some 49, _, _, _, _, _⟩) (v := ?_) rfl (by kernel_rfl) (by kernel_rfl) (by kernel_rfl) (fun _ _ _ h => h) (Or.inl ⟨by rfl, ?_⟩) (by assumption) ?_
          rotate_left
          · (intro w hSw; (try dsimp only at hSw); go_simp; try with_reducible rfl)
          try simp only [Act.put, List.setIfInBounds_toArray, List.set_cons_zero, List.set_cons_succ]
          refine wpAnyH_ready (rs := [26]) (by kernel_rfl) (by simp) (AllReadyH.cons (o := ⟨some 50, _, _, _, _, _⟩) rfl (fun K hK => ?_) AllReadyH.nil)
          go_simp
          (go_at_call 33; refine (SM.out).mono ?_; rintro e w7 ⟨rfl, hb7⟩; have hb7 : Below w6.heap.size w6 w7 := ⟨hb7.os, hb7.tape, hb7.output, hb7.size, hb7.block⟩; have HB7 := Lib.hid (low_low HB6.out hb7); have K7 := Lib.hid (K6.out.below hb7 K6.out.lt); have J7 := Lib.hid (J6.out.below hb7 J6.out.lt); obtain ⟨p0, p1, p2, p3⟩ := blk_cells3 (L6.out.below hb7 L6.out.lt); obtain ⟨q0, q1, q2, q3, q4⟩ := blk_cells4 K7.out; have t0 := (HB7.out.cell (p := ⟨b, off + k * 3 + 0, none⟩) hb).trans (HR.out 0 _ rfl); have t1 := (HB7.out.cell (p := ⟨b, off + k * 3 + 1, none⟩) hb).trans (HR.out 1 _ rfl); have t2 := (HB7.out.cell (p := ⟨b, off + k * 3 + 2, none⟩) hb).trans (HR.out 2 _ rfl); rewrite [Nat.add_zero] at t0; clear hb7)
          refine hK.out _ _ ?_ (fun hHeld => ?_)
          · exact ⟨p0, p1, p2, q0, t0, t1, t2⟩
          clear hK K
          try simp only [Act.put, List.setIfInBounds_toArray, List.set_cons_zero, List.set_cons_succ]
          refine wpAnyH_take (i := 27) (oi := ⟨some 51, _, _, _, _, _⟩) (v := ?_) rfl (by kernel_rfl) (by kernel_rfl) (by kernel_rfl) (fun _ _ _ h => h) (Or.inl ⟨by rfl, ?_⟩) (by assumption) ?_
          rotate_left
          · (intro w hSw; (try dsimp only at hSw); go_simp; try with_reducible rfl)
          try simp only [Act.put, List.setIfInBounds_toArray, List.set_cons_zero, List.set_cons_succ]
          refine wpAnyH_take (i := 28) (oi := ⟨some 52, _, _, _, _, _⟩) (v := ?_) rfl (by kernel_rfl) (by kernel_rfl) (by kernel_rfl) (fun _ _ _ h => h) (Or.inl ⟨by rfl, ?_⟩) (by assumption) ?_
          rotate_left
          · (intro w hSw; (try dsimp only at hSw); go_simp; try with_reducible rfl)
          try simp only [Act.put, List.setIfInBounds_toArray, List.set_cons_zero, List.set_cons_succ]
          refine wpAnyH_take (i := 29) (oi := ⟨some 53, _, _, _, _, _⟩) (v := ?_) rfl (by kernel_rfl) (by kernel_rfl) (by kernel_rfl) (fun _ _ _ h => h) (Or.inl ⟨by rfl, ?_⟩) (by assumption) ?_
          rotate_left
          · (intro w hSw; (try dsimp only at hSw); go_simp; try with_reducible rfl)
          try simp only [Act.put, List.setIfInBounds_toArray, List.set_cons_zero, List.set_cons_succ]
          refine wpAnyH_done (by kernel_rfl) ?_ _
          go_wp2
          go_roundw
          case rel => exact ⟨k + 1, by omega, by go_num, K7, J7, HB7⟩
          case measure => simp [intOf]; omega
        · have be_ : (g.s == x.s) = false := beq_false_of_ne he
          clear hls he hin1 hin2
          go_wp2_with (fail)
          refine wp_region_held_drew (S := fun W => W.cell? ⟨gl, 1, none⟩ = some (.int .i64 g.s) ∧ W.cell? ⟨w.heap.size, 0, none⟩ = some (.slice (some ⟨b, off, none⟩) n1 c1) ∧ W.cell? ⟨b, off + k * 3 + 1, none⟩ = some (.int .i64 x.s)) (by kernel_rfl) ?_ (fun hHeld => ?_)
          · exact ⟨l1, m0, c1_⟩
          refine wpAnyH_take (i := 0) (oi := ⟨some 24, _, _, _, _, _⟩) (v := ?_) rfl (by kernel_rfl) (by kernel_rfl) (by kernel_rfl) (fun _ _ _ h => h) (Or.inl ⟨by rfl, ?_⟩) (by assumption) ?_
          rotate_left
          · (intro w hSw; (try dsimp only at hSw); go_simp; try with_reducible rfl)
          try simp only [Act.put, List.setIfInBounds_toArray, List.set_cons_zero, List.set_cons_succ]
          refine wpAnyH_take (i := 1) (oi := ⟨some 25, _, _, _, _, _⟩) (v := ?_) rfl (by kernel_rfl) (by kernel_rfl) (by kernel_rfl) (fun _ _ _ h => h) (Or.inl ⟨by rfl, ?_⟩) (by assumption) ?_
          rotate_left
          · (intro w hSw; (try dsimp only at hSw); go_simp; try with_reducible rfl)
          try simp only [Act.put, List.setIfInBounds_toArray, List.set_cons_zero, List.set_cons_succ]
          refine wpAnyH_take (i := 2) (oi := ⟨some 26, _, _, _, _, _⟩) (v := ?_) rfl (by kernel_rfl) (by kernel_rfl) (by kernel_rfl) (fun _ _ _ h => h) (Or.inl ⟨by rfl, ?_⟩) (by assumption) ?_
          rotate_left
          · (intro w hSw; (try dsimp only at hSw); go_simp; try with_reducible rfl)
          try simp only [Act.put, List.setIfInBounds_toArray, List.set_cons_zero, List.set_cons_succ]
          refine wpAnyH_take (i := 3) (oi := ⟨some 27, _, _, _, _, _⟩) (v := ?_) rfl (by kernel_rfl) (by kernel_rfl) (by kernel_rfl) (fun _ _ _ h => h) (Or.inl ⟨by rfl, ?_⟩) (by assumption) ?_
          rotate_left
          · (intro w hSw; (try dsimp only at hSw); go_simp; try with_reducible rfl)
          try simp only [Act.put, List.setIfInBounds_toArray, List.set_cons_zero, List.set_cons_succ]
          refine wpAnyH_take (i := 4) (oi := ⟨some 28, _, _, _, _, _⟩) (v := ?_) rfl (by kernel_rfl) (by kernel_rfl) (by kernel_rfl) (fun _ _ _ h => h) (Or.inl ⟨by rfl, ?_⟩) (by assumption) ?_
          rotate_left
          · (intro w hSw; (try dsimp only at hSw); go_simp; try with_reducible rfl)
          try simp only [Act.put, List.setIfInBounds_toArray, List.set_cons_zero, List.set_cons_succ]
          refine wpAnyH_take (i := 5) (oi := ⟨some 29, _, _, _, _, _⟩) (v := ?_) rfl (by kernel_rfl) (by kernel_rfl) (by kernel_rfl) (fun _ _ _ h => h) (Or.inl ⟨by rfl, ?_⟩) (by assumption) ?_
          rotate_left
          · (intro w hSw; (try dsimp only at hSw); go_simp; try with_reducible rfl)
          try simp only [Act.put, List.setIfInBounds_toArray, List.set_cons_zero, List.set_cons_succ]
          refine wpAnyH_take (i := 6) (oi := ⟨some 30, _, _, _, _, _⟩) (v := ?_) rfl (by kernel_rfl) (by kernel_rfl) (by kernel_rfl) (fun _ _ _ h => h) (Or.inl ⟨by rfl, ?_⟩) (by assumption) ?_
          rotate_left
          · (intro w hSw; (try dsimp only at hSw); go_simp; try with_reducible rfl)
          try simp only [Act.put, List.setIfInBounds_toArray, List.set_cons_zero, List.set_cons_succ]
          refine wpAnyH_take (i := 7) (oi := ⟨some 31, _, _, _, _, _⟩) (v := ?_) rfl (by kernel_rfl) (by kernel_rfl) (by kernel_rfl) (fun _ _ _ h => h) (Or.inl ⟨by rfl, ?_⟩) (by assumption) ?_
          rotate_left
          · (intro w hSw; (try dsimp only at hSw); go_simp; try with_reducible rfl)
          try simp only [Act.put, List.setIfInBounds_toArray, List.set_cons_zero, List.set_cons_succ]
          refine wpAnyH_take (i := 8) (oi := ⟨some 32, _, _, _, _, _⟩) (v := ?_) rfl (by kernel_rfl) (by kernel_rfl) (by kernel_rfl) (fun _ _ _ h => h) (Or.inl ⟨by rfl, ?_⟩) (by assumption) ?_
          rotate_left
          · (intro w hSw; (try dsimp only at hSw); go_simp; try with_reducible rfl)
          try simp only [Act.put, List.setIfInBounds_toArray, List.set_cons_zero, List.set_cons_succ]
          refine wpAnyH_take (i := 9) (oi := ⟨some 33, _, _, _, _, _⟩) (v := ?_) rfl (by kernel_rfl) (by kernel_rfl) (by kernel_rfl) (fun _ _ _ h => h) (Or.inl ⟨by rfl, ?_⟩) (by assumption) ?_
          rotate_left
          · (intro w hSw; (try dsimp only at hSw); go_simp; try with_reducible rfl)
          try simp only [Act.put, List.setIfInBounds_toArray, List.set_cons_zero, List.set_cons_succ]
          refine wpAnyH_take (i := 10) (oi := ⟨some 34, _, _, _, _, _⟩) (v := ?_) rfl (by kernel_rfl) (by kernel_rfl) (by kernel_rfl) (fun _ _ _ h => h) (Or.inl ⟨by rfl, ?_⟩) (by assumption) ?_
          rotate_left
          · (intro w hSw; (try dsimp only at hSw); go_simp; try with_reducible rfl)
          try simp only [Act.put, List.setIfInBounds_toArray, List.set_cons_zero, List.set_cons_succ]
          refine wpAnyH_take (i := 11) (oi := ⟨some 35, _, _, _, _, _⟩) (v := ?_) rfl (by kernel_rfl) (by kernel_rfl) (by kernel_rfl) (fun _ _ _ h => h) (Or.inl ⟨by rfl, ?_⟩) (by assumption) ?_
          rotate_left
          · (intro w hSw; (try dsimp only at hSw); go_simp; try with_reducible rfl)
          try simp only [Act.put, List.setIfInBounds_toArray, List.set_cons_zero, List.set_cons_succ]
          refine wpAnyH_take (i := 12) (oi := ⟨some 36, _, _, _, _, _⟩) (v := ?_) rfl (by kernel_rfl) (by kernel_rfl) (by kernel_rfl) (fun _ _ _ h => h) (Or.inl ⟨by rfl, ?_⟩) (by assumption) ?_
          rotate_left
          · (intro w hSw; (try dsimp only at hSw); go_simp; try with_reducible rfl)
          try simp only [Act.put, List.setIfInBounds_toArray, List.set_cons_zero, List.set_cons_succ]
          refine wpAnyH_take (i := 13) (oi := ⟨some 37, _, _, _, _, _⟩) (v := ?_) rfl (by kernel_rfl) (by kernel_rfl) (by kernel_rfl) (fun _ _ _ h => h) (Or.inl ⟨by rfl, ?_⟩) (by assumption) ?_
          rotate_left
          · (intro w hSw; (try dsimp only at hSw); go_simp; try with_reducible rfl)
          try simp only [Act.put, List.setIfInBounds_toArray, List.set_cons_zero, List.set_cons_succ]
          refine wpAnyH_take (i := 14) (oi := ⟨some 38, _, _, _, _, _⟩) (v := ?_) rfl (by kernel_rfl) (by kernel_rfl) (by kernel_rfl) (fun _ _ _ h => h) (Or.inl ⟨by rfl, ?_⟩) (by assumption) ?_
          rotate_left
          · (intro w hSw; (try dsimp only at hSw); go_simp; try with_reducible rfl)
          try simp only [Act.put, List.setIfInBounds_toArray, List.set_cons_zero, List.set_cons_succ]
          refine wpAnyH_take (i := 15) (oi := ⟨some 39, _, _, _, _, _⟩) (v := ?_) rfl (by kernel_rfl) (by kernel_rfl) (by kernel_rfl) (fun _ _ _ h => h) (Or.inl ⟨by rfl, ?_⟩) (by assumption) ?_
          rotate_left
          · (intro w hSw; (try dsimp only at hSw); go_simp; try with_reducible rfl)
          try simp only [Act.put, List.setIfInBounds_toArray, List.set_cons_zero, List.set_cons_succ]
          refine wpAnyH_take (i := 16) (oi := ⟨some 40, _, _, _, _, _⟩) (v := ?_) rfl (by kernel_rfl) (by kernel_rfl) (by kernel_rfl) (fun _ _ _ h => h) (Or.inl ⟨by rfl, ?_⟩) (by assumption) ?_
          rotate_left
          · (intro w hSw; (try dsimp only at hSw); go_simp; try with_reducible rfl)
          try simp only [Act.put, List.setIfInBounds_toArray, List.set_cons_zero, List.set_cons_succ]
          refine wpAnyH_take (i := 17) (oi := ⟨some 41, _, _, _, _, _⟩) (v := ?_) rfl (by kernel_rfl) (by kernel_rfl) (by kernel_rfl) (fun _ _ _ h => h) (Or.inl ⟨by rfl, ?_⟩) (by assumption) ?_
          rotate_left
          · (intro w hSw; (try dsimp only at hSw); go_simp; try with_reducible rfl)
          try simp only [Act.put, List.setIfInBounds_toArray, List.set_cons_zero, List.set_cons_succ]
          refine wpAnyH_take (i := 18) (oi := ⟨some 42, _, _, _, _, _⟩) (v := ?_) rfl (by kernel_rfl) (by kernel_rfl) (by kernel_rfl) (fun _ _ _ h => h) (Or.inl ⟨by rfl, ?_⟩) (by assumption) ?_
          rotate_left
          · (intro w hSw; (try dsimp only at hSw); go_simp; try with_reducible rfl)
          try simp only [Act.put, List.setIfInBounds_toArray, List.set_cons_zero, List.set_cons_succ]
          refine wpAnyH_take (i := 19) (oi := ⟨some 43, _, _, _, _, _⟩) (v := ?_) rfl (by kernel_rfl) (by kernel_rfl) (by kernel_rfl) (fun _ _ _ h => h) (Or.inl ⟨by rfl, ?_⟩) (by assumption) ?_
          rotate_left
          · (intro w hSw; (try dsimp only at hSw); go_simp; try with_reducible rfl)
          try simp only [Act.put, List.setIfInBounds_toArray, List.set_cons_zero, List.set_cons_succ]
          refine wpAnyH_take (i := 20) (oi := ⟨some 44, _, _, _, _, _⟩) (v := undef) rfl (by kernel_rfl) (by kernel_rfl) (by kernel_rfl) (fun _ _ _ h => h) (Or.inr ⟨by rfl, rfl⟩) (by assumption) ?_
          try simp only [Act.put, List.setIfInBounds_toArray, List.set_cons_zero, List.set_cons_succ]
          refine wpAnyH_take (i := 21) (oi := ⟨some 45, _, _, _, _, _⟩) (v := undef) rfl (by kernel_rfl) (by kernel_rfl) (by kernel_rfl) (fun _ _ _ h => h) (Or.inr ⟨by rfl, rfl⟩) (by assumption) ?_
          try simp only [Act.put, List.setIfInBounds_toArray, List.set_cons_zero, List.set_cons_succ]
          refine wpAnyH_take (i := 22) (oi := ⟨some 46, _, _, _, _, _⟩) (v := undef) rfl (by kernel_rfl) (by kernel_rfl) (by kernel_rfl) (fun _ _ _ h => h) (Or.inr ⟨by rfl, rfl⟩) (by assumption) ?_
          try simp only [Act.put, List.setIfInBounds_toArray, List.set_cons_zero, List.set_cons_succ]
          refine wpAnyH_take (i := 23) (oi := ⟨some 47, _, _, _, _, _⟩) (v := undef) rfl (by kernel_rfl) (by kernel_rfl) (by kernel_rfl) (fun _ _ _ h => h) (Or.inr ⟨by rfl, rfl⟩) (by assumption) ?_
          try simp only [Act.put, List.setIfInBounds_toArray, List.set_cons_zero, List.set_cons_succ]
          refine wpAnyH_take (i := 24) (oi := ⟨some 48, _, _, _, _, _⟩) (v := undef) rfl (by kernel_rfl) (by kernel_rfl) (by kernel_rfl) (fun _ _ _ h => h) (Or.inr ⟨by rfl, rfl⟩) (by assumption) ?_
          try simp only [Act.put, List.setIfInBounds_toArray, List.set_cons_zero, List.set_cons_succ]
          refine wpAnyH_take (i := 25) (oi := ⟨some 49, _, _, _, _, _⟩) (v := undef) rfl (by kernel_rfl) (by kernel_rfl) (by kernel_rfl) (fun _ _ _ h => h) (Or.inr ⟨by rfl, rfl⟩) (by assumption) ?_
          try simp only [Act.put, List.setIfInBounds_toArray, List.set_cons_zero, List.set_cons_succ]
          refine wpAnyH_take (i := 26) (oi := ⟨some 50, _, _, _, _, _⟩) (v := undef) rfl (by kernel_rfl) (by kernel_rfl) (by kernel_rfl) (fun _ _ _ h => h) (Or.inr ⟨by rfl, rfl⟩) (by assumption) ?_
          try simp only [Act.put, List.setIfInBounds_toArray, List.set_cons_zero, List.set_cons_succ]
          refine wpAnyH_take (i := 27) (oi := ⟨some 51, _, _, _, _, _⟩) (v := undef) rfl (by kernel_rfl) (by kernel_rfl) (by kernel_rfl) (fun _ _ _ h => h) (Or.inr ⟨by rfl, rfl⟩) (by assumption) ?_
          try simp only [Act.put, List.setIfInBounds_toArray, List.set_cons_zero, List.set_cons_succ]
          refine wpAnyH_take (i := 28) (oi := ⟨some 52, _, _, _, _, _⟩) (v := ?_) rfl (by kernel_rfl) (by kernel_rfl) (by kernel_rfl) (fun _ _ _ h => h) (Or.inl ⟨by rfl, ?_⟩) (by assumption) ?_
          rotate_left
          · (intro w hSw; (try dsimp only at hSw); go_simp; try with_reducible rfl)
          try simp only [Act.put, List.setIfInBounds_toArray, List.set_cons_zero, List.set_cons_succ]
          refine wpAnyH_take (i := 29) (oi := ⟨some 53, _, _, _, _, _⟩) (v := ?_) rfl (by kernel_rfl) (by kernel_rfl) (by kernel_rfl) (fun _ _ _ h => h) (Or.inl ⟨by rfl, ?_⟩) (by assumption) ?_
          rotate_left
          · (intro w hSw; (try dsimp only at hSw); go_simp; try with_reducible rfl)
          try simp only [Act.put, List.setIfInBounds_toArray, List.set_cons_zero, List.set_cons_succ]
          refine wpAnyH_done (by kernel_rfl) ?_ _
          go_wp2
          go_roundw
          case rel => exact ⟨k + 1, by omega, by go_num, Lib.hid K6.out.drew, Lib.hid J6.out.drew, Lib.hid HB6.out.drew⟩
          case measure => simp [intOf]; omega
    · obtain rfl : n1 = k := by omega
      go_wp2
      go_loopw [7] (fun i wr => ∃ k : Nat, k ≤ n2 ∧ i = .int .i64 k ∧ Hid (Blk wr w.heap.size 25 #[.slice A1 n1 c1, .int .i64 up, .int .i64 bo, .slice A2 n2 c2]) ∧ Hid (Blk wr (w.heap.size + 1) 25 #[.slice A3 n3 c3, .int .i64 up', .int .i64 bo', .slice A4 n4 c4]) ∧ Hid (Below w.heap.size w wr)) (fun i _ => n2 - (intOf i).toNat)
      case atStart => exact ⟨0, Nat.zero_le _, rfl, K0, K1, HB⟩
      case round =>
        clear K0 K1 HB x0 x1 x2 x3 x4 y0 y1 y2 y3 y4
        obtain ⟨j, hj, rfl, K0, K1, HB⟩ := hrel
        obtain ⟨x0, x1, x2, x3, x4⟩ := blk_cells4 K0.out
        obtain ⟨y0, y1, y2, y3, y4⟩ := blk_cells4 K1.out
        by_cases hlt2 : j < n2
        · obtain ⟨b, off, rfl, hb, hc⟩ := lks_at HE.out (by omega)
          obtain ⟨c0, c1_⟩ := hc j hlt2
          have hin := HEP.out j hlt2
          clear hc
          generalize ep.getD j (0, 0) = x at *
          obtain ⟨xo, xn⟩ := x
          simp only at c0 c1_ hin
          have HC0 := Lib.hid c0
          have HC1 := Lib.hid c1_
          replace c0 := (HB.out.cell (p := ⟨b, off + j * 2, none⟩) hb).trans c0
          replace c1_ := (HB.out.cell (p := ⟨b, off + j * 2 + 1, none⟩) hb).trans c1_
          have rp := fun (W : World) (hW : Below w.heap.size w W) => repoch_any A4 n4 c4 w.heap.size ep' xo W (HE'.out.below hW (Nat.le_refl _))
          generalize epoch ep' xo = q at *
          have dl : decide (q < xn) = false := decide_eq_false (by omega)
          have RP := Lib.hid rp; clear rp
          clear hin
          go_wp2_with (fail)
          go_quiet (first | (go_at_call 34; exact quiet_two (RP.out _ (below_drewN HB.out _))))
          go_wp2
          go_roundw
          case rel => exact ⟨j + 1, by omega, by go_num, Lib.hid (K0.out.drewN _), Lib.hid (K1.out.drewN _), Lib.hid (below_drewN HB.out _)⟩
          case measure => simp [intOf]; omega
        · obtain rfl : n2 = j := by omega
          go_wp2
          go_ret
          exact ⟨rfl, HB.out⟩
end Go.Proofs.Ytcojimbnenibnaa.Bas
/- BaseApplies: for every state and every changes the law returns true and its arguments read as before: any state behind any changes, that it may be, and that nothing in it is less, or older. No condition. -/
namespace Go.Proofs.Ytcojimbnenibnaa.baseApplies
open Go.RowKit Go.Proofs.Ytcojimbnenibnaa.Mem Go.Proofs.Ytcojimbnenibnaa.Oct Go.Proofs.Ytcojimbnenibnaa.Lsa Go.Proofs.Ytcojimbnenibnaa.Chg Go.Proofs.Ytcojimbnenibnaa.Bas
set_option linter.unusedVariables false
set_option linter.unusedSimpArgs false
set_option maxRecDepth 20000 in
set_option maxHeartbeats 4000000 in
theorem walk_dark (s : Sta) (A1 A2 A : Option Addr) (n1 c1 n2 c2 n c : Nat) (l : List Ch) (w : World) (h : StM w w.heap.size (.slice A1 n1 c1) (.slice A2 n2 c2) s) (hc : Chs w w.heap.size (.slice A n c) l) (hd : (lightS s && lightB l) = false) :
    Calls Try.prog 3 #[.agg #[.slice A1 n1 c1, .int .i64 s.up, .int .i64 s.bo, .slice A2 n2 c2], .slice A n c] w fun e w' => e = .returned (.bool true) ∧ Below w.heap.size w w' := by
  have hb := low1 (Below.refl w.heap.size w) (.cells #[.slice A1 n1 c1, .int .i64 s.up, .int .i64 s.bo, .slice A2 n2 c2] 25)
  have k0 := Blk.new w 25 #[.slice A1 n1 c1, .int .i64 s.up, .int .i64 s.bo, .slice A2 n2 c2]
  obtain ⟨x0, x1, x2, x3, x4⟩ := blk_cells4 k0
  have lt := light11_any s (.slice A1 n1 c1) (.slice A2 n2 c2) _ (h.up hb)
  have lt2 := fun (W : World) (hW : Below w.heap.size w W) => light10_any A n c l W (hc.up hW)
  simp only [stV] at lt
  cases h1 : lightS s
  · rw [h1] at lt
    have LT := Lib.hid lt; clear lt lt2 h1 hd h hc
    have HB := Lib.hid hb; clear hb
    have K0 := Lib.hid k0; clear k0
    go_enter Try.func3, Try.ntmps3
    go_wp2_with (first
      | (go_at_call 7; refine (LT.out).mono ?_; rintro e w1 ⟨rfl, hb1⟩; have HB1 := Lib.hid (low_low HB.out hb1); have K1 := Lib.hid (K0.out.below hb1 K0.out.lt); obtain ⟨y0, y1, y2, y3, y4⟩ := blk_cells4 K1.out; clear hb1)
      | (go_at_call 9; refine (awake11_any _).mono ?_; rintro e w9 ⟨rfl, hb9⟩; have HB9 := Lib.hid (low_low HB1.out hb9); clear hb9))
    go_ret
    exact ⟨rfl, HB9.out⟩
  · rw [h1] at lt
    rw [h1, Bool.true_and] at hd
    rw [hd] at lt2
    have LT := Lib.hid lt; clear lt h1 hd h hc
    have LT2 := Lib.hid lt2; clear lt2
    have HB := Lib.hid hb; clear hb
    have K0 := Lib.hid k0; clear k0
    go_enter Try.func3, Try.ntmps3
    go_wp2_with (first
      | (go_at_call 7; refine (LT.out).mono ?_; rintro e w1 ⟨rfl, hb1⟩; have HB1 := Lib.hid (low_low HB.out hb1); have K1 := Lib.hid (K0.out.below hb1 K0.out.lt); obtain ⟨y0, y1, y2, y3, y4⟩ := blk_cells4 K1.out; clear hb1)
      | (go_at_call 8; refine (LT2.out _ HB1.out).mono ?_; rintro e w2 ⟨rfl, hb2⟩; have HB2 := Lib.hid (low_low HB1.out hb2); have K2 := Lib.hid (K1.out.below hb2 K1.out.lt); obtain ⟨z0, z1, z2, z3, z4⟩ := blk_cells4 K2.out; clear hb2)
      | (go_at_call 9; refine (awake11_any _).mono ?_; rintro e w9 ⟨rfl, hb9⟩; have HB9 := Lib.hid (low_low HB2.out hb9); clear hb9))
    go_ret
    exact ⟨rfl, HB9.out⟩
set_option maxRecDepth 20000 in
set_option maxHeartbeats 8000000 in
theorem walk_light (s : Sta) (A1 A2 A : Option Addr) (n1 c1 n2 c2 n c : Nat) (l : List Ch) (w : World) (h : StM w w.heap.size (.slice A1 n1 c1) (.slice A2 n2 c2) s) (hc : Chs w w.heap.size (.slice A n c) l) (hlt : lightS s = true) (hlt2 : lightB l = true) (t : Sta) (e : Int) (hap : applyS s l = (t, e)) :
    Calls Try.prog 3 #[.agg #[.slice A1 n1 c1, .int .i64 s.up, .int .i64 s.bo, .slice A2 n2 c2], .slice A n c] w fun e w' => e = .returned (.bool true) ∧ Below w.heap.size w w' := by
  have hb := low1 (Below.refl w.heap.size w) (.cells #[.slice A1 n1 c1, .int .i64 s.up, .int .i64 s.bo, .slice A2 n2 c2] 25)
  have k0 := Blk.new w 25 #[.slice A1 n1 c1, .int .i64 s.up, .int .i64 s.bo, .slice A2 n2 c2]
  obtain ⟨x0, x1, x2, x3, x4⟩ := blk_cells4 k0
  have lt := light11_any s (.slice A1 n1 c1) (.slice A2 n2 c2) _ (h.up hb)
  have lt2 := fun (W : World) (hW : Below w.heap.size w W) => light10_any A n c l W (hc.up hW)
  simp only [stV] at lt
  rw [hlt] at lt
  rw [hlt2] at lt2
  have LT := Lib.hid lt; clear lt
  have LT2 := Lib.hid lt2; clear lt2
  have HB := Lib.hid hb; clear hb
  have K0 := Lib.hid k0; clear k0
  have ap := fun (W : World) (hW : Below w.heap.size w W) => apply_any s (.slice A1 n1 c1) (.slice A2 n2 c2) A n c l W (h.up hW) (hc.up hW)
  have ra := fun (W : World) (hW : Below w.heap.size w W) => rapply_any s (.slice A1 n1 c1) (.slice A2 n2 c2) A n c l W (h.up hW) (hc.up hW)
  have ck := fun (W : World) (hW : Below w.heap.size w W) => scheck_any s (.slice A1 n1 c1) (.slice A2 n2 c2) W (h.up hW)
  have my := fun (W : World) (hW : Below w.heap.size w W) => rmay_st s (.slice A1 n1 c1) (.slice A2 n2 c2) W (h.up hW)
  have HH := Lib.hid (fun (W : World) (hW : Below w.heap.size w W) => h.up hW)
  unfold ApplyOut at ap
  unfold RApplyOut at ra
  have hok : e = 0 → mayS t = true ∧ within s t = true := fun he => by subst he; exact apply_ok hap
  rw [hap] at ap ra
  simp only [stV] at ap ra ck my
  have AP := Lib.hid ap; clear ap
  have RA := Lib.hid ra; clear ra
  have hee : (e != e) = false := by simp
  have HOK := Lib.hid hok; clear hok
  clear h hc hlt hlt2 hap
  cases hm : mayS s
  all_goals
    rw [hm] at ck my
    first | rw [errI_f] at ck | rw [errI_t] at ck
    have CK := Lib.hid ck; clear ck
    have MY := Lib.hid my; clear my hm
    go_enter Try.func3, Try.ntmps3
    go_upto_region 5 with (first
      | (go_at_call 7; refine (LT.out).mono ?_; rintro e w1 ⟨rfl, hb1⟩; have HB1 := Lib.hid (low_low HB.out hb1); have K1 := Lib.hid (K0.out.below hb1 K0.out.lt); obtain ⟨y0, y1, y2, y3, y4⟩ := blk_cells4 K1.out; clear hb1)
      | (go_at_call 8; refine (LT2.out _ HB1.out).mono ?_; rintro e w2 ⟨rfl, hb2⟩; have HB2 := Lib.hid (low_low HB1.out hb2); have K2 := Lib.hid (K1.out.below hb2 K1.out.lt); obtain ⟨z0, z1, z2, z3, z4⟩ := blk_cells4 K2.out; clear hb2)
      | (go_at_call 10; refine (AP.out _ HB2.out).mono ?_; rintro e w3 ⟨dv3, ev3, rfl, hs3, hb3⟩; obtain ⟨A5, n5, c5, rfl, hq_⟩ := id hs3.1; obtain ⟨A6, n6, c6, rfl, hr_⟩ := id hs3.2; clear hq_ hr_; have HB3 := Lib.hid (low_low HB2.out hb3); have K3 := Lib.hid (K2.out.below hb3 K2.out.lt); have HS3 := Lib.hid hs3; obtain ⟨q0, q1, q2, q3, q4⟩ := blk_cells4 K3.out; clear hs3 hb3)
      | (go_at_call 11; refine (RA.out _ (low1 HB3.out (.cells #[.slice A5 n5 c5, .int .i64 t.up, .int .i64 t.bo, .slice A6 n6 c6] 25))).mono ?_; rintro e w4 ⟨dv4, ev4, rfl, hs4, hb4⟩; obtain ⟨A7, n7, c7, rfl, hq_⟩ := id hs4.1; obtain ⟨A8, n8, c8, rfl, hr_⟩ := id hs4.2; clear hq_ hr_; have HB4 := Lib.hid (low_low (low1 HB3.out (.cells #[.slice A5 n5 c5, .int .i64 t.up, .int .i64 t.bo, .slice A6 n6 c6] 25)) hb4); have k4 := (K3.out.alloc (.cells #[.slice A5 n5 c5, .int .i64 t.up, .int .i64 t.bo, .slice A6 n6 c6] 25)).below hb4 (by have := K3.out.lt; simp; omega); have K4 := Lib.hid k4; have X4 := Lib.hid ((Blk.new w3 25 #[.slice A5 n5 c5, .int .i64 t.up, .int .i64 t.bo, .slice A6 n6 c6]).below hb4 (by simp)); have HX4 := Lib.hid ((HS3.out.up (low1 (Below.refl _ _) (.cells #[.slice A5 n5 c5, .int .i64 t.up, .int .i64 t.bo, .slice A6 n6 c6] 25))).up hb4); have HS4 := Lib.hid hs4; obtain ⟨r0, r1, r2, r3, r4⟩ := blk_cells4 K4.out; clear hs4 hb4 k4))
    have HB5 := Lib.hid (low1 HB4.out (.cells #[.slice A7 n7 c7, .int .i64 t.up, .int .i64 t.bo, .slice A8 n8 c8] 25))
    have K5 := Lib.hid (K4.out.alloc (.cells #[.slice A7 n7 c7, .int .i64 t.up, .int .i64 t.bo, .slice A8 n8 c8] 25))
    have X5 := Lib.hid (X4.out.alloc (.cells #[.slice A7 n7 c7, .int .i64 t.up, .int .i64 t.bo, .slice A8 n8 c8] 25))
    have V5 := Lib.hid (Blk.new w4 25 #[.slice A7 n7 c7, .int .i64 t.up, .int .i64 t.bo, .slice A8 n8 c8])
    have HX5 := Lib.hid (HX4.out.up (low1 (Below.refl _ _) (.cells #[.slice A7 n7 c7, .int .i64 t.up, .int .i64 t.bo, .slice A8 n8 c8] 25)))
    have HV5 := Lib.hid (HS4.out.up (low1 (Below.refl _ _) (.cells #[.slice A7 n7 c7, .int .i64 t.up, .int .i64 t.bo, .slice A8 n8 c8] 25)))
    clear K0 K1 K2 K3 K4 X4 HX4 HS4 HS3 HB HB1 HB2 HB3 HB4 AP RA LT LT2 x0 x1 x2 x3 x4 y0 y1 y2 y3 y4 z0 z1 z2 z3 z4 q0 q1 q2 q3 q4 r0 r1 r2 r3 r4
    generalize w4.alloc (.cells #[.slice A7 n7 c7, .int .i64 t.up, .int .i64 t.bo, .slice A8 n8 c8] 25) = w5 at *
    generalize w4.heap.size = gv at *
    generalize w3.heap.size = gx at *
    have sm := fun (W : World) (hW : Below w5.heap.size w5 W) => rsame_st t t (.slice A5 n5 c5) (.slice A6 n6 c6) (.slice A7 n7 c7) (.slice A8 n8 c8) W (HX5.out.up hW) (HV5.out.up hW)
    rewrite [sameS_self] at sm
    simp only [stV] at sm
    have SM := Lib.hid sm; clear sm
    have HE5 := Lib.hid (Below.refl w5.heap.size w5)
    obtain ⟨k0, k1, k2, k3, k4⟩ := blk_cells4 K5.out
    obtain ⟨x0, x1, x2, x3, x4⟩ := blk_cells4 X5.out
    obtain ⟨v0, v1, v2, v3, v4⟩ := blk_cells4 V5.out
    go_region_held3 (fun W => W.cell? ⟨w.heap.size, 0, none⟩ = some (.slice A1 n1 c1) ∧ W.cell? ⟨w.heap.size, 1, none⟩ = some (.int .i64 s.up) ∧ W.cell? ⟨w.heap.size, 2, none⟩ = some (.int .i64 s.bo) ∧ W.cell? ⟨w.heap.size, 3, none⟩ = some (.slice A2 n2 c2) ∧ W.cell? ⟨gx, 0, none⟩ = some (.slice A5 n5 c5) ∧ W.cell? ⟨gx, 1, none⟩ = some (.int .i64 t.up) ∧ W.cell? ⟨gx, 2, none⟩ = some (.int .i64 t.bo) ∧ W.cell? ⟨gx, 3, none⟩ = some (.slice A6 n6 c6) ∧ W.cell? ⟨gv, 0, none⟩ = some (.slice A7 n7 c7) ∧ W.cell? ⟨gv, 1, none⟩ = some (.int .i64 t.up) ∧ W.cell? ⟨gv, 2, none⟩ = some (.int .i64 t.bo) ∧ W.cell? ⟨gv, 3, none⟩ = some (.slice A8 n8 c8))
      (first
        | with_reducible exact ⟨k0, k1, k2, k3, x0, x1, x2, x3, v0, v1, v2, v3⟩
        | with_reducible exact ⟨ka0, ka1, ka2, ka3, xa0, xa1, xa2, xa3, va0, va1, va2, va3⟩
        | with_reducible exact ⟨kb0, kb1, kb2, kb3, xb0, xb1, xb2, xb3, vb0, vb1, vb2, vb3⟩
        | with_reducible exact ⟨kc0, kc1, kc2, kc3, xc0, xc1, xc2, xc3, vc0, vc1, vc2, vc3⟩
        | go_keep)
      (first
        | (go_at_call 12; refine (CK.out _ ?hw).mono ?_; (case hw => exact low_low HB5.out (by with_reducible repeat (first | exact HE5.out | exact HEa.out | exact HEb.out | exact HEc.out | refine below_drewN ?_ _ | refine Below.drew ?_))); rintro e wa ⟨rfl, hb⟩; have HEa := Lib.hid (low_low (wz := w5) (by with_reducible repeat (first | exact HE5.out | exact HEa.out | exact HEb.out | exact HEc.out | refine below_drewN ?_ _ | refine Below.drew ?_)) hb); clear hb; obtain ⟨ka0, ka1, ka2, ka3, ka4⟩ := blk_cells4 (K5.out.below HEa.out K5.out.lt); obtain ⟨xa0, xa1, xa2, xa3, xa4⟩ := blk_cells4 (X5.out.below HEa.out X5.out.lt); obtain ⟨va0, va1, va2, va3, va4⟩ := blk_cells4 (V5.out.below HEa.out V5.out.lt))
        | (go_at_call 13; refine (MY.out _ ?hw).mono ?_; (case hw => exact low_low HB5.out (by with_reducible repeat (first | exact HE5.out | exact HEa.out | exact HEb.out | exact HEc.out | refine below_drewN ?_ _ | refine Below.drew ?_))); rintro e wb ⟨rfl, hb⟩; have HEb := Lib.hid (low_low (wz := w5) (by with_reducible repeat (first | exact HE5.out | exact HEa.out | exact HEb.out | exact HEc.out | refine below_drewN ?_ _ | refine Below.drew ?_)) hb); clear hb; obtain ⟨kb0, kb1, kb2, kb3, kb4⟩ := blk_cells4 (K5.out.below HEb.out K5.out.lt); obtain ⟨xb0, xb1, xb2, xb3, xb4⟩ := blk_cells4 (X5.out.below HEb.out X5.out.lt); obtain ⟨vb0, vb1, vb2, vb3, vb4⟩ := blk_cells4 (V5.out.below HEb.out V5.out.lt))
        | (go_at_call 14; refine (SM.out _ ?hw).mono ?_; (case hw => exact (by with_reducible repeat (first | exact HE5.out | exact HEa.out | exact HEb.out | exact HEc.out | refine below_drewN ?_ _ | refine Below.drew ?_))); rintro e wc ⟨rfl, hb⟩; have HEc := Lib.hid (low_low (wz := w5) (by with_reducible repeat (first | exact HE5.out | exact HEa.out | exact HEb.out | exact HEc.out | refine below_drewN ?_ _ | refine Below.drew ?_)) hb); clear hb; obtain ⟨kc0, kc1, kc2, kc3, kc4⟩ := blk_cells4 (K5.out.below HEc.out K5.out.lt); obtain ⟨xc0, xc1, xc2, xc3, xc4⟩ := blk_cells4 (X5.out.below HEc.out X5.out.lt); obtain ⟨vc0, vc1, vc2, vc3, vc4⟩ := blk_cells4 (V5.out.below HEc.out V5.out.lt)))
    have HBc := Lib.hid (low_low HB5.out HEc.out)
    by_cases he : e = 0
    · have hok2 := HOK.out he
      subst he
      have ck2 := fun (W : World) (hW : Below w5.heap.size w5 W) => scheck_any t (.slice A5 n5 c5) (.slice A6 n6 c6) W (HX5.out.up hW)
      have my2 := fun (W : World) (hW : Below w5.heap.size w5 W) => rmay_st t (.slice A5 n5 c5) (.slice A6 n6 c6) W (HX5.out.up hW)
      have ww := fun (W : World) (hW : Below w5.heap.size w5 W) => rwithin_yes s t (.slice A1 n1 c1) (.slice A2 n2 c2) (.slice A5 n5 c5) (.slice A6 n6 c6) W (HH.out W (low_low HB5.out hW)) (HX5.out.up hW) hok2.2
      rewrite [hok2.1, errI_t] at ck2
      rewrite [hok2.1] at my2
      simp only [stV] at ck2 my2 ww
      have C2 := Lib.hid ck2; clear ck2
      have M2 := Lib.hid my2; clear my2
      have W2 := Lib.hid ww; clear ww hok2
      go_wp2_with (first
        | (have HM1 := C2; go_at_call 12; refine (C2.out _ HEc.out).mono ?_; rintro e wd ⟨rfl, hb⟩; have HEd := Lib.hid (low_low HEc.out hb); clear hb HM1 C2; obtain ⟨kd0, kd1, kd2, kd3, kd4⟩ := blk_cells4 (K5.out.below HEd.out K5.out.lt); obtain ⟨xd0, xd1, xd2, xd3, xd4⟩ := blk_cells4 (X5.out.below HEd.out X5.out.lt); obtain ⟨vd0, vd1, vd2, vd3, vd4⟩ := blk_cells4 (V5.out.below HEd.out V5.out.lt))
        | (have HM2 := M2; go_at_call 13; refine (M2.out _ HEd.out).mono ?_; rintro e we ⟨rfl, hb⟩; have HEe := Lib.hid (low_low HEd.out hb); clear hb HM2 M2; obtain ⟨ke0, ke1, ke2, ke3, ke4⟩ := blk_cells4 (K5.out.below HEe.out K5.out.lt); obtain ⟨xe0, xe1, xe2, xe3, xe4⟩ := blk_cells4 (X5.out.below HEe.out X5.out.lt); obtain ⟨ve0, ve1, ve2, ve3, ve4⟩ := blk_cells4 (V5.out.below HEe.out V5.out.lt))
        | (go_at_call 15; refine (W2.out _ HEe.out).mono ?_; rintro e wf ⟨rfl, hb⟩; have HEf := Lib.hid (low_low HEe.out hb); clear hb)
        | (go_at_call 9; refine (awake11_any _).mono ?_; rintro e w9 ⟨rfl, hb9⟩; have HB9 := Lib.hid (low_low (low_low HB5.out HEf.out) hb9); clear hb9))
      go_ret
      exact ⟨rfl, HB9.out⟩
    · have he0 : (e != 0) = true := by simp [he]
      clear he
      go_wp2_with (go_at_call 9; refine (awake11_any _).mono ?_; rintro e w9 ⟨rfl, hb9⟩; have HB9 := Lib.hid (low_low HBc.out hb9); clear hb9)
      go_ret
      exact ⟨rfl, HB9.out⟩
theorem walk (u0a u0b u0c u0d : Value) (a1 : Option Addr) (len1 cap1 : Nat) (w : World) (w0a : LasR w u0a) (w0b : NumOf .i64 u0b) (w0c : NumOf .i64 u0c) (w0d : LkR w u0d) (w1 : IsRecs w a1 len1 cap1 6 (ChR w)) :
    Calls Try.prog 3 #[.agg #[u0a, u0b, u0c, u0d], .slice a1 len1 cap1] w fun e w' => e = .returned (.bool true) ∧ Below w.heap.size w w' := by
  obtain ⟨l, hc⟩ := chs_in w1
  obtain ⟨s, rfl, rfl, h⟩ := st_in w0a w0b w0c w0d
  obtain ⟨A1, n1, c1, rfl, hr_⟩ := id h.1
  obtain ⟨A2, n2, c2, rfl, hs_⟩ := id h.2
  clear hr_ hs_
  cases hd : (lightS s && lightB l)
  · exact walk_dark s A1 A2 a1 n1 c1 n2 c2 len1 cap1 l w h hc hd
  · simp only [Bool.and_eq_true] at hd
    obtain ⟨t, e, hap⟩ : ∃ t e, applyS s l = (t, e) := ⟨_, _, rfl⟩
    exact walk_light s A1 A2 a1 n1 c1 n2 c2 len1 cap1 l w h hc hd.1 hd.2 t e hap
open Go.ChangeShapes Go.WideShapes Go.ChangeAt Go.RowKit
theorem own : ownKnob Try.prog.godebug = none := by kernel_rfl
theorem laidOut : laidOutB Try.prog = true := by kernel_rfl
/-! the step from the walk to the row -/
set_option maxRecDepth 100000 in
theorem lifted (os : Os) (started : os.Started) (H : Type) (enc : TypeId × Value → H) :
    ReturnsInHanded {} Try.checked os 3 .any (Rows.baseAppliesSpec.pre6 enc Try.prog Try.f3 Rows.baseAppliesRow.domain false) (Rows.baseAppliesSpec.post enc Try.prog Try.f3 false true false false) := by
  refine returnsInHanded_of_change (C := Try.checked) own started (by kernel_rfl) Try.func3
    (ChangeSpec.witness6 (enc := enc) (C := Try.checked) false ⟨#[], #[.agg #[.slice none 0 0, .int .i64 0, .int .i64 0, .slice none 0 0], .slice none 0 0], []⟩ 8 (by kernel_rfl) (by kernel_rfl) (by kernel_rfl) (by kernel_rfl)) ?_
  intro W base args ds gs before hval0 hW hcnd _
  have hval : ∀ (j : Nat) t v, Try.f3.params[j]? = some t → args[j]? = some v → Value.okWide Try.prog W .any base t v := hval0
  have hW' := hW
  obtain ⟨p, q, hA0, hV, rfl, hfz, hnd⟩ := hW
  have hA : DataW.TrodAll enc Try.prog W 0 (fun _ => true) true Try.f3.params.toList args.toList ds p := hA0
  rw [Try.params3] at hA hval
  obtain ⟨v0, vs0, d0, ds0, p0, q0, hargs, rfl, rfl, h0, r0⟩ := trodAll_cons hA
  obtain ⟨v1, vs1, d1, ds1, p1, q1, rfl, rfl, rfl, h1, r1⟩ := trodAll_cons r0
  obtain ⟨rfl, rfl, rfl⟩ := trodAll_nil r1
  obtain rfl : args = #[v0, v1] := by cases args; simp_all
  obtain ⟨rfl, rfl⟩ := trodVars_none hV
  have k0 := h0
  have lt0 : ∀ x ∈ p0, x.block < W.heap.size := by obtain ⟨m, hm⟩ := k0; exact DataW.trod_lt m _ _ _ hm
  obtain ⟨u0a, u0b, u0c, u0d, rfl, w0a, w0b, w0c, w0d⟩ := open_state_at (hval 0 25 v0 rfl rfl) h0
  obtain ⟨a1, len1, cap1, rfl⟩ := okWide_slice Try.underlying26 (hval 1 26 v1 rfl rfl)
  have k1 := h1
  have lt1 : ∀ x ∈ p1, x.block < W.heap.size := by obtain ⟨m, hm⟩ := k1; exact DataW.trod_lt m _ _ _ hm
  have w1 : IsRecs W a1 len1 cap1 6 (ChR W) := by
    obtain ⟨fuel, hf⟩ := h1
    obtain ⟨A, l, c, e, hr⟩ := open_changes_at (v := .slice a1 len1 cap1) hf
    injection e with e1 e2 e3
    subst e1 e2 e3
    exact hr
  clear hA0 hval0
  refine (walk u0a u0b u0c u0d a1 len1 cap1 W w0a w0b w0c w0d w1).mono fun e W' ⟨he, bel⟩ => ?_
  subst he
  exact ⟨_, rfl, _, _, _, [], _, [], hW', trodAll_mk1 (shut_bool Try.underlying4 _), (trodAll_cons_mk (Below.trod laidOut (by kernel_rfl) (of_decide_eq_true (by kernel_rfl)) k0 bel lt0) (trodAll_cons_mk (Below.trod laidOut (by kernel_rfl) (of_decide_eq_true (by kernel_rfl)) k1 bel lt1) trodAll_mk0)), rfl, bel.frame _, fun h => by cases h⟩

theorem over : Rows.baseAppliesRow.holds Try.pinned (OpenSpec.ofChange Rows.baseAppliesSpec) :=
  OpenClaim.holds_of_wide 3 Try.f3 rfl rfl rfl rfl rfl rfl rfl ⟨rfl, rfl, rfl, rfl, rfl⟩ rfl rfl rfl rfl rfl (by kernel_rfl) Try.func3 (by kernel_rfl)
    (of_decide_eq_true (by kernel_rfl)) (by unfold Func.isWrapper; first | (rw [if_pos (by decide +kernel)]; kernel_rfl) | (rw [if_neg (by decide +kernel)]; exact ⟨rfl, rfl⟩))
    (fun os started H enc _ => lifted os started H enc)

/-- the statement -/
theorem proved : Rows.BaseAppliesSaid := over
end Go.Proofs.Ytcojimbnenibnaa.baseApplies
