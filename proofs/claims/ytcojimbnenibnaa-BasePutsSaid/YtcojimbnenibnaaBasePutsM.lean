/- BasePutsM: the texts Same, BasIn, BasRefSame, BasSame, BasRefMay, BasRefBytes, BasePuts in one. (Printed by tools/merge.py.) -/
import Derived.Test.YtcojimbnenibnaaBasAwake
import Derived.Test.YtcojimbnenibnaaBasDo
import Derived.Test.YtcojimbnenibnaaBasGet
import Derived.Test.YtcojimbnenibnaaBasMem
import Derived.Test.YtcojimbnenibnaaBasPut
import Derived.Test.YtcojimbnenibnaaBasRef
import Derived.Test.YtcojimbnenibnaaBytes
import Derived.Test.YtcojimbnenibnaaLsaRefPut
import Derived.Below
import Derived.BigQuiet
import Derived.ChangeOld
import Derived.Deep.Cut
import Derived.Deep.QuietTactic
import Derived.Deep.RegionHeld3
import Derived.IntWalk
import Derived.OpenShut
import Derived.ProofKit
import Derived.ShutString
import Derived.WalkKit
/- The reference Same of layer 1: whether two slices of bytes hold the same. Condition: at most 1000000 bytes each. -/
namespace Go.Proofs.Ytcojimbnenibnaa.Mem
open Go.RowKit
theorem getD_of_ne {xs ys : List Nat} (hl : xs.length = ys.length) (h : xs ≠ ys) : ∃ d, d < xs.length ∧ xs.getD d 0 ≠ ys.getD d 0 ∧ ∀ j, j < d → xs.getD j 0 = ys.getD j 0 := by
  induction xs generalizing ys with
  | nil =>
    have : ys = [] := List.eq_nil_of_length_eq_zero (by simpa using hl.symm)
    exact absurd this.symm h
  | cons x xs ih =>
    rcases ys with _ | ⟨y, ys⟩
    · simp at hl
    · by_cases e : x = y
      · subst e
        obtain ⟨d, h1, h2, h3⟩ := ih (by simpa using hl) (fun e => h (by rw [e]))
        refine ⟨d + 1, by simp; omega, by simpa using h2, ?_⟩
        intro j hj
        rcases j with _ | j
        · simp
        · simpa using h3 j (by omega)
      · exact ⟨0, by simp, by simpa using e, fun j hj => absurd hj (by omega)⟩
set_option maxHeartbeats 400000 in
theorem same_yes (A A' : Option Addr) (n c c' B B' : Nat) (xs : List Nat) (w : World) (h : Bts w B A n xs) (h' : Bts w B' A' n xs) :
    Calls Try.prog 20 #[.slice A n c, .slice A' n c'] w fun e w' => e = .returned (.bool true) ∧ ∃ m, w' = w.drewN m := by
  obtain ⟨hl, _, hn, hA⟩ := h
  obtain ⟨_, _, _, hA'⟩ := h'
  have HL := Lib.hid hl; clear hl
  have HA := Lib.hid hA; clear hA
  have HA' := Lib.hid hA'; clear hA'
  go_enter Try.func20, Try.ntmps20
  go_wp2
  go_loopw [5] (fun i wr => (∃ k : Nat, k ≤ n ∧ i = .int .i64 k) ∧ ∃ m, wr = w.drewN m) (fun i _ => n - (intOf i).toNat)
  case atStart => exact ⟨⟨0, Nat.zero_le _, rfl⟩, 0, rfl⟩
  case round =>
    obtain ⟨⟨k, hk, rfl⟩, m, rfl⟩ := hrel
    by_cases hlt : k < n
    · obtain ⟨b, off, rfl, _, hc⟩ := HA.out (by omega)
      obtain ⟨b', off', rfl, _, hc'⟩ := HA'.out (by omega)
      have g := hc k hlt
      have g' := hc' k hlt
      clear hc hc'
      generalize xs.getD k 0 = q at g g'
      go_wp2
      go_quiet (fail)
      go_wp2
      go_roundw
      case rel => exact ⟨⟨k + 1, by omega, by go_num⟩, _, rfl⟩
      case measure => simp [intOf]; omega
    · go_wp2
      go_ret
      exact ⟨rfl, m, rfl⟩
set_option maxHeartbeats 400000 in
theorem same_len (A A' : Option Addr) (n n' c c' : Nat) (w : World) (h : n ≠ n') :
    Calls Try.prog 20 #[.slice A n c, .slice A' n' c'] w fun e w' => e = .returned (.bool false) ∧ ∃ m, w' = w.drewN m := by
  have hb : ((n : Int) != (n' : Int)) = true := by rw [bne_iff_ne]; omega
  go_enter Try.func20, Try.ntmps20
  go_wp2
  go_ret
  exact ⟨rfl, 0, rfl⟩
set_option maxHeartbeats 400000 in
theorem same_no (A A' : Option Addr) (n c c' B B' : Nat) (xs ys : List Nat) (w : World) (h : Bts w B A n xs) (h' : Bts w B' A' n ys) (hne : xs ≠ ys) :
    Calls Try.prog 20 #[.slice A n c, .slice A' n c'] w fun e w' => e = .returned (.bool false) ∧ ∃ m, w' = w.drewN m := by
  obtain ⟨hl, _, hn, hA⟩ := h
  obtain ⟨hl', _, _, hA'⟩ := h'
  obtain ⟨d, hd, hdn, hde⟩ := getD_of_ne (by omega) hne
  rw [hl] at hd
  have HL := Lib.hid hl; clear hl
  have HL' := Lib.hid hl'; clear hl'
  have HA := Lib.hid hA; clear hA
  have HA' := Lib.hid hA'; clear hA'
  have HD := Lib.hid hdn; clear hdn
  have HE := Lib.hid hde; clear hde
  clear hne
  go_enter Try.func20, Try.ntmps20
  go_wp2
  go_loopw [5] (fun i wr => (∃ k : Nat, k ≤ d ∧ i = .int .i64 k) ∧ ∃ m, wr = w.drewN m) (fun i _ => n - (intOf i).toNat)
  case atStart => exact ⟨⟨0, Nat.zero_le _, rfl⟩, 0, rfl⟩
  case round =>
    obtain ⟨⟨k, hk, rfl⟩, m, rfl⟩ := hrel
    obtain ⟨b, off, rfl, _, hc⟩ := HA.out (by omega)
    obtain ⟨b', off', rfl, _, hc'⟩ := HA'.out (by omega)
    have g := hc k (by omega)
    have g' := hc' k (by omega)
    clear hc hc'
    have hkn : k < n := by omega
    by_cases hlt : k < d
    · have he := HE.out k hlt
      rw [← he] at g'
      clear he
      generalize xs.getD k 0 = q at g g'
      go_wp2
      go_quiet (fail)
      go_wp2
      go_roundw
      case rel => exact ⟨⟨k + 1, by omega, by go_num⟩, _, rfl⟩
      case measure => simp [intOf]; omega
    · obtain rfl : k = d := by omega
      have he := HD.out
      generalize xs.getD k 0 = q at g he
      generalize ys.getD k 0 = q' at g' he
      have hb : ((q : Int) != (q' : Int)) = true := by rw [bne_iff_ne]; omega
      clear he
      go_wp2
      go_quiet (fail)
      go_wp2
      go_ret
      exact ⟨rfl, _, World.drewN_drewN _ _ _⟩
/-- the reference Same: are the bytes the same? -/
theorem rsame_any (A A' : Option Addr) (n n' c c' B B' : Nat) (xs ys : List Nat) (w : World) (h : Bts w B A n xs) (h' : Bts w B' A' n' ys) :
    Calls Try.prog 20 #[.slice A n c, .slice A' n' c'] w fun e w' => e = .returned (.bool (decide (xs = ys))) ∧ ∃ m, w' = w.drewN m := by
  by_cases e : xs = ys
  · subst e
    obtain rfl : n = n' := h.1.symm.trans h'.1
    rw [decide_eq_true rfl]
    exact same_yes A A' n c c' B B' xs w h h'
  · rw [decide_eq_false e]
    by_cases hn : n = n'
    · subst hn
      exact same_no A A' n c c' B B' xs ys w h h' e
    · exact same_len A A' n n' c c' w hn
end Go.Proofs.Ytcojimbnenibnaa.Mem
/- States that came in (layer 11): what a law is told of a state by value; no program's function is named here. -/
namespace Go.Proofs.Ytcojimbnenibnaa.Bas
open Go.RowKit Go.Proofs.Ytcojimbnenibnaa.Mem Go.Proofs.Ytcojimbnenibnaa.Oct Go.Proofs.Ytcojimbnenibnaa.Lsa Go.Proofs.Ytcojimbnenibnaa.Chg
set_option linter.unusedVariables false
set_option linter.unusedSimpArgs false
/-- the fields of an Lsa that came in -/
def LaR (w : World) : Nat → Value → Prop
  | 0, v => NumOf .i64 v
  | 1, v => NumOf .i64 v
  | 2, v => LkR w v
  | _, _ => True
def LasR (w : World) (v : Value) : Prop := ∃ A l c, v = .slice A l c ∧ IsRecs w A l c 3 (LaR w)
section
open Go.ChangeShapes Go.WideShapes Go.ChangeAt Go.Joins
variable {H : Type} {enc : TypeId × Value → H} {W : World} {base : Nat} {held : Bool}
set_option maxRecDepth 20000 in
theorem open_lsas_at {fuel : Nat} {v : Value} {y : DataW H × List MemPlace} (h : DataW.trod enc Try.prog W base (fun _ => true) held fuel 22 [v] = some y) : LasR W v := by
  rcases open_slice_fields Try.underlying22 Try.underlying50 (by kernel_rfl) (by kernel_rfl) h with ⟨hcs, _⟩ | ⟨x, l, c, m, D, Pl, hcs, _, hl, hm, hmm, _, hh⟩
  · injection hcs with hcs _
    exact ⟨none, 0, 0, hcs, .inl ⟨rfl, rfl, rfl⟩⟩
  · injection hcs with hcs _
    refine ⟨some x, l, c, hcs, .inr ⟨_, rfl, hl, hm, fun i hi j hj => ?_⟩⟩
    obtain ⟨ys, n, _, _, _, hg⟩ := hh i (by rw [hmm, if_pos rfl]; exact hi)
    match j, hj with
    | 0, _ =>
      obtain ⟨v, y, hc, _, ht⟩ := hg 0 _ rfl
      exact ⟨v, hc, open_num_at Try.underlying3 ht⟩
    | 1, _ =>
      obtain ⟨v, y, hc, _, ht⟩ := hg 1 _ rfl
      exact ⟨v, hc, open_num_at Try.underlying3 ht⟩
    | 2, _ =>
      obtain ⟨v, y, hc, _, ht⟩ := hg 2 _ rfl
      exact ⟨v, hc, open_links_at ht⟩
set_option maxRecDepth 20000 in
theorem open_eps_at {fuel : Nat} {v : Value} {y : DataW H × List MemPlace} (h : DataW.trod enc Try.prog W base (fun _ => true) held fuel 23 [v] = some y) : LkR W v := by
  rcases open_slice_fields Try.underlying23 Try.underlying60 (by kernel_rfl) (by kernel_rfl) h with ⟨hcs, _⟩ | ⟨x, l, c, m, D, Pl, hcs, _, hl, hm, hmm, _, hh⟩
  · injection hcs with hcs _
    exact ⟨none, 0, 0, hcs, .inl ⟨rfl, rfl, rfl⟩⟩
  · injection hcs with hcs _
    refine ⟨some x, l, c, hcs, .inr ⟨_, rfl, hl, hm, fun i hi j hj => ?_⟩⟩
    obtain ⟨ys, n, _, _, _, hg⟩ := hh i (by rw [hmm, if_pos rfl]; exact hi)
    match j, hj with
    | 0, _ =>
      obtain ⟨v, y, hc, _, ht⟩ := hg 0 _ rfl
      exact ⟨v, hc, open_num_at Try.underlying3 ht⟩
    | 1, _ =>
      obtain ⟨v, y, hc, _, ht⟩ := hg 1 _ rfl
      exact ⟨v, hc, open_num_at Try.underlying3 ht⟩
set_option maxRecDepth 20000 in
theorem open_state_at {v : Value} {d : DataW H} {p : List MemPlace} {r : Reach} {b0 : Nat} (hv : Value.okWide Try.prog W r b0 25 v) (h : DataW.Trod enc Try.prog W base (fun _ => true) held 25 v d p) :
    ∃ c0 c1 c2 c3, v = .agg #[c0, c1, c2, c3] ∧ LasR W c0 ∧ NumOf .i64 c1 ∧ NumOf .i64 c2 ∧ LkR W c3 := by
  obtain ⟨u0, u1, u2, u3, _, _, _, _, _, rfl, _, _, g0, g1, g2, g3⟩ := Go.Joins.open_agg4 Try.underlying25 (by kernel_rfl) (by kernel_rfl) hv h
  exact ⟨u0, u1, u2, u3, rfl, open_lsas_at g0, open_num_at Try.underlying3 g1, open_num_at Try.underlying3 g2, open_eps_at g3⟩
end
theorem las_in {w : World} {v : Value} (h : LasR w v) : ∃ l, Las w w.heap.size v l := by
  obtain ⟨A, n, c, rfl, h⟩ := h
  have hnc : n ≤ c ∧ c ≤ maxLen ∧ (A = none → c = 0) := by
    rcases h with ⟨rfl, rfl, rfl⟩ | ⟨x, rfl, h1, h2, _⟩
    · exact ⟨Nat.le_refl _, by unfold maxLen; omega, fun _ => rfl⟩
    · exact ⟨h1, h2, fun e => by cases e⟩
  by_cases h0 : n = 0
  · subst h0
    exact ⟨[], ⟨A, 0, c, rfl, rfl, hnc.1, hnc.2.1, hnc.2.2, fun h => absurd h (by omega)⟩⟩
  · obtain ⟨b, off, rfl, hb, hc⟩ := rec_at h (by omega) (by omega)
    have hch : ∀ i, i < n → ∃ (q : La) (u : Value), w.rangeAt b (off + i * 3) (rowL q u) ∧ Lks w w.heap.size u q.ls := fun i hi => by
      obtain ⟨v0, e0, z0, rfl, _⟩ := hc i hi 0 (by omega)
      obtain ⟨v1, e1, z1, rfl, _⟩ := hc i hi 1 (by omega)
      obtain ⟨v2, e2, A3, l3, c3, rfl, hr⟩ := hc i hi 2 (by omega)
      obtain ⟨ls, hls⟩ := lks_in hr
      refine ⟨⟨z0, z1, ls⟩, .slice A3 l3 c3, fun j v hv => ?_, hls⟩
      rw [Nat.add_assoc]
      match j, hv with
      | 0, hv => simp [rowL] at hv; subst hv; exact e0
      | 1, hv => simp [rowL] at hv; subst hv; exact e1
      | 2, hv => simp [rowL] at hv; subst hv; exact e2
      | j + 3, hv => simp [rowL] at hv
    obtain ⟨f, hf⟩ : ∃ f : Nat → La, ∀ i, i < n → ∃ u, w.rangeAt b (off + i * 3) (rowL (f i) u) ∧ Lks w w.heap.size u (f i).ls :=
      ⟨fun i => if h : i < n then Classical.choose (hch i h) else zeroL, fun i hi => by simp only [hi, dif_pos]; exact Classical.choose_spec (hch i hi)⟩
    have hg : ∀ i, i < n → ((List.range n).map f).getD i zeroL = f i := fun i hi => by simp [List.getD, hi]
    refine ⟨(List.range n).map f, ⟨_, n, c, rfl, by simp, hnc.1, hnc.2.1, hnc.2.2, fun _ => ⟨b, off, rfl, hb, fun i hi => ?_⟩⟩⟩
    rw [hg i hi]
    exact hf i hi
/-- a state that came in -/
theorem st_in {w : World} {dv uv bv ev : Value} (h1 : LasR w dv) (h2 : NumOf .i64 uv) (h3 : NumOf .i64 bv) (h4 : LkR w ev) : ∃ s : Sta, uv = .int .i64 s.up ∧ bv = .int .i64 s.bo ∧ StM w w.heap.size dv ev s := by
  obtain ⟨l, hl⟩ := las_in h1
  obtain ⟨u, rfl, _⟩ := h2
  obtain ⟨b, rfl, _⟩ := h3
  obtain ⟨A, n, c, rfl, hr⟩ := h4
  obtain ⟨ep, he⟩ := lks_in hr
  exact ⟨⟨l, u, b, ep⟩, rfl, rfl, hl, he⟩
end Go.Proofs.Ytcojimbnenibnaa.Bas
/- Which states are alike, by the document's own answer (layer 11): waymarkref11.Same. -/
namespace Go.Proofs.Ytcojimbnenibnaa.Bas
open Go.RowKit Go.Proofs.Ytcojimbnenibnaa.Mem Go.Proofs.Ytcojimbnenibnaa.Oct Go.Proofs.Ytcojimbnenibnaa.Lsa Go.Proofs.Ytcojimbnenibnaa.Chg
set_option linter.unusedVariables false
set_option linter.unusedSimpArgs false
set_option maxRecDepth 20000 in
set_option maxHeartbeats 8000000 in
theorem rsame_st (s t : Sta) (dv ev dv' ev' : Value) (w : World) (h : StM w w.heap.size dv ev s) (h' : StM w w.heap.size dv' ev' t) :
    Calls Try.prog 14 #[stV s dv ev, stV t dv' ev'] w fun e w' => e = .returned (.bool (sameS s t)) ∧ Below w.heap.size w w' := by
  obtain ⟨db, up, bo, ep⟩ := s
  obtain ⟨db', up', bo', ep'⟩ := t
  obtain ⟨h1, h2⟩ := h
  obtain ⟨h1', h2'⟩ := h'
  obtain ⟨A1, n1, c1, rfl, hr_⟩ := id h1
  obtain ⟨A2, n2, c2, rfl, hs_⟩ := id h2
  obtain ⟨A3, n3, c3, rfl, ht_⟩ := id h1'
  obtain ⟨A4, n4, c4, rfl, hu_⟩ := id h2'
  clear hr_ hs_ ht_ hu_
  obtain ⟨hl, hnc, hcm, _⟩ := lks_len h2
  obtain ⟨hl', hnc', hcm', _⟩ := lks_len h2'
  unfold maxLen at hcm hcm'
  simp only [stV] at *
  have hb := low2 w (.cells #[.slice A1 n1 c1, .int .i64 up, .int .i64 bo, .slice A2 n2 c2] 25) (.cells #[.slice A3 n3 c3, .int .i64 up', .int .i64 bo', .slice A4 n4 c4] 25)
  have k0 := (Blk.new w 25 #[.slice A1 n1 c1, .int .i64 up, .int .i64 bo, .slice A2 n2 c2]).alloc (.cells #[.slice A3 n3 c3, .int .i64 up', .int .i64 bo', .slice A4 n4 c4] 25)
  have k1 := blk_second w (.cells #[.slice A1 n1 c1, .int .i64 up, .int .i64 bo, .slice A2 n2 c2] 25) 25 #[.slice A3 n3 c3, .int .i64 up', .int .i64 bo', .slice A4 n4 c4]
  have al := rall_db A1 A3 n1 n3 c1 c3 db db' _ (h1.up hb) (h1'.up hb)
  obtain ⟨x0, x1, x2, x3, x4⟩ := blk_cells4 k0
  obtain ⟨y0, y1, y2, y3, y4⟩ := blk_cells4 k1
  have K0 := Lib.hid k0; clear k0
  have K1 := Lib.hid k1; clear k1
  have HB := Lib.hid hb; clear hb
  unfold sameS
  simp only
  cases g1 : (up == up')
  · have b1 : (up != up') = true := by simp [bne, g1]
    clear al
    go_enter Try.func14, Try.ntmps14
    go_wp2
    go_ret
    exact ⟨rfl, HB.out⟩
  have b1 : (up != up') = false := by simp [bne, g1]
  cases g2 : (bo == bo')
  · have b2 : (bo != bo') = true := by simp [bne, g2]
    clear al
    go_enter Try.func14, Try.ntmps14
    go_wp2
    go_ret
    exact ⟨rfl, HB.out⟩
  have b2 : (bo != bo') = false := by simp [bne, g2]
  simp only [Bool.true_and]
  cases g3 : sameDb db db'
  · rw [g3] at al
    have AL := Lib.hid al; clear al
    go_enter Try.func14, Try.ntmps14
    go_wp2_with (go_at_call 31; refine (AL.out).mono ?_; rintro e w3 ⟨rfl, hb3⟩; have HB3 := Lib.hid (low_low HB.out hb3); obtain ⟨z0, z1, z2, z3, z4⟩ := blk_cells4 (K0.out.below hb3 K0.out.lt); obtain ⟨u0, u1, u2, u3, u4⟩ := blk_cells4 (K1.out.below hb3 K1.out.lt); clear hb3)
    go_ret
    exact ⟨rfl, HB3.out⟩
  rw [g3] at al
  have AL := Lib.hid al; clear al
  simp only [Bool.true_and]
  by_cases hn : n2 = n4
  · subst hn
    have hbn : ((n2 : Int) != (n2 : Int)) = false := by simp
    obtain ⟨z, hz⟩ : ∃ z, z = decide (ep = ep') := ⟨_, rfl⟩
    rw [← hz]
    have HZ := Lib.hid hz; clear hz
    have HL := Lib.hid hl; clear hl
    have HL' := Lib.hid hl'; clear hl'
    have HS := Lib.hid h2; clear h2
    have HS' := Lib.hid h2'; clear h2'
    clear h1 h1'
    go_enter Try.func14, Try.ntmps14
    go_wp2_with (go_at_call 31; refine (AL.out).mono ?_; rintro e w3 ⟨rfl, hb3⟩; have HB3 := Lib.hid (low_low HB.out hb3); have Q0 := Lib.hid (K0.out.below hb3 K0.out.lt); have Q1 := Lib.hid (K1.out.below hb3 K1.out.lt); obtain ⟨z0, z1, z2, z3, z4⟩ := blk_cells4 Q0.out; obtain ⟨u0, u1, u2, u3, u4⟩ := blk_cells4 Q1.out; clear hb3)
    go_loopw [5] (fun i wr => ∃ k : Nat, k ≤ n2 ∧ i = .int .i64 k ∧ Hid (z = decide (ep.drop k = ep'.drop k)) ∧ Hid (∃ m, wr = w3.drewN m)) (fun i _ => n2 - (intOf i).toNat)
    case atStart => exact ⟨0, Nat.zero_le _, rfl, HZ, Lib.hid ⟨0, rfl⟩⟩
    case round =>
      obtain ⟨k, hk, rfl, HZ2, HW⟩ := hrel
      obtain ⟨m, rfl⟩ := HW.out
      clear HW
      by_cases hlt : k < n2
      · obtain ⟨b, off, rfl, hb, hc⟩ := lks_at HS.out (by omega)
        obtain ⟨b', off', rfl, hb', hc'⟩ := lks_at HS'.out (by omega)
        obtain ⟨c0, c1⟩ := hc k hlt
        obtain ⟨d0, d1⟩ := hc' k hlt
        replace c0 := (HB3.out.cell (p := ⟨b, off + k * 2, none⟩) hb).trans c0
        replace c1 := (HB3.out.cell (p := ⟨b, off + k * 2 + 1, none⟩) hb).trans c1
        replace d0 := (HB3.out.cell (p := ⟨b', off' + k * 2, none⟩) hb').trans d0
        replace d1 := (HB3.out.cell (p := ⟨b', off' + k * 2 + 1, none⟩) hb').trans d1
        have hz := HZ2.out
        rw [drop_at ep (0, 0) k (by have := HL.out; omega), drop_at ep' (0, 0) k (by have := HL'.out; omega)] at hz
        clear hc hc'
        generalize ep.getD k (0, 0) = x at *
        generalize ep'.getD k (0, 0) = y at *
        obtain ⟨t, u⟩ := x
        obtain ⟨t', u'⟩ := y
        simp only at c0 c1 d0 d1
        by_cases e1 : t = t'
        · subst e1
          by_cases e2 : u = u'
          · subst e2
            rw [dec_cons] at hz
            have HZ3 := Lib.hid hz; clear hz
            go_wp2
            go_quiet (fail)
            go_wp2
            go_roundw
            case rel => exact ⟨k + 1, by omega, by go_num, HZ3, Lib.hid ⟨_, rfl⟩⟩
            case measure => simp [intOf]; omega
          · rw [dec_ne (fun e => e2 (by injection e))] at hz
            have HZ3 := Lib.hid hz; clear hz
            go_wp2
            go_quiet (fail)
            go_wp2
            go_ret
            exact ⟨ret_bool HZ3.out.symm, below_drewN (below_drewN HB3.out _) _⟩
        · rw [dec_ne (fun e => e1 (by injection e))] at hz
          have HZ3 := Lib.hid hz; clear hz
          go_wp2
          go_quiet (fail)
          go_wp2
          go_ret
          exact ⟨ret_bool HZ3.out.symm, below_drewN (below_drewN HB3.out _) _⟩
      · obtain rfl : k = n2 := by omega
        have hz := HZ2.out
        rw [List.drop_eq_nil_of_le (by have := HL.out; omega), List.drop_eq_nil_of_le (by have := HL'.out; omega)] at hz
        have HZ3 := Lib.hid hz; clear hz
        go_wp2
        go_ret
        exact ⟨ret_bool (by simp [HZ3.out]), below_drewN HB3.out _⟩
  · have hbn : ((n2 : Int) != (n4 : Int)) = true := by rw [bne_iff_ne]; omega
    have hd : decide (ep = ep') = false := decide_eq_false (fun e => hn (by rw [← hl, ← hl', e]))
    rw [hd]
    go_enter Try.func14, Try.ntmps14
    go_wp2_with (go_at_call 31; refine (AL.out).mono ?_; rintro e w3 ⟨rfl, hb3⟩; have HB3 := Lib.hid (low_low HB.out hb3); obtain ⟨z0, z1, z2, z3, z4⟩ := blk_cells4 (K0.out.below hb3 K0.out.lt); obtain ⟨u0, u1, u2, u3, u4⟩ := blk_cells4 (K1.out.below hb3 K1.out.lt); clear hb3)
    go_ret
    exact ⟨rfl, HB3.out⟩
end Go.Proofs.Ytcojimbnenibnaa.Bas
/- Which states are alike (layer 11): the contracts of base.Same, of slices.EqualFunc at Lsas and slices.Equal at epochs. -/
namespace Go.Proofs.Ytcojimbnenibnaa.Bas
open Go.RowKit Go.Proofs.Ytcojimbnenibnaa.Mem Go.Proofs.Ytcojimbnenibnaa.Oct Go.Proofs.Ytcojimbnenibnaa.Lsa Go.Proofs.Ytcojimbnenibnaa.Chg
set_option linter.unusedVariables false
set_option linter.unusedSimpArgs false
set_option maxRecDepth 20000 in
set_option maxHeartbeats 4000000 in
theorem equal_ep (A A' : Option Addr) (n n' c c' B B' : Nat) (ls ls' : List Lk) (w : World) (h : Lks w B (.slice A n c) ls) (h' : Lks w B' (.slice A' n' c') ls') :
    Calls Try.prog 39 #[.slice A n c, .slice A' n' c'] w fun e w' => e = .returned (.bool (decide (ls = ls'))) ∧ ∃ m, w' = w.drewN m := by
  obtain ⟨hl, hnc, hcm, _⟩ := lks_len h
  obtain ⟨hl', hnc', hcm', _⟩ := lks_len h'
  unfold maxLen at hcm hcm'
  by_cases hn : n = n'
  · subst hn
    have HL := Lib.hid hl; clear hl
    have HL' := Lib.hid hl'; clear hl'
    have HS := Lib.hid h; clear h
    have HS' := Lib.hid h'; clear h'
    obtain ⟨z, hz⟩ : ∃ z, z = decide (ls = ls') := ⟨_, rfl⟩
    rw [← hz]
    have HZ := Lib.hid hz; clear hz
    go_enter Try.func39, Try.ntmps39
    go_wp2
    go_loopw [13] (fun i wr => (∃ k : Nat, k ≤ n ∧ i = .int .i64 k ∧ z = decide (ls.drop k = ls'.drop k)) ∧ ∃ m, wr = w.drewN m) (fun i _ => n - (intOf i).toNat)
    case atStart => exact ⟨⟨0, Nat.zero_le _, rfl, HZ.out⟩, 0, rfl⟩
    case round =>
      obtain ⟨⟨k, hk, rfl, hz⟩, m, rfl⟩ := hrel
      by_cases hlt : k < n
      · obtain ⟨b, off, rfl, hb, hc⟩ := lks_at HS.out (by omega)
        obtain ⟨b', off', rfl, hb', hc'⟩ := lks_at HS'.out (by omega)
        obtain ⟨c0, c1⟩ := hc k hlt
        obtain ⟨d0, d1⟩ := hc' k hlt
        rw [drop_at ls (0, 0) k (by have := HL.out; omega), drop_at ls' (0, 0) k (by have := HL'.out; omega)] at hz
        clear hc hc'
        generalize ls.getD k (0, 0) = x at *
        generalize ls'.getD k (0, 0) = y at *
        obtain ⟨t, u⟩ := x
        obtain ⟨t', u'⟩ := y
        simp only at c0 c1 d0 d1
        by_cases e1 : t = t'
        · subst e1
          by_cases e2 : u = u'
          · subst e2
            rw [dec_cons] at hz
            have HZ2 := Lib.hid hz; clear hz
            go_wp2
            go_quiet (fail)
            go_wp2
            go_roundw
            case rel => exact ⟨⟨k + 1, by omega, by go_num, HZ2.out⟩, _, rfl⟩
            case measure => simp [intOf]; omega
          · rw [dec_ne (fun e => e2 (by injection e))] at hz
            have HZ2 := Lib.hid hz; clear hz
            go_wp2
            go_quiet (fail)
            go_wp2
            go_ret
            exact ⟨ret_bool HZ2.out.symm, _, World.drewN_drewN _ _ _⟩
        · rw [dec_ne (fun e => e1 (by injection e))] at hz
          have HZ2 := Lib.hid hz; clear hz
          go_wp2
          go_quiet (fail)
          go_wp2
          go_ret
          exact ⟨ret_bool HZ2.out.symm, _, World.drewN_drewN _ _ _⟩
      · obtain rfl : k = n := by omega
        rw [List.drop_eq_nil_of_le (by have := HL.out; omega), List.drop_eq_nil_of_le (by have := HL'.out; omega)] at hz
        have HZ2 := Lib.hid hz; clear hz
        go_wp2
        go_ret
        exact ⟨ret_bool (HZ2.out.symm ▸ rfl), m, rfl⟩
  · have hb : ((n : Int) != (n' : Int)) = true := by rw [bne_iff_ne]; omega
    have hd : decide (ls = ls') = false := decide_eq_false (fun e => hn (by rw [← hl, ← hl', e]))
    rw [hd]
    go_enter Try.func39, Try.ntmps39
    go_wp2
    go_ret
    exact ⟨rfl, 0, rfl⟩
set_option maxRecDepth 20000 in
set_option maxHeartbeats 8000000 in
theorem eqf_lsa (A A' : Option Addr) (n n' c c' : Nat) (d e : List La) (w : World) (h : Las w w.heap.size (.slice A n c) d) (h' : Las w w.heap.size (.slice A' n' c') e) :
    Calls Try.prog 37 #[.slice A n c, .slice A' n' c', .func (.func 38) #[] #[]] w fun e_ w' => e_ = .returned (.bool (sameDb d e)) ∧ Below w.heap.size w w' := by
  obtain ⟨hl, hnc, hcm, _⟩ := las_len h
  obtain ⟨hl', hnc', hcm', _⟩ := las_len h'
  unfold maxLen at hcm hcm'
  by_cases hn : n = n'
  · subst hn
    have HL := Lib.hid hl; clear hl
    have HL' := Lib.hid hl'; clear hl'
    have HS := Lib.hid h; clear h
    have HS' := Lib.hid h'; clear h'
    obtain ⟨z, hz⟩ : ∃ z, z = sameDb d e := ⟨_, rfl⟩
    rw [← hz]
    have HZ := Lib.hid hz; clear hz
    have hbn : ((n : Int) != (n : Int)) = false := by simp
    go_enter Try.func37, Try.ntmps37
    go_wp2
    go_loopw [17] (fun i wr => ∃ k : Nat, k ≤ n ∧ i = .int .i64 k ∧ Hid (z = sameDb (d.drop k) (e.drop k)) ∧ Hid (Below w.heap.size w wr)) (fun i _ => n - (intOf i).toNat)
    case atStart => exact ⟨0, Nat.zero_le _, rfl, HZ, Lib.hid (Below.refl _ _)⟩
    case round =>
      obtain ⟨k, hk, rfl, HZ2, HBW⟩ := hrel
      by_cases hlt : k < n
      · obtain ⟨b, off, rfl, hb, hc⟩ := las_at HS.out (by omega)
        obtain ⟨b', off', rfl, hb', hc'⟩ := las_at HS'.out (by omega)
        obtain ⟨u, hr, hk2⟩ := hc k hlt
        obtain ⟨u', hr', hk2'⟩ := hc' k hlt
        have c0 := (HBW.out.cell (p := ⟨b, off + k * 3 + 0, none⟩) hb).trans (hr 0 _ rfl)
        have c1 := (HBW.out.cell (p := ⟨b, off + k * 3 + 1, none⟩) hb).trans (hr 1 _ rfl)
        have c2_ := (HBW.out.cell (p := ⟨b, off + k * 3 + 2, none⟩) hb).trans (hr 2 _ rfl)
        have d0 := (HBW.out.cell (p := ⟨b', off' + k * 3 + 0, none⟩) hb').trans (hr' 0 _ rfl)
        have d1 := (HBW.out.cell (p := ⟨b', off' + k * 3 + 1, none⟩) hb').trans (hr' 1 _ rfl)
        have d2 := (HBW.out.cell (p := ⟨b', off' + k * 3 + 2, none⟩) hb').trans (hr' 2 _ rfl)
        rw [Nat.add_zero] at c0 d0
        have hz := HZ2.out
        rw [sameDb_step d e k (by have := HL.out; omega) (by have := HL'.out; omega), sameL_eq] at hz
        clear hc hr hc' hr'
        generalize d.getD k zeroL = x at *
        generalize e.getD k zeroL = y at *
        obtain ⟨xo, xs, xl⟩ := x
        obtain ⟨yo, ys, yl⟩ := y
        simp only at c0 c1 c2_ d0 d1 d2 hz hk2 hk2'
        obtain ⟨Au, nu, cu, rfl, _, hr_⟩ := id hk2
        obtain ⟨Av, nv, cv, rfl, _, hs_⟩ := id hk2'
        clear hr_ hs_
        have hws := HBW.out.size
        have hbx := two_boxes wr xo xs yo ys (.slice Au nu cu) (.slice Av nv cv)
        have sm := lsame_any xo xs yo ys (.slice Au nu cu) (.slice Av nv cv) xl yl _ (((hk2.below HBW.out (Nat.le_refl _)).more hws).up hbx) (((hk2'.below HBW.out (Nat.le_refl _)).more hws).up hbx)
        have hbb : b < wr.heap.size := by omega
        have hbb' : b' < wr.heap.size := by omega
        have HBX := Lib.hid hbx; clear hbx
        clear hk2 hk2'
        cases hsb : sameB xo xs xl yo ys yl
        all_goals
          rw [hsb] at hz sm
          have SM := Lib.hid sm; clear sm
          have HZ3 := Lib.hid hz; clear hz
          go_wp2_with (go_at_call 38; refine (SM.out).mono ?_; rintro e w6 ⟨rfl, hb6⟩; have HB6 := Lib.hid (low_low HBW.out (low_low HBX.out hb6)); clear hb6)
        · go_ret
          exact ⟨ret_bool (by simp [HZ3.out]), HB6.out⟩
        · go_roundw
          case rel => exact ⟨k + 1, by omega, by go_num, Lib.hid (by have := HZ3.out; rwa [Bool.true_and] at this), HB6⟩
          case measure => simp [intOf]; omega
      · obtain rfl : k = n := by omega
        have hz := HZ2.out
        rw [List.drop_eq_nil_of_le (by have := HL.out; omega), List.drop_eq_nil_of_le (by have := HL'.out; omega)] at hz
        have HZ3 := Lib.hid hz; clear hz
        go_wp2
        go_ret
        exact ⟨ret_bool (by simp [HZ3.out, sameDb]), HBW.out⟩
  · have hb : ((n : Int) != (n' : Int)) = true := by rw [bne_iff_ne]; omega
    have hd : sameDb d e = false := by
      rw [Bool.eq_false_iff]
      intro hh
      have := sameDb_iff.1 hh
      exact hn (by rw [← hl, ← hl', this])
    rw [hd]
    go_enter Try.func37, Try.ntmps37
    go_wp2
    go_ret
    exact ⟨rfl, Below.refl _ _⟩
set_option maxRecDepth 20000 in
set_option maxHeartbeats 8000000 in
theorem ssame_any (s t : Sta) (dv ev dv' ev' : Value) (w : World) (h : StM w w.heap.size dv ev s) (h' : StM w w.heap.size dv' ev' t) :
    Calls Try.prog 17 #[stV s dv ev, stV t dv' ev'] w fun e w' => e = .returned (.bool (sameS s t)) ∧ Below w.heap.size w w' := by
  obtain ⟨db, up, bo, ep⟩ := s
  obtain ⟨db', up', bo', ep'⟩ := t
  obtain ⟨h1, h2⟩ := h
  obtain ⟨h1', h2'⟩ := h'
  obtain ⟨A1, n1, c1, rfl, hr_⟩ := id h1
  obtain ⟨A2, n2, c2, rfl, hs_⟩ := id h2
  obtain ⟨A3, n3, c3, rfl, ht_⟩ := id h1'
  obtain ⟨A4, n4, c4, rfl, hu_⟩ := id h2'
  clear hr_ hs_ ht_ hu_
  simp only [stV] at *
  have hb := low2 w (.cells #[.slice A1 n1 c1, .int .i64 up, .int .i64 bo, .slice A2 n2 c2] 25) (.cells #[.slice A3 n3 c3, .int .i64 up', .int .i64 bo', .slice A4 n4 c4] 25)
  have k0 := (Blk.new w 25 #[.slice A1 n1 c1, .int .i64 up, .int .i64 bo, .slice A2 n2 c2]).alloc (.cells #[.slice A3 n3 c3, .int .i64 up', .int .i64 bo', .slice A4 n4 c4] 25)
  have k1 := blk_second w (.cells #[.slice A1 n1 c1, .int .i64 up, .int .i64 bo, .slice A2 n2 c2] 25) 25 #[.slice A3 n3 c3, .int .i64 up', .int .i64 bo', .slice A4 n4 c4]
  have al := eqf_lsa A1 A3 n1 n3 c1 c3 db db' _ (h1.up hb) (h1'.up hb)
  have eq := fun (W : World) (hW : Below w.heap.size w W) => equal_ep A2 A4 n2 n4 c2 c4 _ _ ep ep' W (h2.below hW (Nat.le_refl _)) (h2'.below hW (Nat.le_refl _))
  obtain ⟨x0, x1, x2, x3, x4⟩ := blk_cells4 k0
  obtain ⟨y0, y1, y2, y3, y4⟩ := blk_cells4 k1
  have K0 := Lib.hid k0; clear k0
  have K1 := Lib.hid k1; clear k1
  have HB := Lib.hid hb; clear hb
  have EQ := Lib.hid eq; clear eq
  clear h1 h2 h1' h2'
  unfold sameS
  simp only
  cases g1 : (up == up')
  · clear al
    go_enter Try.func17, Try.ntmps17
    go_wp2
    go_ret
    exact ⟨ret_bool (by simp), HB.out⟩
  cases g2 : (bo == bo')
  · clear al
    go_enter Try.func17, Try.ntmps17
    go_wp2
    go_ret
    exact ⟨ret_bool (by simp), HB.out⟩
  cases g3 : sameDb db db'
  · rw [g3] at al
    have AL := Lib.hid al; clear al
    go_enter Try.func17, Try.ntmps17
    go_wp2_with (go_at_call 37; refine (AL.out).mono ?_; rintro e w3 ⟨rfl, hb3⟩; have HB3 := Lib.hid (low_low HB.out hb3); clear hb3)
    go_ret
    exact ⟨ret_bool (by simp), HB3.out⟩
  · rw [g3] at al
    have AL := Lib.hid al; clear al
    go_enter Try.func17, Try.ntmps17
    go_wp2_with (first
      | (go_at_call 37; refine (AL.out).mono ?_; rintro e w3 ⟨rfl, hb3⟩; have HB3 := Lib.hid (low_low HB.out hb3); obtain ⟨z0, z1, z2, z3, z4⟩ := blk_cells4 (K0.out.below hb3 K0.out.lt); obtain ⟨v0, v1, v2, v3, v4⟩ := blk_cells4 (K1.out.below hb3 K1.out.lt); clear hb3)
      | (go_at_call 39; refine (EQ.out _ HB3.out).mono ?_; rintro e w4 ⟨rfl, q4, rfl⟩; have HB4 := Lib.hid (below_drewN HB3.out q4)))
    go_ret
    exact ⟨ret_bool (by simp), HB4.out⟩
end Go.Proofs.Ytcojimbnenibnaa.Bas
/- Which states there may be, by the document's own answer (layer 11): waymarkref11.May. -/
namespace Go.Proofs.Ytcojimbnenibnaa.Bas
open Go.RowKit Go.Shelf Go.Proofs.Ytcojimbnenibnaa.Mem Go.Proofs.Ytcojimbnenibnaa.Oct Go.Proofs.Ytcojimbnenibnaa.Lsa Go.Proofs.Ytcojimbnenibnaa.Chg
set_option linter.unusedVariables false
set_option linter.unusedSimpArgs false
theorem mayS_split (db : List La) (up bo : Int) (ep : List (Int × Int)) : mayS ⟨db, up, bo, ep⟩ = (dbOk 0 db && (epOk 0 ep && (decide (0 ≤ up) && (decide (up ≤ 4611686018427387904) && (decide (0 ≤ bo) && decide (bo ≤ 1073741824)))))) := rfl
theorem dbOk_at (db : List La) (k : Nat) (h : k < db.length) : dbOk (lastO db k) (db.drop k) = (laOk (db.getD k zeroL) && (decide (lastO db k < (db.getD k zeroL).o) && dbOk (lastO db (k + 1)) (db.drop (k + 1)))) := by
  rw [dbOk_step _ db k h, lastO_succ]
set_option maxRecDepth 100000 in
set_option maxHeartbeats 8000000 in
theorem rmay_st (s : Sta) (dv ev : Value) (w : World) (h : StM w w.heap.size dv ev s) :
    Calls Try.prog 13 #[stV s dv ev] w fun e w' => e = .returned (.bool (mayS s)) ∧ Below w.heap.size w w' := by
  obtain ⟨db, up, bo, ep⟩ := s
  obtain ⟨h1, h2⟩ := h
  obtain ⟨A, n, c, rfl, hr_⟩ := id h1
  obtain ⟨A', n', c', rfl, hs_⟩ := id h2
  clear hr_ hs_
  obtain ⟨hl, hnc, hcm, _⟩ := las_len h1
  obtain ⟨hl', hnc', hcm', _⟩ := lks_len h2
  unfold maxLen at hcm hcm'
  simp only [stV] at *
  rw [mayS_split]
  have hb := low1 (Below.refl w.heap.size w) (.cells #[.slice A n c, .int .i64 up, .int .i64 bo, .slice A' n' c'] 25)
  have k0 := Blk.new w 25 #[.slice A n c, .int .i64 up, .int .i64 bo, .slice A' n' c']
  have HEN := Lib.hid (enters_of Try.func30 (by kernel_rfl) rfl)
  have HL := Lib.hid hl; clear hl
  have HL' := Lib.hid hl'; clear hl'
  have HS := Lib.hid h1; clear h1
  have HS' := Lib.hid h2; clear h2
  have HB := Lib.hid hb; clear hb
  have K0 := Lib.hid k0; clear k0
  go_enter Try.func13, Try.ntmps13
  go_wp2
  go_loopw [3] (fun i wr => ∃ (k : Nat), k ≤ n ∧ i = .int .i64 k ∧ Hid (dbOk 0 db = dbOk (lastO db k) (db.drop k)) ∧ Hid (Blk wr w.heap.size 25 #[.slice A n c, .int .i64 up, .int .i64 bo, .slice A' n' c']) ∧ Hid (Below w.heap.size w wr)) (fun i _ => n - (intOf i).toNat)
  case atStart => exact ⟨0, Nat.zero_le _, rfl, Lib.hid rfl, K0, HB⟩
  case round =>
    clear K0 HB
    obtain ⟨k, hk, rfl, HOK, K0, HB⟩ := hrel
    obtain ⟨x0, x1, x2, x3, x4⟩ := blk_cells4 K0.out
    have hws := HB.out.size
    by_cases hlt : k < n
    · obtain ⟨b, off, rfl, hb, hc⟩ := las_at HS.out (by omega)
      obtain ⟨u, hr, hk2⟩ := hc k hlt
      have hbw : b < wr.heap.size := by omega
      have c0 := (HB.out.cell (p := ⟨b, off + k * 3 + 0, none⟩) hb).trans (hr 0 _ rfl)
      have c1 := (HB.out.cell (p := ⟨b, off + k * 3 + 1, none⟩) hb).trans (hr 1 _ rfl)
      have c2_ := (HB.out.cell (p := ⟨b, off + k * 3 + 2, none⟩) hb).trans (hr 2 _ rfl)
      rw [Nat.add_zero] at c0
      have cp : 0 < k → wr.cell? ⟨b, off + (k - 1) * 3, none⟩ = some (.int .i64 (lastO db k)) := fun h0 => by
        obtain ⟨u', hr', _⟩ := hc (k - 1) (by omega)
        rw [lastO, if_neg (by omega)]
        exact (HB.out.cell (p := ⟨b, off + (k - 1) * 3 + 0, none⟩) hb).trans (hr' 0 _ rfl)
      have hok := HOK.out
      rw [dbOk_at db k (by have := HL.out; omega)] at hok
      have h00 : k = 0 → lastO db k = 0 := fun e => by rw [lastO, if_pos e]
      clear hc hr
      generalize db.getD k zeroL = y at *
      obtain ⟨yo, ys, yl⟩ := y
      obtain ⟨Au, nu, cu, rfl, hq_⟩ := id hk2
      clear hq_
      simp only at c0 c1 c2_ hok hk2
      generalize lastO db k = last at *
      have my := may_any yo ys Au nu cu yl wr.drew ((hk2.below HB.out (Nat.le_refl _)).more hws)
      have hlo : laOk ⟨yo, ys, yl⟩ = may yo ys yl := rfl
      rw [hlo] at hok
      clear hk2 hlo HOK
      cases hm : may yo ys yl
      · rw [hm] at my hok
        have MY := Lib.hid my; clear my
        have HOK2 := Lib.hid hok; clear hok h00 cp
        go_wp2_with (fail)
        refine wp_region_held_drew (S := fun W => W.cell? ⟨w.heap.size, 0, none⟩ = some (.slice (some ⟨b, off, none⟩) n c) ∧ W.cell? ⟨b, off + k * 3, none⟩ = some (.int .i64 yo) ∧ W.cell? ⟨b, off + k * 3 + 1, none⟩ = some (.int .i64 ys) ∧ W.cell? ⟨b, off + k * 3 + 2, none⟩ = some (.slice Au nu cu)) (by kernel_rfl) ?_ (fun hHeld => ?_)
        · exact ⟨x0, c0, c1, c2_⟩
        refine wpAnyH_take (i := 0) (oi := ⟨some 13, _, _, _, _, _⟩) (v := ?_) rfl (by kernel_rfl) (by kernel_rfl) (by kernel_rfl) (fun _ _ _ h => h) (Or.inl ⟨by rfl, ?_⟩) (by assumption) ?_
        rotate_left
        · (intro w hSw; (try dsimp only at hSw); go_simp; try with_reducible rfl)
        try simp only [Act.put, List.setIfInBounds_toArray, List.set_cons_zero, List.set_cons_succ]
        refine wpAnyH_take (i := 1) (oi := ⟨some 14, _, _, _, _, _⟩) (v := ?_) rfl (by kernel_rfl) (by kernel_rfl) (by kernel_rfl) (fun _ _ _ h => h) (Or.inl ⟨by rfl, ?_⟩) (by assumption) ?_
        rotate_left
        · (intro w hSw; (try dsimp only at hSw); go_simp; try with_reducible rfl)
        try simp only [Act.put, List.setIfInBounds_toArray, List.set_cons_zero, List.set_cons_succ]
        refine wpAnyH_take (i := 2) (oi := ⟨some 15, _, _, _, _, _⟩) (v := ?_) rfl (by kernel_rfl) (by kernel_rfl) (by kernel_rfl) (fun _ _ _ h => h) (Or.inl ⟨by rfl, ?_⟩) (by assumption) ?_
        rotate_left
        · (intro w hSw; (try dsimp only at hSw); go_simp; try with_reducible rfl)
        try simp only [Act.put, List.setIfInBounds_toArray, List.set_cons_zero, List.set_cons_succ]
        refine wpAnyH_take (i := 3) (oi := ⟨some 16, _, _, _, _, _⟩) (v := ?_) rfl (by kernel_rfl) (by kernel_rfl) (by kernel_rfl) (fun _ _ _ h => h) (Or.inl ⟨by rfl, ?_⟩) (by assumption) ?_
        rotate_left
        · (intro w hSw; (try dsimp only at hSw); go_simp; try with_reducible rfl)
        try simp only [Act.put, List.setIfInBounds_toArray, List.set_cons_zero, List.set_cons_succ]
        refine wpAnyH_take (i := 4) (oi := ⟨some 17, _, _, _, _, _⟩) (v := ?_) rfl (by kernel_rfl) (by kernel_rfl) (by kernel_rfl) (fun _ _ _ h => h) (Or.inl ⟨by rfl, ?_⟩) (by assumption) ?_
        rotate_left
        · (intro w hSw; (try dsimp only at hSw); go_simp; try with_reducible rfl)
        try simp only [Act.put, List.setIfInBounds_toArray, List.set_cons_zero, List.set_cons_succ]
        refine wpAnyH_ready (rs := [5]) (by kernel_rfl) (by simp) (AllReadyH.cons (o := ⟨some 18, _, _, _, _, _⟩) rfl (fun K hK => ?_) AllReadyH.nil)
        go_simp
        (go_at_call 30; refine (MY.out).mono ?_; rintro e w3 ⟨rfl, hb3⟩; have hb3 : Below wr.heap.size wr w3 := ⟨hb3.os, hb3.tape, hb3.output, hb3.size, hb3.block⟩; have HB3 := Lib.hid (low_low HB.out hb3); have K3 := Lib.hid (K0.out.below hb3 K0.out.lt); obtain ⟨z0, z1, z2, z3, z4⟩ := blk_cells4 K3.out; have d0 := (hb3.cell (p := ⟨b, off + k * 3, none⟩) hbw).trans c0; have d1 := (hb3.cell (p := ⟨b, off + k * 3 + 1, none⟩) hbw).trans c1; have d2 := (hb3.cell (p := ⟨b, off + k * 3 + 2, none⟩) hbw).trans c2_; clear hb3)
        refine hK.out _ _ ?_ (fun hHeld => ?_)
        · exact ⟨z0, d0, d1, d2⟩
        clear hK K
        try simp only [Act.put, List.setIfInBounds_toArray, List.set_cons_zero, List.set_cons_succ]
        refine wpAnyH_take (i := 6) (oi := ⟨some 19, _, _, _, _, _⟩) (v := ?_) rfl (by kernel_rfl) (by kernel_rfl) (by kernel_rfl) (fun _ _ _ h => h) (Or.inl ⟨by rfl, ?_⟩) (by assumption) ?_
        rotate_left
        · (intro w hSw; (try dsimp only at hSw); go_simp; try with_reducible rfl)
        try simp only [Act.put, List.setIfInBounds_toArray, List.set_cons_zero, List.set_cons_succ]
        refine wpAnyH_take (i := 7) (oi := ⟨some 20, _, _, _, _, _⟩) (v := ?_) rfl (by kernel_rfl) (by kernel_rfl) (by kernel_rfl) (fun _ _ _ h => h) (Or.inl ⟨by rfl, ?_⟩) (by assumption) ?_
        rotate_left
        · (intro w hSw; (try dsimp only at hSw); go_simp; try with_reducible rfl)
        try simp only [Act.put, List.setIfInBounds_toArray, List.set_cons_zero, List.set_cons_succ]
        refine wpAnyH_take (i := 8) (oi := ⟨some 21, _, _, _, _, _⟩) (v := undef) rfl (by kernel_rfl) (by kernel_rfl) (by kernel_rfl) (fun _ _ _ h => h) (Or.inr ⟨by rfl, rfl⟩) (by assumption) ?_
        try simp only [Act.put, List.setIfInBounds_toArray, List.set_cons_zero, List.set_cons_succ]
        refine wpAnyH_take (i := 9) (oi := ⟨some 22, _, _, _, _, _⟩) (v := undef) rfl (by kernel_rfl) (by kernel_rfl) (by kernel_rfl) (fun _ _ _ h => h) (Or.inr ⟨by rfl, rfl⟩) (by assumption) ?_
        try simp only [Act.put, List.setIfInBounds_toArray, List.set_cons_zero, List.set_cons_succ]
        refine wpAnyH_take (i := 10) (oi := ⟨some 23, _, _, _, _, _⟩) (v := undef) rfl (by kernel_rfl) (by kernel_rfl) (by kernel_rfl) (fun _ _ _ h => h) (Or.inr ⟨by rfl, rfl⟩) (by assumption) ?_
        try simp only [Act.put, List.setIfInBounds_toArray, List.set_cons_zero, List.set_cons_succ]
        refine wpAnyH_take (i := 11) (oi := ⟨some 24, _, _, _, _, _⟩) (v := undef) rfl (by kernel_rfl) (by kernel_rfl) (by kernel_rfl) (fun _ _ _ h => h) (Or.inr ⟨by rfl, rfl⟩) (by assumption) ?_
        try simp only [Act.put, List.setIfInBounds_toArray, List.set_cons_zero, List.set_cons_succ]
        refine wpAnyH_take (i := 12) (oi := ⟨some 25, _, _, _, _, _⟩) (v := undef) rfl (by kernel_rfl) (by kernel_rfl) (by kernel_rfl) (fun _ _ _ h => h) (Or.inr ⟨by rfl, rfl⟩) (by assumption) ?_
        try simp only [Act.put, List.setIfInBounds_toArray, List.set_cons_zero, List.set_cons_succ]
        refine wpAnyH_take (i := 13) (oi := ⟨some 26, _, _, _, _, _⟩) (v := undef) rfl (by kernel_rfl) (by kernel_rfl) (by kernel_rfl) (fun _ _ _ h => h) (Or.inr ⟨by rfl, rfl⟩) (by assumption) ?_
        try simp only [Act.put, List.setIfInBounds_toArray, List.set_cons_zero, List.set_cons_succ]
        refine wpAnyH_take (i := 14) (oi := ⟨some 27, _, _, _, _, _⟩) (v := undef) rfl (by kernel_rfl) (by kernel_rfl) (by kernel_rfl) (fun _ _ _ h => h) (Or.inr ⟨by rfl, rfl⟩) (by assumption) ?_
        try simp only [Act.put, List.setIfInBounds_toArray, List.set_cons_zero, List.set_cons_succ]
        refine wpAnyH_take (i := 15) (oi := ⟨some 28, _, _, _, _, _⟩) (v := undef) rfl (by kernel_rfl) (by kernel_rfl) (by kernel_rfl) (fun _ _ _ h => h) (Or.inr ⟨by rfl, rfl⟩) (by assumption) ?_
        try simp only [Act.put, List.setIfInBounds_toArray, List.set_cons_zero, List.set_cons_succ]
        refine wpAnyH_take (i := 16) (oi := ⟨some 29, _, _, _, _, _⟩) (v := undef) rfl (by kernel_rfl) (by kernel_rfl) (by kernel_rfl) (fun _ _ _ h => h) (Or.inr ⟨by rfl, rfl⟩) (by assumption) ?_
        try simp only [Act.put, List.setIfInBounds_toArray, List.set_cons_zero, List.set_cons_succ]
        refine wpAnyH_take (i := 17) (oi := ⟨some 30, _, _, _, _, _⟩) (v := undef) rfl (by kernel_rfl) (by kernel_rfl) (by kernel_rfl) (fun _ _ _ h => h) (Or.inr ⟨by rfl, rfl⟩) (by assumption) ?_
        try simp only [Act.put, List.setIfInBounds_toArray, List.set_cons_zero, List.set_cons_succ]
        refine wpAnyH_take (i := 18) (oi := ⟨some 31, _, _, _, _, _⟩) (v := undef) rfl (by kernel_rfl) (by kernel_rfl) (by kernel_rfl) (fun _ _ _ h => h) (Or.inr ⟨by rfl, rfl⟩) (by assumption) ?_
        try simp only [Act.put, List.setIfInBounds_toArray, List.set_cons_zero, List.set_cons_succ]
        refine wpAnyH_take (i := 19) (oi := ⟨some 32, _, _, _, _, _⟩) (v := undef) rfl (by kernel_rfl) (by kernel_rfl) (by kernel_rfl) (fun _ _ _ h => h) (Or.inr ⟨by rfl, rfl⟩) (by assumption) ?_
        try simp only [Act.put, List.setIfInBounds_toArray, List.set_cons_zero, List.set_cons_succ]
        refine wpAnyH_take (i := 20) (oi := ⟨some 33, _, _, _, _, _⟩) (v := undef) rfl (by kernel_rfl) (by kernel_rfl) (by kernel_rfl) (fun _ _ _ h => h) (Or.inr ⟨by rfl, rfl⟩) (by assumption) ?_
        try simp only [Act.put, List.setIfInBounds_toArray, List.set_cons_zero, List.set_cons_succ]
        refine wpAnyH_take (i := 21) (oi := ⟨some 34, _, _, _, _, _⟩) (v := undef) rfl (by kernel_rfl) (by kernel_rfl) (by kernel_rfl) (fun _ _ _ h => h) (Or.inr ⟨by rfl, rfl⟩) (by assumption) ?_
        try simp only [Act.put, List.setIfInBounds_toArray, List.set_cons_zero, List.set_cons_succ]
        refine wpAnyH_take (i := 22) (oi := ⟨some 35, _, _, _, _, _⟩) (v := undef) rfl (by kernel_rfl) (by kernel_rfl) (by kernel_rfl) (fun _ _ _ h => h) (Or.inr ⟨by rfl, rfl⟩) (by assumption) ?_
        try simp only [Act.put, List.setIfInBounds_toArray, List.set_cons_zero, List.set_cons_succ]
        refine wpAnyH_take (i := 23) (oi := ⟨some 36, _, _, _, _, _⟩) (v := undef) rfl (by kernel_rfl) (by kernel_rfl) (by kernel_rfl) (fun _ _ _ h => h) (Or.inr ⟨by rfl, rfl⟩) (by assumption) ?_
        try simp only [Act.put, List.setIfInBounds_toArray, List.set_cons_zero, List.set_cons_succ]
        refine wpAnyH_take (i := 24) (oi := ⟨some 37, _, _, _, _, _⟩) (v := undef) rfl (by kernel_rfl) (by kernel_rfl) (by kernel_rfl) (fun _ _ _ h => h) (Or.inr ⟨by rfl, rfl⟩) (by assumption) ?_
        try simp only [Act.put, List.setIfInBounds_toArray, List.set_cons_zero, List.set_cons_succ]
        refine wpAnyH_take (i := 25) (oi := ⟨some 38, _, _, _, _, _⟩) (v := undef) rfl (by kernel_rfl) (by kernel_rfl) (by kernel_rfl) (fun _ _ _ h => h) (Or.inr ⟨by rfl, rfl⟩) (by assumption) ?_
        try simp only [Act.put, List.setIfInBounds_toArray, List.set_cons_zero, List.set_cons_succ]
        refine wpAnyH_take (i := 26) (oi := ⟨some 39, _, _, _, _, _⟩) (v := ?_) rfl (by kernel_rfl) (by kernel_rfl) (by kernel_rfl) (fun _ _ _ h => h) (Or.inl ⟨by rfl, ?_⟩) (by assumption) ?_
        rotate_left
        · (intro w hSw; (try dsimp only at hSw); go_simp; try with_reducible rfl)
        try simp only [Act.put, List.setIfInBounds_toArray, List.set_cons_zero, List.set_cons_succ]
        refine wpAnyH_done (by kernel_rfl) ?_ _
        go_wp2
        go_ret
        exact ⟨ret_bool (by rw [HOK2.out]; rfl), HB3.out⟩
      · rw [hm] at my hok
        have MY := Lib.hid my; clear my
        have hyo := (may_iff.1 hm).1
        by_cases h0 : 0 < k
        · have g0 : decide (0 < k) = true := by simpa using h0
          have g1 : decide ((0 : Int) < (k : Int)) = true := by simpa using h0
          have e1 : ((k : Int) - 1).toNat = k - 1 := by omega
          have e2 : (0 : Int) ≤ (k : Int) - 1 := by omega
          have e3 : IntKind.i64.wrap ((k : Int) - 1) = (k : Int) - 1 := IntWalk.i64_in _ (by omega)
          have e4 : (k : Int) - 1 < (n : Int) := by omega
          have e5 : (1 : Int) ≤ (k : Int) := by omega
          have e6 : 1 ≤ k := h0
          have e7 : (k : Int) ≤ (n : Int) := by omega
          have e8 : ¬ n < k := by omega
          replace cp := cp h0
          cases q6 : decide (yo ≤ last)
          · have hll : decide (last < yo) = true := by rw [decide_eq_true_iff]; rw [decide_eq_false_iff_not] at q6; omega
            rw [hll, Bool.true_and, Bool.true_and] at hok
            have HOK2 := Lib.hid hok; clear hok h00 hll
            go_wp2_with (fail)
            refine wp_region_held_drew (S := fun W => W.cell? ⟨w.heap.size, 0, none⟩ = some (.slice (some ⟨b, off, none⟩) n c) ∧ W.cell? ⟨b, off + k * 3, none⟩ = some (.int .i64 yo) ∧ W.cell? ⟨b, off + k * 3 + 1, none⟩ = some (.int .i64 ys) ∧ W.cell? ⟨b, off + k * 3 + 2, none⟩ = some (.slice Au nu cu) ∧ W.cell? ⟨b, off + (k - 1) * 3, none⟩ = some (.int .i64 last)) (by kernel_rfl) ?_ (fun hHeld => ?_)
            · exact ⟨x0, c0, c1, c2_, cp⟩
            refine wpAnyH_take (i := 0) (oi := ⟨some 13, _, _, _, _, _⟩) (v := ?_) rfl (by kernel_rfl) (by kernel_rfl) (by kernel_rfl) (fun _ _ _ h => h) (Or.inl ⟨by rfl, ?_⟩) (by assumption) ?_
            rotate_left
            · (intro w hSw; (try dsimp only at hSw); go_simp; try with_reducible rfl)
            try simp only [Act.put, List.setIfInBounds_toArray, List.set_cons_zero, List.set_cons_succ]
            refine wpAnyH_take (i := 1) (oi := ⟨some 14, _, _, _, _, _⟩) (v := ?_) rfl (by kernel_rfl) (by kernel_rfl) (by kernel_rfl) (fun _ _ _ h => h) (Or.inl ⟨by rfl, ?_⟩) (by assumption) ?_
            rotate_left
            · (intro w hSw; (try dsimp only at hSw); go_simp; try with_reducible rfl)
            try simp only [Act.put, List.setIfInBounds_toArray, List.set_cons_zero, List.set_cons_succ]
            refine wpAnyH_take (i := 2) (oi := ⟨some 15, _, _, _, _, _⟩) (v := ?_) rfl (by kernel_rfl) (by kernel_rfl) (by kernel_rfl) (fun _ _ _ h => h) (Or.inl ⟨by rfl, ?_⟩) (by assumption) ?_
            rotate_left
            · (intro w hSw; (try dsimp only at hSw); go_simp; try with_reducible rfl)
            try simp only [Act.put, List.setIfInBounds_toArray, List.set_cons_zero, List.set_cons_succ]
            refine wpAnyH_take (i := 3) (oi := ⟨some 16, _, _, _, _, _⟩) (v := ?_) rfl (by kernel_rfl) (by kernel_rfl) (by kernel_rfl) (fun _ _ _ h => h) (Or.inl ⟨by rfl, ?_⟩) (by assumption) ?_
            rotate_left
            · (intro w hSw; (try dsimp only at hSw); go_simp; try with_reducible rfl)
            try simp only [Act.put, List.setIfInBounds_toArray, List.set_cons_zero, List.set_cons_succ]
            refine wpAnyH_take (i := 4) (oi := ⟨some 17, _, _, _, _, _⟩) (v := ?_) rfl (by kernel_rfl) (by kernel_rfl) (by kernel_rfl) (fun _ _ _ h => h) (Or.inl ⟨by rfl, ?_⟩) (by assumption) ?_
            rotate_left
            · (intro w hSw; (try dsimp only at hSw); go_simp; try with_reducible rfl)
            try simp only [Act.put, List.setIfInBounds_toArray, List.set_cons_zero, List.set_cons_succ]
            refine wpAnyH_ready (rs := [5]) (by kernel_rfl) (by simp) (AllReadyH.cons (o := ⟨some 18, _, _, _, _, _⟩) rfl (fun K hK => ?_) AllReadyH.nil)
            go_simp
            (go_at_call 30; refine (MY.out).mono ?_; rintro e w3 ⟨rfl, hb3⟩; have hb3 : Below wr.heap.size wr w3 := ⟨hb3.os, hb3.tape, hb3.output, hb3.size, hb3.block⟩; have HB3 := Lib.hid (low_low HB.out hb3); have K3 := Lib.hid (K0.out.below hb3 K0.out.lt); obtain ⟨z0, z1, z2, z3, z4⟩ := blk_cells4 K3.out; have d0 := (hb3.cell (p := ⟨b, off + k * 3, none⟩) hbw).trans c0; have d1 := (hb3.cell (p := ⟨b, off + k * 3 + 1, none⟩) hbw).trans c1; have d2 := (hb3.cell (p := ⟨b, off + k * 3 + 2, none⟩) hbw).trans c2_; have d3 := (hb3.cell (p := ⟨b, off + (k - 1) * 3, none⟩) hbw).trans cp; clear hb3)
            refine hK.out _ _ ?_ (fun hHeld => ?_)
            · exact ⟨z0, d0, d1, d2, d3⟩
            clear hK K
            try simp only [Act.put, List.setIfInBounds_toArray, List.set_cons_zero, List.set_cons_succ]
            refine wpAnyH_take (i := 6) (oi := ⟨some 19, _, _, _, _, _⟩) (v := ?_) rfl (by kernel_rfl) (by kernel_rfl) (by kernel_rfl) (fun _ _ _ h => h) (Or.inl ⟨by rfl, ?_⟩) (by assumption) ?_
            rotate_left
            · (intro w hSw; (try dsimp only at hSw); go_simp; try with_reducible rfl)
            try simp only [Act.put, List.setIfInBounds_toArray, List.set_cons_zero, List.set_cons_succ]
            refine wpAnyH_take (i := 7) (oi := ⟨some 20, _, _, _, _, _⟩) (v := ?_) rfl (by kernel_rfl) (by kernel_rfl) (by kernel_rfl) (fun _ _ _ h => h) (Or.inl ⟨by rfl, ?_⟩) (by assumption) ?_
            rotate_left
            · (intro w hSw; (try dsimp only at hSw); go_simp; try with_reducible rfl)
            try simp only [Act.put, List.setIfInBounds_toArray, List.set_cons_zero, List.set_cons_succ]
            refine wpAnyH_take (i := 8) (oi := ⟨some 21, _, _, _, _, _⟩) (v := ?_) rfl (by kernel_rfl) (by kernel_rfl) (by kernel_rfl) (fun _ _ _ h => h) (Or.inl ⟨by rfl, ?_⟩) (by assumption) ?_
            rotate_left
            · (intro w hSw; (try dsimp only at hSw); go_simp; try with_reducible rfl)
            try simp only [Act.put, List.setIfInBounds_toArray, List.set_cons_zero, List.set_cons_succ]
            refine wpAnyH_take (i := 9) (oi := ⟨some 22, _, _, _, _, _⟩) (v := ?_) rfl (by kernel_rfl) (by kernel_rfl) (by kernel_rfl) (fun _ _ _ h => h) (Or.inl ⟨by rfl, ?_⟩) (by assumption) ?_
            rotate_left
            · (intro w hSw; (try dsimp only at hSw); go_simp; try with_reducible rfl)
            try simp only [Act.put, List.setIfInBounds_toArray, List.set_cons_zero, List.set_cons_succ]
            refine wpAnyH_take (i := 10) (oi := ⟨some 23, _, _, _, _, _⟩) (v := ?_) rfl (by kernel_rfl) (by kernel_rfl) (by kernel_rfl) (fun _ _ _ h => h) (Or.inl ⟨by rfl, ?_⟩) (by assumption) ?_
            rotate_left
            · (intro w hSw; (try dsimp only at hSw); go_simp; try with_reducible rfl)
            try simp only [Act.put, List.setIfInBounds_toArray, List.set_cons_zero, List.set_cons_succ]
            refine wpAnyH_take (i := 11) (oi := ⟨some 24, _, _, _, _, _⟩) (v := ?_) rfl (by kernel_rfl) (by kernel_rfl) (by kernel_rfl) (fun _ _ _ h => h) (Or.inl ⟨by rfl, ?_⟩) (by assumption) ?_
            rotate_left
            · (intro w hSw; (try dsimp only at hSw); go_simp; try with_reducible rfl)
            try simp only [Act.put, List.setIfInBounds_toArray, List.set_cons_zero, List.set_cons_succ]
            refine wpAnyH_take (i := 12) (oi := ⟨some 25, _, _, _, _, _⟩) (v := ?_) rfl (by kernel_rfl) (by kernel_rfl) (by kernel_rfl) (fun _ _ _ h => h) (Or.inl ⟨by rfl, ?_⟩) (by assumption) ?_
            rotate_left
            · (intro w hSw; (try dsimp only at hSw); go_simp; try with_reducible rfl)
            try simp only [Act.put, List.setIfInBounds_toArray, List.set_cons_zero, List.set_cons_succ]
            refine wpAnyH_take (i := 13) (oi := ⟨some 26, _, _, _, _, _⟩) (v := ?_) rfl (by kernel_rfl) (by kernel_rfl) (by kernel_rfl) (fun _ _ _ h => h) (Or.inl ⟨by rfl, ?_⟩) (by assumption) ?_
            rotate_left
            · (intro w hSw; (try dsimp only at hSw); go_simp; try with_reducible rfl)
            try simp only [Act.put, List.setIfInBounds_toArray, List.set_cons_zero, List.set_cons_succ]
            refine wpAnyH_take (i := 14) (oi := ⟨some 27, _, _, _, _, _⟩) (v := ?_) rfl (by kernel_rfl) (by kernel_rfl) (by kernel_rfl) (fun _ _ _ h => h) (Or.inl ⟨by rfl, ?_⟩) (by assumption) ?_
            rotate_left
            · (intro w hSw; (try dsimp only at hSw); go_simp; try with_reducible rfl)
            try simp only [Act.put, List.setIfInBounds_toArray, List.set_cons_zero, List.set_cons_succ]
            refine wpAnyH_take (i := 15) (oi := ⟨some 28, _, _, _, _, _⟩) (v := ?_) rfl (by kernel_rfl) (by kernel_rfl) (by kernel_rfl) (fun _ _ _ h => h) (Or.inl ⟨by rfl, ?_⟩) (by assumption) ?_
            rotate_left
            · (intro w hSw; (try dsimp only at hSw); go_simp; try with_reducible rfl)
            try simp only [Act.put, List.setIfInBounds_toArray, List.set_cons_zero, List.set_cons_succ]
            refine wpAnyH_take (i := 16) (oi := ⟨some 29, _, _, _, _, _⟩) (v := ?_) rfl (by kernel_rfl) (by kernel_rfl) (by kernel_rfl) (fun _ _ _ h => h) (Or.inl ⟨by rfl, ?_⟩) (by assumption) ?_
            rotate_left
            · (intro w hSw; (try dsimp only at hSw); go_simp; try with_reducible rfl)
            try simp only [Act.put, List.setIfInBounds_toArray, List.set_cons_zero, List.set_cons_succ]
            refine wpAnyH_take (i := 17) (oi := ⟨some 30, _, _, _, _, _⟩) (v := ?_) rfl (by kernel_rfl) (by kernel_rfl) (by kernel_rfl) (fun _ _ _ h => h) (Or.inl ⟨by rfl, ?_⟩) (by assumption) ?_
            rotate_left
            · (intro w hSw; (try dsimp only at hSw); go_simp; try with_reducible rfl)
            try simp only [Act.put, List.setIfInBounds_toArray, List.set_cons_zero, List.set_cons_succ]
            refine wpAnyH_take (i := 18) (oi := ⟨some 31, _, _, _, _, _⟩) (v := ?_) rfl (by kernel_rfl) (by kernel_rfl) (by kernel_rfl) (fun _ _ _ h => h) (Or.inl ⟨by rfl, ?_⟩) (by assumption) ?_
            rotate_left
            · (intro w hSw; (try dsimp only at hSw); go_simp; try with_reducible rfl)
            try simp only [Act.put, List.setIfInBounds_toArray, List.set_cons_zero, List.set_cons_succ]
            refine wpAnyH_take (i := 19) (oi := ⟨some 32, _, _, _, _, _⟩) (v := ?_) rfl (by kernel_rfl) (by kernel_rfl) (by kernel_rfl) (fun _ _ _ h => h) (Or.inl ⟨by rfl, ?_⟩) (by assumption) ?_
            rotate_left
            · (intro w hSw; (try dsimp only at hSw); go_simp; try with_reducible rfl)
            try simp only [Act.put, List.setIfInBounds_toArray, List.set_cons_zero, List.set_cons_succ]
            refine wpAnyH_take (i := 20) (oi := ⟨some 33, _, _, _, _, _⟩) (v := ?_) rfl (by kernel_rfl) (by kernel_rfl) (by kernel_rfl) (fun _ _ _ h => h) (Or.inl ⟨by rfl, ?_⟩) (by assumption) ?_
            rotate_left
            · (intro w hSw; (try dsimp only at hSw); go_simp; try with_reducible rfl)
            try simp only [Act.put, List.setIfInBounds_toArray, List.set_cons_zero, List.set_cons_succ]
            refine wpAnyH_take (i := 21) (oi := ⟨some 34, _, _, _, _, _⟩) (v := ?_) rfl (by kernel_rfl) (by kernel_rfl) (by kernel_rfl) (fun _ _ _ h => h) (Or.inl ⟨by rfl, ?_⟩) (by assumption) ?_
            rotate_left
            · (intro w hSw; (try dsimp only at hSw); go_simp; try with_reducible rfl)
            try simp only [Act.put, List.setIfInBounds_toArray, List.set_cons_zero, List.set_cons_succ]
            refine wpAnyH_take (i := 22) (oi := ⟨some 35, _, _, _, _, _⟩) (v := ?_) rfl (by kernel_rfl) (by kernel_rfl) (by kernel_rfl) (fun _ _ _ h => h) (Or.inl ⟨by rfl, ?_⟩) (by assumption) ?_
            rotate_left
            · (intro w hSw; (try dsimp only at hSw); go_simp; try with_reducible rfl)
            try simp only [Act.put, List.setIfInBounds_toArray, List.set_cons_zero, List.set_cons_succ]
            refine wpAnyH_take (i := 23) (oi := ⟨some 36, _, _, _, _, _⟩) (v := ?_) rfl (by kernel_rfl) (by kernel_rfl) (by kernel_rfl) (fun _ _ _ h => h) (Or.inl ⟨by rfl, ?_⟩) (by assumption) ?_
            rotate_left
            · (intro w hSw; (try dsimp only at hSw); go_simp; try with_reducible rfl)
            try simp only [Act.put, List.setIfInBounds_toArray, List.set_cons_zero, List.set_cons_succ]
            refine wpAnyH_take (i := 24) (oi := ⟨some 37, _, _, _, _, _⟩) (v := ?_) rfl (by kernel_rfl) (by kernel_rfl) (by kernel_rfl) (fun _ _ _ h => h) (Or.inl ⟨by rfl, ?_⟩) (by assumption) ?_
            rotate_left
            · (intro w hSw; (try dsimp only at hSw); go_simp; try with_reducible rfl)
            try simp only [Act.put, List.setIfInBounds_toArray, List.set_cons_zero, List.set_cons_succ]
            refine wpAnyH_take (i := 25) (oi := ⟨some 38, _, _, _, _, _⟩) (v := ?_) rfl (by kernel_rfl) (by kernel_rfl) (by kernel_rfl) (fun _ _ _ h => h) (Or.inl ⟨by rfl, ?_⟩) (by assumption) ?_
            rotate_left
            · (intro w hSw; (try dsimp only at hSw); go_simp; try with_reducible rfl)
            try simp only [Act.put, List.setIfInBounds_toArray, List.set_cons_zero, List.set_cons_succ]
            refine wpAnyH_take (i := 26) (oi := ⟨some 39, _, _, _, _, _⟩) (v := ?_) rfl (by kernel_rfl) (by kernel_rfl) (by kernel_rfl) (fun _ _ _ h => h) (Or.inl ⟨by rfl, ?_⟩) (by assumption) ?_
            rotate_left
            · (intro w hSw; (try dsimp only at hSw); go_simp; try with_reducible rfl)
            try simp only [Act.put, List.setIfInBounds_toArray, List.set_cons_zero, List.set_cons_succ]
            refine wpAnyH_done (by kernel_rfl) ?_ _
            go_wp2
            go_roundw
            case rel => exact ⟨k + 1, by omega, by go_num, HOK2, K3, HB3⟩
            case measure => simp [intOf]; omega
          · have hll : decide (last < yo) = false := by rw [decide_eq_false_iff_not]; rw [decide_eq_true_iff] at q6; omega
            rw [hll] at hok
            have HOK2 := Lib.hid hok; clear hok h00 hll
            go_wp2_with (fail)
            refine wp_region_held_drew (S := fun W => W.cell? ⟨w.heap.size, 0, none⟩ = some (.slice (some ⟨b, off, none⟩) n c) ∧ W.cell? ⟨b, off + k * 3, none⟩ = some (.int .i64 yo) ∧ W.cell? ⟨b, off + k * 3 + 1, none⟩ = some (.int .i64 ys) ∧ W.cell? ⟨b, off + k * 3 + 2, none⟩ = some (.slice Au nu cu) ∧ W.cell? ⟨b, off + (k - 1) * 3, none⟩ = some (.int .i64 last)) (by kernel_rfl) ?_ (fun hHeld => ?_)
            · exact ⟨x0, c0, c1, c2_, cp⟩
            refine wpAnyH_take (i := 0) (oi := ⟨some 13, _, _, _, _, _⟩) (v := ?_) rfl (by kernel_rfl) (by kernel_rfl) (by kernel_rfl) (fun _ _ _ h => h) (Or.inl ⟨by rfl, ?_⟩) (by assumption) ?_
            rotate_left
            · (intro w hSw; (try dsimp only at hSw); go_simp; try with_reducible rfl)
            try simp only [Act.put, List.setIfInBounds_toArray, List.set_cons_zero, List.set_cons_succ]
            refine wpAnyH_take (i := 1) (oi := ⟨some 14, _, _, _, _, _⟩) (v := ?_) rfl (by kernel_rfl) (by kernel_rfl) (by kernel_rfl) (fun _ _ _ h => h) (Or.inl ⟨by rfl, ?_⟩) (by assumption) ?_
            rotate_left
            · (intro w hSw; (try dsimp only at hSw); go_simp; try with_reducible rfl)
            try simp only [Act.put, List.setIfInBounds_toArray, List.set_cons_zero, List.set_cons_succ]
            refine wpAnyH_take (i := 2) (oi := ⟨some 15, _, _, _, _, _⟩) (v := ?_) rfl (by kernel_rfl) (by kernel_rfl) (by kernel_rfl) (fun _ _ _ h => h) (Or.inl ⟨by rfl, ?_⟩) (by assumption) ?_
            rotate_left
            · (intro w hSw; (try dsimp only at hSw); go_simp; try with_reducible rfl)
            try simp only [Act.put, List.setIfInBounds_toArray, List.set_cons_zero, List.set_cons_succ]
            refine wpAnyH_take (i := 3) (oi := ⟨some 16, _, _, _, _, _⟩) (v := ?_) rfl (by kernel_rfl) (by kernel_rfl) (by kernel_rfl) (fun _ _ _ h => h) (Or.inl ⟨by rfl, ?_⟩) (by assumption) ?_
            rotate_left
            · (intro w hSw; (try dsimp only at hSw); go_simp; try with_reducible rfl)
            try simp only [Act.put, List.setIfInBounds_toArray, List.set_cons_zero, List.set_cons_succ]
            refine wpAnyH_take (i := 4) (oi := ⟨some 17, _, _, _, _, _⟩) (v := ?_) rfl (by kernel_rfl) (by kernel_rfl) (by kernel_rfl) (fun _ _ _ h => h) (Or.inl ⟨by rfl, ?_⟩) (by assumption) ?_
            rotate_left
            · (intro w hSw; (try dsimp only at hSw); go_simp; try with_reducible rfl)
            try simp only [Act.put, List.setIfInBounds_toArray, List.set_cons_zero, List.set_cons_succ]
            refine wpAnyH_ready (rs := [5]) (by kernel_rfl) (by simp) (AllReadyH.cons (o := ⟨some 18, _, _, _, _, _⟩) rfl (fun K hK => ?_) AllReadyH.nil)
            go_simp
            (go_at_call 30; refine (MY.out).mono ?_; rintro e w3 ⟨rfl, hb3⟩; have hb3 : Below wr.heap.size wr w3 := ⟨hb3.os, hb3.tape, hb3.output, hb3.size, hb3.block⟩; have HB3 := Lib.hid (low_low HB.out hb3); have K3 := Lib.hid (K0.out.below hb3 K0.out.lt); obtain ⟨z0, z1, z2, z3, z4⟩ := blk_cells4 K3.out; have d0 := (hb3.cell (p := ⟨b, off + k * 3, none⟩) hbw).trans c0; have d1 := (hb3.cell (p := ⟨b, off + k * 3 + 1, none⟩) hbw).trans c1; have d2 := (hb3.cell (p := ⟨b, off + k * 3 + 2, none⟩) hbw).trans c2_; have d3 := (hb3.cell (p := ⟨b, off + (k - 1) * 3, none⟩) hbw).trans cp; clear hb3)
            refine hK.out _ _ ?_ (fun hHeld => ?_)
            · exact ⟨z0, d0, d1, d2, d3⟩
            clear hK K
            try simp only [Act.put, List.setIfInBounds_toArray, List.set_cons_zero, List.set_cons_succ]
            refine wpAnyH_take (i := 6) (oi := ⟨some 19, _, _, _, _, _⟩) (v := ?_) rfl (by kernel_rfl) (by kernel_rfl) (by kernel_rfl) (fun _ _ _ h => h) (Or.inl ⟨by rfl, ?_⟩) (by assumption) ?_
            rotate_left
            · (intro w hSw; (try dsimp only at hSw); go_simp; try with_reducible rfl)
            try simp only [Act.put, List.setIfInBounds_toArray, List.set_cons_zero, List.set_cons_succ]
            refine wpAnyH_take (i := 7) (oi := ⟨some 20, _, _, _, _, _⟩) (v := ?_) rfl (by kernel_rfl) (by kernel_rfl) (by kernel_rfl) (fun _ _ _ h => h) (Or.inl ⟨by rfl, ?_⟩) (by assumption) ?_
            rotate_left
            · (intro w hSw; (try dsimp only at hSw); go_simp; try with_reducible rfl)
            try simp only [Act.put, List.setIfInBounds_toArray, List.set_cons_zero, List.set_cons_succ]
            refine wpAnyH_take (i := 8) (oi := ⟨some 21, _, _, _, _, _⟩) (v := ?_) rfl (by kernel_rfl) (by kernel_rfl) (by kernel_rfl) (fun _ _ _ h => h) (Or.inl ⟨by rfl, ?_⟩) (by assumption) ?_
            rotate_left
            · (intro w hSw; (try dsimp only at hSw); go_simp; try with_reducible rfl)
            try simp only [Act.put, List.setIfInBounds_toArray, List.set_cons_zero, List.set_cons_succ]
            refine wpAnyH_take (i := 9) (oi := ⟨some 22, _, _, _, _, _⟩) (v := ?_) rfl (by kernel_rfl) (by kernel_rfl) (by kernel_rfl) (fun _ _ _ h => h) (Or.inl ⟨by rfl, ?_⟩) (by assumption) ?_
            rotate_left
            · (intro w hSw; (try dsimp only at hSw); go_simp; try with_reducible rfl)
            try simp only [Act.put, List.setIfInBounds_toArray, List.set_cons_zero, List.set_cons_succ]
            refine wpAnyH_take (i := 10) (oi := ⟨some 23, _, _, _, _, _⟩) (v := ?_) rfl (by kernel_rfl) (by kernel_rfl) (by kernel_rfl) (fun _ _ _ h => h) (Or.inl ⟨by rfl, ?_⟩) (by assumption) ?_
            rotate_left
            · (intro w hSw; (try dsimp only at hSw); go_simp; try with_reducible rfl)
            try simp only [Act.put, List.setIfInBounds_toArray, List.set_cons_zero, List.set_cons_succ]
            refine wpAnyH_take (i := 11) (oi := ⟨some 24, _, _, _, _, _⟩) (v := ?_) rfl (by kernel_rfl) (by kernel_rfl) (by kernel_rfl) (fun _ _ _ h => h) (Or.inl ⟨by rfl, ?_⟩) (by assumption) ?_
            rotate_left
            · (intro w hSw; (try dsimp only at hSw); go_simp; try with_reducible rfl)
            try simp only [Act.put, List.setIfInBounds_toArray, List.set_cons_zero, List.set_cons_succ]
            refine wpAnyH_take (i := 12) (oi := ⟨some 25, _, _, _, _, _⟩) (v := ?_) rfl (by kernel_rfl) (by kernel_rfl) (by kernel_rfl) (fun _ _ _ h => h) (Or.inl ⟨by rfl, ?_⟩) (by assumption) ?_
            rotate_left
            · (intro w hSw; (try dsimp only at hSw); go_simp; try with_reducible rfl)
            try simp only [Act.put, List.setIfInBounds_toArray, List.set_cons_zero, List.set_cons_succ]
            refine wpAnyH_take (i := 13) (oi := ⟨some 26, _, _, _, _, _⟩) (v := ?_) rfl (by kernel_rfl) (by kernel_rfl) (by kernel_rfl) (fun _ _ _ h => h) (Or.inl ⟨by rfl, ?_⟩) (by assumption) ?_
            rotate_left
            · (intro w hSw; (try dsimp only at hSw); go_simp; try with_reducible rfl)
            try simp only [Act.put, List.setIfInBounds_toArray, List.set_cons_zero, List.set_cons_succ]
            refine wpAnyH_take (i := 14) (oi := ⟨some 27, _, _, _, _, _⟩) (v := ?_) rfl (by kernel_rfl) (by kernel_rfl) (by kernel_rfl) (fun _ _ _ h => h) (Or.inl ⟨by rfl, ?_⟩) (by assumption) ?_
            rotate_left
            · (intro w hSw; (try dsimp only at hSw); go_simp; try with_reducible rfl)
            try simp only [Act.put, List.setIfInBounds_toArray, List.set_cons_zero, List.set_cons_succ]
            refine wpAnyH_take (i := 15) (oi := ⟨some 28, _, _, _, _, _⟩) (v := ?_) rfl (by kernel_rfl) (by kernel_rfl) (by kernel_rfl) (fun _ _ _ h => h) (Or.inl ⟨by rfl, ?_⟩) (by assumption) ?_
            rotate_left
            · (intro w hSw; (try dsimp only at hSw); go_simp; try with_reducible rfl)
            try simp only [Act.put, List.setIfInBounds_toArray, List.set_cons_zero, List.set_cons_succ]
            refine wpAnyH_take (i := 16) (oi := ⟨some 29, _, _, _, _, _⟩) (v := ?_) rfl (by kernel_rfl) (by kernel_rfl) (by kernel_rfl) (fun _ _ _ h => h) (Or.inl ⟨by rfl, ?_⟩) (by assumption) ?_
            rotate_left
            · (intro w hSw; (try dsimp only at hSw); go_simp; try with_reducible rfl)
            try simp only [Act.put, List.setIfInBounds_toArray, List.set_cons_zero, List.set_cons_succ]
            refine wpAnyH_take (i := 17) (oi := ⟨some 30, _, _, _, _, _⟩) (v := ?_) rfl (by kernel_rfl) (by kernel_rfl) (by kernel_rfl) (fun _ _ _ h => h) (Or.inl ⟨by rfl, ?_⟩) (by assumption) ?_
            rotate_left
            · (intro w hSw; (try dsimp only at hSw); go_simp; try with_reducible rfl)
            try simp only [Act.put, List.setIfInBounds_toArray, List.set_cons_zero, List.set_cons_succ]
            refine wpAnyH_take (i := 18) (oi := ⟨some 31, _, _, _, _, _⟩) (v := ?_) rfl (by kernel_rfl) (by kernel_rfl) (by kernel_rfl) (fun _ _ _ h => h) (Or.inl ⟨by rfl, ?_⟩) (by assumption) ?_
            rotate_left
            · (intro w hSw; (try dsimp only at hSw); go_simp; try with_reducible rfl)
            try simp only [Act.put, List.setIfInBounds_toArray, List.set_cons_zero, List.set_cons_succ]
            refine wpAnyH_take (i := 19) (oi := ⟨some 32, _, _, _, _, _⟩) (v := ?_) rfl (by kernel_rfl) (by kernel_rfl) (by kernel_rfl) (fun _ _ _ h => h) (Or.inl ⟨by rfl, ?_⟩) (by assumption) ?_
            rotate_left
            · (intro w hSw; (try dsimp only at hSw); go_simp; try with_reducible rfl)
            try simp only [Act.put, List.setIfInBounds_toArray, List.set_cons_zero, List.set_cons_succ]
            refine wpAnyH_take (i := 20) (oi := ⟨some 33, _, _, _, _, _⟩) (v := ?_) rfl (by kernel_rfl) (by kernel_rfl) (by kernel_rfl) (fun _ _ _ h => h) (Or.inl ⟨by rfl, ?_⟩) (by assumption) ?_
            rotate_left
            · (intro w hSw; (try dsimp only at hSw); go_simp; try with_reducible rfl)
            try simp only [Act.put, List.setIfInBounds_toArray, List.set_cons_zero, List.set_cons_succ]
            refine wpAnyH_take (i := 21) (oi := ⟨some 34, _, _, _, _, _⟩) (v := ?_) rfl (by kernel_rfl) (by kernel_rfl) (by kernel_rfl) (fun _ _ _ h => h) (Or.inl ⟨by rfl, ?_⟩) (by assumption) ?_
            rotate_left
            · (intro w hSw; (try dsimp only at hSw); go_simp; try with_reducible rfl)
            try simp only [Act.put, List.setIfInBounds_toArray, List.set_cons_zero, List.set_cons_succ]
            refine wpAnyH_take (i := 22) (oi := ⟨some 35, _, _, _, _, _⟩) (v := ?_) rfl (by kernel_rfl) (by kernel_rfl) (by kernel_rfl) (fun _ _ _ h => h) (Or.inl ⟨by rfl, ?_⟩) (by assumption) ?_
            rotate_left
            · (intro w hSw; (try dsimp only at hSw); go_simp; try with_reducible rfl)
            try simp only [Act.put, List.setIfInBounds_toArray, List.set_cons_zero, List.set_cons_succ]
            refine wpAnyH_take (i := 23) (oi := ⟨some 36, _, _, _, _, _⟩) (v := ?_) rfl (by kernel_rfl) (by kernel_rfl) (by kernel_rfl) (fun _ _ _ h => h) (Or.inl ⟨by rfl, ?_⟩) (by assumption) ?_
            rotate_left
            · (intro w hSw; (try dsimp only at hSw); go_simp; try with_reducible rfl)
            try simp only [Act.put, List.setIfInBounds_toArray, List.set_cons_zero, List.set_cons_succ]
            refine wpAnyH_take (i := 24) (oi := ⟨some 37, _, _, _, _, _⟩) (v := ?_) rfl (by kernel_rfl) (by kernel_rfl) (by kernel_rfl) (fun _ _ _ h => h) (Or.inl ⟨by rfl, ?_⟩) (by assumption) ?_
            rotate_left
            · (intro w hSw; (try dsimp only at hSw); go_simp; try with_reducible rfl)
            try simp only [Act.put, List.setIfInBounds_toArray, List.set_cons_zero, List.set_cons_succ]
            refine wpAnyH_take (i := 25) (oi := ⟨some 38, _, _, _, _, _⟩) (v := ?_) rfl (by kernel_rfl) (by kernel_rfl) (by kernel_rfl) (fun _ _ _ h => h) (Or.inl ⟨by rfl, ?_⟩) (by assumption) ?_
            rotate_left
            · (intro w hSw; (try dsimp only at hSw); go_simp; try with_reducible rfl)
            try simp only [Act.put, List.setIfInBounds_toArray, List.set_cons_zero, List.set_cons_succ]
            refine wpAnyH_take (i := 26) (oi := ⟨some 39, _, _, _, _, _⟩) (v := ?_) rfl (by kernel_rfl) (by kernel_rfl) (by kernel_rfl) (fun _ _ _ h => h) (Or.inl ⟨by rfl, ?_⟩) (by assumption) ?_
            rotate_left
            · (intro w hSw; (try dsimp only at hSw); go_simp; try with_reducible rfl)
            try simp only [Act.put, List.setIfInBounds_toArray, List.set_cons_zero, List.set_cons_succ]
            refine wpAnyH_done (by kernel_rfl) ?_ _
            go_wp2
            go_ret
            exact ⟨ret_bool (by rw [HOK2.out]; rfl), HB3.out⟩
        · have g0 : decide (0 < k) = false := by simpa using h0
          have g1 : decide ((0 : Int) < (k : Int)) = false := by simpa using h0
          have hl0 := h00 (by omega)
          have hll : decide (last < yo) = true := by rw [decide_eq_true_iff]; omega
          rw [hll, Bool.true_and, Bool.true_and] at hok
          have HOK2 := Lib.hid hok; clear hok h00 hll hl0 cp
          go_wp2_with (fail)
          refine wp_region_held_drew (S := fun W => W.cell? ⟨w.heap.size, 0, none⟩ = some (.slice (some ⟨b, off, none⟩) n c) ∧ W.cell? ⟨b, off + k * 3, none⟩ = some (.int .i64 yo) ∧ W.cell? ⟨b, off + k * 3 + 1, none⟩ = some (.int .i64 ys) ∧ W.cell? ⟨b, off + k * 3 + 2, none⟩ = some (.slice Au nu cu)) (by kernel_rfl) ?_ (fun hHeld => ?_)
          · exact ⟨x0, c0, c1, c2_⟩
          refine wpAnyH_take (i := 0) (oi := ⟨some 13, _, _, _, _, _⟩) (v := ?_) rfl (by kernel_rfl) (by kernel_rfl) (by kernel_rfl) (fun _ _ _ h => h) (Or.inl ⟨by rfl, ?_⟩) (by assumption) ?_
          rotate_left
          · (intro w hSw; (try dsimp only at hSw); go_simp; try with_reducible rfl)
          try simp only [Act.put, List.setIfInBounds_toArray, List.set_cons_zero, List.set_cons_succ]
          refine wpAnyH_take (i := 1) (oi := ⟨some 14, _, _, _, _, _⟩) (v := ?_) rfl (by kernel_rfl) (by kernel_rfl) (by kernel_rfl) (fun _ _ _ h => h) (Or.inl ⟨by rfl, ?_⟩) (by assumption) ?_
          rotate_left
          · (intro w hSw; (try dsimp only at hSw); go_simp; try with_reducible rfl)
          try simp only [Act.put, List.setIfInBounds_toArray, List.set_cons_zero, List.set_cons_succ]
          refine wpAnyH_take (i := 2) (oi := ⟨some 15, _, _, _, _, _⟩) (v := ?_) rfl (by kernel_rfl) (by kernel_rfl) (by kernel_rfl) (fun _ _ _ h => h) (Or.inl ⟨by rfl, ?_⟩) (by assumption) ?_
          rotate_left
          · (intro w hSw; (try dsimp only at hSw); go_simp; try with_reducible rfl)
          try simp only [Act.put, List.setIfInBounds_toArray, List.set_cons_zero, List.set_cons_succ]
          refine wpAnyH_take (i := 3) (oi := ⟨some 16, _, _, _, _, _⟩) (v := ?_) rfl (by kernel_rfl) (by kernel_rfl) (by kernel_rfl) (fun _ _ _ h => h) (Or.inl ⟨by rfl, ?_⟩) (by assumption) ?_
          rotate_left
          · (intro w hSw; (try dsimp only at hSw); go_simp; try with_reducible rfl)
          try simp only [Act.put, List.setIfInBounds_toArray, List.set_cons_zero, List.set_cons_succ]
          refine wpAnyH_take (i := 4) (oi := ⟨some 17, _, _, _, _, _⟩) (v := ?_) rfl (by kernel_rfl) (by kernel_rfl) (by kernel_rfl) (fun _ _ _ h => h) (Or.inl ⟨by rfl, ?_⟩) (by assumption) ?_
          rotate_left
          · (intro w hSw; (try dsimp only at hSw); go_simp; try with_reducible rfl)
          try simp only [Act.put, List.setIfInBounds_toArray, List.set_cons_zero, List.set_cons_succ]
          refine wpAnyH_ready (rs := [5]) (by kernel_rfl) (by simp) (AllReadyH.cons (o := ⟨some 18, _, _, _, _, _⟩) rfl (fun K hK => ?_) AllReadyH.nil)
          go_simp
          (go_at_call 30; refine (MY.out).mono ?_; rintro e w3 ⟨rfl, hb3⟩; have hb3 : Below wr.heap.size wr w3 := ⟨hb3.os, hb3.tape, hb3.output, hb3.size, hb3.block⟩; have HB3 := Lib.hid (low_low HB.out hb3); have K3 := Lib.hid (K0.out.below hb3 K0.out.lt); obtain ⟨z0, z1, z2, z3, z4⟩ := blk_cells4 K3.out; have d0 := (hb3.cell (p := ⟨b, off + k * 3, none⟩) hbw).trans c0; have d1 := (hb3.cell (p := ⟨b, off + k * 3 + 1, none⟩) hbw).trans c1; have d2 := (hb3.cell (p := ⟨b, off + k * 3 + 2, none⟩) hbw).trans c2_; clear hb3)
          refine hK.out _ _ ?_ (fun hHeld => ?_)
          · exact ⟨z0, d0, d1, d2⟩
          clear hK K
          try simp only [Act.put, List.setIfInBounds_toArray, List.set_cons_zero, List.set_cons_succ]
          refine wpAnyH_take (i := 6) (oi := ⟨some 19, _, _, _, _, _⟩) (v := ?_) rfl (by kernel_rfl) (by kernel_rfl) (by kernel_rfl) (fun _ _ _ h => h) (Or.inl ⟨by rfl, ?_⟩) (by assumption) ?_
          rotate_left
          · (intro w hSw; (try dsimp only at hSw); go_simp; try with_reducible rfl)
          try simp only [Act.put, List.setIfInBounds_toArray, List.set_cons_zero, List.set_cons_succ]
          refine wpAnyH_take (i := 7) (oi := ⟨some 20, _, _, _, _, _⟩) (v := ?_) rfl (by kernel_rfl) (by kernel_rfl) (by kernel_rfl) (fun _ _ _ h => h) (Or.inl ⟨by rfl, ?_⟩) (by assumption) ?_
          rotate_left
          · (intro w hSw; (try dsimp only at hSw); go_simp; try with_reducible rfl)
          try simp only [Act.put, List.setIfInBounds_toArray, List.set_cons_zero, List.set_cons_succ]
          refine wpAnyH_take (i := 8) (oi := ⟨some 21, _, _, _, _, _⟩) (v := ?_) rfl (by kernel_rfl) (by kernel_rfl) (by kernel_rfl) (fun _ _ _ h => h) (Or.inl ⟨by rfl, ?_⟩) (by assumption) ?_
          rotate_left
          · (intro w hSw; (try dsimp only at hSw); go_simp; try with_reducible rfl)
          try simp only [Act.put, List.setIfInBounds_toArray, List.set_cons_zero, List.set_cons_succ]
          refine wpAnyH_take (i := 9) (oi := ⟨some 22, _, _, _, _, _⟩) (v := ?_) rfl (by kernel_rfl) (by kernel_rfl) (by kernel_rfl) (fun _ _ _ h => h) (Or.inl ⟨by rfl, ?_⟩) (by assumption) ?_
          rotate_left
          · (intro w hSw; (try dsimp only at hSw); go_simp; try with_reducible rfl)
          try simp only [Act.put, List.setIfInBounds_toArray, List.set_cons_zero, List.set_cons_succ]
          refine wpAnyH_take (i := 10) (oi := ⟨some 23, _, _, _, _, _⟩) (v := ?_) rfl (by kernel_rfl) (by kernel_rfl) (by kernel_rfl) (fun _ _ _ h => h) (Or.inl ⟨by rfl, ?_⟩) (by assumption) ?_
          rotate_left
          · (intro w hSw; (try dsimp only at hSw); go_simp; try with_reducible rfl)
          try simp only [Act.put, List.setIfInBounds_toArray, List.set_cons_zero, List.set_cons_succ]
          refine wpAnyH_take (i := 11) (oi := ⟨some 24, _, _, _, _, _⟩) (v := undef) rfl (by kernel_rfl) (by kernel_rfl) (by kernel_rfl) (fun _ _ _ h => h) (Or.inr ⟨by rfl, rfl⟩) (by assumption) ?_
          try simp only [Act.put, List.setIfInBounds_toArray, List.set_cons_zero, List.set_cons_succ]
          refine wpAnyH_take (i := 12) (oi := ⟨some 25, _, _, _, _, _⟩) (v := undef) rfl (by kernel_rfl) (by kernel_rfl) (by kernel_rfl) (fun _ _ _ h => h) (Or.inr ⟨by rfl, rfl⟩) (by assumption) ?_
          try simp only [Act.put, List.setIfInBounds_toArray, List.set_cons_zero, List.set_cons_succ]
          refine wpAnyH_take (i := 13) (oi := ⟨some 26, _, _, _, _, _⟩) (v := undef) rfl (by kernel_rfl) (by kernel_rfl) (by kernel_rfl) (fun _ _ _ h => h) (Or.inr ⟨by rfl, rfl⟩) (by assumption) ?_
          try simp only [Act.put, List.setIfInBounds_toArray, List.set_cons_zero, List.set_cons_succ]
          refine wpAnyH_take (i := 14) (oi := ⟨some 27, _, _, _, _, _⟩) (v := undef) rfl (by kernel_rfl) (by kernel_rfl) (by kernel_rfl) (fun _ _ _ h => h) (Or.inr ⟨by rfl, rfl⟩) (by assumption) ?_
          try simp only [Act.put, List.setIfInBounds_toArray, List.set_cons_zero, List.set_cons_succ]
          refine wpAnyH_take (i := 15) (oi := ⟨some 28, _, _, _, _, _⟩) (v := undef) rfl (by kernel_rfl) (by kernel_rfl) (by kernel_rfl) (fun _ _ _ h => h) (Or.inr ⟨by rfl, rfl⟩) (by assumption) ?_
          try simp only [Act.put, List.setIfInBounds_toArray, List.set_cons_zero, List.set_cons_succ]
          refine wpAnyH_take (i := 16) (oi := ⟨some 29, _, _, _, _, _⟩) (v := undef) rfl (by kernel_rfl) (by kernel_rfl) (by kernel_rfl) (fun _ _ _ h => h) (Or.inr ⟨by rfl, rfl⟩) (by assumption) ?_
          try simp only [Act.put, List.setIfInBounds_toArray, List.set_cons_zero, List.set_cons_succ]
          refine wpAnyH_take (i := 17) (oi := ⟨some 30, _, _, _, _, _⟩) (v := undef) rfl (by kernel_rfl) (by kernel_rfl) (by kernel_rfl) (fun _ _ _ h => h) (Or.inr ⟨by rfl, rfl⟩) (by assumption) ?_
          try simp only [Act.put, List.setIfInBounds_toArray, List.set_cons_zero, List.set_cons_succ]
          refine wpAnyH_take (i := 18) (oi := ⟨some 31, _, _, _, _, _⟩) (v := undef) rfl (by kernel_rfl) (by kernel_rfl) (by kernel_rfl) (fun _ _ _ h => h) (Or.inr ⟨by rfl, rfl⟩) (by assumption) ?_
          try simp only [Act.put, List.setIfInBounds_toArray, List.set_cons_zero, List.set_cons_succ]
          refine wpAnyH_take (i := 19) (oi := ⟨some 32, _, _, _, _, _⟩) (v := undef) rfl (by kernel_rfl) (by kernel_rfl) (by kernel_rfl) (fun _ _ _ h => h) (Or.inr ⟨by rfl, rfl⟩) (by assumption) ?_
          try simp only [Act.put, List.setIfInBounds_toArray, List.set_cons_zero, List.set_cons_succ]
          refine wpAnyH_take (i := 20) (oi := ⟨some 33, _, _, _, _, _⟩) (v := undef) rfl (by kernel_rfl) (by kernel_rfl) (by kernel_rfl) (fun _ _ _ h => h) (Or.inr ⟨by rfl, rfl⟩) (by assumption) ?_
          try simp only [Act.put, List.setIfInBounds_toArray, List.set_cons_zero, List.set_cons_succ]
          refine wpAnyH_take (i := 21) (oi := ⟨some 34, _, _, _, _, _⟩) (v := undef) rfl (by kernel_rfl) (by kernel_rfl) (by kernel_rfl) (fun _ _ _ h => h) (Or.inr ⟨by rfl, rfl⟩) (by assumption) ?_
          try simp only [Act.put, List.setIfInBounds_toArray, List.set_cons_zero, List.set_cons_succ]
          refine wpAnyH_take (i := 22) (oi := ⟨some 35, _, _, _, _, _⟩) (v := undef) rfl (by kernel_rfl) (by kernel_rfl) (by kernel_rfl) (fun _ _ _ h => h) (Or.inr ⟨by rfl, rfl⟩) (by assumption) ?_
          try simp only [Act.put, List.setIfInBounds_toArray, List.set_cons_zero, List.set_cons_succ]
          refine wpAnyH_take (i := 23) (oi := ⟨some 36, _, _, _, _, _⟩) (v := undef) rfl (by kernel_rfl) (by kernel_rfl) (by kernel_rfl) (fun _ _ _ h => h) (Or.inr ⟨by rfl, rfl⟩) (by assumption) ?_
          try simp only [Act.put, List.setIfInBounds_toArray, List.set_cons_zero, List.set_cons_succ]
          refine wpAnyH_take (i := 24) (oi := ⟨some 37, _, _, _, _, _⟩) (v := undef) rfl (by kernel_rfl) (by kernel_rfl) (by kernel_rfl) (fun _ _ _ h => h) (Or.inr ⟨by rfl, rfl⟩) (by assumption) ?_
          try simp only [Act.put, List.setIfInBounds_toArray, List.set_cons_zero, List.set_cons_succ]
          refine wpAnyH_take (i := 25) (oi := ⟨some 38, _, _, _, _, _⟩) (v := ?_) rfl (by kernel_rfl) (by kernel_rfl) (by kernel_rfl) (fun _ _ _ h => h) (Or.inl ⟨by rfl, ?_⟩) (by assumption) ?_
          rotate_left
          · (intro w hSw; (try dsimp only at hSw); go_simp; try with_reducible rfl)
          try simp only [Act.put, List.setIfInBounds_toArray, List.set_cons_zero, List.set_cons_succ]
          refine wpAnyH_take (i := 26) (oi := ⟨some 39, _, _, _, _, _⟩) (v := ?_) rfl (by kernel_rfl) (by kernel_rfl) (by kernel_rfl) (fun _ _ _ h => h) (Or.inl ⟨by rfl, ?_⟩) (by assumption) ?_
          rotate_left
          · (intro w hSw; (try dsimp only at hSw); go_simp; try with_reducible rfl)
          try simp only [Act.put, List.setIfInBounds_toArray, List.set_cons_zero, List.set_cons_succ]
          refine wpAnyH_done (by kernel_rfl) ?_ _
          go_wp2
          go_roundw
          case rel => exact ⟨k + 1, by omega, by go_num, HOK2, K3, HB3⟩
          case measure => simp [intOf]; omega
    · obtain rfl : n = k := by omega
      have hnil : db.drop n = [] := List.drop_eq_nil_of_le (by have := HL.out; omega)
      have hokt : dbOk 0 db = true := by rw [HOK.out, hnil]; rfl
      clear hnil
      have HOKD := Lib.hid hokt; clear hokt HOK
      go_wp2
      obtain ⟨wo, hwo⟩ : ∃ wo : World, wo = wr := ⟨_, rfl⟩
      rw [← hwo] at K0 HB x0 x1 x2 x3 x4 hws ⊢
      clear hwo
      go_loopw [4] (fun i wr => ∃ (k : Nat), k ≤ n' ∧ i = .int .i64 k ∧ Hid (epOk 0 ep = epOk (lastE ep k) (ep.drop k)) ∧ Hid (Blk wr w.heap.size 25 #[.slice A n c, .int .i64 up, .int .i64 bo, .slice A' n' c']) ∧ Hid (Below w.heap.size w wr)) (fun i _ => n' - (intOf i).toNat)
      case atStart => exact ⟨0, Nat.zero_le _, rfl, Lib.hid rfl, K0, HB⟩
      case round =>
        clear K0 HB x0 x1 x2 x3 x4 hws
        obtain ⟨k, hk, rfl, HOK, K0, HB⟩ := hrel
        obtain ⟨x0, x1, x2, x3, x4⟩ := blk_cells4 K0.out
        have hws := HB.out.size
        by_cases hlt : k < n'
        · obtain ⟨b, off, rfl, hb, hc⟩ := lks_at HS'.out (by omega)
          obtain ⟨c0, c1⟩ := hc k hlt
          replace c0 := (HB.out.cell (p := ⟨b, off + k * 2, none⟩) hb).trans c0
          replace c1 := (HB.out.cell (p := ⟨b, off + k * 2 + 1, none⟩) hb).trans c1
          have cp : 0 < k → wr.cell? ⟨b, off + (k - 1) * 2, none⟩ = some (.int .i64 (lastE ep k)) := fun h0 => by
            rw [lastE, if_neg (by omega)]
            exact (HB.out.cell (p := ⟨b, off + (k - 1) * 2, none⟩) hb).trans (hc (k - 1) (by omega)).1
          have hok := HOK.out
          rw [epOk_step _ ep k (by have := HL'.out; omega), ← lastE_succ] at hok
          have h00 : k = 0 → lastE ep k = 0 := fun e => by rw [lastE, if_pos e]
          clear hc HOK
          have hbw : b < wr.heap.size := by omega
          generalize hy : ep.getD k (0, 0) = y at *
          obtain ⟨a, b_⟩ := y
          simp only at c0 c1 hok
          generalize lastE ep k = last at *
          have HY := Lib.hid hy; clear hy
          have HOK := Lib.hid hok; clear hok
          have HB2 := Lib.hid (low1 HB.out (.cells #[.int .i64 a, .int .i64 b_] 60))
          have K2 := Lib.hid (K0.out.alloc (.cells #[.int .i64 a, .int .i64 b_] 60))
          have hbb : b ≠ wr.heap.size := by omega
          have hqq : w.heap.size ≠ wr.heap.size := by omega
          cases q1 : decide (a < 1)
          case true =>
            have HOK2 := Lib.hid (show epOk 0 ep = false by rw [HOK.out]; simp [epOne, win]; simp at q1; intros; omega)
            go_wp2
            go_quiet (fail)
            go_wp2
            go_ret
            exact ⟨ret_bool (by rw [HOKD.out, HOK2.out]; rfl), below_drewN HB2.out _⟩
          cases q2 : decide (64 < a)
          case true =>
            have HOK2 := Lib.hid (show epOk 0 ep = false by rw [HOK.out]; simp [epOne, win]; simp at q2; intros; omega)
            go_wp2
            go_quiet (fail)
            go_wp2
            go_ret
            exact ⟨ret_bool (by rw [HOKD.out, HOK2.out]; rfl), below_drewN HB2.out _⟩
          cases q3 : decide (b_ < 1)
          case true =>
            have HOK2 := Lib.hid (show epOk 0 ep = false by rw [HOK.out]; simp [epOne, win]; simp at q3; intros; omega)
            go_wp2
            go_quiet (fail)
            go_wp2
            go_ret
            exact ⟨ret_bool (by rw [HOKD.out, HOK2.out]; rfl), below_drewN HB2.out _⟩
          cases q4 : decide (1073741824 < b_)
          case true =>
            have HOK2 := Lib.hid (show epOk 0 ep = false by rw [HOK.out]; simp [epOne, win]; simp at q4; intros; omega)
            go_wp2
            go_quiet (fail)
            go_wp2
            go_ret
            exact ⟨ret_bool (by rw [HOKD.out, HOK2.out]; rfl), below_drewN HB2.out _⟩
          by_cases h0 : 0 < k
          · have g0 : decide (0 < k) = true := by simpa using h0
            have g1 : decide ((0 : Int) < (k : Int)) = true := by simpa using h0
            have e1 : ((k : Int) - 1).toNat = k - 1 := by omega
            have e2 : (0 : Int) ≤ (k : Int) - 1 := by omega
            have e3 : IntKind.i64.wrap ((k : Int) - 1) = (k : Int) - 1 := IntWalk.i64_in _ (by omega)
            have e4 : (k : Int) - 1 < (n' : Int) := by omega
            have e5 : (1 : Int) ≤ (k : Int) := by omega
            have e6 : 1 ≤ k := h0
            have e7 : (k : Int) ≤ (n' : Int) := by omega
            have e8 : ¬ n' < k := by omega
            replace cp := (World.cell?_alloc_lt wr (Obj.cells #[.int .i64 a, .int .i64 b_] 60) ⟨b, off + (k - 1) * 2, none⟩ (show b < wr.heap.size by omega)).trans (cp h0)
            cases q6 : decide (a ≤ last)
            · have HOK2 := Lib.hid (show epOk 0 ep = epOk (lastE ep (k + 1)) (ep.drop (k + 1)) by rw [HOK.out]; simp at q1 q2 q3 q4 q6; simp [epOne, win, q1, q2, q3, q4, q6])
              go_wp2
              go_quiet (fail)
              go_wp2
              go_roundw
              case rel => exact ⟨k + 1, by omega, by go_num, HOK2, Lib.hid (K2.out.drewN _), Lib.hid (below_drewN HB2.out _)⟩
              case measure => simp [intOf]; omega
            · have HOK2 := Lib.hid (show epOk 0 ep = false by rw [HOK.out]; simp [epOne, win]; simp at q6; intros; omega)
              go_wp2
              go_quiet (fail)
              go_wp2
              go_ret
              exact ⟨ret_bool (by rw [HOKD.out, HOK2.out]; rfl), below_drewN HB2.out _⟩
          · have g0 : decide (0 < k) = false := by simpa using h0
            have g1 : decide ((0 : Int) < (k : Int)) = false := by simpa using h0
            have hl0 := h00 (by omega)
            have HOK2 := Lib.hid (show epOk 0 ep = epOk (lastE ep (k + 1)) (ep.drop (k + 1)) by rw [HOK.out, hl0]; simp at q1 q2 q3 q4; simp [epOne, win, q1, q2, q3, q4]; intros; omega)
            clear cp hl0 h00
            go_wp2
            go_quiet (fail)
            go_wp2
            go_roundw
            case rel => exact ⟨k + 1, by omega, by go_num, HOK2, Lib.hid (K2.out.drewN _), Lib.hid (below_drewN HB2.out _)⟩
            case measure => simp [intOf]; omega
        · obtain rfl : n' = k := by omega
          have hnil : ep.drop n' = [] := List.drop_eq_nil_of_le (by have := HL'.out; omega)
          have hokt : epOk 0 ep = true := by rw [HOK.out, hnil]; rfl
          clear hnil
          have HOKE := Lib.hid hokt; clear hokt HOK
          cases q1 : decide (0 ≤ up)
          · go_wp2
            go_ret
            exact ⟨ret_bool (by simp [HOKD.out, HOKE.out, *]), HB.out⟩
          cases q2 : decide (up ≤ 4611686018427387904)
          · go_wp2
            go_ret
            exact ⟨ret_bool (by simp [HOKD.out, HOKE.out, *]), HB.out⟩
          cases q3 : decide (0 ≤ bo)
          · go_wp2
            go_ret
            exact ⟨ret_bool (by simp [HOKD.out, HOKE.out, *]), HB.out⟩
          cases q4 : decide (bo ≤ 1073741824)
          · go_wp2
            go_ret
            exact ⟨ret_bool (by simp [HOKD.out, HOKE.out, *]), HB.out⟩
          go_wp2
          go_ret
          exact ⟨ret_bool (by simp [HOKD.out, HOKE.out, *]), HB.out⟩
end Go.Proofs.Ytcojimbnenibnaa.Bas
/- A state's bytes, by the document's own answer (layer 11): waymarkref11.Bytes of a state that may be. -/
namespace Go.Proofs.Ytcojimbnenibnaa.Bas
open Go.RowKit Go.Proofs.Ytcojimbnenibnaa.Mem Go.Proofs.Ytcojimbnenibnaa.Oct Go.Proofs.Ytcojimbnenibnaa.Lsa Go.Proofs.Ytcojimbnenibnaa.Chg
set_option linter.unusedVariables false
set_option linter.unusedSimpArgs false
set_option maxRecDepth 20000 in
set_option maxHeartbeats 8000000 in
theorem rbytes_any (s : Sta) (dv ev : Value) (w : World) (h : StM w w.heap.size dv ev s) (hm : mayS s = true) :
    Calls Try.prog 21 #[stV s dv ev] w fun e w' => ∃ v, e = .returned v ∧ Sl w' w'.heap.size v (bytesS s) ∧ Below w.heap.size w w' := by
  obtain ⟨db, up, bo, ep⟩ := s
  simp only [stV]
  obtain ⟨A1, n1, c1, rfl, hq1_⟩ := id h.1
  obtain ⟨A2, n2, c2, rfl, hq2_⟩ := id h.2
  clear hq1_ hq2_
  have h1 : Las w w.heap.size (.slice A1 n1 c1) db := h.1
  have h2 : Lks w w.heap.size (.slice A2 n2 c2) ep := h.2
  obtain ⟨hl1, hnc1, hcm1, _⟩ := las_len h1
  obtain ⟨hl2, hnc2, hcm2, _⟩ := lks_len h2
  obtain ⟨i0, hi, hz0, hz1, hz2⟩ := info_parts Try.info5
  have HI := Lib.hid hi; clear hi
  have HZ0 := Lib.hid hz0; clear hz0
  have HZ1 := Lib.hid hz1; clear hz1
  have HZ2 := Lib.hid hz2; clear hz2
  obtain ⟨m1, m2, m3, m4⟩ := mayS_iff.1 hm
  obtain ⟨l64, e64⟩ := mayS_len hm
  simp only at m1 m2 m3 m4 l64 e64
  obtain ⟨up, rfl⟩ : ∃ up' : Nat, up = (up' : Int) := ⟨up.toNat, by omega⟩
  obtain ⟨bo, rfl⟩ : ∃ bo' : Nat, bo = (bo' : Int) := ⟨bo.toNat, by omega⟩
  have hall := dbOk_all m1
  have eall := ep_all m2 (Int.le_refl 0)
  have hn1 : n1 ≤ 64 := by omega
  have hn2 : n2 ≤ 64 := by omega
  have hup : up ≤ 4611686018427387904 := by omega
  have hbo : bo ≤ 1073741824 := by omega
  have hbs : bytesS ⟨db, (up : Int), (bo : Int), ep⟩ = be 8 up ++ be 4 bo ++ [n1] ++ dbBytes db ++ [n2] ++ linkBytes ep := by
    unfold bytesS headS
    simp only [hl1, hl2, List.append_assoc, Int.toNat_natCast]
    rw [be_one (by omega), be_one (by omega)]
  have hblt := bytesS_lt ⟨db, (up : Int), (bo : Int), ep⟩
  obtain ⟨w0, hw0⟩ : ∃ w0, w0 = w.alloc (.cells #[.slice A1 n1 c1, .int .i64 (up : Int), .int .i64 (bo : Int), .slice A2 n2 c2] 25) := ⟨_, rfl⟩
  have hb0 := low1 (Below.refl w.heap.size w) (.cells #[.slice A1 n1 c1, .int .i64 (up : Int), .int .i64 (bo : Int), .slice A2 n2 c2] 25)
  have k0 := Blk.new w 25 #[.slice A1 n1 c1, .int .i64 (up : Int), .int .i64 (bo : Int), .slice A2 n2 c2]
  rw [← hw0] at hb0 k0
  have hs0 : w0.heap.size = w.heap.size + 1 := by rw [hw0]; simp
  have rn8 := fun (W : World) => ref_num 8 up W (by omega) (by omega)
  have e8 : ((8 : Nat) : Int) = 8 := rfl
  rw [e8] at rn8
  have rn4 := fun (W : World) => ref_num 4 bo W (by omega) (by omega)
  have e4 : ((4 : Nat) : Int) = 4 := rfl
  rw [e4] at rn4
  have w1 : IntKind.u64.wrap (up : Int) = (up : Int) := by rw [IntKind.wrap_u64]; omega
  have w2_ : IntKind.u64.wrap (bo : Int) = (bo : Int) := by rw [IntKind.wrap_u64]; omega
  have w3_ : IntKind.u8.wrap (n1 : Int) = (n1 : Int) := by rw [IntKind.wrap_u8]; omega
  have w4_ : IntKind.u8.wrap (n2 : Int) = (n2 : Int) := by rw [IntKind.wrap_u8]; omega
  obtain ⟨x0, x1, x2, x3, x4⟩ := blk_cells4 k0
  have RN8 := Lib.hid rn8; clear rn8
  have RN4 := Lib.hid rn4; clear rn4 e8 e4
  have HBS := Lib.hid hbs; clear hbs
  have HBLT := Lib.hid hblt; clear hblt
  have HALL := Lib.hid hall; clear hall
  have EALL := Lib.hid eall; clear eall
  have HL1 := Lib.hid hl1; clear hl1
  have HL2 := Lib.hid hl2; clear hl2
  have DB := Lib.hid h1; clear h1
  have EP := Lib.hid h2; clear h2
  have K0 := Lib.hid k0; clear k0
  have HB0 := Lib.hid hb0; clear hb0
  have HS0 := Lib.hid hs0; clear hs0
  clear h hm m1 m2 m3 m4 l64 e64 hnc1 hcm1 hnc2 hcm2
  go_enter Try.func21, Try.ntmps21
  go_wp2
  rewrite [← hw0]
  clear hw0
  go_region_held3 (fun W => W.cell? ⟨w.heap.size, 1, none⟩ = some (.int .i64 (up : Int)) ∧ W.cell? ⟨w.heap.size, 2, none⟩ = some (.int .i64 (bo : Int)))
    (first
      | with_reducible exact ⟨x1, x2⟩
      | with_reducible exact ⟨y1, y2⟩
      | with_reducible exact ⟨z1, z2⟩
      | with_reducible exact ⟨v1_, v2_⟩
      | go_keep)
    (first
      | (have HM1 := RN8; go_at_call 47; refine (RN8.out _).mono ?_; rintro e w2 ⟨v2, rfl, ho2, hb2⟩; have hb2 : Below w0.heap.size w0 w2 := undrew hb2; obtain ⟨A3, c3, rfl⟩ := Lsa.own_form ho2; have HO2 := Lib.hid (own_mono (base' := w.heap.size + 1) ho2 (by show w.heap.size + 1 ≤ w0.heap.size; have := HS0.out; omega)); have HB2 := Lib.hid (low_low HB0.out hb2); have K2 := Lib.hid (K0.out.below hb2 K0.out.lt); obtain ⟨y0, y1, y2, y3, y4⟩ := blk_cells4 K2.out; clear hb2 ho2 HM1 RN8)
      | (go_at_call 47; refine (RN4.out _).mono ?_; rintro e w3 ⟨v3, rfl, ho3, hb3⟩; obtain ⟨A4, c4, rfl, hr4⟩ := own_reads ho3; have HR4 := Lib.hid hr4; have HB3 := Lib.hid (low_low HB2.out hb3); have HO3 := Lib.hid (own_below HO2.out hb3); have K3 := Lib.hid (K2.out.below hb3 K2.out.lt); obtain ⟨z0, z1, z2, z3, z4⟩ := blk_cells4 K3.out; have hs3 := K3.out.lt; clear ho3 hb3 hr4)
      | (refine step_append_any _ rfl (.tmp 9) (.tmp 13) 36 rfl (w.heap.size + 1) 5 i0 (.int .u8 0) 1 1 Try.underlying36 HI.out HZ0.out HZ1.out HZ2.out rfl (by decide) (.slice A3 8 c3) 8 (vals (be 8 up)) rfl HO3.out w3.heap.size A4 4 c4 (vals (be 4 bo)) rfl HR4.out (vals_one _) (by unfold maxLen; omega) (by omega) (by omega) ?_; intro v4 w4 hown4 hg4 _; have HB4 := Lib.hid (HB3.out.grown hg4 HB3.out.size (fun q hq => by have := (HO3.out.lt q hq).1; omega)); have K4 := Lib.hid (K3.out.grown hg4 (fun e => by have := (HO3.out.lt _ e.symm).1; omega)); have HO4 := Lib.hid (own_fix (n' := 12) (xs := be 8 up ++ be 4 bo) hown4 (vals_append _ _).symm rfl rfl); obtain ⟨v0_, v1_, v2_, v3_, v4_⟩ := blk_cells4 K4.out; clear hown4 hg4))
  obtain ⟨A5, c5, rfl⟩ := Lsa.own_form HO4.out
  have hs4 := K4.out.lt
  have hn1b : n1 < 256 := by omega
  clear x0 x1 x2 x3 x4 y0 y1 y2 y3 y4 z0 z1 z2 z3 z4 K0 HB0 HS0 K2 HB2 HO2 K3 HB3 HO3 HR4 RN4 hs3
  go_wp2_with (at_builtin; (refine wpList_append_any _ rfl (.tmp 15) (.tmp 20) 36 rfl (w.heap.size + 1) 5 i0 (.int .u8 0) 1 1 Try.underlying36 HI.out HZ0.out HZ1.out HZ2.out rfl (by decide) (.slice A5 12 c5) 12 (vals (be 8 up ++ be 4 bo)) rfl (HO4.out.alloc _) (w4.heap.size + 1) (some ⟨w4.heap.size, 0, none⟩) 1 1 (vals [n1]) rfl (reads_byte w4 _ rfl _ n1 rfl) (vals_one _) (by unfold maxLen; omega) (by omega) (by simp; omega) ?_; intro v5 w5 hown5 hg5 _))
  have hle4 : ∀ q, (Value.slice A5 12 c5).ownBlock = some q → w.heap.size + 1 ≤ q := fun q hq => (HO4.out.lt q hq).1
  have HB5 := Lib.hid ((low1 HB4.out (.cells #[.int .u8 (n1 : Nat)] 5)).grown hg5 (low1 HB4.out _).size (fun q hq => Nat.le_of_succ_le (hle4 q hq)))
  have K5 := Lib.hid ((K4.out.alloc (.cells #[.int .u8 (n1 : Nat)] 5)).grown hg5 (fun e => by have := hle4 _ e.symm; omega))
  have HO5 := Lib.hid (own_fix (n' := 13 + 0) (xs := be 8 up ++ be 4 bo ++ [n1] ++ dbBytes (db.take 0)) hown5 (vals_append _ _).symm rfl (by simp [dbBytes]))
  obtain ⟨H, hHd⟩ : ∃ H, H = be 8 up ++ be 4 bo ++ [n1] := ⟨_, rfl⟩
  rewrite [← hHd] at HO5
  have HHD := Lib.hid hHd; clear hHd
  clear hown5 hg5 hle4 K4 HB4 HO4 hs4 v0_ v1_ v2_ v3_ v4_
  go_loopw [3, 4] (fun z i wr => ∃ k ln : Nat, k ≤ n1 ∧ i = .int .i64 k ∧ ln = 13 + (dbBytes (db.take k)).length ∧ wr.ownsRow (w.heap.size + 1) 5 1 z ln (vals (H ++ dbBytes (db.take k))) ∧ Blk wr w.heap.size 25 #[.slice A1 n1 c1, .int .i64 (up : Int), .int .i64 (bo : Int), .slice A2 n2 c2] ∧ Below w.heap.size w wr) (fun _ i _ => n1 - (intOf i).toNat)
  case atStart => exact ⟨0, _, Nat.zero_le _, rfl, by simp [dbBytes], HO5.out, K5.out, HB5.out⟩
  case round =>
    clear HO5 K5 HB5
    obtain ⟨k, ln, hk, rfl, hln, hown, hbk, hbw⟩ := hrel
    obtain ⟨A6, c6, rfl⟩ := Lsa.own_form hown
    obtain ⟨q0, q1, q2, q3, q4⟩ := blk_cells4 hbk
    have HOW := Lib.hid hown; clear hown
    have HBK := Lib.hid hbk; clear hbk
    have HBW := Lib.hid hbw; clear hbw
    have hlb : ln ≤ 6000 := by
      have := dbBytes_take db k HALL.out
      omega
    have hle6 : ∀ q, (Value.slice A6 ln c6).ownBlock = some q → w.heap.size + 1 ≤ q := fun q hq => (HOW.out.lt q hq).1
    have hws := HBK.out.lt
    by_cases hlt : k < n1
    · obtain ⟨b, off, rfl, hb, hc⟩ := las_at DB.out (by omega)
      obtain ⟨u, hr, hlk⟩ := hc k hlt
      have c0 := (HBW.out.cell (p := ⟨b, off + k * 3 + 0, none⟩) hb).trans (hr 0 _ rfl)
      have c1_ := (HBW.out.cell (p := ⟨b, off + k * 3 + 1, none⟩) hb).trans (hr 1 _ rfl)
      have c2_ := (HBW.out.cell (p := ⟨b, off + k * 3 + 2, none⟩) hb).trans (hr 2 _ rfl)
      rewrite [Nat.add_zero] at c0
      have hkl : k < db.length := by rw [HL1.out]; exact hlt
      have hma : may (db.getD k zeroL).o (db.getD k zeroL).s (db.getD k zeroL).ls = true := HALL.out (db.getD k zeroL) (by simp [List.getD, List.getElem?_eq_getElem hkl])
      have hsu := dbBytes_succ db k hkl
      have hbl := laBytes_len (db.getD k zeroL) hma
      clear hc hr
      generalize db.getD k zeroL = x at *
      obtain ⟨Au, nu, cu, rfl, _, hr_⟩ := id hlk
      clear hr_
      have rp := rput_any x.o x.s Au nu cu x.ls wr ((hlk.below HBW.out (Nat.le_refl _)).more HBW.out.size) hma
      obtain ⟨bn, hbn⟩ : ∃ bn, bn = (laBytes x).length := ⟨_, rfl⟩
      rewrite [← hbn] at hbl
      have hln2 : ln + bn = 13 + (dbBytes (db.take (k + 1))).length := by rw [hsu, List.length_append]; omega
      have hbb : bytesOf x.o x.s x.ls = laBytes x := rfl
      rewrite [hbb] at rp
      generalize laBytes x = bs at *
      have HSU := Lib.hid hsu; clear hsu
      have HLN2 := Lib.hid hln2; clear hln2 hln
      generalize dbBytes (db.take k) = ys at *
      have RP := Lib.hid rp; clear rp
      have HBN := Lib.hid hbn; clear hbn hbb hlk hma
      go_wp2_with (first
        | (go_at_call 48; refine (RP.out).mono ?_; rintro e w6 ⟨v6, rfl, hs6, hb6⟩; obtain ⟨A7, n7, c7, rfl, ht7, _⟩ := id hs6; have hn7 : n7 = bn := (by rw [← ht7.1, HBN.out]); subst hn7; have HR6 := Lib.hid ht7.reads; have HB6 := Lib.hid (low_low HBW.out hb6); have K6 := Lib.hid (HBK.out.below hb6 HBK.out.lt); have HO6 := Lib.hid (own_below HOW.out hb6); have hs6' := K6.out.lt; clear hs6 hb6 ht7)
        | (at_builtin; (refine wpList_append_any _ rfl (.tmp 29) (.tmp 35) 36 rfl (w.heap.size + 1) 5 i0 (.int .u8 0) 1 1 Try.underlying36 HI.out HZ0.out HZ1.out HZ2.out rfl (by decide) (.slice A6 ln c6) ln (vals (H ++ ys)) rfl HO6.out w6.heap.size A7 n7 c7 (vals bs) rfl HR6.out (vals_one _) (by unfold maxLen; omega) (by omega) (by omega) ?_; intro v7 w7 hown7 hg7 _; have HB7 := Lib.hid (HB6.out.grown hg7 HB6.out.size (fun q hq => Nat.le_of_succ_le (hle6 q hq))); have K7 := Lib.hid (K6.out.grown hg7 (fun e => by have := hle6 _ e.symm; omega)); have HO7 := Lib.hid (own_fix (n' := ln + n7) (xs := H ++ dbBytes (db.take (k + 1))) hown7 (vals_append _ _).symm rfl (by rw [HSU.out, List.append_assoc])); clear hown7 hg7)))
      go_roundw
      case rel => exact ⟨k + 1, _, by omega, by go_num, HLN2.out, HO7.out, K7.out, HB7.out⟩
      case measure => simp [intOf]; omega
    · obtain rfl : n1 = k := by omega
      rw [List.take_of_length_le (by have := HL1.out; omega)] at HOW
      clear hln
      have hn2b : n2 < 256 := by omega
      go_wp2_with (at_builtin; (refine wpList_append_any _ rfl (.tmp 37) (.tmp 42) 36 rfl (w.heap.size + 1) 5 i0 (.int .u8 0) 1 1 Try.underlying36 HI.out HZ0.out HZ1.out HZ2.out rfl (by decide) (.slice A6 ln c6) ln (vals (H ++ dbBytes db)) rfl (HOW.out.alloc _) (wr.heap.size + 1) (some ⟨wr.heap.size, 0, none⟩) 1 1 (vals [n2]) rfl (reads_byte wr _ rfl _ n2 rfl) (vals_one _) (by unfold maxLen; omega) (by omega) (by simp; omega) ?_; intro v7 w7 hown7 hg7 _))
      have HB7 := Lib.hid ((low1 HBW.out (.cells #[.int .u8 (n2 : Nat)] 5)).grown hg7 (low1 HBW.out _).size (fun q hq => Nat.le_of_succ_le (hle6 q hq)))
      have K7 := Lib.hid ((HBK.out.alloc (.cells #[.int .u8 (n2 : Nat)] 5)).grown hg7 (fun e => by have := hle6 _ e.symm; omega))
      obtain ⟨G, hG⟩ : ∃ G, G = H ++ dbBytes db ++ [n2] := ⟨_, rfl⟩
      have HO7 := Lib.hid (own_fix (n' := ln + 1) (xs := G ++ linkBytes (ep.take 0)) hown7 (vals_append _ _).symm rfl (by rw [hG]; simp [linkBytes]))
      have HG := Lib.hid hG; clear hG
      clear hown7 hg7 hle6 HOW HBK HBW q0 q1 q2 q3 q4 hws
      go_loopw [3, 5] (fun z i wr => ∃ j lm : Nat, j ≤ n2 ∧ i = .int .i64 j ∧ lm = ln + 1 + 5 * j ∧ wr.ownsRow (w.heap.size + 1) 5 1 z lm (vals (G ++ linkBytes (ep.take j))) ∧ Blk wr w.heap.size 25 #[.slice A1 n1 c1, .int .i64 (up : Int), .int .i64 (bo : Int), .slice A2 n2 c2] ∧ Below w.heap.size w wr) (fun _ i _ => n2 - (intOf i).toNat)
      case atStart => exact ⟨0, _, Nat.zero_le _, rfl, by omega, HO7.out, K7.out, HB7.out⟩
      case round =>
        clear HO7 K7 HB7
        obtain ⟨k, lm, hk, rfl, hln', hown, hbk, hbw⟩ := hrel
        obtain ⟨A5, c5, rfl⟩ := Lsa.own_form hown
        obtain ⟨q0, q1, q2, q3, q4⟩ := blk_cells4 hbk
        have HOW := Lib.hid hown; clear hown
        have HBK := Lib.hid hbk; clear hbk
        have HBW := Lib.hid hbw; clear hbw
        by_cases hlt : k < n2
        · obtain ⟨b, off, rfl, hb, hc⟩ := lks_at EP.out (by omega)
          obtain ⟨c0', c1'⟩ := hc k hlt
          have hsucc := linkBytes_succ ep k (by have := HL2.out; omega)
          obtain ⟨⟨e1, e2⟩, e3, e4⟩ := EALL.out (ep.getD k (0, 0)) (by simp [List.getD, List.getElem?_eq_getElem (show k < ep.length by have := HL2.out; omega)])
          clear hc
          generalize ep.getD k (0, 0) = x at *
          obtain ⟨t, u⟩ := x
          simp only at c0' c1' e1 e2 e3 e4 hsucc
          obtain ⟨t', rfl⟩ : ∃ t' : Nat, t = (t' : Int) := ⟨t.toNat, by omega⟩
          obtain ⟨u', rfl⟩ : ∃ u' : Nat, u = (u' : Int) := ⟨u.toNat, by omega⟩
          have HC0 := Lib.hid (fun (W : World) (hW : Below w.heap.size w W) => (hW.cell (p := ⟨b, off + k * 2, none⟩) hb).trans c0')
          have HC1 := Lib.hid (fun (W : World) (hW : Below w.heap.size w W) => (hW.cell (p := ⟨b, off + k * 2 + 1, none⟩) hb).trans c1')
          have d0 := HC0.out _ HBW.out
          have d1 := HC1.out _ HBW.out
          have rn4 := fun (W : World) => ref_num 4 u' W (by omega) (by omega)
          have e4' : ((4 : Nat) : Int) = 4 := rfl
          rewrite [e4'] at rn4
          have RN4 := Lib.hid rn4; clear rn4 e4'
          have w4' : IntKind.u8.wrap (t' : Int) = (t' : Int) := by rw [IntKind.wrap_u8]; omega
          have w5' : IntKind.u64.wrap (u' : Int) = (u' : Int) := by rw [IntKind.wrap_u64]; omega
          have htb : t' < 256 := by omega
          have hfin : G ++ linkBytes (ep.take k) ++ [t'] ++ be 4 u' = G ++ linkBytes (ep.take (k + 1)) := by
            rw [hsucc, Int.toNat_natCast, Int.toNat_natCast, be_one htb]
            simp
          generalize G ++ linkBytes (ep.take k) = ys at *
          have HFIN := Lib.hid hfin; clear hfin hsucc c0' c1' e1 e2 e3 e4
          have hlnb : lm ≤ 8000 := by omega
          have HLN := Lib.hid hln'; clear hln'
          have hws := HBK.out.lt
          have hk0 : (0 : Int) ≤ (k : Int) := by omega
          have hk1 : (k : Int) < (n2 : Int) := by omega
          have hle5 : ∀ q, (Value.slice A5 lm c5).ownBlock = some q → w.heap.size + 1 ≤ q := fun q hq => (HOW.out.lt q hq).1
          have HLE5 := Lib.hid hle5; clear hle5
          go_wp2
          go_region_held3 (fun W => W.cell? ⟨w.heap.size, 3, none⟩ = some (.slice (some ⟨b, off, none⟩) n2 c2) ∧ W.cell? ⟨b, off + k * 2, none⟩ = some (.int .i64 (t' : Nat)) ∧ W.cell? ⟨b, off + k * 2 + 1, none⟩ = some (.int .i64 (u' : Nat)))
            (first
              | with_reducible exact ⟨q3, d0, d1⟩
              | with_reducible exact ⟨r2, r3, r4⟩
              | with_reducible exact ⟨s2, s3, s4⟩
              | with_reducible exact ⟨t2, t3, t4⟩
              | go_keep)
            (first
              | (refine step_append_any _ rfl (.tmp 51) (.tmp 59) 36 rfl (w.heap.size + 1) 5 i0 (.int .u8 0) 1 1 Try.underlying36 HI.out HZ0.out HZ1.out HZ2.out rfl (by decide) (.slice A5 lm c5) lm (vals ys) rfl ((HOW.out.alloc (.cells #[.int .u8 (t' : Nat)] 5)).drew) (wr.heap.size + 1) (some ⟨wr.heap.size, 0, none⟩) 1 1 (vals [t']) rfl ((reads_byte wr wr.heap.size rfl _ t' rfl).drew) (vals_one _) (by unfold maxLen; omega) (by omega) (by simp; omega) ?_; intro v6 w6 hown6 hg6 _; have hb6 := (low1 HBW.out (.cells #[.int .u8 (t' : Nat)] 5)).drew; have HB6 := Lib.hid (hb6.grown hg6 hb6.size (fun q hq => Nat.le_of_succ_le (HLE5.out q hq))); have K6 := Lib.hid (((HBK.out.alloc (.cells #[.int .u8 (t' : Nat)] 5)).drew).grown hg6 (fun e => Nat.lt_irrefl _ (HLE5.out _ e.symm))); have HO6 := Lib.hid (own_fix (n' := lm + 1) (xs := ys ++ [t']) hown6 (vals_append _ _).symm rfl rfl); obtain ⟨A6, c6, rfl⟩ := Lsa.own_form HO6.out; have r2 := (blk_cells4 K6.out).2.2.2.1; have r3 := HC0.out _ HB6.out; have r4 := HC1.out _ HB6.out; have hs6 := K6.out.lt; clear hown6 hg6 hb6)
              | (go_at_call 47; refine (RN4.out _).mono ?_; rintro e w7 ⟨v7, rfl, ho7, hb7⟩; obtain ⟨A7, c7, rfl, hr7⟩ := own_reads ho7; have HR7 := Lib.hid hr7; have HB7 := Lib.hid (HB6.out.trans (hb7.mono HB6.out.size)); have K7 := Lib.hid (K6.out.below hb7 hs6); have HO7 := Lib.hid (own_below HO6.out hb7); have s2 := (blk_cells4 K7.out).2.2.2.1; have s3 := HC0.out _ HB7.out; have s4 := HC1.out _ HB7.out; have hs7 := K7.out.lt; clear ho7 hr7 hb7)
              | (refine step_append_any _ rfl (.tmp 60) (.tmp 68) 36 rfl (w.heap.size + 1) 5 i0 (.int .u8 0) 1 1 Try.underlying36 HI.out HZ0.out HZ1.out HZ2.out rfl (by decide) (.slice A6 (lm + 1) c6) (lm + 1) (vals (ys ++ [t'])) rfl HO7.out w7.heap.size A7 4 c7 (vals (be 4 u')) rfl HR7.out (vals_one _) (by unfold maxLen; omega) (by omega) (by omega) ?_; intro v8 w8 hown8 hg8 _; have HB8 := Lib.hid (HB7.out.grown hg8 HB7.out.size (fun q hq => Nat.le_of_succ_le (HO7.out.lt q hq).1)); have K8 := Lib.hid (K7.out.grown hg8 (fun e => Nat.lt_irrefl _ (HO7.out.lt _ e.symm).1)); have HO8 := Lib.hid (own_fix (n' := ln + 1 + 5 * (k + 1)) hown8 (vals_append _ _).symm (by have := HLN.out; omega) HFIN.out); have t2 := (blk_cells4 K8.out).2.2.2.1; have t3 := HC0.out _ HB8.out; have t4 := HC1.out _ HB8.out; clear hown8 hg8))
          go_wp2
          go_roundw
          case rel => exact ⟨k + 1, _, by omega, by go_num, rfl, HO8.out, K8.out, HB8.out⟩
          case measure => simp [intOf]; omega
        · obtain rfl : n2 = k := by omega
          rw [List.take_of_length_le (by have := HL2.out; omega), HG.out, HHD.out, ← HBS.out] at HOW
          have HSL := Lib.hid (sl_own HOW.out HBLT.out (by omega))
          clear hln'
          go_wp2
          go_ret
          exact ⟨_, rfl, HSL.out, HBW.out⟩
end Go.Proofs.Ytcojimbnenibnaa.Bas
/- BasePuts: for every two states the law returns true and its arguments read as before: any state's bytes, that it is got, and which are alike. No condition. -/
namespace Go.Proofs.Ytcojimbnenibnaa.basePuts
open Go.RowKit Go.Proofs.Ytcojimbnenibnaa.Mem Go.Proofs.Ytcojimbnenibnaa.Oct Go.Proofs.Ytcojimbnenibnaa.Lsa Go.Proofs.Ytcojimbnenibnaa.Chg Go.Proofs.Ytcojimbnenibnaa.Bas
set_option linter.unusedVariables false
set_option linter.unusedSimpArgs false
theorem sl_bts3 {w : World} {B n c : Nat} {A : Option Addr} {xs : List Nat} (h : Sl w B (.slice A n c) xs) : Bts w B A n xs := by
  obtain ⟨A', n', c', e, hb, _⟩ := h
  injection e with e1 e2 e3
  subst e1 e2 e3
  exact hb
theorem bytesS_len {s : Sta} (h : mayS s = true) : (bytesS s).length ≤ 200000 := by
  obtain ⟨m1, m2, m3, m4⟩ := mayS_iff.1 h
  obtain ⟨l1, l2⟩ := mayS_len h
  have h1 := dbBytes_len s.db (dbOk_all m1)
  have h2 := linkBytes_length s.ep
  unfold bytesS headS
  simp only [List.length_append, be_length]
  omega
set_option maxRecDepth 20000 in
set_option maxHeartbeats 4000000 in
theorem walk_dark (s t : Sta) (A1 A2 A3 A4 : Option Addr) (n1 c1 n2 c2 n3 c3 n4 c4 : Nat) (w : World) (h : StM w w.heap.size (.slice A1 n1 c1) (.slice A2 n2 c2) s) (h' : StM w w.heap.size (.slice A3 n3 c3) (.slice A4 n4 c4) t) (hd : lightS s = false) :
    Calls Try.prog 4 #[.agg #[.slice A1 n1 c1, .int .i64 s.up, .int .i64 s.bo, .slice A2 n2 c2], .agg #[.slice A3 n3 c3, .int .i64 t.up, .int .i64 t.bo, .slice A4 n4 c4]] w fun e w' => e = .returned (.bool true) ∧ Below w.heap.size w w' := by
  have HB := Lib.hid (low2 w (.cells #[.slice A1 n1 c1, .int .i64 s.up, .int .i64 s.bo, .slice A2 n2 c2] 25) (.cells #[.slice A3 n3 c3, .int .i64 t.up, .int .i64 t.bo, .slice A4 n4 c4] 25))
  have K0 := Lib.hid ((Blk.new w 25 #[.slice A1 n1 c1, .int .i64 s.up, .int .i64 s.bo, .slice A2 n2 c2]).alloc (.cells #[.slice A3 n3 c3, .int .i64 t.up, .int .i64 t.bo, .slice A4 n4 c4] 25))
  have J0 := Lib.hid (blk_second w (.cells #[.slice A1 n1 c1, .int .i64 s.up, .int .i64 s.bo, .slice A2 n2 c2] 25) 25 #[.slice A3 n3 c3, .int .i64 t.up, .int .i64 t.bo, .slice A4 n4 c4])
  obtain ⟨x0, x1, x2, x3, x4⟩ := blk_cells4 K0.out
  obtain ⟨y0, y1, y2, y3, y4⟩ := blk_cells4 J0.out
  have HS := Lib.hid (fun (W : World) (hW : Below w.heap.size w W) => h.up hW)
  have HT := Lib.hid (fun (W : World) (hW : Below w.heap.size w W) => h'.up hW)
  clear h h'
  have lt := fun (W : World) (hW : Below w.heap.size w W) => light11_any s (.slice A1 n1 c1) (.slice A2 n2 c2) W (HS.out W hW)
  have lt2 := fun (W : World) (hW : Below w.heap.size w W) => light11_any t (.slice A3 n3 c3) (.slice A4 n4 c4) W (HT.out W hW)
  simp only [stV] at lt lt2
  rw [hd] at lt
  have LT := Lib.hid lt; clear lt lt2 hd
  go_enter Try.func4, Try.ntmps4
  go_wp2_with (first
    | (have HM1 := LT; go_at_call 7; refine (LT.out _ HB.out).mono ?_; rintro e w1 ⟨rfl, hb1⟩; have HB1 := Lib.hid (low_low HB.out hb1); have K1 := Lib.hid (K0.out.below hb1 K0.out.lt); have J1 := Lib.hid (J0.out.below hb1 J0.out.lt); obtain ⟨z0, z1, z2, z3, z4⟩ := blk_cells4 K1.out; obtain ⟨u0, u1, u2, u3, u4⟩ := blk_cells4 J1.out; clear hb1 HM1 LT)
    | (go_at_call 9; refine (awake11_any _).mono ?_; rintro e w9 ⟨rfl, hb9⟩; have HB9 := Lib.hid (low_low HB1.out hb9); clear hb9))
  go_ret
  exact ⟨rfl, HB9.out⟩
set_option maxRecDepth 20000 in
set_option maxHeartbeats 4000000 in
theorem walk_dark2 (s t : Sta) (A1 A2 A3 A4 : Option Addr) (n1 c1 n2 c2 n3 c3 n4 c4 : Nat) (w : World) (h : StM w w.heap.size (.slice A1 n1 c1) (.slice A2 n2 c2) s) (h' : StM w w.heap.size (.slice A3 n3 c3) (.slice A4 n4 c4) t) (hs : lightS s = true) (hd : lightS t = false) :
    Calls Try.prog 4 #[.agg #[.slice A1 n1 c1, .int .i64 s.up, .int .i64 s.bo, .slice A2 n2 c2], .agg #[.slice A3 n3 c3, .int .i64 t.up, .int .i64 t.bo, .slice A4 n4 c4]] w fun e w' => e = .returned (.bool true) ∧ Below w.heap.size w w' := by
  have HB := Lib.hid (low2 w (.cells #[.slice A1 n1 c1, .int .i64 s.up, .int .i64 s.bo, .slice A2 n2 c2] 25) (.cells #[.slice A3 n3 c3, .int .i64 t.up, .int .i64 t.bo, .slice A4 n4 c4] 25))
  have K0 := Lib.hid ((Blk.new w 25 #[.slice A1 n1 c1, .int .i64 s.up, .int .i64 s.bo, .slice A2 n2 c2]).alloc (.cells #[.slice A3 n3 c3, .int .i64 t.up, .int .i64 t.bo, .slice A4 n4 c4] 25))
  have J0 := Lib.hid (blk_second w (.cells #[.slice A1 n1 c1, .int .i64 s.up, .int .i64 s.bo, .slice A2 n2 c2] 25) 25 #[.slice A3 n3 c3, .int .i64 t.up, .int .i64 t.bo, .slice A4 n4 c4])
  obtain ⟨x0, x1, x2, x3, x4⟩ := blk_cells4 K0.out
  obtain ⟨y0, y1, y2, y3, y4⟩ := blk_cells4 J0.out
  have HS := Lib.hid (fun (W : World) (hW : Below w.heap.size w W) => h.up hW)
  have HT := Lib.hid (fun (W : World) (hW : Below w.heap.size w W) => h'.up hW)
  clear h h'
  have lt := fun (W : World) (hW : Below w.heap.size w W) => light11_any s (.slice A1 n1 c1) (.slice A2 n2 c2) W (HS.out W hW)
  have lt2 := fun (W : World) (hW : Below w.heap.size w W) => light11_any t (.slice A3 n3 c3) (.slice A4 n4 c4) W (HT.out W hW)
  simp only [stV] at lt lt2
  rw [hs] at lt
  rw [hd] at lt2
  have LT := Lib.hid lt; clear lt hd
  have LT2 := Lib.hid lt2; clear lt2
  go_enter Try.func4, Try.ntmps4
  go_wp2_with (first
    | (have HM1 := LT; go_at_call 7; refine (LT.out _ HB.out).mono ?_; rintro e w1 ⟨rfl, hb1⟩; have HB1 := Lib.hid (low_low HB.out hb1); have K1 := Lib.hid (K0.out.below hb1 K0.out.lt); have J1 := Lib.hid (J0.out.below hb1 J0.out.lt); obtain ⟨z0, z1, z2, z3, z4⟩ := blk_cells4 K1.out; obtain ⟨u0, u1, u2, u3, u4⟩ := blk_cells4 J1.out; clear hb1 HM1 LT)
    | (go_at_call 7; refine (LT2.out _ HB1.out).mono ?_; rintro e w2 ⟨rfl, hb2⟩; have HB2 := Lib.hid (low_low HB1.out hb2); have K2 := Lib.hid (K1.out.below hb2 K1.out.lt); have J2 := Lib.hid (J1.out.below hb2 J1.out.lt); obtain ⟨k0, k1, k2, k3, k4⟩ := blk_cells4 K2.out; obtain ⟨j0, j1, j2, j3, j4⟩ := blk_cells4 J2.out; clear hb2)
    | (go_at_call 9; refine (awake11_any _).mono ?_; rintro e w9 ⟨rfl, hb9⟩; have HB9 := Lib.hid (low_low HB2.out hb9); clear hb9))
  go_ret
  exact ⟨rfl, HB9.out⟩
set_option maxRecDepth 20000 in
set_option maxHeartbeats 8000000 in
theorem walk_no (s t : Sta) (A1 A2 A3 A4 : Option Addr) (n1 c1 n2 c2 n3 c3 n4 c4 : Nat) (w : World) (h : StM w w.heap.size (.slice A1 n1 c1) (.slice A2 n2 c2) s) (h' : StM w w.heap.size (.slice A3 n3 c3) (.slice A4 n4 c4) t) (hs : lightS s = true) (ht : lightS t = true) (hm : mayS s = false) :
    Calls Try.prog 4 #[.agg #[.slice A1 n1 c1, .int .i64 s.up, .int .i64 s.bo, .slice A2 n2 c2], .agg #[.slice A3 n3 c3, .int .i64 t.up, .int .i64 t.bo, .slice A4 n4 c4]] w fun e w' => e = .returned (.bool true) ∧ Below w.heap.size w w' := by
  have HB := Lib.hid (low2 w (.cells #[.slice A1 n1 c1, .int .i64 s.up, .int .i64 s.bo, .slice A2 n2 c2] 25) (.cells #[.slice A3 n3 c3, .int .i64 t.up, .int .i64 t.bo, .slice A4 n4 c4] 25))
  have K0 := Lib.hid ((Blk.new w 25 #[.slice A1 n1 c1, .int .i64 s.up, .int .i64 s.bo, .slice A2 n2 c2]).alloc (.cells #[.slice A3 n3 c3, .int .i64 t.up, .int .i64 t.bo, .slice A4 n4 c4] 25))
  have J0 := Lib.hid (blk_second w (.cells #[.slice A1 n1 c1, .int .i64 s.up, .int .i64 s.bo, .slice A2 n2 c2] 25) 25 #[.slice A3 n3 c3, .int .i64 t.up, .int .i64 t.bo, .slice A4 n4 c4])
  obtain ⟨x0, x1, x2, x3, x4⟩ := blk_cells4 K0.out
  obtain ⟨y0, y1, y2, y3, y4⟩ := blk_cells4 J0.out
  have HS := Lib.hid (fun (W : World) (hW : Below w.heap.size w W) => h.up hW)
  have HT := Lib.hid (fun (W : World) (hW : Below w.heap.size w W) => h'.up hW)
  clear h h'
  have lt := fun (W : World) (hW : Below w.heap.size w W) => light11_any s (.slice A1 n1 c1) (.slice A2 n2 c2) W (HS.out W hW)
  have lt2 := fun (W : World) (hW : Below w.heap.size w W) => light11_any t (.slice A3 n3 c3) (.slice A4 n4 c4) W (HT.out W hW)
  simp only [stV] at lt lt2
  obtain ⟨hl40, hl70, he70⟩ := lightS_iff.1 hs
  have cp := fun (W : World) (hW : Below w.heap.size w W) => scopy_any s (.slice A1 n1 c1) (.slice A2 n2 c2) W (HS.out W hW) (by omega) (by omega) (fun i hi => by have := hl40 (s.db.getD i zeroL) (by simp only [List.getD, List.getElem?_eq_getElem hi, Option.getD_some]; exact List.getElem_mem _); omega)
  rw [hs] at lt
  rw [ht] at lt2
  have pt := fun (W : World) (hW : Below w.heap.size w W) => sput_any s (.slice A1 n1 c1) (.slice A2 n2 c2) W (HS.out W hW)
  have my := fun (W : World) (hW : Below w.heap.size w W) => rmay_st s (.slice A1 n1 c1) (.slice A2 n2 c2) W (HS.out W hW)
  have sm := fun (W : World) (hW : Below w.heap.size w W) => ssame_any s t (.slice A1 n1 c1) (.slice A2 n2 c2) (.slice A3 n3 c3) (.slice A4 n4 c4) W (HS.out W hW) (HT.out W hW)
  have rs := fun (W : World) (hW : Below w.heap.size w W) => rsame_st s t (.slice A1 n1 c1) (.slice A2 n2 c2) (.slice A3 n3 c3) (.slice A4 n4 c4) W (HS.out W hW) (HT.out W hW)
  have rc := fun (A A' : Option Addr) (n c n' c' : Nat) (W : World) (hC : StM W W.heap.size (.slice A n c) (.slice A' n' c') s) (hW : Below w.heap.size w W) => rsame_st s s (.slice A n c) (.slice A' n' c') (.slice A1 n1 c1) (.slice A2 n2 c2) W hC (HS.out W hW)
  rw [sameS_self] at rc
  unfold SPutOut at pt
  unfold CopyOut at cp
  rw [hm] at pt my
  simp only [stV] at cp pt my sm rs rc
  generalize sameS s t = z at *
  have LT := Lib.hid lt; clear lt
  have LT2 := Lib.hid lt2; clear lt2
  have CP := Lib.hid cp; clear cp
  have PT := Lib.hid pt; clear pt
  have MY := Lib.hid my; clear my
  have RC := Lib.hid rc; clear rc
  clear hl40 hl70 he70 hs ht
  go_enter Try.func4, Try.ntmps4
  go_upto_region 4 with (first
    | (have HM1 := LT; go_at_call 7; refine (LT.out _ HB.out).mono ?_; rintro e w1 ⟨rfl, hb1⟩; have HB1 := Lib.hid (low_low HB.out hb1); have K1 := Lib.hid (K0.out.below hb1 K0.out.lt); have J1 := Lib.hid (J0.out.below hb1 J0.out.lt); obtain ⟨z0, z1, z2, z3, z4⟩ := blk_cells4 K1.out; obtain ⟨u0, u1, u2, u3, u4⟩ := blk_cells4 J1.out; clear hb1 HM1 LT)
    | (go_at_call 7; refine (LT2.out _ HB1.out).mono ?_; rintro e w2 ⟨rfl, hb2⟩; have HB2 := Lib.hid (low_low HB1.out hb2); have K2 := Lib.hid (K1.out.below hb2 K1.out.lt); have J2 := Lib.hid (J1.out.below hb2 J1.out.lt); obtain ⟨k0, k1, k2, k3, k4⟩ := blk_cells4 K2.out; obtain ⟨j0, j1, j2, j3, j4⟩ := blk_cells4 J2.out; clear hb2)
    | (go_at_call 16; refine (PT.out _ HB2.out).mono ?_; rintro e w3 ⟨v3, rfl, _, hv3, hb3⟩; obtain rfl := hv3 (by simp); have HB3 := Lib.hid (low_low HB2.out hb3); have K3 := Lib.hid (K2.out.below hb3 K2.out.lt); have J3 := Lib.hid (J2.out.below hb3 J2.out.lt); clear hb3))
  have HE3 := Lib.hid (Below.refl w3.heap.size w3)
  obtain ⟨k0, k1, k2, k3, k4⟩ := blk_cells4 K3.out
  obtain ⟨j0, j1, j2, j3, j4⟩ := blk_cells4 J3.out
  have hzz : (z != z) = false := by simp
  have SM := Lib.hid sm; clear sm
  have RS := Lib.hid rs; clear rs
  go_region_held3 (fun W => W.cell? ⟨w.heap.size, 0, none⟩ = some (.slice A1 n1 c1) ∧ W.cell? ⟨w.heap.size, 1, none⟩ = some (.int .i64 s.up) ∧ W.cell? ⟨w.heap.size, 2, none⟩ = some (.int .i64 s.bo) ∧ W.cell? ⟨w.heap.size, 3, none⟩ = some (.slice A2 n2 c2) ∧ W.cell? ⟨w.heap.size + 1, 0, none⟩ = some (.slice A3 n3 c3) ∧ W.cell? ⟨w.heap.size + 1, 1, none⟩ = some (.int .i64 t.up) ∧ W.cell? ⟨w.heap.size + 1, 2, none⟩ = some (.int .i64 t.bo) ∧ W.cell? ⟨w.heap.size + 1, 3, none⟩ = some (.slice A4 n4 c4))
      (first
        | with_reducible exact ⟨k0, k1, k2, k3, j0, j1, j2, j3⟩
        | with_reducible exact ⟨ka0, ka1, ka2, ka3, ja0, ja1, ja2, ja3⟩
        | with_reducible exact ⟨kb0, kb1, kb2, kb3, jb0, jb1, jb2, jb3⟩
        | with_reducible exact ⟨kc0, kc1, kc2, kc3, jc0, jc1, jc2, jc3⟩
        | with_reducible exact ⟨kd0, kd1, kd2, kd3, jd0, jd1, jd2, jd3⟩
        | go_keep)
      (first
        | (go_at_call 17; refine (SM.out _ ?hw).mono ?_; (case hw => exact low_low HB3.out (by with_reducible repeat (first | exact HE3.out | exact HEa.out | exact HEb.out | exact HEc.out | exact HEd.out | refine below_drewN ?_ _ | refine Below.drew ?_))); rintro e wa ⟨rfl, hb⟩; have HEa := Lib.hid (low_low (wz := w3) (by with_reducible repeat (first | exact HE3.out | exact HEa.out | exact HEb.out | exact HEc.out | exact HEd.out | refine below_drewN ?_ _ | refine Below.drew ?_)) hb); clear hb; obtain ⟨ka0, ka1, ka2, ka3, ka4⟩ := blk_cells4 (K3.out.below HEa.out K3.out.lt); obtain ⟨ja0, ja1, ja2, ja3, ja4⟩ := blk_cells4 (J3.out.below HEa.out J3.out.lt))
        | (have HM2 := RS; go_at_call 14; refine (RS.out _ ?hw).mono ?_; (case hw => exact low_low HB3.out (by with_reducible repeat (first | exact HE3.out | exact HEa.out | exact HEb.out | exact HEc.out | exact HEd.out | refine below_drewN ?_ _ | refine Below.drew ?_))); rintro e wb ⟨rfl, hb⟩; have HEb := Lib.hid (low_low (wz := w3) (by with_reducible repeat (first | exact HE3.out | exact HEa.out | exact HEb.out | exact HEc.out | exact HEd.out | refine below_drewN ?_ _ | refine Below.drew ?_)) hb); clear hb; obtain ⟨kb0, kb1, kb2, kb3, kb4⟩ := blk_cells4 (K3.out.below HEb.out K3.out.lt); obtain ⟨jb0, jb1, jb2, jb3, jb4⟩ := blk_cells4 (J3.out.below HEb.out J3.out.lt); clear HM2 RS)
        | (go_at_call 18; refine (CP.out _ ?hw).mono ?_; (case hw => exact low_low HB3.out (by with_reducible repeat (first | exact HE3.out | exact HEa.out | exact HEb.out | exact HEc.out | exact HEd.out | refine below_drewN ?_ _ | refine Below.drew ?_))); rintro e wc ⟨dvc, evc, rfl, hdc, hec, hb⟩; obtain ⟨A6, n6, c6, rfl⟩ := ownL_sl hdc; obtain ⟨A7, n7, c7, rfl⟩ := ownE_sl hec; have HC := Lib.hid (show StM wc wc.heap.size (.slice A6 n6 c6) (.slice A7 n7 c7) s from ⟨hdc.las, ownE_lks hec⟩); clear hdc hec; have HEc := Lib.hid (low_low (wz := w3) (by with_reducible repeat (first | exact HE3.out | exact HEa.out | exact HEb.out | exact HEc.out | exact HEd.out | refine below_drewN ?_ _ | refine Below.drew ?_)) hb); clear hb; obtain ⟨kc0, kc1, kc2, kc3, kc4⟩ := blk_cells4 (K3.out.below HEc.out K3.out.lt); obtain ⟨jc0, jc1, jc2, jc3, jc4⟩ := blk_cells4 (J3.out.below HEc.out J3.out.lt))
        | (go_at_call 14; refine (RC.out _ _ _ _ _ _ _ ?hs ?hw).mono ?_; (case hs => exact HC.out.up (by with_reducible repeat (first | exact Below.refl _ _ | refine below_drewN ?_ _ | refine Below.drew ?_))); (case hw => exact low_low HB3.out (by with_reducible repeat (first | exact HE3.out | exact HEa.out | exact HEb.out | exact HEc.out | exact HEd.out | refine below_drewN ?_ _ | refine Below.drew ?_))); rintro e wd ⟨rfl, hb⟩; have HEd := Lib.hid (low_low (wz := w3) (by with_reducible repeat (first | exact HE3.out | exact HEa.out | exact HEb.out | exact HEc.out | exact HEd.out | refine below_drewN ?_ _ | refine Below.drew ?_)) hb); clear hb; obtain ⟨kd0, kd1, kd2, kd3, kd4⟩ := blk_cells4 (K3.out.below HEd.out K3.out.lt); obtain ⟨jd0, jd1, jd2, jd3, jd4⟩ := blk_cells4 (J3.out.below HEd.out J3.out.lt)))
  have HBd := Lib.hid (low_low HB3.out HEd.out)
  have Kd := Lib.hid (K3.out.below HEd.out K3.out.lt)
  have Jd := Lib.hid (J3.out.below HEd.out J3.out.lt)
  go_wp2_with (first
    | (go_at_call 13; refine (MY.out _ HBd.out).mono ?_; rintro e we ⟨rfl, hbe⟩; have HBe := Lib.hid (low_low HBd.out hbe); have Ke := Lib.hid (Kd.out.below hbe Kd.out.lt); obtain ⟨q0, q1, q2, q3, q4⟩ := blk_cells4 Ke.out; clear hbe)
    | (go_at_call 9; refine (awake11_any _).mono ?_; rintro e w9 ⟨rfl, hb9⟩; have HB9 := Lib.hid (low_low HBe.out hb9); clear hb9))
  go_ret
  exact ⟨rfl, HB9.out⟩
set_option maxRecDepth 20000 in
set_option maxHeartbeats 8000000 in
theorem walk_yes (s t : Sta) (A1 A2 A3 A4 : Option Addr) (n1 c1 n2 c2 n3 c3 n4 c4 : Nat) (w : World) (h : StM w w.heap.size (.slice A1 n1 c1) (.slice A2 n2 c2) s) (h' : StM w w.heap.size (.slice A3 n3 c3) (.slice A4 n4 c4) t) (hs : lightS s = true) (ht : lightS t = true) (hm : mayS s = true) :
    Calls Try.prog 4 #[.agg #[.slice A1 n1 c1, .int .i64 s.up, .int .i64 s.bo, .slice A2 n2 c2], .agg #[.slice A3 n3 c3, .int .i64 t.up, .int .i64 t.bo, .slice A4 n4 c4]] w fun e w' => e = .returned (.bool true) ∧ Below w.heap.size w w' := by
  have hlen := bytesS_len hm
  have hgt := getS_back hm
  have gt := fun (v : Value) (W : World) (hv : Sl W W.heap.size v (bytesS s)) => sget_any v _ W hv hlen
  unfold GetOutS errG at gt
  rw [hgt] at gt
  simp only [Option.getD_some, stV] at gt
  have hrb := fun (W : World) (hS : StM W W.heap.size (.slice A1 n1 c1) (.slice A2 n2 c2) s) => rbytes_any s (.slice A1 n1 c1) (.slice A2 n2 c2) W hS hm
  have HB := Lib.hid (low2 w (.cells #[.slice A1 n1 c1, .int .i64 s.up, .int .i64 s.bo, .slice A2 n2 c2] 25) (.cells #[.slice A3 n3 c3, .int .i64 t.up, .int .i64 t.bo, .slice A4 n4 c4] 25))
  have K0 := Lib.hid ((Blk.new w 25 #[.slice A1 n1 c1, .int .i64 s.up, .int .i64 s.bo, .slice A2 n2 c2]).alloc (.cells #[.slice A3 n3 c3, .int .i64 t.up, .int .i64 t.bo, .slice A4 n4 c4] 25))
  have J0 := Lib.hid (blk_second w (.cells #[.slice A1 n1 c1, .int .i64 s.up, .int .i64 s.bo, .slice A2 n2 c2] 25) 25 #[.slice A3 n3 c3, .int .i64 t.up, .int .i64 t.bo, .slice A4 n4 c4])
  obtain ⟨x0, x1, x2, x3, x4⟩ := blk_cells4 K0.out
  obtain ⟨y0, y1, y2, y3, y4⟩ := blk_cells4 J0.out
  have HS := Lib.hid (fun (W : World) (hW : Below w.heap.size w W) => h.up hW)
  have HT := Lib.hid (fun (W : World) (hW : Below w.heap.size w W) => h'.up hW)
  clear h h'
  have lt := fun (W : World) (hW : Below w.heap.size w W) => light11_any s (.slice A1 n1 c1) (.slice A2 n2 c2) W (HS.out W hW)
  have lt2 := fun (W : World) (hW : Below w.heap.size w W) => light11_any t (.slice A3 n3 c3) (.slice A4 n4 c4) W (HT.out W hW)
  simp only [stV] at lt lt2
  obtain ⟨hl40, hl70, he70⟩ := lightS_iff.1 hs
  have cp := fun (W : World) (hW : Below w.heap.size w W) => scopy_any s (.slice A1 n1 c1) (.slice A2 n2 c2) W (HS.out W hW) (by omega) (by omega) (fun i hi => by have := hl40 (s.db.getD i zeroL) (by simp only [List.getD, List.getElem?_eq_getElem hi, Option.getD_some]; exact List.getElem_mem _); omega)
  rw [hs] at lt
  rw [ht] at lt2
  have pt := fun (W : World) (hW : Below w.heap.size w W) => sput_any s (.slice A1 n1 c1) (.slice A2 n2 c2) W (HS.out W hW)
  have my := fun (W : World) (hW : Below w.heap.size w W) => rmay_st s (.slice A1 n1 c1) (.slice A2 n2 c2) W (HS.out W hW)
  have sm := fun (W : World) (hW : Below w.heap.size w W) => ssame_any s t (.slice A1 n1 c1) (.slice A2 n2 c2) (.slice A3 n3 c3) (.slice A4 n4 c4) W (HS.out W hW) (HT.out W hW)
  have rs := fun (W : World) (hW : Below w.heap.size w W) => rsame_st s t (.slice A1 n1 c1) (.slice A2 n2 c2) (.slice A3 n3 c3) (.slice A4 n4 c4) W (HS.out W hW) (HT.out W hW)
  have rc := fun (A A' : Option Addr) (n c n' c' : Nat) (W : World) (hC : StM W W.heap.size (.slice A n c) (.slice A' n' c') s) (hW : Below w.heap.size w W) => rsame_st s s (.slice A n c) (.slice A' n' c') (.slice A1 n1 c1) (.slice A2 n2 c2) W hC (HS.out W hW)
  rw [sameS_self] at rc
  unfold SPutOut at pt
  unfold CopyOut at cp
  rw [hm] at pt my
  simp only [stV] at cp pt my sm rs rc
  generalize sameS s t = z at *
  have LT := Lib.hid lt; clear lt
  have LT2 := Lib.hid lt2; clear lt2
  have CP := Lib.hid cp; clear cp
  have PT := Lib.hid pt; clear pt
  have MY := Lib.hid my; clear my
  have RC := Lib.hid rc; clear rc
  clear hl40 hl70 he70 hs ht
  have rb := fun (W : World) (hW : Below w.heap.size w W) => hrb W (HS.out W hW)
  simp only [stV] at rb
  have sq := fun (A A' : Option Addr) (n n' c c' : Nat) (W : World) (hA : Sl W W.heap.size (.slice A n c) (bytesS s)) (hB : Sl W W.heap.size (.slice A' n' c') (bytesS s)) => rsame_any A A' n n' c c' _ _ (bytesS s) (bytesS s) W (sl_bts3 hA) (sl_bts3 hB)
  simp only [decide_true] at sq
  generalize bytesS s = bs at *
  have GT := Lib.hid gt; clear gt hlen hgt hrb
  have RB := Lib.hid rb; clear rb
  have SQ := Lib.hid sq; clear sq
  go_enter Try.func4, Try.ntmps4
  go_upto_region 4 with (first
    | (have HM1 := LT; go_at_call 7; refine (LT.out _ HB.out).mono ?_; rintro e w1 ⟨rfl, hb1⟩; have HB1 := Lib.hid (low_low HB.out hb1); have K1 := Lib.hid (K0.out.below hb1 K0.out.lt); have J1 := Lib.hid (J0.out.below hb1 J0.out.lt); obtain ⟨z0, z1, z2, z3, z4⟩ := blk_cells4 K1.out; obtain ⟨u0, u1, u2, u3, u4⟩ := blk_cells4 J1.out; clear hb1 HM1 LT)
    | (go_at_call 7; refine (LT2.out _ HB1.out).mono ?_; rintro e w2 ⟨rfl, hb2⟩; have HB2 := Lib.hid (low_low HB1.out hb2); have K2 := Lib.hid (K1.out.below hb2 K1.out.lt); have J2 := Lib.hid (J1.out.below hb2 J1.out.lt); obtain ⟨k0, k1, k2, k3, k4⟩ := blk_cells4 K2.out; obtain ⟨j0, j1, j2, j3, j4⟩ := blk_cells4 J2.out; clear hb2)
    | (go_at_call 16; refine (PT.out _ HB2.out).mono ?_; rintro e w3 ⟨v3, rfl, hs3, _, hb3⟩; obtain ⟨A5, n5, c5, rfl, _⟩ := id (hs3 (by simp)); have HS3 := Lib.hid (hs3 (by simp)); have HB3 := Lib.hid (low_low HB2.out hb3); have K3 := Lib.hid (K2.out.below hb3 K2.out.lt); have J3 := Lib.hid (J2.out.below hb3 J2.out.lt); clear hb3 hs3))
  have HE3 := Lib.hid (Below.refl w3.heap.size w3)
  obtain ⟨k0, k1, k2, k3, k4⟩ := blk_cells4 K3.out
  obtain ⟨j0, j1, j2, j3, j4⟩ := blk_cells4 J3.out
  have hzz : (z != z) = false := by simp
  have SM := Lib.hid sm; clear sm
  have RS := Lib.hid rs; clear rs
  go_region_held3 (fun W => W.cell? ⟨w.heap.size, 0, none⟩ = some (.slice A1 n1 c1) ∧ W.cell? ⟨w.heap.size, 1, none⟩ = some (.int .i64 s.up) ∧ W.cell? ⟨w.heap.size, 2, none⟩ = some (.int .i64 s.bo) ∧ W.cell? ⟨w.heap.size, 3, none⟩ = some (.slice A2 n2 c2) ∧ W.cell? ⟨w.heap.size + 1, 0, none⟩ = some (.slice A3 n3 c3) ∧ W.cell? ⟨w.heap.size + 1, 1, none⟩ = some (.int .i64 t.up) ∧ W.cell? ⟨w.heap.size + 1, 2, none⟩ = some (.int .i64 t.bo) ∧ W.cell? ⟨w.heap.size + 1, 3, none⟩ = some (.slice A4 n4 c4))
      (first
        | with_reducible exact ⟨k0, k1, k2, k3, j0, j1, j2, j3⟩
        | with_reducible exact ⟨ka0, ka1, ka2, ka3, ja0, ja1, ja2, ja3⟩
        | with_reducible exact ⟨kb0, kb1, kb2, kb3, jb0, jb1, jb2, jb3⟩
        | with_reducible exact ⟨kc0, kc1, kc2, kc3, jc0, jc1, jc2, jc3⟩
        | with_reducible exact ⟨kd0, kd1, kd2, kd3, jd0, jd1, jd2, jd3⟩
        | go_keep)
      (first
        | (go_at_call 17; refine (SM.out _ ?hw).mono ?_; (case hw => exact low_low HB3.out (by with_reducible repeat (first | exact HE3.out | exact HEa.out | exact HEb.out | exact HEc.out | exact HEd.out | refine below_drewN ?_ _ | refine Below.drew ?_))); rintro e wa ⟨rfl, hb⟩; have HEa := Lib.hid (low_low (wz := w3) (by with_reducible repeat (first | exact HE3.out | exact HEa.out | exact HEb.out | exact HEc.out | exact HEd.out | refine below_drewN ?_ _ | refine Below.drew ?_)) hb); clear hb; obtain ⟨ka0, ka1, ka2, ka3, ka4⟩ := blk_cells4 (K3.out.below HEa.out K3.out.lt); obtain ⟨ja0, ja1, ja2, ja3, ja4⟩ := blk_cells4 (J3.out.below HEa.out J3.out.lt))
        | (have HM2 := RS; go_at_call 14; refine (RS.out _ ?hw).mono ?_; (case hw => exact low_low HB3.out (by with_reducible repeat (first | exact HE3.out | exact HEa.out | exact HEb.out | exact HEc.out | exact HEd.out | refine below_drewN ?_ _ | refine Below.drew ?_))); rintro e wb ⟨rfl, hb⟩; have HEb := Lib.hid (low_low (wz := w3) (by with_reducible repeat (first | exact HE3.out | exact HEa.out | exact HEb.out | exact HEc.out | exact HEd.out | refine below_drewN ?_ _ | refine Below.drew ?_)) hb); clear hb; obtain ⟨kb0, kb1, kb2, kb3, kb4⟩ := blk_cells4 (K3.out.below HEb.out K3.out.lt); obtain ⟨jb0, jb1, jb2, jb3, jb4⟩ := blk_cells4 (J3.out.below HEb.out J3.out.lt); clear HM2 RS)
        | (go_at_call 18; refine (CP.out _ ?hw).mono ?_; (case hw => exact low_low HB3.out (by with_reducible repeat (first | exact HE3.out | exact HEa.out | exact HEb.out | exact HEc.out | exact HEd.out | refine below_drewN ?_ _ | refine Below.drew ?_))); rintro e wc ⟨dvc, evc, rfl, hdc, hec, hb⟩; obtain ⟨A6, n6, c6, rfl⟩ := ownL_sl hdc; obtain ⟨A7, n7, c7, rfl⟩ := ownE_sl hec; have HC := Lib.hid (show StM wc wc.heap.size (.slice A6 n6 c6) (.slice A7 n7 c7) s from ⟨hdc.las, ownE_lks hec⟩); clear hdc hec; have HEc := Lib.hid (low_low (wz := w3) (by with_reducible repeat (first | exact HE3.out | exact HEa.out | exact HEb.out | exact HEc.out | exact HEd.out | refine below_drewN ?_ _ | refine Below.drew ?_)) hb); clear hb; obtain ⟨kc0, kc1, kc2, kc3, kc4⟩ := blk_cells4 (K3.out.below HEc.out K3.out.lt); obtain ⟨jc0, jc1, jc2, jc3, jc4⟩ := blk_cells4 (J3.out.below HEc.out J3.out.lt))
        | (go_at_call 14; refine (RC.out _ _ _ _ _ _ _ ?hs ?hw).mono ?_; (case hs => exact HC.out.up (by with_reducible repeat (first | exact Below.refl _ _ | refine below_drewN ?_ _ | refine Below.drew ?_))); (case hw => exact low_low HB3.out (by with_reducible repeat (first | exact HE3.out | exact HEa.out | exact HEb.out | exact HEc.out | exact HEd.out | refine below_drewN ?_ _ | refine Below.drew ?_))); rintro e wd ⟨rfl, hb⟩; have HEd := Lib.hid (low_low (wz := w3) (by with_reducible repeat (first | exact HE3.out | exact HEa.out | exact HEb.out | exact HEc.out | exact HEd.out | refine below_drewN ?_ _ | refine Below.drew ?_)) hb); clear hb; obtain ⟨kd0, kd1, kd2, kd3, kd4⟩ := blk_cells4 (K3.out.below HEd.out K3.out.lt); obtain ⟨jd0, jd1, jd2, jd3, jd4⟩ := blk_cells4 (J3.out.below HEd.out J3.out.lt)))
  have HBd := Lib.hid (low_low HB3.out HEd.out)
  have Kd := Lib.hid (K3.out.below HEd.out K3.out.lt)
  have Jd := Lib.hid (J3.out.below HEd.out J3.out.lt)
  go_upto_region 9 with (first
    | (go_at_call 13; refine (MY.out _ HBd.out).mono ?_; rintro e we ⟨rfl, hbe⟩; have HBe := Lib.hid (low_low HBd.out hbe); have Ke := Lib.hid (Kd.out.below hbe Kd.out.lt); obtain ⟨q0, q1, q2, q3, q4⟩ := blk_cells4 Ke.out; have HSe := Lib.hid (sl_up (sl_up HS3.out HEd.out) hbe); clear hbe)
    | (go_at_call 19; refine (GT.out _ _ HSe.out).mono ?_; rintro e wf ⟨dvf, evf, rfl, hsf, hbf⟩; obtain ⟨A8, n8, c8, rfl, hq_⟩ := id hsf.1; obtain ⟨A9, n9, c9, rfl, hr_⟩ := id hsf.2; clear hq_ hr_; have HBf := Lib.hid (low1 (low_low HBe.out hbf) (.cells #[.slice A8 n8 c8, .int .i64 s.up, .int .i64 s.bo, .slice A9 n9 c9] 25)); have Kf := Lib.hid ((Ke.out.below hbf Ke.out.lt).alloc (.cells #[.slice A8 n8 c8, .int .i64 s.up, .int .i64 s.bo, .slice A9 n9 c9] 25)); obtain ⟨r0, r1, r2, r3, r4⟩ := blk_cells4 (Ke.out.below hbf Ke.out.lt); have Xf := Lib.hid (Blk.new wf 25 #[.slice A8 n8 c8, .int .i64 s.up, .int .i64 s.bo, .slice A9 n9 c9]); have HXf := Lib.hid (hsf.up (low1 (Below.refl _ _) (.cells #[.slice A8 n8 c8, .int .i64 s.up, .int .i64 s.bo, .slice A9 n9 c9] 25))); have HSf := Lib.hid (sl_up (sl_up HSe.out hbf) (low1 (Below.refl _ _) (.cells #[.slice A8 n8 c8, .int .i64 s.up, .int .i64 s.bo, .slice A9 n9 c9] 25))); clear hsf hbf))
  have HXg := HXf
  have HSg := HSf
  have HBg := HBf
  have Kg := Kf
  have Xg := Xf
  clear HXf HSf HBf Kf Xf
  generalize wf.alloc (.cells #[.slice A8 n8 c8, .int .i64 s.up, .int .i64 s.bo, .slice A9 n9 c9] 25) = wg at *
  obtain ⟨p0, p1, p2, p3, p4⟩ := blk_cells4 Kg.out
  obtain ⟨o0, o1, o2, o3, o4⟩ := blk_cells4 Xg.out
  go_wp2_with (first
    | (go_at_call 21; refine (RB.out _ HBg.out).mono ?_; rintro e wh ⟨vh, rfl, hsh, hbh⟩; obtain ⟨A10, n10, c10, rfl, _⟩ := id hsh; have HSh := Lib.hid (sl_up HSg.out hbh); have HSb := Lib.hid hsh; have HBh := Lib.hid (low_low HBg.out hbh); have Kh := Lib.hid (Kg.out.below hbh Kg.out.lt); have Xh := Lib.hid (Xg.out.below hbh Xg.out.lt); have HXh := Lib.hid (HXg.out.up hbh); obtain ⟨s0, s1, s2, s3, s4⟩ := blk_cells4 Kh.out; obtain ⟨v0, v1, v2, v3, v4⟩ := blk_cells4 Xh.out; clear hbh hsh)
    | (go_at_call 20; refine (SQ.out _ _ _ _ _ _ _ HSh.out HSb.out).mono ?_; rintro e wi ⟨rfl, mi, rfl⟩; have HBi := Lib.hid (below_drewN HBh.out mi); have HXi := Lib.hid (show StM (wh.drewN mi) (wh.drewN mi).heap.size (.slice A8 n8 c8) (.slice A9 n9 c9) s from HXh.out))
    | (go_at_call 14; refine (RC.out _ _ _ _ _ _ _ HXi.out HBi.out).mono ?_; rintro e wk ⟨rfl, hbk⟩; have HBk := Lib.hid (low_low HBi.out hbk); clear hbk)
    | (go_at_call 9; refine (awake11_any _).mono ?_; rintro e w9 ⟨rfl, hb9⟩; have HB9 := Lib.hid (low_low HBk.out hb9); clear hb9))
  go_ret
  exact ⟨rfl, HB9.out⟩
theorem walk (u0a u0b u0c u0d u1a u1b u1c u1d : Value) (w : World) (w0a : LasR w u0a) (w0b : NumOf .i64 u0b) (w0c : NumOf .i64 u0c) (w0d : LkR w u0d) (w1a : LasR w u1a) (w1b : NumOf .i64 u1b) (w1c : NumOf .i64 u1c) (w1d : LkR w u1d) :
    Calls Try.prog 4 #[.agg #[u0a, u0b, u0c, u0d], .agg #[u1a, u1b, u1c, u1d]] w fun e w' => e = .returned (.bool true) ∧ Below w.heap.size w w' := by
  obtain ⟨s, rfl, rfl, h⟩ := st_in w0a w0b w0c w0d
  obtain ⟨t, rfl, rfl, h'⟩ := st_in w1a w1b w1c w1d
  obtain ⟨A1, n1, c1, rfl, hr_⟩ := id h.1
  obtain ⟨A2, n2, c2, rfl, hs_⟩ := id h.2
  obtain ⟨A3, n3, c3, rfl, ht_⟩ := id h'.1
  obtain ⟨A4, n4, c4, rfl, hu_⟩ := id h'.2
  clear hr_ hs_ ht_ hu_
  cases hs : lightS s
  · exact walk_dark s t A1 A2 A3 A4 n1 c1 n2 c2 n3 c3 n4 c4 w h h' hs
  cases ht : lightS t
  · exact walk_dark2 s t A1 A2 A3 A4 n1 c1 n2 c2 n3 c3 n4 c4 w h h' hs ht
  cases hm : mayS s
  · exact walk_no s t A1 A2 A3 A4 n1 c1 n2 c2 n3 c3 n4 c4 w h h' hs ht hm
  · exact walk_yes s t A1 A2 A3 A4 n1 c1 n2 c2 n3 c3 n4 c4 w h h' hs ht hm
open Go.ChangeShapes Go.WideShapes Go.ChangeAt Go.RowKit
theorem own : ownKnob Try.prog.godebug = none := by kernel_rfl
theorem laidOut : laidOutB Try.prog = true := by kernel_rfl
/-! the step from the walk to the row -/
set_option maxRecDepth 100000 in
theorem lifted (os : Os) (started : os.Started) (H : Type) (enc : TypeId × Value → H) :
    ReturnsInHanded {} Try.checked os 4 .any (Rows.basePutsSpec.pre6 enc Try.prog Try.f4 Rows.basePutsRow.domain false) (Rows.basePutsSpec.post enc Try.prog Try.f4 false true false false) := by
  refine returnsInHanded_of_change (C := Try.checked) own started (by kernel_rfl) Try.func4
    (ChangeSpec.witness6 (enc := enc) (C := Try.checked) false ⟨#[], #[.agg #[.slice none 0 0, .int .i64 0, .int .i64 0, .slice none 0 0], .agg #[.slice none 0 0, .int .i64 0, .int .i64 0, .slice none 0 0]], []⟩ 8 (by kernel_rfl) (by kernel_rfl) (by kernel_rfl) (by kernel_rfl)) ?_
  intro W base args ds gs before hval0 hW hcnd _
  have hval : ∀ (j : Nat) t v, Try.f4.params[j]? = some t → args[j]? = some v → Value.okWide Try.prog W .any base t v := hval0
  have hW' := hW
  obtain ⟨p, q, hA0, hV, rfl, hfz, hnd⟩ := hW
  have hA : DataW.TrodAll enc Try.prog W 0 (fun _ => true) true Try.f4.params.toList args.toList ds p := hA0
  rw [Try.params4] at hA hval
  obtain ⟨v0, vs0, d0, ds0, p0, q0, hargs, rfl, rfl, h0, r0⟩ := trodAll_cons hA
  obtain ⟨v1, vs1, d1, ds1, p1, q1, rfl, rfl, rfl, h1, r1⟩ := trodAll_cons r0
  obtain ⟨rfl, rfl, rfl⟩ := trodAll_nil r1
  obtain rfl : args = #[v0, v1] := by cases args; simp_all
  obtain ⟨rfl, rfl⟩ := trodVars_none hV
  have k0 := h0
  have lt0 : ∀ x ∈ p0, x.block < W.heap.size := by obtain ⟨m, hm⟩ := k0; exact DataW.trod_lt m _ _ _ hm
  obtain ⟨u0a, u0b, u0c, u0d, rfl, w0a, w0b, w0c, w0d⟩ := open_state_at (hval 0 25 v0 rfl rfl) h0
  have k1 := h1
  have lt1 : ∀ x ∈ p1, x.block < W.heap.size := by obtain ⟨m, hm⟩ := k1; exact DataW.trod_lt m _ _ _ hm
  obtain ⟨u1a, u1b, u1c, u1d, rfl, w1a, w1b, w1c, w1d⟩ := open_state_at (hval 1 25 v1 rfl rfl) h1
  clear hA0 hval0
  refine (walk u0a u0b u0c u0d u1a u1b u1c u1d W w0a w0b w0c w0d w1a w1b w1c w1d).mono fun e W' ⟨he, bel⟩ => ?_
  subst he
  exact ⟨_, rfl, _, _, _, [], _, [], hW', trodAll_mk1 (shut_bool Try.underlying4 _), (trodAll_cons_mk (Below.trod laidOut (by kernel_rfl) (of_decide_eq_true (by kernel_rfl)) k0 bel lt0) (trodAll_cons_mk (Below.trod laidOut (by kernel_rfl) (of_decide_eq_true (by kernel_rfl)) k1 bel lt1) trodAll_mk0)), rfl, bel.frame _, fun h => by cases h⟩

theorem over : Rows.basePutsRow.holds Try.pinned (OpenSpec.ofChange Rows.basePutsSpec) :=
  OpenClaim.holds_of_wide 4 Try.f4 rfl rfl rfl rfl rfl rfl rfl ⟨rfl, rfl, rfl, rfl, rfl⟩ rfl rfl rfl rfl rfl (by kernel_rfl) Try.func4 (by kernel_rfl)
    (of_decide_eq_true (by kernel_rfl)) (by unfold Func.isWrapper; first | (rw [if_pos (by decide +kernel)]; kernel_rfl) | (rw [if_neg (by decide +kernel)]; exact ⟨rfl, rfl⟩))
    (fun os started H enc _ => lifted os started H enc)

/-- the statement -/
theorem proved : Rows.BasePutsSaid := over
end Go.Proofs.Ytcojimbnenibnaa.basePuts
