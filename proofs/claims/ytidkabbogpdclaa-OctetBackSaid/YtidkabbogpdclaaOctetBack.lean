/- OctetBack: for every list of puts the law returns true and its argument reads as before: numbers and texts that are put, one behind the other, are read so. No condition. -/
import Derived.Test.YtidkabbogpdclaaAwake
import Derived.Test.YtidkabbogpdclaaRecs
import Derived.Deep.RegionHeld3
import Derived.StillTailTactics
import Derived.IntWalk
import Derived.WalkKit
import Derived.ProofKit
import Derived.OpenShut
import Derived.ShutString
import Derived.ChangeOld
import Derived.Below
namespace Go.Proofs.Ytidkabbogpdclaa.octetBack
open Go.Proofs.Ytidkabbogpdclaa.Mem Go.Proofs.Ytidkabbogpdclaa.Oct
open Go.ChangeShapes Go.WideShapes Go.ChangeAt Go.RowKit
open Go.ChangeMaps (open_string shut_string)
set_option linter.unusedVariables false

theorem own : ownKnob Try.prog.godebug = none := by kernel_rfl
theorem laidOut : laidOutB Try.prog = true := by kernel_rfl
theorem same_true (A : Option Addr) (n c : Nat) (v' : Value) (B B' : Nat) (xs : List Nat) (w : World) (h : Bts w B A n xs) (h' : Sl w B' v' xs) :
    Calls Try.prog 11 #[.slice A n c, v'] w fun e w' => e = .returned (.bool true) ∧ ∃ m, w' = w.drewN m := by
  obtain ⟨A', n', c', rfl, hb', _⟩ := h'
  have := rsame_any A A' n n' c c' B B' xs xs w h hb'
  rwa [decide_eq_true rfl] at this
/-! what one put adds, and how it is read -/
structure E where
  W : Int
  N : Nat
  A : Option Addr
  n : Nat
  c : Nat
  ts : List Nat
def part (e : E) : List Nat := be e.W.toNat e.N ++ (be 2 e.ts.length ++ e.ts)
def cat (f : Nat → E) (k : Nat) : List Nat := (List.range k).flatMap fun i => part (f i)
theorem cat_succ (f : Nat → E) (k : Nat) : cat f (k + 1) = cat f k ++ part (f k) := by
  simp [cat, List.range_succ]
theorem cat_more (f : Nat → E) (k m : Nat) : ∃ zs, cat f (k + m) = cat f k ++ zs := by
  induction m with
  | zero => exact ⟨[], by simp⟩
  | succ m ih =>
    obtain ⟨zs, h⟩ := ih
    exact ⟨zs ++ part (f (k + m)), by rw [← Nat.add_assoc, cat_succ, h, List.append_assoc]⟩
theorem rnum_put (m N : Nat) (zs : List Nat) (h1 : 1 ≤ m) (h8 : m ≤ 8) : rnum (be m N ++ zs, true) (m : Int) = ((zs, true), N % 256 ^ m) := by
  rw [rnum_yes (isW_of h1 h8) (by rw [List.length_append, be_length]; omega)]
  rw [List.drop_append_of_le_length (by rw [be_length]; exact Nat.le_refl _), List.take_append_of_le_length (by rw [be_length]; exact Nat.le_refl _)]
  rw [List.drop_of_length_le (by rw [be_length]; exact Nat.le_refl _), List.take_of_length_le (by rw [be_length]; exact Nat.le_refl _), num_be]
  rfl
theorem rtext_put (ts zs : List Nat) (h : ts.length ≤ 65535) : rtext ((be 2 ts.length ++ ts) ++ zs, true) = ((zs, true), ts) := by
  have e : rnum ((be 2 ts.length ++ ts) ++ zs, true) 2 = ((ts ++ zs, true), ts.length) := by
    rw [List.append_assoc]
    have := rnum_put 2 ts.length (ts ++ zs) (by omega) (by omega)
    rw [Nat.mod_eq_of_lt (by omega)] at this
    exact this
  rw [rtext_yes (by rw [e]; exact ⟨rfl, by simp⟩), e]
  simp
/-- element i of the argument -/
def Elem (w : World) (b off i : Nat) (e : E) : Prop :=
  w.cell? ⟨b, off + (i * 4 + 1), none⟩ = some (.int .i64 e.W) ∧ w.cell? ⟨b, off + (i * 4 + 2), none⟩ = some (.int .u64 (e.N : Nat)) ∧ w.cell? ⟨b, off + (i * 4 + 3), none⟩ = some (.slice e.A e.n e.c) ∧
  e.N < 18446744073709551616 ∧ (e.n ≤ 300 → Sl w w.heap.size (.slice e.A e.n e.c) e.ts)
def OkE (e : E) : Prop := e.n ≤ 300 ∧ 1 ≤ e.W ∧ e.W ≤ 8
theorem elem_of {w : World} {b off i : Nat} (h : ∀ j, j < 4 → ∃ v, w.cell? ⟨b, off + (i * 4 + j), none⟩ = some v ∧ (match j with | 0 => RowOf .u8 w v | 1 => NumOf .i64 v | 2 => NumOf .u64 v | 3 => RowOf .u8 w v | _ => True)) : ∃ e, Elem w b off i e := by
  obtain ⟨v1, c1, n1, rfl, w1⟩ := h 1 (by omega)
  obtain ⟨v2, c2, n2, rfl, w2⟩ := h 2 (by omega)
  obtain ⟨v3, c3, A, l, c, zs, rfl, w3⟩ := h 3 (by omega)
  have hr := Go.bounds_u64 w2
  obtain ⟨N, rfl⟩ : ∃ N : Nat, n2 = N := ⟨n2.toNat, by omega⟩
  by_cases hl : l ≤ 300
  · obtain ⟨xs, hs, _⟩ := sl_of_row w3 (by omega)
    exact ⟨⟨n1, N, A, l, c, xs⟩, c1, c2, c3, (by show N < _; omega), fun _ => hs⟩
  · exact ⟨⟨n1, N, A, l, c, []⟩, c1, c2, c3, (by show N < _; omega), fun h => absurd h hl⟩
theorem elems {w : World} {b off len : Nat} (h : ∀ i, i < len → ∃ e, Elem w b off i e) : ∃ f : Nat → E, ∀ i, i < len → Elem w b off i (f i) := by
  induction len with
  | zero => exact ⟨fun _ => ⟨0, 0, none, 0, 0, []⟩, fun i hi => absurd hi (by omega)⟩
  | succ n ih =>
    obtain ⟨f, hf⟩ := ih (fun i hi => h i (by omega))
    obtain ⟨e, he⟩ := h n (by omega)
    refine ⟨fun i => if i = n then e else f i, fun i hi => ?_⟩
    by_cases hn : i = n
    · subst hn
      simpa using he
    · simp only [if_neg hn]
      exact hf i (by omega)
theorem elem_ts {w : World} {b off i : Nat} {e : E} (h : Elem w b off i e) (hn : e.n ≤ 300) : e.n = e.ts.length := (Sl.cell (h.2.2.2.2 hn)).1
theorem putBoth (ys : List Nat) (e : E) (hn : e.n = e.ts.length) (hok : OkE e) : putText (putNum ys e.W e.N) e.ts = ys ++ part e := by
  obtain ⟨h1, h2, h3⟩ := hok
  unfold putText putNum part
  rw [if_pos (by omega), if_pos (by simp [isW]; omega), List.append_assoc]
theorem cat_length (f : Nat → E) (k : Nat) (h : ∀ i, i < k → (f i).ts.length ≤ 300 ∧ (f i).W ≤ 8) : (cat f k).length ≤ 310 * k := by
  induction k with
  | zero => simp [cat]
  | succ k ih =>
    have := ih (fun i hi => h i (by omega))
    obtain ⟨h1, h2⟩ := h k (by omega)
    rw [cat_succ]
    simp only [part, List.length_append, be_length]
    omega
set_option maxHeartbeats 400000 in
theorem walk_long (a0 : Option Addr) (n0 c0 : Nat) (w : World) (h : 20 < n0) :
    Calls Try.prog 5 #[.slice a0 n0 c0] w fun e w' => e = .returned (.bool true) ∧ Below w.heap.size w w' := by
  have hd : decide ((20 : Int) < n0) = true := by simp; omega
  go_enter Try.func5, Try.ntmps5
  go_wp2_with (go_at_call 8; refine (awake_any _).mono ?_; rintro e w' ⟨rfl, hb⟩)
  go_ret
  exact ⟨rfl, hb⟩
set_option maxRecDepth 20000 in
set_option maxHeartbeats 700000 in
theorem walk_short (a0 : Option Addr) (b0 o0 n0 c0 : Nat) (f : Nat → E) (w : World) (h0 : n0 ≤ 20) (ha0 : 0 < n0 → a0 = some ⟨b0, o0, none⟩) (hb0 : 0 < n0 → b0 < w.heap.size) (hf : ∀ i, i < n0 → Elem w b0 o0 i (f i)) :
    Calls Try.prog 5 #[.slice a0 n0 c0] w fun e w' => e = .returned (.bool true) ∧ Below w.heap.size w w' := by
  have hd : decide ((20 : Int) < n0) = false := by simp; omega
  have HF := Lib.hid hf; clear hf
  have HA0 := Lib.hid ha0; clear ha0
  have HB0 := Lib.hid hb0; clear hb0
  go_enter Try.func5, Try.ntmps5
  go_wp2
  go_loopw [3, 4] (fun v i wr => ∃ k : Nat, k ≤ n0 ∧ i = .int .i64 k ∧ Sl wr wr.heap.size v (cat f k) ∧ (∀ j, j < k → OkE (f j)) ∧ Below w.heap.size w wr) (fun _ i _ => n0 - (intOf i).toNat)
  case atStart => exact ⟨0, Nat.zero_le _, rfl, sl_own (xs := []) (World.ownsRow_lit w #[] 0 (Nat.le_refl _) (by unfold maxLen; omega) rfl) (by simp) (by omega), fun j hj => absurd hj (by omega), (Below.refl _ _).alloc (Nat.le_refl _) _⟩
  case round =>
    obtain ⟨k, hk, rfl, hsl, hok, hbel⟩ := hrel
    have HS := Lib.hid hsl; clear hsl
    have HOK := Lib.hid hok; clear hok
    have HB := Lib.hid hbel; clear hbel
    by_cases hlt : k < n0
    · obtain rfl := HA0.out (by omega)
      have hb0 := HB0.out (by omega)
      obtain ⟨c1, c2, c3, hN, hts⟩ := HF.out k hlt
      have d1 := (HB.out.cell (p := ⟨b0, o0 + (k * 4 + 1), none⟩) hb0).trans c1
      have d2 := (HB.out.cell (p := ⟨b0, o0 + (k * 4 + 2), none⟩) hb0).trans c2
      have d3 := (HB.out.cell (p := ⟨b0, o0 + (k * 4 + 3), none⟩) hb0).trans c3
      rw [← Nat.add_assoc] at d1 d2 d3
      clear c1 c2 c3
      have HTS := Lib.hid hts; clear hts
      have hcl : (cat f k).length ≤ 6200 := by
        have := cat_length f k (fun i hi => by
          have h1 := HOK.out i hi
          have h2 := elem_ts (HF.out i (by omega)) h1.1
          exact ⟨by have := h1.1; omega, h1.2.2⟩)
        omega
      have hcs := cat_succ f k
      have hnk : ∀ j, j < k + 1 → OkE (f k) → OkE (f j) := fun j hj h => by
        by_cases e : j = k
        · rw [e]; exact h
        · exact HOK.out j (by omega)
      have HNK := Lib.hid hnk; clear hnk
      generalize f k = e at *
      obtain ⟨W, N, A, n, c, ts⟩ := e
      simp only at d1 d2 d3 hN
      have HCS := Lib.hid hcs; clear hcs
      by_cases hn : 300 < n
      · have hdn : decide ((300 : Int) < n) = true := by simp; omega
        go_wp2_with (go_at_call 8; refine (awake_any _).mono ?_; rintro e w' ⟨rfl, hb⟩)
        go_ret
        exact ⟨rfl, HB.out.trans (hb.mono HB.out.size)⟩
      · have hdn : decide ((300 : Int) < n) = false := by simp; omega
        by_cases hw1 : W < 1
        · have hdw : decide (W < 1) = true := by simpa using hw1
          go_wp2_with (go_at_call 8; refine (awake_any _).mono ?_; rintro e w' ⟨rfl, hb⟩)
          go_ret
          exact ⟨rfl, HB.out.trans (hb.mono HB.out.size)⟩
        · have hdw : decide (W < 1) = false := by simpa using hw1
          by_cases hw8 : 8 < W
          · have hdv : decide (8 < W) = true := by simpa using hw8
            go_wp2_with (go_at_call 8; refine (awake_any _).mono ?_; rintro e w' ⟨rfl, hb⟩)
            go_ret
            exact ⟨rfl, HB.out.trans (hb.mono HB.out.size)⟩
          · have hdv : decide (8 < W) = false := by simpa using hw8
            have hsl : Sl w w.heap.size (.slice A n c) ts := HTS.out (by simp only; omega)
            have hnt : n = ts.length := (Sl.cell hsl).1
            have hoe : OkE ⟨W, N, A, n, c, ts⟩ := ⟨by simp only; omega, by simp only; omega, by simp only; omega⟩
            have hpb := putBoth (cat f k) ⟨W, N, A, n, c, ts⟩ hnt hoe
            simp only at hpb
            rw [← HCS.out] at hpb
            have t1 := put_num _ W N (cat f k) wr.drew HS.out.drew (by omega) hN
            have hpl := putNum_length (cat f k) W N
            have t2 := fun (v : Value) (W' : World) (hW : Below wr.heap.size wr W') (hs : Sl W' W'.heap.size v (putNum (cat f k) W N)) => put_text v (.slice A n c) (putNum (cat f k) W N) ts W' hs ((hsl.below (HB.out.trans (hW.mono HB.out.size)) (Nat.le_refl _)).more (Nat.le_trans HB.out.size hW.size)) (by omega) (by omega)
            rw [hpb, decide_eq_true (show ts.length ≤ 65535 by omega)] at t2
            generalize putNum (cat f k) W N = pn at *
            have T1 := Lib.hid t1; clear t1
            have T2 := Lib.hid t2; clear t2
            have HOE := Lib.hid hoe; clear hoe
            clear hpb hnt hsl
            go_wp2
            go_still_tail 11, (by kernel_rfl)
            change wpList _ _ _ _ _ wr.drew
            go_wp2_with (first
              | (go_at_call 18; refine (T1.out).mono ?_; rintro e w1 ⟨v1, rfl, hs1, hb1⟩; have HS1 := Lib.hid hs1; clear hs1; have hb1 : Below wr.heap.size wr w1 := (Below.refl _ wr).drew.trans hb1; have g3 := (hb1.cell (p := ⟨b0, o0 + k * 4 + 3, none⟩) (Nat.lt_of_lt_of_le hb0 HB.out.size)).trans d3; have HB1 := Lib.hid hb1; clear hb1)
              | (go_at_call 19; refine (T2.out _ w1 HB1.out HS1.out).mono ?_; rintro e w2 ⟨v2, rfl, hs2, hb2⟩; have HS2 := Lib.hid hs2; clear hs2; have HB2 := Lib.hid (HB.out.trans ((HB1.out.trans (hb2.mono HB1.out.size)).mono HB.out.size)); clear hb2))
            go_roundw
            case rel => exact ⟨k + 1, by omega, by go_num, HS2.out, fun j hj => HNK.out j hj HOE.out, HB2.out⟩
            case measure => simp [intOf]; omega
    · have hkn : k = n0 := by omega
      subst hkn
      have hall := HOK.out
      have hcl : (cat f k).length ≤ 6200 := by
        have := cat_length f k (fun i hi => by
          have h1 := HOK.out i hi
          have h2 := elem_ts (HF.out i (by omega)) h1.1
          exact ⟨by have := h1.1; omega, h1.2.2⟩)
        omega
      have t1 := read_any _ (cat f k) wr HS.out (by omega)
      have T1 := Lib.hid t1; clear t1
      have HALL := Lib.hid hall; clear hall
      clear HOK HS
      go_wp2_with (go_at_call 9; refine (T1.out).mono ?_; rintro e wa ⟨g, rfl, hg, hra, hba⟩; have HRA := Lib.hid hra; clear hra; have HBA := Lib.hid (HB.out.trans (hba.mono HB.out.size)); clear hba; have hgw := Nat.le_trans HB.out.size hg)
      go_loopw [8] (fun i ws => ∃ (m : Nat) (ys : List Nat), m ≤ k ∧ i = .int .i64 m ∧ cat f k = cat f m ++ ys ∧ Rdr ws g (ys, true) ∧ Below w.heap.size w ws) (fun i _ => k - (intOf i).toNat)
      case atStart => exact ⟨0, cat f k, Nat.zero_le _, rfl, rfl, HRA.out, HBA.out⟩
      case round =>
        obtain ⟨m, ys, hm, rfl, hys, hr, hbel⟩ := hrel
        have HR := Lib.hid hr; clear hr
        have HB2 := Lib.hid hbel; clear hbel
        by_cases hlt : m < k
        · obtain rfl := HA0.out (by omega)
          have hb0 := HB0.out (by omega)
          obtain ⟨c1, c2, c3, hN, hts⟩ := HF.out m hlt
          obtain ⟨hn, hw1, hw8⟩ := HALL.out m hlt
          have hnt := elem_ts (HF.out m hlt) hn
          have d1 := (HB2.out.cell (p := ⟨b0, o0 + (m * 4 + 1), none⟩) hb0).trans c1
          have d2 := (HB2.out.cell (p := ⟨b0, o0 + (m * 4 + 2), none⟩) hb0).trans c2
          have d3 := (HB2.out.cell (p := ⟨b0, o0 + (m * 4 + 3), none⟩) hb0).trans c3
          rw [← Nat.add_assoc] at d1 d2 d3
          clear c1 c2 c3
          have hsl := hts hn
          clear hts
          obtain ⟨zs, hzs⟩ : ∃ zs, ys = part (f m) ++ zs ∧ cat f k = cat f (m + 1) ++ zs := by
            obtain ⟨zs, hz⟩ := cat_more f (m + 1) (k - (m + 1))
            rw [show m + 1 + (k - (m + 1)) = k by omega] at hz
            refine ⟨zs, ?_, hz⟩
            rw [hys, cat_succ, List.append_assoc] at hz
            exact List.append_cancel_left hz
          obtain ⟨rfl, hcat⟩ := hzs
          have HCAT := Lib.hid hcat; clear hcat hys
          have he := HF.out m hlt
          generalize f m = e at *
          obtain ⟨W, N, A, n, c, ts⟩ := e
          simp only at d1 d2 d3 hN hn hw1 hw8 hnt hsl
          have q1 := he.1
          have q3 := he.2.2.1
          simp only at q1 q3
          rw [← Nat.add_assoc] at q1 q3
          clear he
          obtain ⟨W, rfl⟩ : ∃ W' : Nat, W = W' := ⟨W.toNat, by omega⟩
          have hpart : part ⟨(W : Int), N, A, n, c, ts⟩ ++ zs = be W N ++ ((be 2 ts.length ++ ts) ++ zs) := by
            unfold part
            rw [List.append_assoc]
            rfl
          rw [hpart] at HR
          have hts3 : ts.length ≤ 300 := by omega
          clear hnt
          have HSL := Lib.hid hsl; clear hsl hpart
          obtain ⟨p, hp⟩ : ∃ p, p = 256 ^ W := ⟨_, rfl⟩
          have hp2 : p = 2 ^ (8 * W) := by rw [hp, Nat.pow_mul]
          have hp0 : 0 < p := by rw [hp]; exact Nat.pow_pos (by omega)
          have t3 := fun (W' : World) (hW : Rdr W' g (be W N ++ ((be 2 ts.length ++ ts) ++ zs), true)) => rnum_any g _ W W' hW
          rw [rnum_put W N _ (by omega) (by omega), ← hp] at t3
          have t4 := fun (W' : World) (hW : Rdr W' g ((be 2 ts.length ++ ts) ++ zs, true)) => rtext_any g _ W' hW
          rw [rtext_put ts zs (by omega)] at t4
          simp only at t3 t4
          have T4 := Lib.hid t4; clear t4
          have Q1 := Lib.hid q1; clear q1
          have Q3 := Lib.hid q3; clear q3
          by_cases h8 : W < 8
          · have hd8 : decide ((W : Int) < 8) = true := by simp; omega
            have hwr : IntKind.u64.wrap (2 ^ (8 * W)) = (p : Int) := by
              have h1 : ((2 : Int) ^ (8 * W)) = (p : Int) := by rw [hp2]; simp
              have h2 : p < 256 ^ 8 := by rw [hp]; exact Nat.pow_lt_pow_right (by omega) h8
              rw [h1]
              exact IntWalk.u64_in _ (by omega)
            have hpn : ((p : Int) == 0) = false := beq_false_of_ne (by omega)
            have e3 : ((N % p : Nat) : Int) = (N : Int) % (p : Int) := by simp
            rw [e3] at t3
            have T3 := Lib.hid t3; clear t3
            clear hp hp2 e3
            go_wp2
            go_region_held3 (fun W' => W'.cell? ⟨b0, o0 + m * 4 + 1, none⟩ = some (.int .i64 (W : Nat)) ∧ W'.cell? ⟨b0, o0 + m * 4 + 3, none⟩ = some (.slice A n c))
              (first
                | exact ⟨d1, d3⟩
                | exact ⟨e1, e3⟩
                | exact ⟨f1, f3⟩
                | exact ⟨g1, g3⟩)
              (first
                | (go_at_call 14; refine (T3.out _ (by exact HR.out)).mono ?_; rintro e w3 ⟨rfl, hr3, hg3⟩; have HR3 := Lib.hid hr3; clear hr3; have hb3 : Below w.heap.size w w3 := (by first | exact HB2.out.grown hg3 HB2.out.size (fun q hq => by cases hq; exact hgw) | exact HB2.out.drew.grown hg3 HB2.out.size (fun q hq => by cases hq; exact hgw)); have e1 := (hb3.cell (p := ⟨b0, o0 + m * 4 + 1, none⟩) hb0).trans Q1.out; have e3 := (hb3.cell (p := ⟨b0, o0 + m * 4 + 3, none⟩) hb0).trans Q3.out; have HB3 := Lib.hid hb3; clear hb3 hg3)
                | (go_at_call 12; refine (T4.out _ (by exact HR3.out)).mono ?_; rintro e w4 ⟨A4, n4, c4, rfl, hx4, hn4, hm4, hr4, hg4⟩; have HR4 := Lib.hid hr4; clear hr4; have HX4 := Lib.hid hx4; clear hx4; have hb4 : Below w.heap.size w w4 := HB3.out.grown hg4 HB3.out.size (fun q hq => by cases hq; exact hgw); have f1 := (hb4.cell (p := ⟨b0, o0 + m * 4 + 1, none⟩) hb0).trans Q1.out; have f3 := (hb4.cell (p := ⟨b0, o0 + m * 4 + 3, none⟩) hb0).trans Q3.out; have HB4 := Lib.hid hb4; clear hb4 hg4)
                | (go_at_call 11; refine (same_true A4 n4 c4 _ _ _ ts w4 HX4.out (HSL.out.below HB4.out (Nat.le_refl _))).mono ?_; rintro e w5 ⟨rfl, m5, rfl⟩; have g1 : (w4.drewN m5).cell? ⟨b0, o0 + m * 4 + 1, none⟩ = some (.int .i64 (W : Nat)) := f1; have g3 : (w4.drewN m5).cell? ⟨b0, o0 + m * 4 + 3, none⟩ = some (.slice A n c) := f3))
            go_wp2
            go_roundw
            case rel => exact ⟨m + 1, zs, by omega, by go_num, HCAT.out, HR4.out.drewN _, below_drewN HB4.out _⟩
            case measure => simp [intOf]; omega
          · have hd8 : decide ((W : Int) < 8) = false := by simp; omega
            have e3 : ((N % p : Nat) : Int) = (N : Int) := by
              rw [hp, show W = 8 by omega, Nat.mod_eq_of_lt (by omega)]
            rw [e3] at t3
            have T3 := Lib.hid t3; clear t3
            clear hp hp2 e3
            go_wp2
            go_region_held3 (fun W' => W'.cell? ⟨b0, o0 + m * 4 + 1, none⟩ = some (.int .i64 (W : Nat)) ∧ W'.cell? ⟨b0, o0 + m * 4 + 3, none⟩ = some (.slice A n c))
              (first
                | exact ⟨d1, d3⟩
                | exact ⟨e1, e3⟩
                | exact ⟨f1, f3⟩
                | exact ⟨g1, g3⟩)
              (first
                | (go_at_call 14; refine (T3.out _ (by exact HR.out)).mono ?_; rintro e w3 ⟨rfl, hr3, hg3⟩; have HR3 := Lib.hid hr3; clear hr3; have hb3 : Below w.heap.size w w3 := (by first | exact HB2.out.grown hg3 HB2.out.size (fun q hq => by cases hq; exact hgw) | exact HB2.out.drew.grown hg3 HB2.out.size (fun q hq => by cases hq; exact hgw)); have e1 := (hb3.cell (p := ⟨b0, o0 + m * 4 + 1, none⟩) hb0).trans Q1.out; have e3 := (hb3.cell (p := ⟨b0, o0 + m * 4 + 3, none⟩) hb0).trans Q3.out; have HB3 := Lib.hid hb3; clear hb3 hg3)
                | (go_at_call 12; refine (T4.out _ (by exact HR3.out)).mono ?_; rintro e w4 ⟨A4, n4, c4, rfl, hx4, hn4, hm4, hr4, hg4⟩; have HR4 := Lib.hid hr4; clear hr4; have HX4 := Lib.hid hx4; clear hx4; have hb4 : Below w.heap.size w w4 := HB3.out.grown hg4 HB3.out.size (fun q hq => by cases hq; exact hgw); have f1 := (hb4.cell (p := ⟨b0, o0 + m * 4 + 1, none⟩) hb0).trans Q1.out; have f3 := (hb4.cell (p := ⟨b0, o0 + m * 4 + 3, none⟩) hb0).trans Q3.out; have HB4 := Lib.hid hb4; clear hb4 hg4)
                | (go_at_call 11; refine (same_true A4 n4 c4 _ _ _ ts w4 HX4.out (HSL.out.below HB4.out (Nat.le_refl _))).mono ?_; rintro e w5 ⟨rfl, m5, rfl⟩; have g1 : (w4.drewN m5).cell? ⟨b0, o0 + m * 4 + 1, none⟩ = some (.int .i64 (W : Nat)) := f1; have g3 : (w4.drewN m5).cell? ⟨b0, o0 + m * 4 + 3, none⟩ = some (.slice A n c) := f3))
            go_wp2
            go_roundw
            case rel => exact ⟨m + 1, zs, by omega, by go_num, HCAT.out, HR4.out.drewN _, below_drewN HB4.out _⟩
            case measure => simp [intOf]; omega
        · have hmk : m = k := by omega
          subst hmk
          have hzs : ys = [] := by
            have h := congrArg List.length hys
            rw [List.length_append] at h
            exact List.eq_nil_of_length_eq_zero (by omega)
          subst hzs
          have t7 := done_any g ([], true) wr HR.out
          rw [show ((true && decide (([] : List Nat).length = 0)) = true) by decide] at t7
          have T7 := Lib.hid t7; clear t7
          go_wp2_with (first
            | (go_at_call 17; refine (T7.out).mono ?_; rintro e w6 ⟨rfl, rfl⟩)
            | (go_at_call 8; refine (awake_any _).mono ?_; rintro e w7 ⟨rfl, l7⟩))
          go_ret
          exact ⟨rfl, HB2.out.trans (l7.mono HB2.out.size)⟩
theorem walk (a0 : Option Addr) (len0 cap0 : Nat) (w : World) (w0 : IsRecs w a0 len0 cap0 4 (fun j v => match j with | 0 => RowOf .u8 w v | 1 => NumOf .i64 v | 2 => NumOf .u64 v | 3 => RowOf .u8 w v | _ => True)) :
    Calls Try.prog 5 #[.slice a0 len0 cap0] w fun e w' => e = .returned (.bool true) ∧ Below w.heap.size w w' := by
  by_cases h : 20 < len0
  · exact walk_long a0 len0 cap0 w h
  · by_cases h0 : 0 < len0
    · obtain ⟨b, off, rfl, hb, hcell⟩ := rec_at w0 (by omega) h0
      obtain ⟨f, hf⟩ := elems (w := w) (b := b) (off := off) (len := len0) (fun i hi => elem_of (hcell i hi))
      exact walk_short _ b off len0 cap0 f w (by omega) (fun _ => rfl) (fun _ => hb) hf
    · obtain rfl : len0 = 0 := by omega
      exact walk_short a0 0 0 0 cap0 (fun _ => ⟨0, 0, none, 0, 0, []⟩) w (by omega) (fun h => absurd h (by omega)) (fun h => absurd h (by omega)) (fun i hi => absurd hi (by omega))
/-! the step from the walk to the row -/
set_option maxRecDepth 100000 in
theorem lifted (os : Os) (started : os.Started) (H : Type) (enc : TypeId × Value → H) :
    ReturnsInHanded {} Try.checked os 5 .any (Rows.octetBackSpec.pre6 enc Try.prog Try.f5 Rows.octetBackRow.domain false) (Rows.octetBackSpec.post enc Try.prog Try.f5 false true false false) := by
  refine returnsInHanded_of_change (C := Try.checked) own started (by kernel_rfl) Try.func5
    (ChangeSpec.witness6 (enc := enc) (C := Try.checked) false ⟨#[], #[.slice none 0 0], []⟩ 8 (by kernel_rfl) (by kernel_rfl) (by kernel_rfl) (by kernel_rfl)) ?_
  intro W base args ds gs before hval0 hW hcnd _
  have hval : ∀ (j : Nat) t v, Try.f5.params[j]? = some t → args[j]? = some v → Value.okWide Try.prog W .any base t v := hval0
  have hW' := hW
  obtain ⟨p, q, hA0, hV, rfl, hfz, hnd⟩ := hW
  have hA : DataW.TrodAll enc Try.prog W 0 (fun _ => true) true Try.f5.params.toList args.toList ds p := hA0
  rw [Try.params5] at hA hval
  obtain ⟨v0, vs0, d0, ds0, p0, q0, hargs, rfl, rfl, h0, r0⟩ := trodAll_cons hA
  obtain ⟨rfl, rfl, rfl⟩ := trodAll_nil r0
  obtain rfl : args = #[v0] := by cases args; simp_all
  obtain ⟨rfl, rfl⟩ := trodVars_none hV
  obtain ⟨a0, len0, cap0, rfl⟩ := okWide_slice Try.underlying43 (hval 0 43 v0 rfl rfl)
  have k0 := h0
  have lt0 : ∀ x ∈ p0, x.block < W.heap.size := by obtain ⟨m, hm⟩ := k0; exact DataW.trod_lt m _ _ _ hm
  have w0 : IsRecs W a0 len0 cap0 4 (fun j v => match j with | 0 => RowOf .u8 W v | 1 => NumOf .i64 v | 2 => NumOf .u64 v | 3 => RowOf .u8 W v | _ => True) := by
    obtain ⟨fuel, hf⟩ := h0
    rcases open_slice_fields Try.underlying43 Try.underlying25 (by kernel_rfl) (by kernel_rfl) hf with ⟨hcs, _⟩ | ⟨x, l, c, m, D, Pl, hcs, _, hl, hm, hmm, _, hh⟩
    · simp [Value.cells] at hcs
      obtain ⟨rfl, rfl, rfl⟩ := hcs
      exact .inl ⟨rfl, rfl, rfl⟩
    · simp [Value.cells] at hcs
      obtain ⟨rfl, rfl, rfl⟩ := hcs
      refine .inr ⟨_, rfl, hl, hm, fun i hi j hj => ?_⟩
      obtain ⟨ys, n, _, _, _, hg⟩ := hh i (by rw [hmm, if_pos rfl]; exact hi)
      match j, hj with
      | 0, _ =>
        obtain ⟨v, y, hc, _, ht⟩ := hg 0 _ rfl
        exact ⟨v, hc, open_row_at Try.underlying22 Try.underlying5 (by kernel_rfl) ht⟩
      | 1, _ =>
        obtain ⟨v, y, hc, _, ht⟩ := hg 1 _ rfl
        exact ⟨v, hc, open_num_at Try.underlying3 ht⟩
      | 2, _ =>
        obtain ⟨v, y, hc, _, ht⟩ := hg 2 _ rfl
        exact ⟨v, hc, open_num_at Try.underlying23 ht⟩
      | 3, _ =>
        obtain ⟨v, y, hc, _, ht⟩ := hg 3 _ rfl
        exact ⟨v, hc, open_row_at Try.underlying22 Try.underlying5 (by kernel_rfl) ht⟩
  clear hA0 hval0
  refine (walk a0 len0 cap0 W w0).mono fun e W' ⟨he, bel⟩ => ?_
  subst he
  exact ⟨_, rfl, _, _, _, [], _, [], hW', trodAll_mk1 (shut_bool Try.underlying4 _), (trodAll_cons_mk (Below.trod laidOut (by kernel_rfl) (of_decide_eq_true (by kernel_rfl)) k0 bel lt0) trodAll_mk0), rfl, bel.frame _, fun h => by cases h⟩

theorem over : Rows.octetBackRow.holds Try.pinned (OpenSpec.ofChange Rows.octetBackSpec) :=
  OpenClaim.holds_of_wide 5 Try.f5 rfl rfl rfl rfl rfl rfl rfl ⟨rfl, rfl, rfl, rfl, rfl⟩ rfl rfl rfl rfl rfl (by kernel_rfl) Try.func5 (by kernel_rfl)
    (of_decide_eq_true (by kernel_rfl)) (by unfold Func.isWrapper; first | (rw [if_pos (by decide +kernel)]; kernel_rfl) | (rw [if_neg (by decide +kernel)]; exact ⟨rfl, rfl⟩))
    (fun os started H enc _ => lifted os started H enc)

/-- the statement -/
theorem proved : Rows.OctetBackSaid := over
end Go.Proofs.Ytidkabbogpdclaa.octetBack
