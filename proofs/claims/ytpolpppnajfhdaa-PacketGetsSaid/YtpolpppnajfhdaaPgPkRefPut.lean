/- A packet's bytes (layer 14): the contract of the reference's Put. Printed by tools/packet/put.py. -/
import Derived.Test.YtpolpppnajfhdaaPgChgCheck
import Derived.Test.YtpolpppnajfhdaaPgLsaRefPut
import Derived.Test.YtpolpppnajfhdaaPgPkBack
import Derived.Test.YtpolpppnajfhdaaPgPkRefMay
import Derived.Test.YtpolpppnajfhdaaPgPureAll
import Derived.Test.YtpolpppnajfhdaaPgSeal
import Derived.Deep.Cut
import Derived.Deep.CutRange
import Derived.Deep.RegionHeld3
namespace Go.Proofs.Ytpolpppnajfhdaa.Pkt
open Go.RowKit Go.Proofs.Ytpolpppnajfhdaa.Mem Go.Proofs.Ytpolpppnajfhdaa.Lsa Go.Proofs.Ytpolpppnajfhdaa.Bas Go.Proofs.Ytpolpppnajfhdaa.Oct
set_option linter.unusedVariables false
set_option linter.unusedSimpArgs false
theorem own_two (w : World) (base g : Nat) (hg : g = w.heap.size) (hB : base ≤ w.heap.size) (x y : Int) (a b : Nat) (h : x = (a : Int)) (h' : y = (b : Int)) : (w.alloc (.cells #[.int .u8 x, .int .u8 y] 5)).ownsRow base 5 1 (.slice (some ⟨g, 0, none⟩) 2 2) 2 (vals [a, b]) := by
  subst h h' hg
  exact World.ownsRow_lit w #[.int .u8 (a : Int), .int .u8 (b : Int)] 2 hB (by unfold maxLen; omega) rfl
theorem ref_numI (x : Int) (k : Nat) (w : World) (hk : k ≤ 8) (h0 : 0 ≤ x) (h1 : x < 18446744073709551616) :
    Calls Try.prog 37 #[.int .i64 (k : Nat), .int .u64 x] w fun e w' => ∃ v, e = .returned v ∧ w'.ownsRow w.heap.size 5 1 v k (vals (be k x.toNat)) ∧ Below w.heap.size w w' := by
  have := ref_num k x.toNat w hk (by omega)
  rwa [Int.toNat_of_nonneg h0] at this
theorem laBytes_len14 (a : La) (h : laOk a = true) : (laBytes a).length ≤ 90 := by
  obtain ⟨_, _, h3, _⟩ := may_iff.1 h
  unfold laBytes bytesOf headBytes
  have := linkBytes_length a.ls
  simp only [List.length_append, be_length]
  omega
theorem dbBytes_take14 (db : List La) (k : Nat) (h : ∀ a ∈ db, laOk a = true) : (dbBytes (db.take k)).length ≤ 90 * k := by
  induction k with
  | zero => simp [dbBytes]
  | succ k ih =>
    by_cases hk : k < db.length
    · rw [dbBytes_succ db k hk, List.length_append]
      have := laBytes_len14 (db.getD k zeroL) (h _ (by simp [List.getD, List.getElem?_eq_getElem hk]))
      omega
    · rw [List.take_of_length_le (by omega)] at ih ⊢
      omega
theorem itBytes_succ (l : List Lk) (k : Nat) (h : k < l.length) : itBytes (l.take (k + 1)) = itBytes (l.take k) ++ (be 1 (l.getD k (0, 0)).1.toNat ++ be 8 (l.getD k (0, 0)).2.toNat) := by
  unfold itBytes
  rw [List.take_succ_eq_append_getElem h, List.flatMap_append]
  simp [List.getD, List.getElem?_eq_getElem h]
theorem itOk_all : ∀ {l : List Lk} {c : Int}, itOk c l = true → ∀ a ∈ l, (1 ≤ a.1 ∧ a.1 ≤ 64) ∧ 1 ≤ a.2 ∧ a.2 ≤ 4611686018427387904
  | [], _, _, _, ha => by cases ha
  | x :: r, c, h, a, ha => by
    simp [itOk, itOne, Lsa.win] at h
    rcases List.mem_cons.1 ha with rfl | ha
    · omega
    · exact itOk_all h.2 a ha
/-- so far: bytes of the call's own, the packet in its box -/
def PB (w : World) (cs : Array Value) (n : Nat) (xs : List Nat) (v : Value) (wx : World) : Prop := ∃ A c, v = .slice A n c ∧ wx.ownsRow (w.heap.size + 1) 5 1 v n (vals xs) ∧ Blk wx w.heap.size 26 cs ∧ Below w.heap.size w wx
theorem mayP_num {p : Pk} (h : mayP p = true) : (1 ≤ p.k ∧ p.k ≤ 5) ∧ (1 ≤ p.f ∧ p.f ≤ 64) ∧ (1 ≤ p.t ∧ p.t ≤ 64) ∧ (1 ≤ p.b ∧ p.b ≤ 1073741824) ∧ (0 ≤ p.tb ∧ p.tb ≤ 1073741824) ∧ (0 ≤ p.e ∧ p.e ≤ 1073741824) ∧ (0 ≤ p.te ∧ p.te ≤ 1073741824) ∧ p.hd.length ≤ 16 ∧ p.it.length ≤ 64 ∧ p.ls.length ≤ 8 ∧ count p ≤ 64 := by
  obtain ⟨he, hh, hl, hi, hep, hk⟩ := mayP_iff.1 h
  have hil := itOk_len (c := 0) (by omega) (by omega) hi
  obtain ⟨q1, q2, _, q4, q5, q6⟩ := ends_iff.1 he
  have hq : (0 ≤ p.e ∧ p.e ≤ 1073741824) ∧ (0 ≤ p.te ∧ p.te ≤ 1073741824) := by
    simp only [epochs, Lsa.win, Bool.and_eq_true] at hep
    obtain ⟨h1, h2⟩ := hep
    constructor
    · split at h1
      · simp at h1; omega
      · simp at h1; omega
    · split at h2
      · simp at h2; omega
      · simp at h2; omega
  have hk2 : (1 ≤ p.k ∧ p.k ≤ 5) ∧ p.hd.length ≤ 16 ∧ p.ls.length ≤ 8 ∧ count p ≤ 64 := by
    unfold kindOk at hk
    unfold count
    by_cases a : p.k = 1
    · simp [a] at hk; rw [hk.2.1, hk.2.2]; simp; omega
    by_cases b : p.k = 2
    · simp [b] at hk; rw [hk.1, hk.2]; simp; omega
    by_cases c : p.k = 3
    · simp [c] at hk; rw [hk.1, hk.2.1, hk.2.2]; simp; omega
    by_cases d : p.k = 4
    · simp [d] at hk; rw [hk.1, hk.2.1]; simp; omega
    by_cases e : p.k = 5
    · simp [e] at hk; rw [hk.1, hk.2]; simp; omega
    · simp [a, b, c, d, e] at hk
  exact ⟨hk2.1, q1, q2, q4, ⟨q5, q6⟩, hq.1, hq.2, hk2.2.1, by omega, hk2.2.2.1, hk2.2.2.2⟩
set_option maxRecDepth 100000 in
set_option maxHeartbeats 16000000 in
theorem rput_pk (p : Pk) (A1 A2 A3 : Option Addr) (n1 z1 n2 z2 n3 z3 : Nat) (w : World) (h : PkM w w.heap.size (.slice A1 n1 z1) (.slice A2 n2 z2) (.slice A3 n3 z3) p) (hm : mayP p = true) :
    Calls Try.prog 15 #[pkV p (.slice A1 n1 z1) (.slice A2 n2 z2) (.slice A3 n3 z3)] w fun e w' => ∃ v', e = .returned v' ∧ Sl w' w'.heap.size v' (putP p) ∧ Below w.heap.size w w' := by
  obtain ⟨i0, hi, hz0, hz1, hz2⟩ := info_parts Try.info5
  have HI := Lib.hid hi; have HZ0 := Lib.hid hz0; have HZ1 := Lib.hid hz1; have HZ2 := Lib.hid hz2
  clear hi hz0 hz1 hz2
  obtain ⟨h1, h2, h3⟩ := h
  obtain ⟨hl1, hc1, hm1, _⟩ := lks_len h1
  obtain ⟨hl2, hc2, hm2, _⟩ := lks_len h2
  obtain ⟨hl3, hc3, hm3, _⟩ := las_len h3
  obtain ⟨⟨k1, k5⟩, ⟨f1, f2⟩, ⟨t1, t2⟩, ⟨b1, b2⟩, ⟨tb1, tb2⟩, ⟨e1, e2⟩, ⟨te1, te2⟩, hh16, hi64, hl8, hcn⟩ := mayP_num hm
  have hcnt : (n1 : Int) + (n2 : Int) + (n3 : Int) = ((count p : Nat) : Int) := by unfold count; omega
  rw [hl1] at hh16
  rw [hl2] at hi64
  rw [hl3] at hl8
  have wk : IntKind.u8.wrap p.k = p.k := by rw [IntKind.wrap_u8]; omega
  have wf : IntKind.u8.wrap p.f = p.f := by rw [IntKind.wrap_u8]; omega
  have wt : IntKind.u8.wrap p.t = p.t := by rw [IntKind.wrap_u8]; omega
  have wb : IntKind.u64.wrap p.b = p.b := by rw [IntKind.wrap_u64]; omega
  have wtb : IntKind.u64.wrap p.tb = p.tb := by rw [IntKind.wrap_u64]; omega
  have PALL := Lib.hid (epOk_all (mayP_iff.1 hm).2.1)
  have IALL := Lib.hid (itOk_all (mayP_iff.1 hm).2.2.2.1)
  have LALL := Lib.hid (dbOk_all (mayP_iff.1 hm).2.2.1)
  have RNB := Lib.hid (fun (W : World) => ref_numI p.b 4 W (by omega) (by omega) (by omega))
  have RNT := Lib.hid (fun (W : World) => ref_numI p.tb 4 W (by omega) (by omega) (by omega))
  have RNE := Lib.hid (fun (W : World) => ref_numI p.e 4 W (by omega) (by omega) (by omega))
  have RNF := Lib.hid (fun (W : World) => ref_numI p.te 4 W (by omega) (by omega) (by omega))
  have HM := Lib.hid hm; clear hm
  have H1 := Lib.hid h1; have H2 := Lib.hid h2; have H3 := Lib.hid h3
  have HL1 := Lib.hid hl1; have HL2 := Lib.hid hl2; have HL3 := Lib.hid hl3
  clear h1 h2 h3 hl1 hl2 hl3
  have HCN := Lib.hid hcnt; clear hcnt
  obtain ⟨w0, hw0⟩ : ∃ w0, w0 = w.alloc (.cells (pkC p (.slice A1 n1 z1) (.slice A2 n2 z2) (.slice A3 n3 z3)) 26) := ⟨_, rfl⟩
  have hb1 : Below w.heap.size w w0 := by rw [hw0]; exact up1 (Below.refl _ _) _
  have k0 : Blk w0 w.heap.size 26 (pkC p (.slice A1 n1 z1) (.slice A2 n2 z2) (.slice A3 n3 z3)) := by rw [hw0]; exact Blk.new _ _ _
  have hs0 : w0.heap.size = w.heap.size + 1 := by rw [hw0]; simp
  have HB1 := Lib.hid hb1; clear hb1
  have K0 := Lib.hid k0; clear k0
  have HS0 := Lib.hid hs0; clear hs0
  have HW0 := Lib.hid hw0; clear hw0
  have hs1 : w.heap.size + 1 ≤ w0.heap.size := by rw [HS0.out]; exact Nat.le_refl _
  go_enter Try.func15, Try.ntmps15
  go_upto_region 1 with fail
  rewrite [← HW0.out]
  have x0 := K0.out.cell 0; have x1 := K0.out.cell 1; have x2 := K0.out.cell 2; simp only [List.getElem?_toArray, List.getElem?_cons_zero, List.getElem?_cons_succ] at x0 x1 x2
  go_cut [3] from 7 to 18 (fun v3 wx => PB w (pkC p (.slice A1 n1 z1) (.slice A2 n2 z2) (.slice A3 n3 z3)) 6 (be 1 p.k.toNat ++ (be 1 p.f.toNat ++ be 4 p.b.toNat)) v3 wx)
  case first =>
    go_region_held3 (fun W => W.cell? ⟨w.heap.size, 0, none⟩ = some (.int .i64 p.k) ∧ W.cell? ⟨w.heap.size, 1, none⟩ = some (.int .i64 p.f) ∧ W.cell? ⟨w.heap.size, 2, none⟩ = some (.int .i64 p.b))
      (first
        | with_reducible exact ⟨x0, x1, x2⟩
        | with_reducible exact ⟨y0, y1, y2⟩
        | with_reducible exact ⟨z0, z1, z2⟩
        | go_keep)
      (first
        | (go_at_call 37; refine (RNB.out _).mono ?_; rintro e w2 ⟨v2, rfl, ho2, hb2⟩; have hb2 : Below (w0.alloc (.cells #[.int .u8 p.k, .int .u8 p.f] 5)).heap.size (w0.alloc (.cells #[.int .u8 p.k, .int .u8 p.f] 5)) w2 := undrew hb2; obtain ⟨A2_, c2_, rfl, hr2⟩ := own_reads ho2; have HR2 := Lib.hid hr2; have HB2 := Lib.hid ((up1 HB1.out (.cells #[.int .u8 p.k, .int .u8 p.f] 5)).trans (hb2.mono (up1 HB1.out (.cells #[.int .u8 p.k, .int .u8 p.f] 5)).size)); have K2 := Lib.hid ((K0.out.alloc (.cells #[.int .u8 p.k, .int .u8 p.f] 5)).below hb2 (by simp; omega)); have HOL := Lib.hid (own_below (own_two w0 (w.heap.size + 1) w0.heap.size rfl hs1 p.k p.f p.k.toNat p.f.toNat (by omega) (by omega)) hb2); have y0 := K2.out.cell 0; have y1 := K2.out.cell 1; have y2 := K2.out.cell 2; simp only [List.getElem?_toArray, List.getElem?_cons_zero, List.getElem?_cons_succ] at y0 y1 y2; have hs2 : w0.heap.size ≤ w2.heap.size := (by have := hb2.size; first | exact this | (simp at this; omega)); clear hb2 ho2 hr2)
        | (go_at_call 37; refine (RNB.out _).mono ?_; rintro e w2 ⟨v2, rfl, ho2, hb2⟩; have hb2 : Below w0.heap.size w0 w2 := undrew hb2; obtain ⟨A2_, c2_, rfl, hr2⟩ := own_reads ho2; have HR2 := Lib.hid hr2; have HB2 := Lib.hid (HB1.out.trans (hb2.mono HB1.out.size)); have K2 := Lib.hid (K0.out.below hb2 (by omega)); have HOL := Lib.hid (own_two w2 (w.heap.size + 1) w2.heap.size rfl (Nat.le_trans hs1 hb2.size) p.k p.f p.k.toNat p.f.toNat (by omega) (by omega)); have y0 := K2.out.cell 0; have y1 := K2.out.cell 1; have y2 := K2.out.cell 2; simp only [List.getElem?_toArray, List.getElem?_cons_zero, List.getElem?_cons_succ] at y0 y1 y2; have hs2 : w0.heap.size ≤ w2.heap.size := (by have := hb2.size; first | exact this | (simp at this; omega)); clear hb2 ho2 hr2)
        | (refine step_append_any _ rfl (.tmp 13) (.tmp 17) 29 rfl (w.heap.size + 1) 5 i0 (.int .u8 0) 1 1 Try.underlying29 HI.out HZ0.out HZ1.out HZ2.out rfl (by decide) (.slice (some ⟨w0.heap.size, 0, none⟩) 2 2) 2 (vals [p.k.toNat, p.f.toNat]) rfl HOL.out w2.heap.size A2_ 4 c2_ (vals (be 4 p.b.toNat)) rfl HR2.out (vals_one _) (by unfold maxLen; omega) (by omega) (by first | omega | (simp; omega)) ?_; intro v3 w3 hown hg _; have HB3 := Lib.hid (HB2.out.grown hg HB2.out.size (fun q hq => by have := (HOL.out.lt q hq).1; omega)); have K3 := Lib.hid (K2.out.grown hg (fun e => by have := (HOL.out.lt _ e.symm).1; omega)); have HO3 := Lib.hid (own_fix (n' := 6) (xs := [p.k.toNat, p.f.toNat] ++ be 4 p.b.toNat) hown (vals_append _ _).symm rfl rfl); obtain ⟨A3_, c3_, rfl⟩ := Lsa.own_form HO3.out; have z0 := K3.out.cell 0; have z1 := K3.out.cell 1; have z2 := K3.out.cell 2; simp only [List.getElem?_toArray, List.getElem?_cons_zero, List.getElem?_cons_succ] at z0 z1 z2; clear hown hg)
        | (refine step_append_any _ rfl (.tmp 13) (.tmp 17) 29 rfl (w.heap.size + 1) 5 i0 (.int .u8 0) 1 1 Try.underlying29 HI.out HZ0.out HZ1.out HZ2.out rfl (by decide) (.slice (some ⟨w2.heap.size, 0, none⟩) 2 2) 2 (vals [p.k.toNat, p.f.toNat]) rfl HOL.out w2.heap.size A2_ 4 c2_ (vals (be 4 p.b.toNat)) rfl (HR2.out.alloc (Nat.le_refl _) _) (vals_one _) (by unfold maxLen; omega) (by omega) (by first | omega | (simp; omega)) ?_; intro v3 w3 hown hg _; have HB2b := Lib.hid (up1 HB2.out (.cells #[.int .u8 p.k, .int .u8 p.f] 5)); have K2b := Lib.hid (K2.out.alloc (.cells #[.int .u8 p.k, .int .u8 p.f] 5)); have HB3 := Lib.hid (HB2b.out.grown hg HB2b.out.size (fun q hq => by have := (HOL.out.lt q hq).1; omega)); have K3 := Lib.hid (K2b.out.grown hg (fun e => by have := (HOL.out.lt _ e.symm).1; omega)); have HO3 := Lib.hid (own_fix (n' := 6) (xs := [p.k.toNat, p.f.toNat] ++ be 4 p.b.toNat) hown (vals_append _ _).symm rfl rfl); obtain ⟨A3_, c3_, rfl⟩ := Lsa.own_form HO3.out; have z0 := K3.out.cell 0; have z1 := K3.out.cell 1; have z2 := K3.out.cell 2; simp only [List.getElem?_toArray, List.getElem?_cons_zero, List.getElem?_cons_succ] at z0 z1 z2; clear hown hg))
    all_goals
      go_wp2_with fail
      go_meet
      case rel => exact ⟨_, _, rfl, by rw [show be 1 p.k.toNat ++ (be 1 p.f.toNat ++ be 4 p.b.toNat) = [p.k.toNat, p.f.toNat] ++ be 4 p.b.toNat by rw [be_one (by omega), be_one (by omega)]; rfl]; exact HO3.out, K3.out, HB3.out⟩
  case rest =>
    rename World => wx
    clear x0 x1 x2
    obtain ⟨A5, c5, rfl, hown, hbk, hbw⟩ := hcut
    have HOW := Lib.hid hown; clear hown
    have HBK := Lib.hid hbk; clear hbk
    have HBW := Lib.hid hbw; clear hbw
    have hws := HBK.out.lt
    have hle5 : ∀ q, (Value.slice A5 6 c5).ownBlock = some q → w.heap.size + 1 ≤ q := fun q hq => (HOW.out.lt q hq).1
    have HLE5 := Lib.hid hle5; clear hle5
    obtain ⟨ys, hys⟩ : ∃ ys, ys = be 1 p.k.toNat ++ (be 1 p.f.toNat ++ be 4 p.b.toNat) := ⟨_, rfl⟩
    have hfin : ys ++ [p.t.toNat] ++ be 4 p.tb.toNat = headP p := by
      rw [hys, headP, be_one (n := p.t.toNat) (by omega)]
      simp
    rewrite [← hys] at HOW
    have HFIN := Lib.hid hfin; clear hfin hys
    have q3 := HBK.out.cell 3; have q4 := HBK.out.cell 4; simp only [List.getElem?_toArray, List.getElem?_cons_zero, List.getElem?_cons_succ] at q3 q4
    go_upto_region 2 with fail
    go_cut [3] from 19 to 29 (fun v3 wy => PB w (pkC p (.slice A1 n1 z1) (.slice A2 n2 z2) (.slice A3 n3 z3)) 11 (headP p) v3 wy)
    case first =>
      go_region_held3 (fun W => W.cell? ⟨w.heap.size, 3, none⟩ = some (.int .i64 p.t) ∧ W.cell? ⟨w.heap.size, 4, none⟩ = some (.int .i64 p.tb))
        (first
          | with_reducible exact ⟨q3, q4⟩
          | with_reducible exact ⟨ra3, ra4⟩
          | with_reducible exact ⟨sa3, sa4⟩
          | with_reducible exact ⟨ta3, ta4⟩
          | go_keep)
        (first
          | (refine step_append_any _ rfl (.tmp 19) (.tmp 23) 29 rfl (w.heap.size + 1) 5 i0 (.int .u8 0) 1 1 Try.underlying29 HI.out HZ0.out HZ1.out HZ2.out rfl (by decide) (.slice A5 6 c5) 6 (vals ys) rfl ((HOW.out.alloc (.cells #[.int .u8 p.t] 5)).drew) (wx.heap.size + 1) (some ⟨wx.heap.size, 0, none⟩) 1 1 (vals [p.t.toNat]) rfl ((reads_byte wx wx.heap.size rfl _ p.t.toNat (by omega)).drew) (vals_one _) (by unfold maxLen; omega) (by omega) (by first | omega | (simp; omega)) ?_; intro v6 w6a hown hg _; have hb6 := (Chg.low1 HBW.out (.cells #[.int .u8 p.t] 5)).drew; have HB6a := Lib.hid (hb6.grown hg hb6.size (fun q hq => Nat.le_of_succ_le (HLE5.out q hq))); have K6a := Lib.hid (((HBK.out.alloc (.cells #[.int .u8 p.t] 5)).drew).grown hg (fun e => Nat.lt_irrefl _ (HLE5.out _ e.symm))); have HO6a := Lib.hid (own_fix (n' := 6 + 1) (xs := ys ++ [p.t.toNat]) hown (vals_append _ _).symm rfl rfl); obtain ⟨A6a, c6a, rfl⟩ := Lsa.own_form HO6a.out; have ra3 := K6a.out.cell 3; have ra4 := K6a.out.cell 4; simp only [List.getElem?_toArray, List.getElem?_cons_zero, List.getElem?_cons_succ] at ra3 ra4; have hs6 := K6a.out.lt; clear hown hg hb6)
          | (go_at_call 37; refine (RNT.out _).mono ?_; rintro e w7a ⟨v7, rfl, ho7, hb7⟩; obtain ⟨A7a, c7a, rfl, hr7⟩ := own_reads ho7; have HR7 := Lib.hid hr7; have HB7a := Lib.hid (Chg.low_low HB6a.out hb7); have K7a := Lib.hid (K6a.out.below hb7 hs6); have HO7a := Lib.hid (own_below HO6a.out hb7); have sa3 := K7a.out.cell 3; have sa4 := K7a.out.cell 4; simp only [List.getElem?_toArray, List.getElem?_cons_zero, List.getElem?_cons_succ] at sa3 sa4; have hs7 := K7a.out.lt; clear ho7 hr7 hb7)
          | (refine step_append_any _ rfl (.tmp 24) (.tmp 28) 29 rfl (w.heap.size + 1) 5 i0 (.int .u8 0) 1 1 Try.underlying29 HI.out HZ0.out HZ1.out HZ2.out rfl (by decide) (.slice A6a (6 + 1) c6a) (6 + 1) (vals (ys ++ [p.t.toNat])) rfl HO7a.out w7a.heap.size A7a 4 c7a (vals (be 4 p.tb.toNat)) rfl HR7.out (vals_one _) (by unfold maxLen; omega) (by omega) (by first | omega | (simp; omega)) ?_; intro v8 w8a hown hg _; have HB8a := Lib.hid (HB7a.out.grown hg HB7a.out.size (fun q hq => Nat.le_of_succ_le (HO7a.out.lt q hq).1)); have K8a := Lib.hid (K7a.out.grown hg (fun e => Nat.lt_irrefl _ (HO7a.out.lt _ e.symm).1)); have HO8a := Lib.hid (own_fix (n' := 11) hown (vals_append _ _).symm rfl HFIN.out); have ta3 := K8a.out.cell 3; have ta4 := K8a.out.cell 4; simp only [List.getElem?_toArray, List.getElem?_cons_zero, List.getElem?_cons_succ] at ta3 ta4; clear hown hg))
      all_goals
        obtain ⟨A8, c8, rfl⟩ := Lsa.own_form HO8a.out
        go_wp2_with fail
        go_meet
        case rel => exact ⟨_, _, rfl, HO8a.out, K8a.out, HB8a.out⟩

    case rest =>
      clear HOW HBK HBW HLE5 hws HFIN q3 q4
      rename World => wy
      obtain ⟨A5, c5, rfl, hown, hbk, hbw⟩ := hcut
      have HOW := Lib.hid hown; clear hown
      have HBK := Lib.hid hbk; clear hbk
      have HBW := Lib.hid hbw; clear hbw
      have hws := HBK.out.lt
      have hle5 : ∀ q, (Value.slice A5 11 c5).ownBlock = some q → w.heap.size + 1 ≤ q := fun q hq => (HOW.out.lt q hq).1
      have HLE5 := Lib.hid hle5; clear hle5
      have q0 := HBK.out.cell 0; have q5 := HBK.out.cell 5; simp only [List.getElem?_toArray, List.getElem?_cons_zero, List.getElem?_cons_succ] at q0 q5
      go_upto_region 3 with fail
      go_cut [37] from 30 to 37 (fun v wz => v = .bool (hasE p) ∧ wz = wy)
      case first =>
        have hk : p.k = 2 ∨ p.k = 3 ∨ (p.k ≠ 2 ∧ p.k ≠ 3) := by omega
        rcases hk with hk | hk | hk
        · have b2 : (p.k == 2) = true := by rw [hk]; rfl
          have b3 : (p.k == 3) = false := by rw [hk]; rfl
          have HE := Lib.hid (show true = hasE p by rw [hasE, b2]; rfl)
          have HK := Lib.hid hk; clear hk
          go_wp2_with fail
          go_meet
          case rel => exact ⟨by rw [← HE.out], rfl⟩
        · have b2 : (p.k == 2) = false := by rw [hk]; rfl
          have b3 : (p.k == 3) = true := by rw [hk]; rfl
          have HE := Lib.hid (show true = hasE p by rw [hasE, b2, b3]; rfl)
          have HK := Lib.hid hk; clear hk
          go_wp2_with fail
          go_meet
          case rel => exact ⟨by rw [← HE.out], rfl⟩
        · have b2 : (p.k == 2) = false := beq_false_of_ne hk.1
          have b3 : (p.k == 3) = false := beq_false_of_ne hk.2
          have HE := Lib.hid (show false = hasE p by rw [hasE, b2, b3]; rfl)
          have HK := Lib.hid hk; clear hk
          go_wp2_with fail
          go_meet
          case rel => exact ⟨by rw [← HE.out], rfl⟩
      case rest =>
        obtain ⟨rfl, rfl⟩ := hcut
        obtain ⟨be_, hbe⟩ : ∃ b, b = hasE p := ⟨_, rfl⟩
        obtain ⟨l1, hl1⟩ : ∃ l1, l1 = 11 + (if hasE p then 4 else 0) := ⟨_, rfl⟩
        obtain ⟨x1, hx1⟩ : ∃ x1, x1 = headP p ++ (if hasE p then be 4 p.e.toNat else []) := ⟨_, rfl⟩
        have hl1b : l1 ≤ 15 := by rw [hl1]; split <;> omega
        rewrite [← hbe]
        rewrite [← hbe] at hl1 hx1
        have HBE := Lib.hid hbe; clear hbe
        go_upto_if 37 with fail
        go_cut [3] from 38 to 43 (fun v3 wz => PB w (pkC p (.slice A1 n1 z1) (.slice A2 n2 z2) (.slice A3 n3 z3)) l1 x1 v3 wz)
        case first =>
          cases be_
          · have HX := Lib.hid hx1; have HL := Lib.hid hl1; clear hx1 hl1
            go_wp2_with fail
            go_meet
            case rel => exact ⟨_, _, by rw [HL.out]; rfl, by rw [HX.out, HL.out]; simpa using HOW.out, HBK.out, HBW.out⟩
          · have HX := Lib.hid (show headP p ++ be 4 p.e.toNat = x1 by rw [hx1]; rfl); have HL := Lib.hid (show 15 = l1 by rw [hl1]; rfl); clear hx1 hl1
            go_wp2_with (first
              | (go_at_call 37; refine (RNE.out _).mono ?_; rintro e w6 ⟨v6, rfl, ho, hb⟩; obtain ⟨A6, c6, rfl, hr⟩ := own_reads ho; have HR6 := Lib.hid hr; have HB6 := Lib.hid (Chg.low_low HBW.out hb); have K6 := Lib.hid (HBK.out.below hb HBK.out.lt); have HO6 := Lib.hid (own_below HOW.out hb); have hs6 := K6.out.lt; clear ho hr hb)
              | (at_builtin; (refine wpList_append_any _ rfl (.tmp 38) (.tmp 42) 29 rfl (w.heap.size + 1) 5 i0 (.int .u8 0) 1 1 Try.underlying29 HI.out HZ0.out HZ1.out HZ2.out rfl (by decide) (.slice A5 11 c5) 11 (vals (headP p)) rfl HO6.out w6.heap.size A6 4 c6 (vals (be 4 p.e.toNat)) rfl HR6.out (vals_one _) (by unfold maxLen; omega) (by omega) (by first | omega | (simp; omega)) ?_; intro v7 w7 hown hg _; have hle : ∀ q, (Value.slice A5 11 c5).ownBlock = some q → w.heap.size + 1 ≤ q := fun q hq => (HO6.out.lt q hq).1; have HB7 := Lib.hid (HB6.out.grown hg HB6.out.size (fun q hq => Nat.le_of_succ_le (hle q hq))); have K7 := Lib.hid (K6.out.grown hg (fun e => Nat.lt_irrefl _ (hle _ e.symm))); have HO7 := Lib.hid (own_fix (n' := l1) (xs := x1) hown (vals_append _ _).symm HL.out HX.out); obtain ⟨A7, c7, rfl⟩ := Lsa.own_form HO7.out; have hs7 := K7.out.lt; clear hown hg hle)))
            go_meet
            case rel => exact ⟨_, _, rfl, HO7.out, K7.out, HB7.out⟩
        case rest =>
          clear HOW HBK HBW HLE5 hws q0 q5
          rename World => wz
          obtain ⟨A5, c5, rfl, hown, hbk, hbw⟩ := hcut
          have HOW := Lib.hid hown; clear hown
          have HBK := Lib.hid hbk; clear hbk
          have HBW := Lib.hid hbw; clear hbw
          have hws := HBK.out.lt
          have hle5 : ∀ q, (Value.slice A5 l1 c5).ownBlock = some q → w.heap.size + 1 ≤ q := fun q hq => (HOW.out.lt q hq).1
          have HLE5 := Lib.hid hle5; clear hle5
          have q0 := HBK.out.cell 0; have q6 := HBK.out.cell 6; have q7 := HBK.out.cell 7; have q8 := HBK.out.cell 8; have q9 := HBK.out.cell 9; simp only [List.getElem?_toArray, List.getElem?_cons_zero, List.getElem?_cons_succ] at q0 q6 q7 q8 q9
          obtain ⟨ln, hln⟩ : ∃ ln, ln = 11 + (midP p).length := ⟨_, rfl⟩
          have hlb : ln ≤ 19 := by
            rw [hln, midP_length]
            split
            · omega
            · split <;> omega
          go_upto_if 46 with fail
          generalize hq3 : (p.k == 3) = t3
          have HQ3 := Lib.hid hq3; clear hq3
          go_cut [3] from 47 to 67 (fun v3 wq => PB w (pkC p (.slice A1 n1 z1) (.slice A2 n2 z2) (.slice A3 n3 z3)) ln (headP p ++ midP p) v3 wq)
          case first =>
            cases t3
            rotate_left
            · have b3 : (p.k == 3) = true := HQ3.out
              have hk : p.k = 3 := by simpa using b3
              have b2 : (p.k == 2) = false := by rw [hk]; rfl
              have hm1 : x1 ++ be 4 p.te.toNat = headP p ++ midP p := by
                rw [hx1, HBE.out, midP, hasE, b2, b3]
                simp
              have hl2 : l1 + 4 = ln := by
                rw [hln, midP_length, hl1, HBE.out, hasE, b2, b3]
                rfl
              have HMID := Lib.hid hm1; clear hm1
              have HLN := Lib.hid hl2.symm; clear hl2 hln hl1 hx1
              clear b3 b2 hk
              go_wp2_with (first
                | (go_at_call 37; refine (RNF.out _).mono ?_; rintro e w8 ⟨v8, rfl, ho, hb⟩; obtain ⟨A8, c8, rfl, hr⟩ := own_reads ho; have HR8 := Lib.hid hr; have HB8 := Lib.hid (Chg.low_low HBW.out hb); have K8 := Lib.hid (HBK.out.below hb HBK.out.lt); have HO8 := Lib.hid (own_below HOW.out hb); have hs8 := K8.out.lt; clear ho hr hb)
                | (at_builtin; (refine wpList_append_any _ rfl (.tmp 47) (.tmp 51) 29 rfl (w.heap.size + 1) 5 i0 (.int .u8 0) 1 1 Try.underlying29 HI.out HZ0.out HZ1.out HZ2.out rfl (by decide) (.slice A5 l1 c5) l1 (vals x1) rfl HO8.out w8.heap.size A8 4 c8 (vals (be 4 p.te.toNat)) rfl HR8.out (vals_one _) (by unfold maxLen; omega) (by omega) (by first | omega | (simp; omega)) ?_; intro v9 w9 hown hg _; have hle : ∀ q, (Value.slice A5 l1 c5).ownBlock = some q → w.heap.size + 1 ≤ q := fun q hq => (HO8.out.lt q hq).1; have HB9 := Lib.hid (HB8.out.grown hg HB8.out.size (fun q hq => Nat.le_of_succ_le (hle q hq))); have K9 := Lib.hid (K8.out.grown hg (fun e => Nat.lt_irrefl _ (hle _ e.symm))); have HO9 := Lib.hid (own_fix (n' := ln) (xs := (headP p ++ midP p)) hown (vals_append _ _).symm HLN.out.symm HMID.out); obtain ⟨A9, c9, rfl⟩ := Lsa.own_form HO9.out; have hs9 := K9.out.lt; clear hown hg hle)))
              go_meet
              case rel => exact ⟨_, _, rfl, HO9.out, K9.out, HB9.out⟩
            · have b3 : (p.k == 3) = false := HQ3.out
              have hm1 : x1 ++ [count p] = headP p ++ midP p := by
                rw [hx1, HBE.out, midP, b3, be_one (n := count p) (by omega)]
                simp
              have hl2 : l1 + 1 = ln := by
                rw [hln, midP_length, hl1, HBE.out, hasE, b3]
                cases p.k == 2 <;> rfl
              have HMID := Lib.hid hm1; clear hm1
              have HLN := Lib.hid hl2.symm; clear hl2 hln hl1 hx1
              clear b3
              go_wp2_with (first
                | (at_builtin; (refine wpList_append_any _ rfl (.tmp 53) (.tmp 66) 29 rfl (w.heap.size + 1) 5 i0 (.int .u8 0) 1 1 Try.underlying29 HI.out HZ0.out HZ1.out HZ2.out rfl (by decide) (.slice A5 l1 c5) l1 (vals x1) rfl (HOW.out.alloc (.cells #[.int .u8 ((n1 : Int) + (n2 : Int) + (n3 : Int))] 5)) (wz.heap.size + 1) (some ⟨wz.heap.size, 0, none⟩) 1 1 (vals [count p]) rfl (reads_byte wz wz.heap.size rfl _ (count p) HCN.out) (vals_one _) (by unfold maxLen; omega) (by omega) (by first | omega | (simp; omega)) ?_; intro v8 w8 hown hg _; have hle : ∀ q, (Value.slice A5 l1 c5).ownBlock = some q → w.heap.size + 1 ≤ q := fun q hq => ((HOW.out.alloc (.cells #[.int .u8 ((n1 : Int) + (n2 : Int) + (n3 : Int))] 5)).lt q hq).1; have HB8 := Lib.hid ((Chg.low1 HBW.out (.cells #[.int .u8 ((n1 : Int) + (n2 : Int) + (n3 : Int))] 5)).grown hg (Chg.low1 HBW.out (.cells #[.int .u8 ((n1 : Int) + (n2 : Int) + (n3 : Int))] 5)).size (fun q hq => Nat.le_of_succ_le (hle q hq))); have K8 := Lib.hid ((HBK.out.alloc (.cells #[.int .u8 ((n1 : Int) + (n2 : Int) + (n3 : Int))] 5)).grown hg (fun e => Nat.lt_irrefl _ (hle _ e.symm))); have HO8 := Lib.hid (own_fix (n' := ln) (xs := (headP p ++ midP p)) hown (vals_append _ _).symm HLN.out.symm HMID.out); obtain ⟨A8, c8, rfl⟩ := Lsa.own_form HO8.out; have hs8 := K8.out.lt; clear hown hg hle)))
              go_meet
              case rel => exact ⟨_, _, rfl, HO8.out, K8.out, HB8.out⟩

          case rest =>
            clear HOW HBK HBW HLE5 hws q0 q6 q7 q8 q9
            rename World => wq
            obtain ⟨A5, c5, rfl, hown, hbk, hbw⟩ := hcut
            have HOW := Lib.hid hown; clear hown
            have HBK := Lib.hid hbk; clear hbk
            have HBW := Lib.hid hbw; clear hbw
            have hws := HBK.out.lt
            have hle5 : ∀ q, (Value.slice A5 ln c5).ownBlock = some q → w.heap.size + 1 ≤ q := fun q hq => (HOW.out.lt q hq).1
            have HLE5 := Lib.hid hle5; clear hle5
            obtain ⟨G, hG⟩ : ∃ G, G = headP p ++ midP p := ⟨_, rfl⟩
            rewrite [← hG] at HOW
            have HG := Lib.hid hG; clear hG
            have HLN := Lib.hid hln; clear hln
            have HL1b := Lib.hid hl1; have HX1 := Lib.hid hx1; clear hl1 hx1
            have q7 := HBK.out.cell 7; have q8 := HBK.out.cell 8; have q9 := HBK.out.cell 9; simp only [List.getElem?_toArray, List.getElem?_cons_zero, List.getElem?_cons_succ] at q7 q8 q9
            go_wp2_with fail
            go_loopw [3, 4] (fun z i wr => ∃ k1 lm1 : Nat, k1 ≤ n1 ∧ i = .int .i64 k1 ∧ lm1 = ln + 5 * k1 ∧ PB w (pkC p (.slice A1 n1 z1) (.slice A2 n2 z2) (.slice A3 n3 z3)) lm1 (G ++ linkBytes (p.hd.take k1)) z wr) (fun _ i _ => n1 - (intOf i).toNat)
            case atStart => exact ⟨0, _, Nat.zero_le _, rfl, rfl, _, _, rfl, by simpa [linkBytes] using HOW.out, HBK.out, HBW.out⟩
            case round =>
              clear HOW HBK HBW HLE5 hws
              rename World => wr
              obtain ⟨k1, lm1, hk1, rfl, hlm, hpb⟩ := hrel
              obtain ⟨A5, c5, rfl, hown, hbk, hbw⟩ := hpb
              have HOW := Lib.hid hown; clear hown
              have HBK := Lib.hid hbk; clear hbk
              have HBW := Lib.hid hbw; clear hbw
              have hws := HBK.out.lt
              have hle5 : ∀ q, (Value.slice A5 lm1 c5).ownBlock = some q → w.heap.size + 1 ≤ q := fun q hq => (HOW.out.lt q hq).1
              have HLE5 := Lib.hid hle5; clear hle5
              have q7 := HBK.out.cell 7; have q8 := HBK.out.cell 8; have q9 := HBK.out.cell 9; simp only [List.getElem?_toArray, List.getElem?_cons_zero, List.getElem?_cons_succ] at q7 q8 q9
              have hlb1 : lm1 ≤ 1400 := by omega
              by_cases hlt : k1 < n1
              · obtain ⟨b, off, rfl, hb, hc⟩ := lks_at H1.out (by omega)
                obtain ⟨c0', c1'⟩ := hc k1 hlt
                have hsucc := linkBytes_succ p.hd k1 (by have := HL1.out; omega)
                have hbd := PALL.out (p.hd.getD k1 (0, 0)) (by simp [List.getD, List.getElem?_eq_getElem (show k1 < p.hd.length by have := HL1.out; omega)])
                clear hc
                generalize p.hd.getD k1 (0, 0) = x at *
                obtain ⟨t, u⟩ := x
                unfold Fits at hbd
                simp only at c0' c1' hbd hsucc
                obtain ⟨t', rfl⟩ : ∃ t' : Nat, t = (t' : Int) := ⟨t.toNat, by omega⟩
                obtain ⟨u', rfl⟩ : ∃ u' : Nat, u = (u' : Int) := ⟨u.toNat, by omega⟩
                have HC0 := Lib.hid (fun (W : World) (hW : Below w.heap.size w W) => (hW.cell (p := ⟨b, off + k1 * 2, none⟩) hb).trans c0')
                have HC1 := Lib.hid (fun (W : World) (hW : Below w.heap.size w W) => (hW.cell (p := ⟨b, off + k1 * 2 + 1, none⟩) hb).trans c1')
                have d0 := HC0.out _ HBW.out
                have d1 := HC1.out _ HBW.out
                have rn4 := fun (W : World) => ref_num 4 u' W (by omega) (by omega)
                have e4' : ((4 : Nat) : Int) = 4 := rfl
                rewrite [e4'] at rn4
                have RN4 := Lib.hid rn4; clear rn4 e4'
                have w4' : IntKind.u8.wrap (t' : Int) = (t' : Int) := by rw [IntKind.wrap_u8]; omega
                have w5' : IntKind.u64.wrap (u' : Int) = (u' : Int) := by rw [IntKind.wrap_u64]; omega
                have htb : t' < 256 := by omega
                have hfin : G ++ linkBytes (p.hd.take k1) ++ [t'] ++ be 4 u' = G ++ linkBytes (p.hd.take (k1 + 1)) := by
                  rw [hsucc]
                  simp [lkBytes, be_one htb]
                generalize G ++ linkBytes (p.hd.take k1) = ys at *
                have HFIN := Lib.hid hfin; clear hfin hsucc c0' c1'
                have HLM := Lib.hid hlm; clear hlm
                have hk0 : (0 : Int) ≤ (k1 : Int) := by omega
                have hk1 : (k1 : Int) < (n1 : Int) := by omega
                go_wp2
                go_region_held3 (fun W => W.cell? ⟨w.heap.size, 7, none⟩ = some (.slice (some ⟨b, off, none⟩) n1 z1) ∧ W.cell? ⟨b, off + k1 * 2, none⟩ = some (.int .i64 (t' : Nat)) ∧ W.cell? ⟨b, off + k1 * 2 + 1, none⟩ = some (.int .i64 (u' : Nat)))
                  (first
                    | with_reducible exact ⟨q7, d0, d1⟩
                    | with_reducible exact ⟨rp17, drp10, drp11⟩
                    | with_reducible exact ⟨sp17, dsp10, dsp11⟩
                    | with_reducible exact ⟨tp17, dtp10, dtp11⟩
                    | go_keep)
                  (first
                    | (refine step_append_any _ rfl (.tmp 75) (.tmp 83) 29 rfl (w.heap.size + 1) 5 i0 (.int .u8 0) 1 1 Try.underlying29 HI.out HZ0.out HZ1.out HZ2.out rfl (by decide) (.slice A5 lm1 c5) lm1 (vals ys) rfl ((HOW.out.alloc (.cells #[.int .u8 (t' : Nat)] 5)).drew) (wr.heap.size + 1) (some ⟨wr.heap.size, 0, none⟩) 1 1 (vals [t']) rfl ((reads_byte wr wr.heap.size rfl _ t' (by omega)).drew) (vals_one _) (by unfold maxLen; omega) (by omega) (by first | omega | (simp; omega)) ?_; intro v6 w6p1 hown hg _; have hb6 := (Chg.low1 HBW.out (.cells #[.int .u8 (t' : Nat)] 5)).drew; have HB6p1 := Lib.hid (hb6.grown hg hb6.size (fun q hq => Nat.le_of_succ_le (HLE5.out q hq))); have K6p1 := Lib.hid (((HBK.out.alloc (.cells #[.int .u8 (t' : Nat)] 5)).drew).grown hg (fun e => Nat.lt_irrefl _ (HLE5.out _ e.symm))); have HO6p1 := Lib.hid (own_fix (n' := lm1 + 1) (xs := ys ++ [t']) hown (vals_append _ _).symm rfl rfl); obtain ⟨A6p1, c6p1, rfl⟩ := Lsa.own_form HO6p1.out; have rp17 := K6p1.out.cell 7; simp only [List.getElem?_toArray, List.getElem?_cons_zero, List.getElem?_cons_succ] at rp17; have drp10 := HC0.out _ HB6p1.out; have drp11 := HC1.out _ HB6p1.out; have hs6 := K6p1.out.lt; clear hown hg hb6)
                    | (go_at_call 37; refine (RN4.out _).mono ?_; rintro e w7p1 ⟨v7, rfl, ho7, hb7⟩; obtain ⟨A7p1, c7p1, rfl, hr7⟩ := own_reads ho7; have HR7 := Lib.hid hr7; have HB7p1 := Lib.hid (Chg.low_low HB6p1.out hb7); have K7p1 := Lib.hid (K6p1.out.below hb7 hs6); have HO7p1 := Lib.hid (own_below HO6p1.out hb7); have sp17 := K7p1.out.cell 7; simp only [List.getElem?_toArray, List.getElem?_cons_zero, List.getElem?_cons_succ] at sp17; have dsp10 := HC0.out _ HB7p1.out; have dsp11 := HC1.out _ HB7p1.out; have hs7 := K7p1.out.lt; clear ho7 hr7 hb7)
                    | (refine step_append_any _ rfl (.tmp 84) (.tmp 92) 29 rfl (w.heap.size + 1) 5 i0 (.int .u8 0) 1 1 Try.underlying29 HI.out HZ0.out HZ1.out HZ2.out rfl (by decide) (.slice A6p1 (lm1 + 1) c6p1) (lm1 + 1) (vals (ys ++ [t'])) rfl HO7p1.out w7p1.heap.size A7p1 4 c7p1 (vals (be 4 u')) rfl HR7.out (vals_one _) (by unfold maxLen; omega) (by omega) (by first | omega | (simp; omega)) ?_; intro v8 w8p1 hown hg _; have HB8p1 := Lib.hid (HB7p1.out.grown hg HB7p1.out.size (fun q hq => Nat.le_of_succ_le (HO7p1.out.lt q hq).1)); have K8p1 := Lib.hid (K7p1.out.grown hg (fun e => Nat.lt_irrefl _ (HO7p1.out.lt _ e.symm).1)); have HO8p1 := Lib.hid (own_fix (n' := ln + 5 * (k1 + 1)) hown (vals_append _ _).symm (by have := HLM.out; omega) HFIN.out); have tp17 := K8p1.out.cell 7; simp only [List.getElem?_toArray, List.getElem?_cons_zero, List.getElem?_cons_succ] at tp17; have dtp10 := HC0.out _ HB8p1.out; have dtp11 := HC1.out _ HB8p1.out; clear hown hg))
                obtain ⟨A8, c8, rfl⟩ := Lsa.own_form HO8p1.out
                go_wp2
                go_roundw
                case rel => exact ⟨k1 + 1, _, by omega, by go_num, rfl, _, _, rfl, HO8p1.out, K8p1.out, HB8p1.out⟩
                case measure => simp [intOf]; omega
              · have htk : p.hd.take k1 = p.hd := List.take_of_length_le (by have := HL1.out; omega)
                rewrite [htk] at HOW
                clear htk
                have HLM1 := Lib.hid hlm; clear hlm
                obtain ⟨G1, hG⟩ : ∃ Y, Y = G ++ linkBytes p.hd := ⟨_, rfl⟩
                rewrite [← hG] at HOW
                have HG1 := Lib.hid hG; clear hG
                have hlx1 : lm1 ≤ 99 := by have := HLM1.out; omega
                go_wp2_with fail
                go_loopw [3, 5] (fun z i wr => ∃ k2 lm2 : Nat, k2 ≤ n2 ∧ i = .int .i64 k2 ∧ lm2 = lm1 + 9 * k2 ∧ PB w (pkC p (.slice A1 n1 z1) (.slice A2 n2 z2) (.slice A3 n3 z3)) lm2 (G1 ++ itBytes (p.it.take k2)) z wr) (fun _ i _ => n2 - (intOf i).toNat)
                case atStart => exact ⟨0, _, Nat.zero_le _, rfl, rfl, _, _, rfl, by simpa [itBytes] using HOW.out, HBK.out, HBW.out⟩
                case round =>
                  clear HOW HBK HBW HLE5 hws
                  rename World => wr
                  obtain ⟨k2, lm2, hk2, rfl, hlm, hpb⟩ := hrel
                  obtain ⟨A5, c5, rfl, hown, hbk, hbw⟩ := hpb
                  have HOW := Lib.hid hown; clear hown
                  have HBK := Lib.hid hbk; clear hbk
                  have HBW := Lib.hid hbw; clear hbw
                  have hws := HBK.out.lt
                  have hle5 : ∀ q, (Value.slice A5 lm2 c5).ownBlock = some q → w.heap.size + 1 ≤ q := fun q hq => (HOW.out.lt q hq).1
                  have HLE5 := Lib.hid hle5; clear hle5
                  have q7 := HBK.out.cell 7; have q8 := HBK.out.cell 8; have q9 := HBK.out.cell 9; simp only [List.getElem?_toArray, List.getElem?_cons_zero, List.getElem?_cons_succ] at q7 q8 q9
                  have hlb2 : lm2 ≤ 1400 := by omega
                  by_cases hlt : k2 < n2
                  · obtain ⟨b, off, rfl, hb, hc⟩ := lks_at H2.out (by omega)
                    obtain ⟨c0', c1'⟩ := hc k2 hlt
                    have hsucc := itBytes_succ p.it k2 (by have := HL2.out; omega)
                    have hbd := IALL.out (p.it.getD k2 (0, 0)) (by simp [List.getD, List.getElem?_eq_getElem (show k2 < p.it.length by have := HL2.out; omega)])
                    clear hc
                    generalize p.it.getD k2 (0, 0) = x at *
                    obtain ⟨t, u⟩ := x
                    skip
                    simp only at c0' c1' hbd hsucc
                    obtain ⟨t', rfl⟩ : ∃ t' : Nat, t = (t' : Int) := ⟨t.toNat, by omega⟩
                    obtain ⟨u', rfl⟩ : ∃ u' : Nat, u = (u' : Int) := ⟨u.toNat, by omega⟩
                    have HC0 := Lib.hid (fun (W : World) (hW : Below w.heap.size w W) => (hW.cell (p := ⟨b, off + k2 * 2, none⟩) hb).trans c0')
                    have HC1 := Lib.hid (fun (W : World) (hW : Below w.heap.size w W) => (hW.cell (p := ⟨b, off + k2 * 2 + 1, none⟩) hb).trans c1')
                    have d0 := HC0.out _ HBW.out
                    have d1 := HC1.out _ HBW.out
                    have rn4 := fun (W : World) => ref_num 8 u' W (by omega) (by omega)
                    have e4' : ((8 : Nat) : Int) = 8 := rfl
                    rewrite [e4'] at rn4
                    have RN4 := Lib.hid rn4; clear rn4 e4'
                    have w4' : IntKind.u8.wrap (t' : Int) = (t' : Int) := by rw [IntKind.wrap_u8]; omega
                    have w5' : IntKind.u64.wrap (u' : Int) = (u' : Int) := by rw [IntKind.wrap_u64]; omega
                    have htb : t' < 256 := by omega
                    have hfin : G1 ++ itBytes (p.it.take k2) ++ [t'] ++ be 8 u' = G1 ++ itBytes (p.it.take (k2 + 1)) := by
                      rw [hsucc]
                      simp [be_one htb]
                    generalize G1 ++ itBytes (p.it.take k2) = ys at *
                    have HFIN := Lib.hid hfin; clear hfin hsucc c0' c1'
                    have HLM := Lib.hid hlm; clear hlm
                    have hk0 : (0 : Int) ≤ (k2 : Int) := by omega
                    have hk1 : (k2 : Int) < (n2 : Int) := by omega
                    go_wp2
                    go_region_held3 (fun W => W.cell? ⟨w.heap.size, 8, none⟩ = some (.slice (some ⟨b, off, none⟩) n2 z2) ∧ W.cell? ⟨b, off + k2 * 2, none⟩ = some (.int .i64 (t' : Nat)) ∧ W.cell? ⟨b, off + k2 * 2 + 1, none⟩ = some (.int .i64 (u' : Nat)))
                      (first
                        | with_reducible exact ⟨q8, d0, d1⟩
                        | with_reducible exact ⟨rp28, drp20, drp21⟩
                        | with_reducible exact ⟨sp28, dsp20, dsp21⟩
                        | with_reducible exact ⟨tp28, dtp20, dtp21⟩
                        | go_keep)
                      (first
                        | (refine step_append_any _ rfl (.tmp 101) (.tmp 109) 29 rfl (w.heap.size + 1) 5 i0 (.int .u8 0) 1 1 Try.underlying29 HI.out HZ0.out HZ1.out HZ2.out rfl (by decide) (.slice A5 lm2 c5) lm2 (vals ys) rfl ((HOW.out.alloc (.cells #[.int .u8 (t' : Nat)] 5)).drew) (wr.heap.size + 1) (some ⟨wr.heap.size, 0, none⟩) 1 1 (vals [t']) rfl ((reads_byte wr wr.heap.size rfl _ t' (by omega)).drew) (vals_one _) (by unfold maxLen; omega) (by omega) (by first | omega | (simp; omega)) ?_; intro v6 w6p2 hown hg _; have hb6 := (Chg.low1 HBW.out (.cells #[.int .u8 (t' : Nat)] 5)).drew; have HB6p2 := Lib.hid (hb6.grown hg hb6.size (fun q hq => Nat.le_of_succ_le (HLE5.out q hq))); have K6p2 := Lib.hid (((HBK.out.alloc (.cells #[.int .u8 (t' : Nat)] 5)).drew).grown hg (fun e => Nat.lt_irrefl _ (HLE5.out _ e.symm))); have HO6p2 := Lib.hid (own_fix (n' := lm2 + 1) (xs := ys ++ [t']) hown (vals_append _ _).symm rfl rfl); obtain ⟨A6p2, c6p2, rfl⟩ := Lsa.own_form HO6p2.out; have rp28 := K6p2.out.cell 8; simp only [List.getElem?_toArray, List.getElem?_cons_zero, List.getElem?_cons_succ] at rp28; have drp20 := HC0.out _ HB6p2.out; have drp21 := HC1.out _ HB6p2.out; have hs6 := K6p2.out.lt; clear hown hg hb6)
                        | (go_at_call 37; refine (RN4.out _).mono ?_; rintro e w7p2 ⟨v7, rfl, ho7, hb7⟩; obtain ⟨A7p2, c7p2, rfl, hr7⟩ := own_reads ho7; have HR7 := Lib.hid hr7; have HB7p2 := Lib.hid (Chg.low_low HB6p2.out hb7); have K7p2 := Lib.hid (K6p2.out.below hb7 hs6); have HO7p2 := Lib.hid (own_below HO6p2.out hb7); have sp28 := K7p2.out.cell 8; simp only [List.getElem?_toArray, List.getElem?_cons_zero, List.getElem?_cons_succ] at sp28; have dsp20 := HC0.out _ HB7p2.out; have dsp21 := HC1.out _ HB7p2.out; have hs7 := K7p2.out.lt; clear ho7 hr7 hb7)
                        | (refine step_append_any _ rfl (.tmp 110) (.tmp 118) 29 rfl (w.heap.size + 1) 5 i0 (.int .u8 0) 1 1 Try.underlying29 HI.out HZ0.out HZ1.out HZ2.out rfl (by decide) (.slice A6p2 (lm2 + 1) c6p2) (lm2 + 1) (vals (ys ++ [t'])) rfl HO7p2.out w7p2.heap.size A7p2 8 c7p2 (vals (be 8 u')) rfl HR7.out (vals_one _) (by unfold maxLen; omega) (by omega) (by first | omega | (simp; omega)) ?_; intro v8 w8p2 hown hg _; have HB8p2 := Lib.hid (HB7p2.out.grown hg HB7p2.out.size (fun q hq => Nat.le_of_succ_le (HO7p2.out.lt q hq).1)); have K8p2 := Lib.hid (K7p2.out.grown hg (fun e => Nat.lt_irrefl _ (HO7p2.out.lt _ e.symm).1)); have HO8p2 := Lib.hid (own_fix (n' := lm1 + 9 * (k2 + 1)) hown (vals_append _ _).symm (by have := HLM.out; omega) HFIN.out); have tp28 := K8p2.out.cell 8; simp only [List.getElem?_toArray, List.getElem?_cons_zero, List.getElem?_cons_succ] at tp28; have dtp20 := HC0.out _ HB8p2.out; have dtp21 := HC1.out _ HB8p2.out; clear hown hg))
                    obtain ⟨A8, c8, rfl⟩ := Lsa.own_form HO8p2.out
                    go_wp2
                    go_roundw
                    case rel => exact ⟨k2 + 1, _, by omega, by go_num, rfl, _, _, rfl, HO8p2.out, K8p2.out, HB8p2.out⟩
                    case measure => simp [intOf]; omega
                  · have htk : p.it.take k2 = p.it := List.take_of_length_le (by have := HL2.out; omega)
                    rewrite [htk] at HOW
                    clear htk
                    have HLM2 := Lib.hid hlm; clear hlm
                    obtain ⟨G2, hG⟩ : ∃ Y, Y = G1 ++ itBytes p.it := ⟨_, rfl⟩
                    rewrite [← hG] at HOW
                    have HG2 := Lib.hid hG; clear hG
                    have hlx2 : lm2 ≤ 675 := by have := HLM2.out; omega
                    go_wp2_with fail
                    go_loopw [3, 6] (fun z i wr => ∃ k3 lm3 : Nat, k3 ≤ n3 ∧ i = .int .i64 k3 ∧ lm3 = lm2 + (dbBytes (p.ls.take k3)).length ∧ PB w (pkC p (.slice A1 n1 z1) (.slice A2 n2 z2) (.slice A3 n3 z3)) lm3 (G2 ++ dbBytes (p.ls.take k3)) z wr) (fun _ i _ => n3 - (intOf i).toNat)
                    case atStart => exact ⟨0, _, Nat.zero_le _, rfl, rfl, _, _, rfl, by simpa [dbBytes] using HOW.out, HBK.out, HBW.out⟩
                    case round =>
                      clear HOW HBK HBW HLE5 hws
                      rename World => wr
                      obtain ⟨k3, lm3, hk3, rfl, hlm, hpb⟩ := hrel
                      obtain ⟨A5, c5, rfl, hown, hbk, hbw⟩ := hpb
                      have HOW := Lib.hid hown; clear hown
                      have HBK := Lib.hid hbk; clear hbk
                      have HBW := Lib.hid hbw; clear hbw
                      have hws := HBK.out.lt
                      have hle5 : ∀ q, (Value.slice A5 lm3 c5).ownBlock = some q → w.heap.size + 1 ≤ q := fun q hq => (HOW.out.lt q hq).1
                      have HLE5 := Lib.hid hle5; clear hle5
                      have q7 := HBK.out.cell 7; have q8 := HBK.out.cell 8; have q9 := HBK.out.cell 9; simp only [List.getElem?_toArray, List.getElem?_cons_zero, List.getElem?_cons_succ] at q7 q8 q9
                      have hlb3 : lm3 ≤ 1600 := by
                        have := dbBytes_take14 p.ls k3 LALL.out
                        omega
                      have hle6 : ∀ q, (Value.slice A5 lm3 c5).ownBlock = some q → w.heap.size + 1 ≤ q := fun q hq => (HOW.out.lt q hq).1
                      by_cases hlt : k3 < n3
                      · obtain ⟨b, off, rfl, hb, hc⟩ := las_at H3.out (by omega)
                        obtain ⟨u, hr, hlk⟩ := hc k3 hlt
                        have c0 := (HBW.out.cell (p := ⟨b, off + k3 * 3 + 0, none⟩) hb).trans (hr 0 _ rfl)
                        have c1_ := (HBW.out.cell (p := ⟨b, off + k3 * 3 + 1, none⟩) hb).trans (hr 1 _ rfl)
                        have c2_ := (HBW.out.cell (p := ⟨b, off + k3 * 3 + 2, none⟩) hb).trans (hr 2 _ rfl)
                        rewrite [Nat.add_zero] at c0
                        have hkl : k3 < p.ls.length := by rw [HL3.out]; exact hlt
                        have hma : may (p.ls.getD k3 zeroL).o (p.ls.getD k3 zeroL).s (p.ls.getD k3 zeroL).ls = true := LALL.out (p.ls.getD k3 zeroL) (by simp [List.getD, List.getElem?_eq_getElem hkl])
                        have hsu := dbBytes_succ p.ls k3 hkl
                        have hbl := laBytes_len14 (p.ls.getD k3 zeroL) hma
                        clear hc hr
                        generalize p.ls.getD k3 zeroL = x at *
                        obtain ⟨Au, nu, cu, rfl, _, hr_⟩ := id hlk
                        clear hr_
                        have rp := rput_any x.o x.s Au nu cu x.ls wr ((hlk.below HBW.out (Nat.le_refl _)).more HBW.out.size) hma
                        obtain ⟨bn, hbn⟩ : ∃ bn, bn = (laBytes x).length := ⟨_, rfl⟩
                        rewrite [← hbn] at hbl
                        have hln2 : lm3 + bn = lm2 + (dbBytes (p.ls.take (k3 + 1))).length := by rw [hsu, List.length_append]; omega
                        have hbb : bytesOf x.o x.s x.ls = laBytes x := rfl
                        rewrite [hbb] at rp
                        generalize laBytes x = bs at *
                        have HSU := Lib.hid hsu; clear hsu
                        have HLN2 := Lib.hid hln2; clear hln2 hlm
                        generalize dbBytes (p.ls.take k3) = ys at *
                        have RP := Lib.hid rp; clear rp
                        have HBN := Lib.hid hbn; clear hbn hbb hlk hma
                        have hk0 : (0 : Int) ≤ (k3 : Int) := by omega
                        have hk1 : (k3 : Int) < (n3 : Int) := by omega
                        go_wp2_with (first
                          | (go_at_call 38; refine (RP.out).mono ?_; rintro e w6 ⟨v6, rfl, hs6, hb6⟩; obtain ⟨A7, n7, c7, rfl, ht7, _⟩ := id hs6; have hn7 : n7 = bn := (by rw [← ht7.1, HBN.out]); subst hn7; have HR6 := Lib.hid ht7.reads; have HB6 := Lib.hid (Chg.low_low HBW.out hb6); have K6 := Lib.hid (HBK.out.below hb6 HBK.out.lt); have HO6 := Lib.hid (own_below HOW.out hb6); have hs6' := K6.out.lt; clear hs6 hb6 ht7)
                          | (at_builtin; (refine wpList_append_any _ rfl (.tmp 127) (.tmp 133) 29 rfl (w.heap.size + 1) 5 i0 (.int .u8 0) 1 1 Try.underlying29 HI.out HZ0.out HZ1.out HZ2.out rfl (by decide) (.slice A5 lm3 c5) lm3 (vals (G2 ++ ys)) rfl HO6.out w6.heap.size A7 n7 c7 (vals bs) rfl HR6.out (vals_one _) (by unfold maxLen; omega) (by omega) (by first | omega | (simp; omega)) ?_; intro v7 w7 hown hg _; have HB7 := Lib.hid (HB6.out.grown hg HB6.out.size (fun q hq => Nat.le_of_succ_le (hle6 q hq))); have K7 := Lib.hid (K6.out.grown hg (fun e => by have := hle6 _ e.symm; omega)); have HO7 := Lib.hid (own_fix (n' := lm3 + n7) (xs := G2 ++ dbBytes (p.ls.take (k3 + 1))) hown (vals_append _ _).symm rfl (by rw [HSU.out, List.append_assoc])); obtain ⟨A8, c8, rfl⟩ := Lsa.own_form HO7.out; clear hown hg)))
                        go_roundw
                        case rel => exact ⟨k3 + 1, _, by omega, by go_num, HLN2.out, _, _, rfl, HO7.out, K7.out, HB7.out⟩
                        case measure => simp [intOf]; omega
                      · rewrite [List.take_of_length_le (show p.ls.length ≤ k3 by have := HL3.out; omega)] at HOW
                        have hbd : G2 ++ dbBytes p.ls = bodyP p := by
                          rw [HG2.out, HG1.out, HG.out, bodyP]
                          simp only [List.append_assoc]
                          rfl
                        rewrite [hbd] at HOW
                        have hsl := sl_own HOW.out (bodyP_lt p) (by omega)
                        obtain ⟨A6, n6, c6, he, hbt, hnc6, hcm6, h06⟩ := hsl
                        injection he with he1 he2 he3
                        subst he1 he2 he3
                        have SE := Lib.hid (Crc.rseal_any A5 lm3 c5 (bodyP p) wr (by omega) h06 hbt)
                        clear hbd hlm hbt hnc6 hcm6 h06
                        go_wp2_with (go_at_call 39; refine (SE.out).mono ?_; rintro e w9 ⟨v9, rfl, ho9, hb9⟩; have HO9 := Lib.hid ho9; have HB9 := Lib.hid (Chg.low_low HBW.out hb9); clear ho9 hb9)
                        go_ret
                        exact ⟨_, rfl, sl_own HO9.out (putP_lt p) (by omega), HB9.out⟩
end Go.Proofs.Ytpolpppnajfhdaa.Pkt
