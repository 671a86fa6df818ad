/- What a log makes of sectors (layer 8): the contracts of wal.isNew, log, pages, isAt and records. -/
import Derived.Test.YtddhkajcakndlaaSlotAll
import Derived.Test.YtddhkajcakndlaaWalRead
namespace Go.Proofs.Ytddhkajcakndlaa.Wl
open Go.RowKit Go.Proofs.Ytddhkajcakndlaa.Mem Go.Proofs.Ytddhkajcakndlaa.Pg Go.Proofs.Ytddhkajcakndlaa.Rcd Go.Proofs.Ytddhkajcakndlaa.Slt
open Go.Proofs.Ytddhkajcakndlaa.Plt (sl plV sl_le sl_pos)
set_option linter.unusedVariables false
set_option linter.unusedSimpArgs false
/-- is a disk without a whole slot new: are all blank but those from f to t? -/
def newTo (D : Nat → List Nat) (f t k : Nat) : Bool := (List.range k).all fun i => (decide (f ≤ i) && decide (i < t)) || decide (D i = Pg.noughts)
theorem newTo_step {D : Nat → List Nat} {f t k : Nat} (h : newTo D f t k = true) : newTo D f t (k + 1) = ((decide (f ≤ k) && decide (k < t)) || decide (D k = Pg.noughts)) := by
  unfold newTo at h ⊢
  rw [List.range_succ, List.all_append, h]
  simp
theorem newTo_no {D : Nat → List Nat} {f t k n : Nat} (hk : k < n) (h : newTo D f t (k + 1) = false) : newTo D f t n = false := by
  cases e : newTo D f t n with
  | false => rfl
  | true =>
    exfalso
    have : newTo D f t (k + 1) = true := by
      unfold newTo at e ⊢
      rw [List.all_eq_true] at e ⊢
      intro i hi
      exact e i (by rw [List.mem_range] at hi ⊢; omega)
    rw [this] at h
    cases h
set_option maxRecDepth 20000 in
set_option maxHeartbeats 2000000 in
theorem isNew_any (k : Nat) (A : Option Addr) (c : Nat) (D : Nat → List Nat) (w : World) (h1 : 6 ≤ k) (h2 : k ≤ 1000) (h : Sls w w.heap.size (.slice A k c) (ofS D k)) :
    Calls Try.prog 42 #[plV (sl k : Nat) (2 * (sl k : Nat)) (lg k : Nat), .slice A k c] w fun e w' => e = .returned (.bool (newTo D (slotAt (sl k) 1) (slotAt (sl k) 1 + sl k) k)) ∧ Below w.heap.size w w' := by
  have sk := fun (W : World) => slot_k k 1 W h1 (by omega) (by omega) (by omega)
  have hgt := fun i hi => ofS_get D k i hi
  obtain ⟨f, hf⟩ : ∃ f, f = slotAt (sl k) 1 := ⟨_, rfl⟩
  rw [← hf] at sk ⊢
  obtain ⟨t, ht⟩ : ∃ t, t = f + sl k := ⟨_, rfl⟩
  rw [← ht] at sk ⊢
  generalize ofS D k = L at *
  have HGT := Lib.hid hgt; clear hgt
  have HS := Lib.hid h; clear h
  generalize lg k = l at *
  generalize sl k = m at *
  have SK := Lib.hid sk; clear sk
  clear hf ht
  have HB0 := Lib.hid (palloc (Below.refl w.heap.size w) (.cells #[.int .i64 (m : Nat), .int .i64 (2 * (m : Nat)), .int .i64 (l : Nat)] 40))
  go_enter Try.func42, Try.ntmps42
  go_wp2_with (go_at_call 53; refine (SK.out _).mono ?_; rintro e w1 ⟨rfl, hb⟩; have HB := Lib.hid (HB0.out.trans (hb.mono HB0.out.size)); clear hb)
  go_loopw [16] (fun i wr => ∃ j : Nat, j ≤ k ∧ i = .int .i64 j ∧ newTo D f t j = true ∧ Below w.heap.size w wr) (fun i _ => k - (intOf i).toNat)
  case atStart => exact ⟨0, Nat.zero_le _, rfl, rfl, HB.out⟩
  case round =>
    obtain ⟨j, hj, rfl, hnt, hbw⟩ := hrel
    have HBW := Lib.hid hbw; clear hbw
    have HNT := Lib.hid hnt; clear hnt
    by_cases hlt : j < k
    · obtain ⟨b, off, e, hb, hc⟩ := sls_at HS.out (by omega)
      subst e
      obtain ⟨u, hu, hus⟩ := hc j hlt
      rw [HGT.out j hlt] at hus
      obtain ⟨A1, n1, c1, rfl, hbt, _⟩ := id hus
      have hu' : wr.cell? ⟨b, off + j, none⟩ = some (.slice A1 n1 c1) := by rw [HBW.out.cell (p := ⟨b, off + j, none⟩) hb]; exact hu
      have bl := blank_any A1 n1 c1 w.heap.size (D j) wr (hbt.below HBW.out (Nat.le_refl _)) HBW.out.size
      have hst := newTo_step HNT.out
      have hno := @newTo_no D f t j k hlt
      obtain ⟨bb, hbb⟩ : ∃ bb, bb = decide (D j = Pg.noughts) := ⟨_, rfl⟩
      rw [← hbb] at bl hst
      have BL := Lib.hid bl; clear bl hbb
      have HST := Lib.hid hst; clear hst
      have HNO := Lib.hid hno; clear hno
      clear hu hc hus hbt
      by_cases hjf : j < f
      · have e1 : newTo D f t (j + 1) = bb := by rw [HST.out, decide_eq_false (by omega)]; simp
        have E1 := Lib.hid e1; clear e1
        cases bb
        · go_wp2_with (go_at_call 59; refine (BL.out).mono ?_; rintro e w2 ⟨rfl, hb2⟩; have HB2 := Lib.hid (HBW.out.trans (hb2.mono HBW.out.size)); clear hb2)
          go_ret
          exact ⟨ret_bool (HNO.out E1.out).symm, HB2.out⟩
        · go_wp2_with (go_at_call 59; refine (BL.out).mono ?_; rintro e w2 ⟨rfl, hb2⟩; have HB2 := Lib.hid (HBW.out.trans (hb2.mono HBW.out.size)); clear hb2)
          go_roundw
          case rel => exact ⟨j + 1, by omega, by go_num, E1.out, HB2.out⟩
          case measure => simp [intOf]; omega
      · by_cases hjt : t ≤ j
        · have e1 : newTo D f t (j + 1) = bb := by rw [HST.out, decide_eq_false (by omega : ¬ j < t)]; simp
          have E1 := Lib.hid e1; clear e1
          cases bb
          · go_wp2_with (go_at_call 59; refine (BL.out).mono ?_; rintro e w2 ⟨rfl, hb2⟩; have HB2 := Lib.hid (HBW.out.trans (hb2.mono HBW.out.size)); clear hb2)
            go_ret
            exact ⟨ret_bool (HNO.out E1.out).symm, HB2.out⟩
          · go_wp2_with (go_at_call 59; refine (BL.out).mono ?_; rintro e w2 ⟨rfl, hb2⟩; have HB2 := Lib.hid (HBW.out.trans (hb2.mono HBW.out.size)); clear hb2)
            go_roundw
            case rel => exact ⟨j + 1, by omega, by go_num, E1.out, HB2.out⟩
            case measure => simp [intOf]; omega
        · have e1 : newTo D f t (j + 1) = true := by rw [HST.out, decide_eq_true (by omega : f ≤ j), decide_eq_true (by omega : j < t)]; simp
          have E1 := Lib.hid e1; clear e1
          go_wp2
          go_roundw
          case rel => exact ⟨j + 1, by omega, by go_num, E1.out, HBW.out⟩
          case measure => simp [intOf]; omega
    · obtain rfl : j = k := by omega
      go_wp2
      go_ret
      exact ⟨ret_bool HNT.out.symm, HBW.out⟩
set_option maxRecDepth 20000 in
set_option maxHeartbeats 2000000 in
theorem log_any (k : Nat) (A : Option Addr) (c : Nat) (D : Nat → List Nat) (w : World) (h1 : 6 ≤ k) (h2 : k ≤ 1000) (h : Sls w w.heap.size (.slice A k c) (ofS D k)) :
    Calls Try.prog 23 #[plV (sl k : Nat) (2 * (sl k : Nat)) (lg k : Nat), .slice A k c] w fun e w' => ∃ b, e = .returned (.slice (some ⟨b, 0, none⟩) (lg k) (lg k)) ∧ Sls w' w'.heap.size (.slice (some ⟨b, 0, none⟩) (lg k) (lg k)) (ofS (fun i => D (2 * sl k + i)) (lg k)) ∧ Below w.heap.size w w' := by
  have hlk : lg k ≤ 1000 ∧ 2 * sl k + lg k = k := by have := sl_le k; unfold lg; omega
  have at_ := fun (W : World) (i : Nat) (hi : i < lg k) => at_k k i W h1 (by omega) hi
  have hgt := fun i hi => ofS_get D k i hi
  obtain ⟨F, hF⟩ : ∃ F : Nat → List Nat, F = fun i => D (2 * sl k + i) := ⟨_, rfl⟩
  have hgF : ∀ i, F i = D (2 * sl k + i) := fun i => by rw [hF]
  rw [← hF]
  have hg2 := fun i hi => ofS_get F (lg k) i hi
  have hl2 := ofS_len F (lg k)
  generalize ofS F (lg k) = L2 at *
  generalize ofS D k = L at *
  have HGT := Lib.hid hgt; clear hgt
  have HGF := Lib.hid hgF; clear hgF
  have HG2 := Lib.hid hg2; clear hg2
  have HL2 := Lib.hid hl2; clear hl2
  have HS := Lib.hid h; clear h
  clear hF
  generalize lg k = l at *
  generalize sl k = m at *
  have AT := Lib.hid at_; clear at_
  obtain ⟨hl1, hml⟩ := hlk
  have HML := Lib.hid hml; clear hml
  have hmk := fun (W : World) => make_slices l hl1 W
  have kp := Blk.new w 40 #[.int .i64 (m : Nat), .int .i64 (2 * (m : Nat)), .int .i64 (l : Nat)]
  have HB0 := Lib.hid (palloc (Below.refl w.heap.size w) (.cells #[.int .i64 (m : Nat), .int .i64 (2 * (m : Nat)), .int .i64 (l : Nat)] 40))
  have KP := Lib.hid kp; clear kp
  go_enter Try.func23, Try.ntmps23
  go_wp2
  generalize hw1 : w.alloc (.cells #[.int .i64 (m : Nat), .int .i64 (2 * (m : Nat)), .int .i64 (l : Nat)] 40) = w1 at *
  have hg1 : w1.heap.size = w.heap.size + 1 := by rw [← hw1]; simp
  have hmd := made_new w1 l F
  have hbm := palloc (Below.refl w1.heap.size w1) (Obj.cells (List.replicate l (Value.slice none 0 0)).toArray 22)
  rw [hg1] at hmd hbm
  have HG1 := Lib.hid hg1; clear hg1 hw1
  go_loopw [12] (fun i wr => ∃ j : Nat, j ≤ l ∧ i = .int .i64 j ∧ Made wr (w.heap.size + 1) l j F ∧ Below (w.heap.size + 1) w1 wr) (fun i _ => l - (intOf i).toNat)
  case atStart => exact ⟨0, Nat.zero_le _, rfl, hmd, hbm⟩
  case round =>
    obtain ⟨j, hj, rfl, hmd, hbw⟩ := hrel
    have HBW := Lib.hid hbw; clear hbw
    have HMK := Lib.hid hmd; clear hmd
    by_cases hlt : j < l
    · obtain ⟨b, off, e, hb, hc⟩ := sls_at HS.out (by have := HML.out; omega)
      subst e
      obtain ⟨u, hu, hus⟩ := hc (2 * m + j) (by have := HML.out; omega)
      rw [HGT.out _ (by have := HML.out; omega), ← HGF.out j] at hus
      have hbl := HB0.out.trans (HBW.out.mono (Nat.le_succ _))
      have kpw := KP.out.below HBW.out (Nat.lt_succ_self _)
      have p0 := kpw.cell 0
      have p1 := kpw.cell 1
      have p2 := kpw.cell 2
      have hzp := kpw.lt
      simp at p0 p1 p2
      have HUS := Lib.hid ((hus.below hbl (Nat.le_refl _)).more hbl.size)
      obtain ⟨A1, n1, c1, rfl, _⟩ := id hus
      have hu' : wr.cell? ⟨b, off + (2 * m + j), none⟩ = some (.slice A1 n1 c1) := by rw [hbl.cell (p := ⟨b, off + (2 * m + j), none⟩) hb]; exact hu
      have HBL := Lib.hid hbl
      have HU := Lib.hid hu'
      have HBB := Lib.hid hb
      clear hu hc hus hbl hu' kpw hb
      obtain ⟨q, hq⟩ : ∃ q, q = 2 * m + j := ⟨_, rfl⟩
      have hat := fun (W : World) => AT.out W j hlt
      rw [← hq] at hat HU
      have hqk : q < k := by have := HML.out; omega
      have HAT := Lib.hid hat; clear hat hq
      go_wp2_with (go_at_call 27; refine (HAT.out _).mono ?_; rintro e w2 ⟨rfl, hb2⟩; have hu2 := (hb2.cell (p := ⟨b, off + q, none⟩) (Nat.lt_of_lt_of_le HBB.out HBL.out.size)).trans HU.out; have HM2 := Lib.hid (HMK.out.below hb2); have HB2 := Lib.hid (HBW.out.trans (hb2.mono (Nat.le_trans (by rw [HG1.out]; exact Nat.le_refl _) HBW.out.size))); have HS2 := Lib.hid ((HUS.out.below hb2 (Nat.le_refl _)).more hb2.size); obtain ⟨⟨uk, huk, huo⟩, hfk4, hg4⟩ := HM2.out.cell hlt; clear hb2)
      go_roundw
      case rel => exact ⟨j + 1, by omega, by go_num, HM2.out.step hlt HS2.out, HB2.out.grown (grown_set w2 ⟨w.heap.size + 1, j, none⟩ _) (Nat.le_trans (by rw [HG1.out]; exact Nat.le_refl _) HB2.out.size) (fun q hq => by cases hq; exact Nat.le_refl _)⟩
      case measure => simp [intOf]; omega
    · obtain rfl : j = l := by omega
      go_wp2
      go_ret
      exact ⟨_, rfl, HMK.out.sls (by unfold maxLen; omega) HL2.out (fun i hi => HG2.out i hi), HB0.out.trans (HBW.out.mono (Nat.le_succ _))⟩
set_option maxRecDepth 20000 in
set_option maxHeartbeats 4000000 in
theorem wpages_any (A : Option Addr) (n c : Nat) (ss : List (List Nat)) (w : World) (h : Sls w w.heap.size (.slice A n c) ss) (hn : n ≤ 1000) (hlen : ∀ s ∈ ss, s.length ≤ 600) :
    Calls Try.prog 43 #[.slice A n c] w fun e w' => ∃ v', e = .returned v' ∧ PgRow w' w.heap.size v' (pagesOf ss) ∧ Below w.heap.size w w' := by
  obtain ⟨hsl, hnc, hcm⟩ := sls_len h
  obtain ⟨ts, hts⟩ : ∃ ts, ts = ss := ⟨_, rfl⟩
  rw [← hts] at h hlen hsl ⊢
  clear hts
  have HSL := Lib.hid hsl; clear hsl
  have HS := Lib.hid h; clear h
  have HLN := Lib.hid hlen; clear hlen
  obtain ⟨i0, hi, hz0, hz1, hz2⟩ := info_parts info24
  have HI := Lib.hid hi; clear hi
  have HZ0 := Lib.hid hz0; clear hz0
  have HZ1 := Lib.hid hz1; clear hz1
  have HZ2 := Lib.hid hz2; clear hz2
  go_enter Try.func43, Try.ntmps43
  go_wp2
  go_loopw [3, 10] (fun v i wr => ∃ k : Nat, k ≤ n ∧ i = .int .i64 k ∧ (pagesOf (ts.take k)).length = k ∧ PgRow wr w.heap.size v (pagesOf (ts.take k)) ∧ Below w.heap.size w wr) (fun _ i _ => n - (intOf i).toNat)
  case atStart => exact ⟨0, Nat.zero_le _, rfl, rfl, pgRow_nil _ _, Below.refl _ _⟩
  case round =>
    obtain ⟨k, hk, rfl, hpk, hrow, hbw⟩ := hrel
    have HB := Lib.hid hbw; clear hbw
    have HROW := Lib.hid hrow; clear hrow
    have HPK := Lib.hid hpk; clear hpk
    by_cases hlt : k < n
    · obtain ⟨b, off, e, hb, hc⟩ := sls_at HS.out (by omega)
      subst e
      obtain ⟨u, hu, hus⟩ := hc k hlt
      obtain ⟨A1, n1, c1, rfl, _⟩ := id hus
      have hu' : wr.cell? ⟨b, off + k, none⟩ = some (.slice A1 n1 c1) := by rw [HB.out.cell (p := ⟨b, off + k, none⟩) hb]; exact hu
      have hsl1 : (ts.getD k []).length ≤ 600 := HLN.out _ (getD_mem_sl (by have := HSL.out; omega))
      have hpt := pagesOf_take HPK.out (by have := HSL.out; omega)
      have hps := fun hg => pagesOf_stop HPK.out (by have := HSL.out; omega) hg
      obtain ⟨s, hs⟩ : ∃ s, s = ts.getD k [] := ⟨_, rfl⟩
      rw [← hs] at hus hsl1 hpt hps
      have hup := sl_up hus HB.out
      have HUP := Lib.hid hup; clear hup hus hc hs hu
      cases hg : got s with
      | none =>
        have hp2 := hps hg
        have HP2 := Lib.hid hp2; clear hp2 hpt hps
        have gt := get_none _ s wr HUP.out (by omega) hg
        have GT := Lib.hid gt; clear gt hg
        go_wp2_with (go_at_call 39; refine (GT.out).mono ?_; rintro e w4 ⟨A4, n4, c4, rfl, hb4⟩; have HR4 := Lib.hid ((HROW.out).below (palloc hb4 (Obj.cells #[.int .i64 0, .int .i64 0, .int .i64 0, .int .i64 0, .int .i64 0, .int .i64 0, .slice A4 n4 c4] 59))); have HB4 := Lib.hid (HB.out.trans ((palloc hb4 (Obj.cells #[.int .i64 0, .int .i64 0, .int .i64 0, .int .i64 0, .int .i64 0, .int .i64 0, .slice A4 n4 c4] 59)).mono HB.out.size)); clear hb4)
        go_ret
        rw [HP2.out]
        exact ⟨_, rfl, HR4.out, HB4.out⟩
      | some p =>
        have hp2 : pagesOf (ts.take (k + 1)) = pagesOf (ts.take k) ++ [p] := by rw [hpt, hg]
        have HP2 := Lib.hid hp2; clear hp2 hpt hps
        obtain ⟨ps, hps⟩ : ∃ ps, ps = pagesOf (ts.take k) := ⟨_, rfl⟩
        rw [← hps] at HROW HP2 HPK
        clear hps
        have gt := get_some _ s p wr HUP.out (by omega) hg
        have GT := Lib.hid gt; clear gt hg
        have hk16 : k < 1000 := by omega
        go_wp2_with (first
          | (go_at_call 39; refine (GT.out).mono ?_; rintro e w4 ⟨A4, n4, c4, rfl, hbt4, hb4⟩; obtain ⟨vs, hvl, hown4, hvs⟩ := (HROW.out).below hb4; have HVL := Lib.hid hvl; have HOW := Lib.hid hown4; have HVS := Lib.hid hvs; have HBT := Lib.hid hbt4; have HB4 := Lib.hid (HB.out.trans (hb4.mono HB.out.size)); have hz4 := HB4.out.size; clear hb4 hbt4 hvl hown4 hvs)
          | (at_builtin; refine wpList_append_n _ rfl (.tmp 21) (.tmp 23) 60 rfl w.heap.size 59 i0 zPg 7 72 Try.underlying60 HI.out HZ0.out HZ1.out HZ2.out rfl (by decide) zPg_nob u3 ps.length (flat ps vs) rfl ?own ((w4.alloc (Obj.cells #[.int .i64 p.kind, .int .i64 p.gen, .int .i64 p.mark, .int .i64 p.index, .int .i64 p.part, .int .i64 p.parts, .slice A4 n4 c4] 59)).heap.size + 1) (some ⟨(w4.alloc (Obj.cells #[.int .i64 p.kind, .int .i64 p.gen, .int .i64 p.mark, .int .i64 p.index, .int .i64 p.part, .int .i64 p.parts, .slice A4 n4 c4] 59)).heap.size, 0, none⟩) 1 1 (row p (.slice A4 n4 c4)) ?hx ?hr (row_one _ _ _ _) (row_nob _ _ _ _) ?h63 ?hby ?hbase ?_; (case own => exact HOW.out.below (palloc (palloc (Below.refl _ _) _) _)); (case hx => first | rfl | simp [Act.eval]); (case hr => exact reads_page _ _ _ rfl rfl); (case h63 => (have := HPK.out; unfold maxLen; omega)); (case hby => (have := HPK.out; omega)); (case hbase => (simp; omega)); intro v5 w5 hown5 hg5 _; have hbw := palloc (palloc (Below.refl w4.heap.size w4) (Obj.cells #[.int .i64 p.kind, .int .i64 p.gen, .int .i64 p.mark, .int .i64 p.index, .int .i64 p.part, .int .i64 p.parts, .slice A4 n4 c4] 59)) (Obj.cells #[.int .i64 p.kind, .int .i64 p.gen, .int .i64 p.mark, .int .i64 p.index, .int .i64 p.part, .int .i64 p.parts, .slice A4 n4 c4] 59); have HR5 := Lib.hid (pgRow_push (q := p) HVL.out HOW.out HVS.out ⟨A4, n4, c4, rfl, HBT.out⟩ hbw hown5 hg5); have HB5 := Lib.hid ((HB4.out.trans (hbw.mono HB4.out.size)).grown hg5 (HB4.out.trans (hbw.mono HB4.out.size)).size (fun q hq => (HOW.out.1.lt q hq).1)); clear hown5 hg5 hbw))
        go_roundw
        case rel => exact ⟨k + 1, by omega, by go_num, by rw [HP2.out, List.length_append, HPK.out]; rfl, by rw [HP2.out]; exact HR5.out, HB5.out⟩
        case measure => simp [intOf]; omega
    · obtain rfl : k = n := by omega
      have htk : ts.take k = ts := List.take_of_length_le (by have := HSL.out; omega)
      rw [htk] at HROW
      go_wp2
      go_ret
      exact ⟨_, rfl, HROW.out, HB.out⟩
end Go.Proofs.Ytddhkajcakndlaa.Wl
