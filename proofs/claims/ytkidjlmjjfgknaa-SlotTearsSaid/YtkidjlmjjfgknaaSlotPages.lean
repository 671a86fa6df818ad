/- The pages that sectors begin with (layer 7): the contracts of slot.pages and the reference's Pages. -/
import Derived.Test.YtkidjlmjjfgknaaSlotMark
import Derived.Test.YtkidjlmjjfgknaaPgRow
namespace Go.Proofs.Ytkidjlmjjfgknaa.Slt
open Go.RowKit Go.Proofs.Ytkidjlmjjfgknaa.Mem Go.Proofs.Ytkidjlmjjfgknaa.Oct Go.Proofs.Ytkidjlmjjfgknaa.Pg Go.Proofs.Ytkidjlmjjfgknaa.Rcd
set_option linter.unusedVariables false
set_option linter.unusedSimpArgs false
theorem reads_page' (w : World) (cs : Array Value) (g : Nat) (hg : g = w.heap.size) (hs : cs.size = 7) : Reads (w.alloc (.cells cs 43)) (w.alloc (.cells cs 43)).heap.size 7 (some ⟨g, 0, none⟩) 1 cs.toList := by
  have := reads_page w cs g hg hs
  simpa using this
set_option maxRecDepth 20000 in
set_option maxHeartbeats 4000000 in
theorem pages_any (A : Option Addr) (n c : Nat) (ss : List (List Nat)) (w : World) (h : Sls w w.heap.size (.slice A n c) ss) (hn : n ≤ 1000) (hA : A = none → c = 0) (hlen : ∀ s ∈ ss, s.length ≤ 600) :
    Calls Try.prog 19 #[.slice A n c] w fun e w' => ∃ v', e = .returned v' ∧ PgRow w' w.heap.size v' (pagesOf (ss.take 16)) ∧ Below w.heap.size w w' := by
  obtain ⟨hsl, hnc, hcm⟩ := sls_len h
  obtain ⟨m, hm⟩ : ∃ m, m = min n 16 := ⟨_, rfl⟩
  have hmI : min (n : Int) 16 = (m : Int) := by omega
  have hmn : m ≤ n := by omega
  have hmc : m ≤ c := by omega
  have hm16 : m ≤ 16 := by omega
  have htk : ss.take 16 = ss.take m := by
    by_cases h16 : n ≤ 16
    · rw [List.take_of_length_le (by omega), List.take_of_length_le (by omega)]
    · rw [show m = 16 by omega]
  rw [htk]
  have hS := h.take hmn
  have hlS : ∀ s ∈ ss.take m, s.length ≤ 600 := fun s hs => hlen s (List.mem_of_mem_take hs)
  have hsl2 : (ss.take m).length = m := by rw [List.length_take]; omega
  obtain ⟨ts, hts⟩ : ∃ ts, ts = ss.take m := ⟨_, rfl⟩
  rw [← hts] at hS hlS hsl2 ⊢
  clear hts htk hlen hsl h
  have HSL := Lib.hid hsl2; clear hsl2
  have HS := Lib.hid hS; clear hS
  have HLN := Lib.hid hlS; clear hlS
  have HM := Lib.hid hm; clear hm
  obtain ⟨i0, hi, hz0, hz1, hz2⟩ := info_parts info24
  have HI := Lib.hid hi; clear hi
  have HZ0 := Lib.hid hz0; clear hz0
  have HZ1 := Lib.hid hz1; clear hz1
  have HZ2 := Lib.hid hz2; clear hz2
  rcases A with _ | ad
  · obtain rfl : c = 0 := hA rfl
    obtain rfl : n = 0 := by omega
    obtain rfl : m = 0 := by omega
    have e : ts = [] := List.eq_nil_of_length_eq_zero HSL.out
    subst e
    go_enter Try.func19, Try.ntmps19
    go_wp2
    go_loopw [3, 14] (fun v i wr => v = .slice none 0 0 ∧ i = .int .i64 0 ∧ wr = w) (fun _ i _ => 0)
    case atStart => exact ⟨rfl, rfl, rfl⟩
    case round =>
      obtain ⟨rfl, rfl, rfl⟩ := hrel
      go_wp2
      go_ret
      exact ⟨_, rfl, pgRow_nil _ _, Below.refl _ _⟩
  · go_enter Try.func19, Try.ntmps19
    go_wp2
    go_loopw [3, 14] (fun v i wr => ∃ k : Nat, k ≤ m ∧ i = .int .i64 k ∧ (pagesOf (ts.take k)).length = k ∧ PgRow wr w.heap.size v (pagesOf (ts.take k)) ∧ Below w.heap.size w wr) (fun _ i _ => m - (intOf i).toNat)
    case atStart => exact ⟨0, Nat.zero_le _, rfl, rfl, pgRow_nil _ _, Below.refl _ _⟩
    case round =>
      obtain ⟨k, hk, rfl, hpk, hrow, hbw⟩ := hrel
      have HB := Lib.hid hbw; clear hbw
      have HROW := Lib.hid hrow; clear hrow
      have HPK := Lib.hid hpk; clear hpk
      by_cases hlt : k < m
      · obtain ⟨b, off, e, hb, hc⟩ := sls_at HS.out (by omega)
        injection e with e
        subst e
        obtain ⟨u, hu, hus⟩ := hc k hlt
        obtain ⟨A1, n1, c1, rfl, _⟩ := id hus
        have hu' : wr.cell? ⟨b, off + k, none⟩ = some (.slice A1 n1 c1) := by rw [HB.out.cell (p := ⟨b, off + k, none⟩) hb]; exact hu
        have hsl1 : (ts.getD k []).length ≤ 600 := HLN.out _ (getD_mem_sl (by have := HSL.out; omega))
        have hpt := pagesOf_take HPK.out (by have := HSL.out; omega)
        have hps := fun hg => pagesOf_stop HPK.out (by have := HSL.out; omega) hg
        obtain ⟨s, hs⟩ : ∃ s, s = ts.getD k [] := ⟨_, rfl⟩
        rw [← hs] at hus hsl1 hpt hps
        have hup := sl_up hus HB.out
        have HUP := Lib.hid hup; clear hup hus hc hs hu
        cases hg : got s with
        | none =>
          have hp2 := hps hg
          have HP2 := Lib.hid hp2; clear hp2 hpt hps
          have gt := get_none _ s wr HUP.out (by omega) hg
          have GT := Lib.hid gt; clear gt hg
          go_wp2_with (go_at_call 23; refine (GT.out).mono ?_; rintro e w4 ⟨A4, n4, c4, rfl, hb4⟩; have HR4 := Lib.hid ((HROW.out).below (palloc hb4 (Obj.cells #[.int .i64 0, .int .i64 0, .int .i64 0, .int .i64 0, .int .i64 0, .int .i64 0, .slice A4 n4 c4] 43))); have HB4 := Lib.hid (HB.out.trans ((palloc hb4 (Obj.cells #[.int .i64 0, .int .i64 0, .int .i64 0, .int .i64 0, .int .i64 0, .int .i64 0, .slice A4 n4 c4] 43)).mono HB.out.size)); clear hb4)
          go_ret
          rw [HP2.out]
          exact ⟨_, rfl, HR4.out, HB4.out⟩
        | some p =>
          have hp2 : pagesOf (ts.take (k + 1)) = pagesOf (ts.take k) ++ [p] := by rw [hpt, hg]
          have HP2 := Lib.hid hp2; clear hp2 hpt hps
          obtain ⟨ps, hps⟩ : ∃ ps, ps = pagesOf (ts.take k) := ⟨_, rfl⟩
          rw [← hps] at HROW HP2 HPK
          clear hps
          have gt := get_some _ s p wr HUP.out (by omega) hg
          have GT := Lib.hid gt; clear gt hg
          have hk16 : k < 16 := by omega
          go_wp2_with (first
            | (go_at_call 23; refine (GT.out).mono ?_; rintro e w4 ⟨A4, n4, c4, rfl, hbt4, hb4⟩; obtain ⟨vs, hvl, hown4, hvs⟩ := (HROW.out).below hb4; have HVL := Lib.hid hvl; have HOW := Lib.hid hown4; have HVS := Lib.hid hvs; have HBT := Lib.hid hbt4; have HB4 := Lib.hid (HB.out.trans (hb4.mono HB.out.size)); have hz4 := HB4.out.size; clear hb4 hbt4 hvl hown4 hvs)
            | (at_builtin; refine wpList_append_n _ rfl (.tmp 25) (.tmp 27) 47 rfl w.heap.size 43 i0 zPg 7 72 Try.underlying47 HI.out HZ0.out HZ1.out HZ2.out rfl (by decide) zPg_nob u3 ps.length (flat ps vs) rfl ?own ((w4.alloc (Obj.cells #[.int .i64 p.kind, .int .i64 p.gen, .int .i64 p.mark, .int .i64 p.index, .int .i64 p.part, .int .i64 p.parts, .slice A4 n4 c4] 43)).heap.size + 1) (some ⟨(w4.alloc (Obj.cells #[.int .i64 p.kind, .int .i64 p.gen, .int .i64 p.mark, .int .i64 p.index, .int .i64 p.part, .int .i64 p.parts, .slice A4 n4 c4] 43)).heap.size, 0, none⟩) 1 1 (row p (.slice A4 n4 c4)) ?hx ?hr (row_one _ _ _ _) (row_nob _ _ _ _) ?h63 ?hby ?hbase ?_; (case own => exact HOW.out.below (palloc (palloc (Below.refl _ _) _) _)); (case hx => first | rfl | simp [Act.eval]); (case hr => exact reads_page _ _ _ rfl rfl); (case h63 => (have := HPK.out; unfold maxLen; omega)); (case hby => (have := HPK.out; omega)); (case hbase => (simp; omega)); intro v5 w5 hown5 hg5 _; have hbw := palloc (palloc (Below.refl w4.heap.size w4) (Obj.cells #[.int .i64 p.kind, .int .i64 p.gen, .int .i64 p.mark, .int .i64 p.index, .int .i64 p.part, .int .i64 p.parts, .slice A4 n4 c4] 43)) (Obj.cells #[.int .i64 p.kind, .int .i64 p.gen, .int .i64 p.mark, .int .i64 p.index, .int .i64 p.part, .int .i64 p.parts, .slice A4 n4 c4] 43); have HR5 := Lib.hid (pgRow_push (q := p) HVL.out HOW.out HVS.out ⟨A4, n4, c4, rfl, HBT.out⟩ hbw hown5 hg5); have HB5 := Lib.hid ((HB4.out.trans (hbw.mono HB4.out.size)).grown hg5 (HB4.out.trans (hbw.mono HB4.out.size)).size (fun q hq => (HOW.out.1.lt q hq).1)); clear hown5 hg5 hbw))
          go_roundw
          case rel => exact ⟨k + 1, by omega, by go_num, by rw [HP2.out, List.length_append, HPK.out]; rfl, by rw [HP2.out]; exact HR5.out, HB5.out⟩
          case measure => simp [intOf]; omega
      · obtain rfl : k = m := by omega
        have htk : ts.take k = ts := List.take_of_length_le (by have := HSL.out; omega)
        rw [htk] at HROW
        go_wp2
        go_ret
        exact ⟨_, rfl, HROW.out, HB.out⟩
set_option maxRecDepth 20000 in
set_option maxHeartbeats 4000000 in
theorem rpages_any (A : Option Addr) (n c : Nat) (ss : List (List Nat)) (w : World) (h : Sls w w.heap.size (.slice A n c) ss) (hn : n ≤ 1000) (hlen : ∀ s ∈ ss, s.length ≤ 600) :
    Calls Try.prog 21 #[.slice A n c] w fun e w' => ∃ v', e = .returned v' ∧ PgRow w' w.heap.size v' (pagesOf ss) ∧ Below w.heap.size w w' := by
  obtain ⟨hsl, hnc, hcm⟩ := sls_len h
  obtain ⟨ts, hts⟩ : ∃ ts, ts = ss := ⟨_, rfl⟩
  rw [← hts] at h hlen hsl ⊢
  clear hts
  have HSL := Lib.hid hsl; clear hsl
  have HS := Lib.hid h; clear h
  have HLN := Lib.hid hlen; clear hlen
  obtain ⟨i0, hi, hz0, hz1, hz2⟩ := info_parts info24
  have HI := Lib.hid hi; clear hi
  have HZ0 := Lib.hid hz0; clear hz0
  have HZ1 := Lib.hid hz1; clear hz1
  have HZ2 := Lib.hid hz2; clear hz2
  go_enter Try.func21, Try.ntmps21
  go_wp2
  go_loopw [3, 4] (fun v i wr => ∃ k : Nat, k ≤ n ∧ i = .int .i64 k ∧ (pagesOf (ts.take k)).length = k ∧ PgRow wr w.heap.size v (pagesOf (ts.take k)) ∧ Below w.heap.size w wr) (fun _ i _ => n - (intOf i).toNat)
  case atStart => exact ⟨0, Nat.zero_le _, rfl, rfl, pgRow_lit _ _ _ rfl (Nat.le_refl _), palloc (Below.refl _ _) _⟩
  case round =>
    obtain ⟨k, hk, rfl, hpk, hrow, hbw⟩ := hrel
    have HB := Lib.hid hbw; clear hbw
    have HROW := Lib.hid hrow; clear hrow
    have HPK := Lib.hid hpk; clear hpk
    by_cases hlt : k < n
    · obtain ⟨b, off, e, hb, hc⟩ := sls_at HS.out (by omega)
      subst e
      obtain ⟨u, hu, hus⟩ := hc k hlt
      obtain ⟨A1, n1, c1, rfl, _⟩ := id hus
      have hu' : wr.cell? ⟨b, off + k, none⟩ = some (.slice A1 n1 c1) := by rw [HB.out.cell (p := ⟨b, off + k, none⟩) hb]; exact hu
      have hsl1 : (ts.getD k []).length ≤ 600 := HLN.out _ (getD_mem_sl (by have := HSL.out; omega))
      have hpt := pagesOf_take HPK.out (by have := HSL.out; omega)
      have hps := fun hg => pagesOf_stop HPK.out (by have := HSL.out; omega) hg
      obtain ⟨s, hs⟩ : ∃ s, s = ts.getD k [] := ⟨_, rfl⟩
      rw [← hs] at hus hsl1 hpt hps
      have hup := sl_up hus HB.out
      have HUP := Lib.hid hup; clear hup hus hc hs hu
      cases hg : got s with
      | none =>
        have hp2 := hps hg
        have HP2 := Lib.hid hp2; clear hp2 hpt hps
        have gt := rget_none _ s wr HUP.out (by omega) hg
        have GT := Lib.hid gt; clear gt hg
        go_wp2_with (go_at_call 18; refine (GT.out).mono ?_; rintro e w4 ⟨A4, n4, c4, rfl, hb4⟩; have HR4 := Lib.hid ((HROW.out).below (palloc hb4 (Obj.cells #[.int .i64 0, .int .i64 0, .int .i64 0, .int .i64 0, .int .i64 0, .int .i64 0, .slice A4 n4 c4] 43))); have HB4 := Lib.hid (HB.out.trans ((palloc hb4 (Obj.cells #[.int .i64 0, .int .i64 0, .int .i64 0, .int .i64 0, .int .i64 0, .int .i64 0, .slice A4 n4 c4] 43)).mono HB.out.size)); clear hb4)
        go_ret
        rw [HP2.out]
        exact ⟨_, rfl, HR4.out, HB4.out⟩
      | some p =>
        have hp2 : pagesOf (ts.take (k + 1)) = pagesOf (ts.take k) ++ [p] := by rw [hpt, hg]
        have HP2 := Lib.hid hp2; clear hp2 hpt hps
        obtain ⟨ps, hps⟩ : ∃ ps, ps = pagesOf (ts.take k) := ⟨_, rfl⟩
        rw [← hps] at HROW HP2 HPK
        clear hps
        have gt := rget_some _ s p wr HUP.out (by omega) hg
        have GT := Lib.hid gt; clear gt hg
        have hk16 : k < 1000 := by omega
        go_wp2_with (first
          | (go_at_call 18; refine (GT.out).mono ?_; rintro e w4 ⟨A4, n4, c4, rfl, hbt4, hb4⟩; obtain ⟨vs, hvl, hown4, hvs⟩ := (HROW.out).below hb4; have HVL := Lib.hid hvl; have HOW := Lib.hid hown4; have HVS := Lib.hid hvs; have HBT := Lib.hid hbt4; have HB4 := Lib.hid (HB.out.trans (hb4.mono HB.out.size)); have hz4 := HB4.out.size; clear hb4 hbt4 hvl hown4 hvs)
          | (at_builtin; refine wpList_append_n _ rfl (.tmp 25) (.tmp 27) 47 rfl w.heap.size 43 i0 zPg 7 72 Try.underlying47 HI.out HZ0.out HZ1.out HZ2.out rfl (by decide) zPg_nob u3 ps.length (flat ps vs) rfl ?own ((w4.alloc (Obj.cells #[.int .i64 p.kind, .int .i64 p.gen, .int .i64 p.mark, .int .i64 p.index, .int .i64 p.part, .int .i64 p.parts, .slice A4 n4 c4] 43)).heap.size + 1) (some ⟨(w4.alloc (Obj.cells #[.int .i64 p.kind, .int .i64 p.gen, .int .i64 p.mark, .int .i64 p.index, .int .i64 p.part, .int .i64 p.parts, .slice A4 n4 c4] 43)).heap.size, 0, none⟩) 1 1 (row p (.slice A4 n4 c4)) ?hx ?hr (row_one _ _ _ _) (row_nob _ _ _ _) ?h63 ?hby ?hbase ?_; (case own => exact HOW.out.below (palloc (palloc (Below.refl _ _) _) _)); (case hx => first | rfl | simp [Act.eval]); (case hr => exact reads_page _ _ _ rfl rfl); (case h63 => (have := HPK.out; unfold maxLen; omega)); (case hby => (have := HPK.out; omega)); (case hbase => (simp; omega)); intro v5 w5 hown5 hg5 _; have hbw := palloc (palloc (Below.refl w4.heap.size w4) (Obj.cells #[.int .i64 p.kind, .int .i64 p.gen, .int .i64 p.mark, .int .i64 p.index, .int .i64 p.part, .int .i64 p.parts, .slice A4 n4 c4] 43)) (Obj.cells #[.int .i64 p.kind, .int .i64 p.gen, .int .i64 p.mark, .int .i64 p.index, .int .i64 p.part, .int .i64 p.parts, .slice A4 n4 c4] 43); have HR5 := Lib.hid (pgRow_push (q := p) HVL.out HOW.out HVS.out ⟨A4, n4, c4, rfl, HBT.out⟩ hbw hown5 hg5); have HB5 := Lib.hid ((HB4.out.trans (hbw.mono HB4.out.size)).grown hg5 (HB4.out.trans (hbw.mono HB4.out.size)).size (fun q hq => (HOW.out.1.lt q hq).1)); clear hown5 hg5 hbw))
        go_roundw
        case rel => exact ⟨k + 1, by omega, by go_num, by rw [HP2.out, List.length_append, HPK.out]; rfl, by rw [HP2.out]; exact HR5.out, HB5.out⟩
        case measure => simp [intOf]; omega
    · obtain rfl : k = n := by omega
      have htk : ts.take k = ts := List.take_of_length_le (by have := HSL.out; omega)
      rw [htk] at HROW
      go_wp2
      go_ret
      exact ⟨_, rfl, HROW.out, HB.out⟩
end Go.Proofs.Ytkidjlmjjfgknaa.Slt
