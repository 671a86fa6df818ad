/- The records of a log (layer 8): the contracts of wal.isAt and records. -/
import Derived.Test.YtddhkajcakndlaaWalRecs
namespace Go.Proofs.Ytddhkajcakndlaa.Wl
open Go.RowKit Go.Proofs.Ytddhkajcakndlaa.Mem Go.Proofs.Ytddhkajcakndlaa.Pg Go.Proofs.Ytddhkajcakndlaa.Rcd Go.Proofs.Ytddhkajcakndlaa.Slt
open Go.Proofs.Ytddhkajcakndlaa.Plt (sl plV sl_le sl_pos)
set_option linter.unusedVariables false
set_option linter.unusedSimpArgs false
set_option maxHeartbeats 2000000 in
theorem isAt_any (p : P) (A : Option Addr) (n c : Nat) (g : Int) (i : Nat) (w : World) :
    Calls Try.prog 44 #[.agg #[.int .i64 p.kind, .int .i64 p.gen, .int .i64 p.mark, .int .i64 p.index, .int .i64 p.part, .int .i64 p.parts, .slice A n c], .int .i64 g, .int .i64 (i : Nat)] w fun e w' => e = .returned (.bool (atB p g i)) ∧ Below w.heap.size w w' := by
  obtain ⟨kind, gen, mark, index, part, parts_, b⟩ := p
  unfold atB
  simp only
  have hb := palloc (Below.refl w.heap.size w) (Obj.cells #[.int .i64 kind, .int .i64 gen, .int .i64 mark, .int .i64 index, .int .i64 part, .int .i64 parts_, .slice A n c] 59)
  have HB := Lib.hid hb; clear hb
  by_cases h1 : kind = 2
  · have b1 : (kind == 2) = true := by simpa using h1
    rw [decide_eq_true h1, Bool.true_and]
    by_cases h2 : gen = g
    · have b2 : (gen == g) = true := by simpa using h2
      rw [decide_eq_true h2, Bool.true_and]
      by_cases h3 : index = (i : Int)
      · have b3 : (index == (i : Int)) = true := by simpa using h3
        rw [decide_eq_true h3]
        clear h1 h2 h3
        go_enter Try.func44, Try.ntmps44
        go_wp2
        go_ret
        exact ⟨rfl, HB.out⟩
      · have b3 : (index == (i : Int)) = false := by simpa using h3
        rw [decide_eq_false h3]
        clear h1 h2 h3
        go_enter Try.func44, Try.ntmps44
        go_wp2
        go_ret
        exact ⟨rfl, HB.out⟩
    · have b2 : (gen == g) = false := by simpa using h2
      rw [decide_eq_false h2, Bool.false_and]
      clear h1 h2
      go_enter Try.func44, Try.ntmps44
      go_wp2
      go_ret
      exact ⟨rfl, HB.out⟩
  · have b1 : (kind == 2) = false := by simpa using h1
    rw [decide_eq_false h1, Bool.false_and, Bool.false_and]
    clear h1
    go_enter Try.func44, Try.ntmps44
    go_wp2
    go_ret
    exact ⟨rfl, HB.out⟩
theorem pages_ofS (D : Nat → List Nat) (k : Nat) : pagesOf (ofS D k) = run (fun i => got (D i)) k 0 := by
  have h := pagesOf_run D 0 k
  have e : (fun j => D (0 + j)) = D := by funext j; rw [Nat.zero_add]
  have e2 : slotF D 0 = fun i => got (D i) := by funext i; unfold slotF; rw [Nat.zero_add]
  rw [e, e2] at h
  exact h
theorem sz90 (w : World) : (sizeOf (Try.prog.elem 60)).run Try.prog w = .ok 7 w := by kernel_rfl
theorem un90 : Try.prog.underlying 60 = some (.slice (Try.prog.elem 60)) := by kernel_rfl
/-- pages from one on -/
theorem pgs_drop {w : World} {B n c : Nat} {b off : Nat} {ps : List P} (h : Pgs w B (.slice (some ⟨b, off, none⟩) n c) ps) (i : Nat) (hi : i < n) :
    (∀ W, (Instr.slice 60 (.slice (some ⟨b, off, none⟩) n c) (some (.int .i64 (i : Nat))) none none).run Try.prog W = .ok (.slice (some ⟨b, off + i * 7, none⟩) (n - i) (c - i)) W) ∧ Pgs w B (.slice (some ⟨b, off + i * 7, none⟩) (n - i) (c - i)) (ps.drop i) := by
  obtain ⟨hl, hnc, hcm⟩ := pgs_len h
  refine ⟨fun W => ?_, ⟨_, _, _, rfl, by rw [List.length_drop]; omega, by omega, by omega, fun h0 => ?_⟩⟩
  · rw [run_slice_l W _ _ n c un90 .i64 i (by omega) (by omega), sz90]
    simp only [Result.andThen, Int.toNat_natCast]
    unfold sliced
    rw [if_neg (by omega)]
    simp [add_plain]
  · obtain ⟨b', off', e, hb, hc⟩ := pgs_at h (by omega)
    injection e with e
    injection e with e1 e2 _
    subst e1 e2
    refine ⟨b, off + i * 7, rfl, hb, fun j hj => ?_⟩
    obtain ⟨v, hr, hs⟩ := hc (i + j) (by omega)
    have e3 : (ps.drop i).getD j noP = ps.getD (i + j) noP := by simp [List.getD, List.getElem?_drop]
    rw [e3]
    exact ⟨v, by rw [show off + i * 7 + j * 7 = off + (i + j) * 7 by omega]; exact hr, hs⟩
set_option maxRecDepth 20000 in
set_option maxHeartbeats 4000000 in
theorem records_any (A : Option Addr) (n c : Nat) (D : Nat → List Nat) (g : Int) (w : World) (h : Sls w w.heap.size (.slice A n c) (ofS D n)) (hn : n ≤ 1000) (hlen : ∀ s ∈ ofS D n, s.length ≤ 600) :
    Calls Try.prog 22 #[.slice A n c, .int .i64 g] w fun e w' => ∃ v', e = .returned (.tuple #[v', .int .i64 ((recsOf (ofLog (fun i => got (D i)) g) n).2 : Nat)]) ∧ Sls w' w'.heap.size v' (recsOf (ofLog (fun i => got (D i)) g) n).1 ∧ Below w.heap.size w w' := by
  have pg := wpages_any A n c (ofS D n) w h hn hlen
  have hmay := pagesOf_may (ofS D n)
  rw [pages_ofS] at pg hmay
  obtain ⟨hf, hfe⟩ : ∃ hf, hf = fun i => got (D i) := ⟨_, rfl⟩
  rw [← hfe] at pg hmay ⊢
  have hrl := run_len (f := hf) n 0
  have hRN := fun i hi hj => rec_none (h := hf) (g := g) (log := n) (i := i) hi hj
  have hRS := fun i p b m hi hp ha hj => rec_some (h := hf) (g := g) (log := n) (i := i) (p := p) (b := b) (n := m) hi hp ha hj
  have hRE := fun i hi => rec_end (h := hf) (g := g) (log := n) (i := i) hi
  have hRO := fun i p hi hp ha => rec_other (h := hf) (g := g) (log := n) (i := i) (p := p) hi hp ha
  obtain ⟨ps, hps⟩ : ∃ ps, ps = run hf n 0 := ⟨_, rfl⟩
  rw [← hps] at pg hmay hrl hRN hRS hRE hRO
  obtain ⟨F, hF⟩ : ∃ F, F = ofLog hf g := ⟨_, rfl⟩
  rw [← hF] at hRN hRS hRE hRO ⊢
  obtain ⟨T, hT⟩ : ∃ T, T = recsOf F n := ⟨_, rfl⟩
  rw [← hT]
  obtain ⟨hl6, hin⟩ := may_facts hmay
  obtain ⟨m, hm⟩ : ∃ m, m = ps.length := ⟨_, rfl⟩
  rw [← hm] at hrl hRN hRS hRE hRO
  have hm1 : m ≤ 1000 := by omega
  have PG := Lib.hid pg; clear pg
  have HM := Lib.hid hm; clear hm
  have HT := Lib.hid hT; clear hT
  have HRN := Lib.hid hRN; clear hRN
  have HRS := Lib.hid hRS; clear hRS
  have HRE := Lib.hid hRE; clear hRE
  have HRO := Lib.hid hRO; clear hRO
  have HL6 := Lib.hid hl6; clear hl6
  have HIN := Lib.hid hin; clear hin
  clear hps hF hfe h hlen hmay
  obtain ⟨i0, hi, hz0, hz1, hz2⟩ := info_parts info25
  have HI := Lib.hid hi; clear hi
  have HZ0 := Lib.hid hz0; clear hz0
  have HZ1 := Lib.hid hz1; clear hz1
  have HZ2 := Lib.hid hz2; clear hz2
  go_enter Try.func22, Try.ntmps22
  go_wp2_with (go_at_call 43; refine (PG.out).mono ?_; rintro e w1 ⟨v1, rfl, hrow, hb⟩; have hpg := pgRow_pgs hrow; obtain ⟨A1, n1, c1, rfl, _⟩ := id hpg; obtain rfl : n1 = m := (by have h1 := (pgs_len hpg).1; have := HM.out; omega); have HB1 := Lib.hid hb; have HP1 := Lib.hid hpg; clear hpg hrow hb)
  go_loopw [6, 7] (fun v i wr => ∃ (k : Nat) (fs : List (List Nat)) (fu : Nat), k ≤ n1 ∧ i = .int .i64 k ∧ T = (fs ++ (tail F n fu k).1, (tail F n fu k).2) ∧ n - k ≤ fu ∧ fs.length ≤ k ∧ SlRow wr w1.heap.size v fs ∧ Below w1.heap.size w1 wr) (fun _ i _ => n1 - (intOf i).toNat)
  case atStart => exact ⟨0, [], n, Nat.zero_le _, rfl, by rw [HT.out]; rfl, Nat.le_refl _, by simp, slRow_nil _ _, Below.refl _ _⟩
  case round =>
    obtain ⟨k, fs, fu, hk, rfl, hTT, hfu, hfl, hrow, hbw⟩ := hrel
    have HTT := Lib.hid hTT; clear hTT
    have HBW := Lib.hid hbw; clear hbw
    have HROW := Lib.hid hrow; clear hrow
    have HFU := Lib.hid hfu; clear hfu
    by_cases hlt : k < n1
    · obtain ⟨b, off, e, hb, hc⟩ := pgs_at HP1.out (by omega)
      subst e
      obtain ⟨hcut, hpd⟩ := pgs_drop HP1.out k hlt
      obtain ⟨vb, hr, hs⟩ := hc k hlt
      have hpk : ps[k]? = some (ps.getD k noP) := by
        have : k < ps.length := by rw [← HM.out]; exact hlt
        simp [List.getD, List.getElem?_eq_getElem this]
      obtain ⟨p, hp⟩ : ∃ p, p = ps.getD k noP := ⟨_, rfl⟩
      rw [← hp] at hr hs hpk
      obtain ⟨A2, n2, c2, rfl, _⟩ := id hs
      have hrw := rangeAt_below hr HBW.out hb
      have hld := load_row wr b (off + k * 7) p _ hrw
      have l0 := hrw 0 _ rfl
      have l1 := hrw 1 _ rfl
      have l2 := hrw 2 _ rfl
      have l3 := hrw 3 _ rfl
      have l4 := hrw 4 _ rfl
      have l5 := hrw 5 _ rfl
      have l6 := hrw 6 _ rfl
      simp only [Nat.add_zero] at l0
      have ia := isAt_any p A2 n2 c2 g k wr
      have HRW := Lib.hid hrw; clear hrw hr hs hc
      have HPK := Lib.hid hpk; clear hpk
      have HPD := Lib.hid hpd; clear hpd
      have ro := HRO.out k p hlt HPK.out
      have rs := fun b' m' => HRS.out k p b' m' hlt HPK.out
      have RO := Lib.hid ro; clear ro
      have RS := Lib.hid rs; clear rs
      clear hp
      have hfu1 : 1 ≤ fu := by have := HFU.out; omega
      cases ha : atB p g k with
      | false =>
        rw [ha] at ia
        have IA := Lib.hid ia; clear ia
        have e1 := tail_none (k := fu) (RO.out ha)
        have e2 := HTT.out
        rw [e1, List.append_nil] at e2
        have E2 := Lib.hid e2; clear e1 e2 ha
        go_wp2_with (go_at_call 44; refine (IA.out).mono ?_; rintro e w2 ⟨rfl, hb2⟩; have HB2 := Lib.hid (HB1.out.trans ((HBW.out.trans (hb2.mono HBW.out.size)).mono HB1.out.size)); have HR2 := Lib.hid (HROW.out.below hb2); clear hb2)
        go_ret2
        rw [E2.out]
        exact ⟨_, rfl, slRow_sls HR2.out, HB2.out⟩
      | true =>
        rw [ha] at ia
        have IA := Lib.hid ia; clear ia
        have jn := fun (W : World) (hW : Below w1.heap.size w1 W) => join_any (some ⟨b, off + k * 7, none⟩) (n1 - k) (c1 - k) (ps.drop k) W ((HPD.out.below hW (Nat.le_refl _)).more hW.size) (by omega) (fun q hq => HL6.out q (List.mem_of_mem_drop hq)) (fun q hq => HIN.out q (List.mem_of_mem_drop hq))
        obtain ⟨d1, hd1⟩ : ∃ d1, d1 = n1 - k := ⟨_, rfl⟩
        obtain ⟨d2, hd2⟩ : ∃ d2, d2 = c1 - k := ⟨_, rfl⟩
        rw [← hd1, ← hd2] at jn hcut
        cases hj : joined (ps.drop k) with
        | none =>
          have e0 := HRN.out k (Nat.le_of_lt hlt) hj
          have e1 := tail_none (k := fu) e0
          have e2 := HTT.out
          rw [e1, List.append_nil] at e2
          have E2 := Lib.hid e2; clear e0 e1 e2 ha
          rw [hj, jb_none hj] at jn
          have JN := Lib.hid jn; clear jn hj hd1 hd2
          go_wp2_with (first
            | (go_at_call 44; refine (IA.out).mono ?_; rintro e w2 ⟨rfl, hb2⟩; have HB2 := Lib.hid (HBW.out.trans (hb2.mono HBW.out.size)); have HR2 := Lib.hid (HROW.out.below hb2); clear hb2)
            | (go_at_call 45; refine (JN.out _ HB2.out).mono ?_; rintro e w3 ⟨v3, rfl, hs3, hb3⟩; have HB3 := Lib.hid (HB1.out.trans ((HB2.out.trans (hb3.mono HB2.out.size)).mono HB1.out.size)); have HR3 := Lib.hid (HR2.out.below hb3); obtain ⟨A3, n3, c3, rfl, _⟩ := id hs3; clear hb3 hs3))
          go_ret2
          rw [E2.out]
          exact ⟨_, rfl, slRow_sls HR3.out, HB3.out⟩
        | some y =>
          obtain ⟨bs, cnt⟩ := y
          obtain ⟨e0, hc1, hc2⟩ := RS.out bs cnt ha hj
          obtain ⟨fu', rfl⟩ : ∃ fu', fu = fu' + 1 := ⟨fu - 1, by omega⟩
          have e1 := tail_some (k := fu') e0
          have e2 := HTT.out
          rw [e1] at e2
          have e3 : T = (fs ++ [bs] ++ (tail F n fu' (k + cnt)).1, (tail F n fu' (k + cnt)).2) := by rw [e2, List.append_assoc]; rfl
          have E3 := Lib.hid e3; clear e0 e1 e2 e3 ha
          rw [hj, jb_some hj] at jn
          simp only [Option.isSome_some] at jn
          have JN := Lib.hid jn; clear jn hj hd1 hd2
          have hfs : fs.length ≤ 1000 := by omega
          go_wp2_with (first
            | (go_at_call 44; refine (IA.out).mono ?_; rintro e w2 ⟨rfl, hb2⟩; have HB2 := Lib.hid (HBW.out.trans (hb2.mono HBW.out.size)); have HR2 := Lib.hid (HROW.out.below hb2); clear hb2)
            | (go_at_call 45; refine (JN.out _ HB2.out).mono ?_; rintro e w3 ⟨v3, rfl, hs3, hb3⟩; have HB3 := Lib.hid (HB2.out.trans (hb3.mono HB2.out.size)); obtain ⟨vs, hvl, hown4, hvs⟩ := (HR2.out).below hb3; obtain ⟨A3, n3, c3, rfl, _⟩ := id hs3; have HS3 := Lib.hid hs3; have HVL := Lib.hid hvl; have HOW := Lib.hid hown4; have HVS := Lib.hid hvs; have hz3 := HB3.out.size; clear hb3 hs3 hvl hown4 hvs)
            | (at_builtin; refine wpList_append_n _ rfl (.tmp 37) (.tmp 39) 29 rfl w1.heap.size 22 i0 (.slice none 0 0) 1 24 Try.underlying29 HI.out HZ0.out HZ1.out HZ2.out rfl (by decide) zSl_nob u6 fs.length vs rfl ?own (w3.heap.size + 1) (some ⟨w3.heap.size, 0, none⟩) 1 1 [.slice A3 n3 c3] ?hx ?hr (by simp [Value.oneCell']) (by intro u hu; rw [List.mem_singleton.1 hu]; rfl) ?h63 ?hby ?hbase ?_; (case own => exact HOW.out.below (palloc (Below.refl _ _) _)); (case hx => first | rfl | simp [Act.eval]); (case hr => exact reads_slice _ _ _ rfl); (case h63 => (unfold maxLen; omega)); (case hby => omega); (case hbase => (simp; omega)); intro v5 w5 hown5 hg5 _; have hbw := palloc (Below.refl w3.heap.size w3) (Obj.cells #[.slice A3 n3 c3] 22); have HR5 := Lib.hid (slRow_push HVL.out HOW.out HVS.out HS3.out hbw hown5 hg5); have HB5 := Lib.hid ((HB3.out.trans (hbw.mono HB3.out.size)).grown hg5 (HB3.out.trans (hbw.mono HB3.out.size)).size (fun q hq => (HOW.out.1.lt q hq).1)); clear hown5 hg5 hbw))
          go_roundw
          case rel => exact ⟨k + cnt, fs ++ [bs], fu', hc2, by go_num, E3.out, by have := HFU.out; omega, by simp; omega, HR5.out, HB5.out⟩
          case measure => simp [intOf]; omega
    · obtain rfl : k = n1 := by omega
      have e1 := tail_none (k := fu) (HRE.out k rfl)
      have e2 := HTT.out
      rw [e1, List.append_nil] at e2
      have E2 := Lib.hid e2; clear e1 e2
      go_wp2
      go_ret2
      rw [E2.out]
      exact ⟨_, rfl, slRow_sls HROW.out, HB1.out.trans (HBW.out.mono HB1.out.size)⟩
end Go.Proofs.Ytddhkajcakndlaa.Wl
