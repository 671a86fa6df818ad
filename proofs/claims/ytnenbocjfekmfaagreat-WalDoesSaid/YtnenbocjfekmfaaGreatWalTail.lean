/- The records that a log's sectors begin with, by the reference (layer 8): the contract of waymarkref08.tail, by induction on the places that are left. -/
import Derived.Test.YtnenbocjfekmfaaGreatRecAll
import Derived.Test.YtnenbocjfekmfaaGreatSlotAll
import Derived.Test.YtnenbocjfekmfaaGreatWalAllA
import Derived.Test.YtnenbocjfekmfaaGreatWalRefBlank
import Derived.Deep.Cut
import Derived.Deep.CutBlock
import Derived.Deep.CutRange
import Derived.IntWalk
namespace Go.Proofs.YtnenbocjfekmfaaGreat.Wl
open Go.RowKit Go.Proofs.YtnenbocjfekmfaaGreat.Mem Go.Proofs.YtnenbocjfekmfaaGreat.Pg Go.Proofs.YtnenbocjfekmfaaGreat.Rcd Go.Proofs.YtnenbocjfekmfaaGreat.Slt
open Go.Proofs.YtnenbocjfekmfaaGreat.Plt (sl plV sl_le sl_pos)
set_option linter.unusedVariables false
set_option linter.unusedSimpArgs false
section
variable {f : Nat → Option P} {k i j : Nat}
theorem run_more {p : P} (hj : j ≤ (run f k i).length) (hk : j < k) (hf : f (i + j) = some p) : (run f k i).take (j + 1) = (run f k i).take j ++ [p] ∧ j + 1 ≤ (run f k i).length := by
  have hd := run_drop (h := f) (k := k) (i := i) (m := j) hj
  obtain ⟨m, hm⟩ : ∃ m, k - j = m + 1 := ⟨k - j - 1, by omega⟩
  rw [hm, run_some hf] at hd
  have hlen : ((run f k i).drop j).length = (run f k i).length - j := List.length_drop
  rw [hd, List.length_cons] at hlen
  have hlt : j < (run f k i).length := by omega
  refine ⟨?_, hlt⟩
  have e : (run f k i)[j]? = some p := by
    have : ((run f k i).drop j)[0]? = some p := by rw [hd]; rfl
    rw [List.getElem?_drop, Nat.add_zero] at this
    exact this
  rw [List.take_add_one, e]
  rfl
theorem run_done (hj : j ≤ (run f k i).length) (h : f (i + j) = none ∨ j = k) : (run f k i).take j = run f k i := by
  have hl : (run f k i).length = j := by
    rcases h with h | h
    · have hd := run_drop (h := f) (k := k) (i := i) (m := j) hj
      have hlen : ((run f k i).drop j).length = (run f k i).length - j := List.length_drop
      rw [hd] at hlen
      cases hkj : k - j with
      | zero =>
        have := run_len (f := f) k i
        omega
      | succ m =>
        rw [hkj, run_none h] at hlen
        simp at hlen
        omega
    · have := run_len (f := f) k i
      omega
  rw [List.take_of_length_le (by omega)]
end
def tf (ss : List (List Nat)) (fr : Nat) (g : Int) (j : Nat) : Option P := pick g j (got (ss.getD (fr + j) []))
theorem tf_some {ss : List (List Nat)} {fr j : Nat} {g : Int} {p : P} (h : got (ss.getD (fr + j) []) = some p) (h1 : p.kind = 2) (h2 : p.gen = g) (h3 : p.index = (j : Int)) : tf ss fr g j = some p := by
  unfold tf
  rw [h]
  exact pick_of ⟨h1, h2, h3⟩
theorem tf_none {ss : List (List Nat)} {fr j : Nat} {g : Int} (h : got (ss.getD (fr + j) []) = none) : tf ss fr g j = none := by
  unfold tf
  rw [h]
  rfl
theorem tf_other {ss : List (List Nat)} {fr j : Nat} {g : Int} {p : P} (h : got (ss.getD (fr + j) []) = some p) (hn : ¬ (p.kind = 2 ∧ p.gen = g ∧ p.index = (j : Int))) : tf ss fr g j = none := by
  unfold tf
  rw [h]
  exact pick_no (by cases ha : atB p g j; rfl; exact absurd (atB_yes ha) hn)
theorem tf_600 {ss : List (List Nat)} {fr m i : Nat} {g : Int} : ∀ q ∈ run (tf ss fr g) (m - i) i, q.b.length ≤ 600 := by
  intro q hq
  obtain ⟨j, hj, e⟩ := List.mem_iff_getElem.1 hq
  have h1 := (run_get (show (run (tf ss fr g) (m - i) i)[j]? = some q by rw [List.getElem?_eq_getElem hj, e])).1
  have h2 := ((may_iff q).1 (got_may (pick_some h1).1).1).l
  omega
theorem row_one_sl (w : World) (base g : Nat) (hg : g = w.heap.size) (hb : base ≤ w.heap.size) (u : Value) (xs : List Nat) (hu : Sl w w.heap.size u xs) : OwnN (w.alloc (.cells #[u] 31)) base 31 1 (.slice (some ⟨g, 0, none⟩) 1 1) 1 [u] := by
  subst hg
  exact ⟨World.ownsRow_lit w #[u] 1 hb (by unfold maxLen; omega) rfl, noBy_cells (cs := #[u]) (heap_alloc_new w _) (by intro x hx; simp at hx; subst hx; exact (sl_one hu).2)⟩
theorem slRow_mono {w : World} {base base' : Nat} {v : Value} {ss : List (List Nat)} (h : SlRow w base v ss) (hb : base' ≤ base) : SlRow w base' v ss := by
  obtain ⟨vs, h1, ⟨h2, h2'⟩, h3⟩ := h
  exact ⟨vs, h1, ⟨own_mono h2 hb, h2'⟩, h3⟩
/-- a row that lies behind a block that is written -/
theorem slRow_far {w w' : World} {base g : Nat} {v : Value} {ss : List (List Nat)} (h : SlRow w base v ss) (hg : w.grownBy w' (some g)) (hlt : g < base) (hn : NoBy w (some g)) : SlRow w' base v ss := by
  obtain ⟨vs, h1, ⟨h2, h2'⟩, h3⟩ := h
  refine ⟨vs, h1, ⟨own_grown h2 hg hlt, fun q hq i u hu => ?_⟩, fun i hi => (sl_by (h3 i hi) hg (Nat.le_refl _) hn).more hg.size⟩
  obtain ⟨l1, l2⟩ := h2.lt q hq
  rw [World.cell?_of_block (hg.block q l2 (fun e => by cases e; omega))] at hu
  exact h2' q hq i u hu
def TailOut (w : World) (r : List (List Nat) × Nat) (e : Ending) (w' : World) : Prop :=
  ∃ v, e = .returned (.tuple #[v, .int .i64 (r.2 : Nat)]) ∧ SlRow w' w.heap.size v r.1 ∧ Below w.heap.size w w'
set_option maxRecDepth 20000 in
set_option maxHeartbeats 4000000 in
theorem rtail_core (ss : List (List Nat)) (fr m : Nat) (g p0 : Int) (hlen : ∀ s ∈ ss, s.length ≤ 600) (hfl : fr + m ≤ ss.length) (h1000 : ss.length ≤ 1000) (k : Nat)
    (ih : ∀ (i : Nat) (A : Option Addr) (n c : Nat) (w : World), i ≤ m → m - i + 1 ≤ k → Sls w w.heap.size (.slice A n c) ss →
      Calls Tryz.prog 43 #[.agg #[.int .i64 p0, .int .i64 (fr : Nat), .int .i64 (m : Nat)], .slice A n c, .int .i64 g, .int .i64 (i : Nat)] w (TailOut w (tail (tf ss fr g) m (k - 1) i)))
    (i : Nat) (A : Option Addr) (n c : Nat) (w : World) (him : i ≤ m) (hik : m - i ≤ k) (h : Sls w w.heap.size (.slice A n c) ss) :
    Calls Tryz.prog 43 #[.agg #[.int .i64 p0, .int .i64 (fr : Nat), .int .i64 (m : Nat)], .slice A n c, .int .i64 g, .int .i64 (i : Nat)] w (TailOut w (tail (tf ss fr g) m k i)) := by
  obtain ⟨hsl, hnc, hcm⟩ := sls_len h
  have HS := Lib.hid h; clear h
  have IH := Lib.hid ih; clear ih
  have HLN := Lib.hid hlen; clear hlen
  have hr600 := tf_600 (ss := ss) (fr := fr) (m := m) (i := i) (g := g)
  have hrl := run_len (f := tf ss fr g) (m - i) i
  have hmore := fun (j : Nat) (p : P) => run_more (f := tf ss fr g) (k := m - i) (i := i) (j := j) (p := p)
  have hdone := fun (j : Nat) => run_done (f := tf ss fr g) (k := m - i) (i := i) (j := j)
  have htn := tail_none (f := tf ss fr g) (log := m) (k := k) (i := i)
  have hts := fun (k' : Nat) (b : List Nat) (nn : Nat) => tail_some (f := tf ss fr g) (log := m) (k := k') (i := i) (n := nn) (b := b)
  have htl := fun (i' : Nat) (h : i' ≤ m) => tail_len (f := tf ss fr g) (log := m) (k := k - 1) (i := i') h
  obtain ⟨R, hR⟩ : ∃ R, R = run (tf ss fr g) (m - i) i := ⟨_, rfl⟩
  rw [← hR] at hr600 hrl htn
  simp only [← hR] at hmore hdone hts
  have HJ := Lib.hid (show joined (run (tf ss fr g) (m - i) i) = joined R by rw [hR])
  have HJS := Lib.hid (fun (b : List Nat) (nn : Nat) (h : joined R = some (b, nn)) => joined_some h)
  have HMORE := Lib.hid hmore; clear hmore
  have HDONE := Lib.hid hdone; clear hdone
  have HTN := Lib.hid htn; clear htn
  have HTS := Lib.hid hts; clear hts
  have HTL := Lib.hid htl; clear htl
  have HRL := Lib.hid hrl; clear hrl
  have HR6 := Lib.hid hr600; clear hr600
  clear hR
  obtain ⟨T, hT⟩ : ∃ T, T = tail (tf ss fr g) m k i := ⟨_, rfl⟩
  rw [← hT]
  have HT := Lib.hid hT; clear hT
  have HSL := Lib.hid hsl; clear hsl
  obtain ⟨i0, hi, hz0, hz1, hz2⟩ := info_parts info24
  have HI := Lib.hid hi; clear hi
  have HZ0 := Lib.hid hz0; clear hz0
  have HZ1 := Lib.hid hz1; clear hz1
  have HZ2 := Lib.hid hz2; clear hz2
  obtain ⟨i5, hi5, hy0, hy1, hy2⟩ := info_parts info25
  have HI5 := Lib.hid hi5; clear hi5
  have HY0 := Lib.hid hy0; clear hy0
  have HY1 := Lib.hid hy1; clear hy1
  have HY2 := Lib.hid hy2; clear hy2
  have HFL := Lib.hid hfl; clear hfl
  have hb1 : Below w.heap.size w ((w.alloc (.cells #[.int .i64 p0, .int .i64 (fr : Nat), .int .i64 (m : Nat)] 38)).alloc (.cells #[] 93)) := palloc (palloc (Below.refl _ _) _) _
  have HB1 := Lib.hid hb1; clear hb1
  have K1 := Lib.hid ((Blk.new w 38 #[.int .i64 p0, .int .i64 (fr : Nat), .int .i64 (m : Nat)]).alloc (.cells #[] 93))
  have HP1 := Lib.hid (show PgRow ((w.alloc (.cells #[.int .i64 p0, .int .i64 (fr : Nat), .int .i64 (m : Nat)] 38)).alloc (.cells #[] 93)) (w.heap.size + 1) (.slice (some ⟨w.heap.size + 1, 0, none⟩) 0 0) [] from pgRow_lit _ _ _ (by simp) (by simp))
  go_enter Tryz.func43, Tryz.ntmps43
  go_upto_block 0 with fail
  go_cut [10] from 11 to 59 (fun v wx => PgRow wx (w.heap.size + 1) v R ∧ Blk wx w.heap.size 38 #[.int .i64 p0, .int .i64 (fr : Nat), .int .i64 (m : Nat)] ∧ Below w.heap.size w wx)
  case first =>
    go_wp2_with fail
    go_loopw [10, 11] (fun v z wr => ∃ a : Nat, i ≤ a ∧ a ≤ m ∧ z = .int .i64 (a : Nat) ∧ a - i ≤ R.length ∧ PgRow wr (w.heap.size + 1) v (R.take (a - i)) ∧ Blk wr w.heap.size 38 #[.int .i64 p0, .int .i64 (fr : Nat), .int .i64 (m : Nat)] ∧ Below w.heap.size w wr) (fun _ z _ => m - (intOf z).toNat)
    case atStart => exact ⟨i, Nat.le_refl _, him, rfl, by omega, by rw [Nat.sub_self]; exact HP1.out, K1.out, HB1.out⟩
    case round =>
      obtain ⟨a, hia, ham, rfl, haR, hrow, hbk, hbw⟩ := hrel
      obtain ⟨x0, x1, x2, x3⟩ := (⟨by rw [hbk.cell]; rfl, by rw [hbk.cell]; rfl, by rw [hbk.cell]; rfl, hbk.lt⟩ : wr.cell? ⟨w.heap.size, 0, none⟩ = some (.int .i64 p0) ∧ wr.cell? ⟨w.heap.size, 1, none⟩ = some (.int .i64 (fr : Nat)) ∧ wr.cell? ⟨w.heap.size, 2, none⟩ = some (.int .i64 (m : Nat)) ∧ w.heap.size < wr.heap.size)
      have HB := Lib.hid hbw; clear hbw
      have HBK := Lib.hid hbk; clear hbk
      have HROW := Lib.hid hrow; clear hrow
      by_cases hlt : a < m
      · have p1 : decide (a < m) = true := by simp; omega
        obtain ⟨q, hq⟩ : ∃ q, q = fr + a := ⟨_, rfl⟩
        have hqn : q < n := by have := HFL.out; have := HSL.out; omega
        have hqi : (fr : Int) + (a : Int) = (q : Int) := by omega
        have hq0 : (0 : Int) ≤ (q : Int) := by omega
        have hq1 : (q : Int) < (n : Int) := by omega
        have hq9 : q ≤ 1000 := by have := HSL.out; omega
        obtain ⟨b, off, e, hb, hc⟩ := sls_at HS.out (by omega)
        subst e
        obtain ⟨u, hu, hus⟩ := hc q hqn
        obtain ⟨A1, n1, c1, rfl, _⟩ := id hus
        have hu' : wr.cell? ⟨b, off + q, none⟩ = some (.slice A1 n1 c1) := by rw [HB.out.cell (p := ⟨b, off + q, none⟩) hb]; exact hu
        have hsl1 : (ss.getD q []).length ≤ 600 := HLN.out _ (getD_mem_sl (by have := HSL.out; omega))
        have hno := tf_none (ss := ss) (fr := fr) (j := a) (g := g)
        have hsm := fun (p : P) => tf_some (ss := ss) (fr := fr) (j := a) (g := g) (p := p)
        have hot := fun (p : P) => tf_other (ss := ss) (fr := fr) (j := a) (g := g) (p := p)
        rw [← hq] at hno hsm hot
        have hia2 : i + (a - i) = a := by omega
        have hdn := fun (h : tf ss fr g a = none) => HDONE.out (a - i) haR (.inl (by rw [hia2]; exact h))
        have hmr := fun (p : P) (h : tf ss fr g a = some p) => HMORE.out (a - i) p haR (by omega) (by rw [hia2]; exact h)
        clear hia2 hq
        generalize ss.getD q [] = s at *
        have HUP := Lib.hid (sl_up hus HB.out); clear hus hc hu
        cases hg : got s with
        | none =>
          have HD := Lib.hid (hdn (hno hg)); clear hdn hmr hno hsm hot
          have gt := rget_none _ s wr HUP.out (by omega) hg
          have GT := Lib.hid gt; clear gt hg
          go_wp2_with (go_at_call 72; refine (GT.out).mono ?_; rintro e w4 ⟨A4, n4, c4, rfl, hb4⟩; have HB45 := Lib.hid (palloc hb4 (Obj.cells #[.int .i64 0, .int .i64 0, .int .i64 0, .int .i64 0, .int .i64 0, .int .i64 0, .slice A4 n4 c4] 93)); clear hb4)
          go_meet
          case rel => exact ⟨by rw [← HD.out]; exact HROW.out.below HB45.out, HBK.out.below HB45.out HBK.out.lt, HB.out.trans (HB45.out.mono HB.out.size)⟩
        | some p =>
          have gt := rget_some _ s p wr HUP.out (by omega) hg
          have GT := Lib.hid gt; clear gt hno
          by_cases hk : p.kind = 2 ∧ p.gen = g ∧ p.index = (a : Int)
          · have HM := Lib.hid (hmr p (hsm p hg hk.1 hk.2.1 hk.2.2)); clear hdn hmr hsm hot hg
            have e1 : (p.kind != 2) = false := by simp [hk.1]
            have e2 : (p.gen != g) = false := by simp [hk.2.1]
            have e3 : (p.index != (a : Int)) = false := by simp [hk.2.2]
            clear hk
            have hpl : (R.take (a - i)).length ≤ 1000 := by rw [List.length_take]; have := HFL.out; omega
            generalize R.take (a - i) = ps at *
            have HPL := Lib.hid hpl; clear hpl
            go_wp2_with (first
              | (go_at_call 72; refine (GT.out).mono ?_; rintro e w4 ⟨A4, n4, c4, rfl, hbt4, hb4⟩; have hb45 := palloc hb4 (Obj.cells #[.int .i64 p.kind, .int .i64 p.gen, .int .i64 p.mark, .int .i64 p.index, .int .i64 p.part, .int .i64 p.parts, .slice A4 n4 c4] 93); obtain ⟨vs, hvl, hown4, hvs⟩ := (HROW.out).below hb4; have HVL := Lib.hid hvl; have HOW := Lib.hid hown4; have HVS := Lib.hid hvs; have HBT := Lib.hid hbt4; have HB4 := Lib.hid (HB.out.trans (hb4.mono HB.out.size)); have hz4 := HB4.out.size; have KB4 := Lib.hid (HBK.out.below hb4 HBK.out.lt); clear hb4 hb45 hbt4 hvl hown4 hvs)
              | (at_builtin; refine wpList_append_n _ rfl (.tmp 56) (.tmp 58) 90 rfl (w.heap.size + 1) 93 i0 zPg 7 72 Tryz.underlying90 HI.out HZ0.out HZ1.out HZ2.out rfl (by decide) zPg_nob u10 ps.length (flat ps vs) rfl ?own ((w4.alloc (Obj.cells #[.int .i64 p.kind, .int .i64 p.gen, .int .i64 p.mark, .int .i64 p.index, .int .i64 p.part, .int .i64 p.parts, .slice A4 n4 c4] 93)).heap.size + 1) (some ⟨(w4.alloc (Obj.cells #[.int .i64 p.kind, .int .i64 p.gen, .int .i64 p.mark, .int .i64 p.index, .int .i64 p.part, .int .i64 p.parts, .slice A4 n4 c4] 93)).heap.size, 0, none⟩) 1 1 (row p (.slice A4 n4 c4)) ?hx ?hr (row_one _ _ _ _) (row_nob _ _ _ _) ?h63 ?hby ?hbase ?_; (case own => exact HOW.out.below (palloc (palloc (Below.refl _ _) _) _)); (case hx => first | rfl | simp [Act.eval]); (case hr => exact reads_page _ _ _ rfl rfl); (case h63 => (have := HPL.out; unfold maxLen; omega)); (case hby => (have := HPL.out; omega)); (case hbase => (have := KB4.out.lt; simp; omega)); intro v5 w5 hown5 hg5 _; have hbw := palloc (palloc (Below.refl w4.heap.size w4) (Obj.cells #[.int .i64 p.kind, .int .i64 p.gen, .int .i64 p.mark, .int .i64 p.index, .int .i64 p.part, .int .i64 p.parts, .slice A4 n4 c4] 93)) (Obj.cells #[.int .i64 p.kind, .int .i64 p.gen, .int .i64 p.mark, .int .i64 p.index, .int .i64 p.part, .int .i64 p.parts, .slice A4 n4 c4] 93); have HR5 := Lib.hid (pgRow_push (q := p) HVL.out HOW.out HVS.out ⟨A4, n4, c4, rfl, HBT.out⟩ hbw hown5 hg5); have HB5 := Lib.hid ((HB4.out.trans (hbw.mono HB4.out.size)).grown hg5 (HB4.out.trans (hbw.mono HB4.out.size)).size (fun q hq => Nat.le_of_succ_le (HOW.out.1.lt q hq).1)); have KB5 := Lib.hid (Blk.grown (KB4.out.below hbw KB4.out.lt) hg5 (fun e => by have := (HOW.out.1.lt _ e.symm).1; omega)); clear hown5 hg5 hbw))
            go_roundw
            case rel => exact ⟨a + 1, by omega, by omega, by go_num, by have := HM.out.2; omega, by rw [show a + 1 - i = a - i + 1 by omega, HM.out.1]; exact HR5.out, KB5.out, HB5.out⟩
            case measure => simp [intOf]; omega
          · have HD := Lib.hid (hdn (hot p hg hk)); clear hdn hmr hsm hot hg
            by_cases k1 : p.kind = 2
            · have e1 : (p.kind != 2) = false := by simp [k1]
              by_cases k2 : p.gen = g
              · have e2 : (p.gen != g) = false := by simp [k2]
                have e3 : (p.index != (a : Int)) = true := by
                  rw [bne_iff_ne]
                  exact fun h => hk ⟨k1, k2, h⟩
                clear hk k1 k2
                go_wp2_with (go_at_call 72; refine (GT.out).mono ?_; rintro e w4 ⟨A4, n4, c4, rfl, _, hb4⟩; have HB45 := Lib.hid (palloc hb4 (Obj.cells #[.int .i64 p.kind, .int .i64 p.gen, .int .i64 p.mark, .int .i64 p.index, .int .i64 p.part, .int .i64 p.parts, .slice A4 n4 c4] 93)); clear hb4)
                go_meet
                case rel => exact ⟨by rw [← HD.out]; exact HROW.out.below HB45.out, HBK.out.below HB45.out HBK.out.lt, HB.out.trans (HB45.out.mono HB.out.size)⟩
              · have e2 : (p.gen != g) = true := by rw [bne_iff_ne]; exact k2
                clear hk k1 k2
                go_wp2_with (go_at_call 72; refine (GT.out).mono ?_; rintro e w4 ⟨A4, n4, c4, rfl, _, hb4⟩; have HB45 := Lib.hid (palloc hb4 (Obj.cells #[.int .i64 p.kind, .int .i64 p.gen, .int .i64 p.mark, .int .i64 p.index, .int .i64 p.part, .int .i64 p.parts, .slice A4 n4 c4] 93)); clear hb4)
                go_meet
                case rel => exact ⟨by rw [← HD.out]; exact HROW.out.below HB45.out, HBK.out.below HB45.out HBK.out.lt, HB.out.trans (HB45.out.mono HB.out.size)⟩
            · have e1 : (p.kind != 2) = true := by rw [bne_iff_ne]; exact k1
              clear hk k1
              go_wp2_with (go_at_call 72; refine (GT.out).mono ?_; rintro e w4 ⟨A4, n4, c4, rfl, _, hb4⟩; have HB45 := Lib.hid (palloc hb4 (Obj.cells #[.int .i64 p.kind, .int .i64 p.gen, .int .i64 p.mark, .int .i64 p.index, .int .i64 p.part, .int .i64 p.parts, .slice A4 n4 c4] 93)); clear hb4)
              go_meet
              case rel => exact ⟨by rw [← HD.out]; exact HROW.out.below HB45.out, HBK.out.below HB45.out HBK.out.lt, HB.out.trans (HB45.out.mono HB.out.size)⟩
      · have p1 : decide (a < m) = false := by simp; omega
        have hdn := HDONE.out (a - i) haR (.inr (by omega))
        have HD := Lib.hid hdn; clear hdn
        go_wp2
        go_meet
        case rel => exact ⟨by rw [← HD.out]; exact HROW.out, HBK.out, HB.out⟩
  case rest =>
    obtain ⟨hrow, hbk, hbw⟩ := hcut
    obtain ⟨x0, x1, x2, x3⟩ := (⟨by rw [hbk.cell]; rfl, by rw [hbk.cell]; rfl, by rw [hbk.cell]; rfl, hbk.lt⟩ : wc.cell? ⟨w.heap.size, 0, none⟩ = some (.int .i64 p0) ∧ wc.cell? ⟨w.heap.size, 1, none⟩ = some (.int .i64 (fr : Nat)) ∧ wc.cell? ⟨w.heap.size, 2, none⟩ = some (.int .i64 (m : Nat)) ∧ w.heap.size < wc.heap.size)
    have hpg := pgRow_pgs hrow
    obtain ⟨A6, n6, c6, e6, hl6, _⟩ := id hpg
    subst e6
    have jn := rjoin_any A6 n6 c6 R wc hpg (by have := HRL.out; have := HFL.out; omega) HR6.out
    have HBW := Lib.hid hbw; clear hbw
    have HBK := Lib.hid hbk; clear hbk hrow hpg hl6
    unfold jb at jn
    cases hj : joined R with
    | none =>
      have hT := HT.out.trans (HTN.out hj)
      rw [hj] at jn
      simp only [Option.getD_none] at jn
      have JN := Lib.hid jn; clear jn
      subst hT
      go_wp2_with (go_at_call 74; refine (JN.out).mono ?_; rintro e w7 ⟨v7, rfl, hs7, hb7⟩; have HB7 := Lib.hid (HBW.out.trans (hb7.mono HBW.out.size)); clear hs7 hb7)
      exact bodyPost_ret (v := .tuple #[.slice none 0 0, .int .i64 (i : Nat)]) (by simp [results, Tryz.results43, go_sem]) rfl ⟨_, rfl, slRow_nil _ _, HB7.out⟩
    | some y =>
      obtain ⟨bs, nn⟩ := y
      obtain ⟨_, _, _, _, hn1, hn2, hn16, _⟩ := HJS.out bs nn hj
      have hrl := HRL.out
      obtain ⟨k', rfl⟩ : ∃ k', k = k' + 1 := ⟨k - 1, by omega⟩
      have hT := HT.out.trans (HTS.out k' bs nn hj)
      have hnz : ((nn : Int) == 0) = false := by rw [beq_eq_false_iff_ne]; omega
      have hin : (i : Int) + (nn : Int) = ((i + nn : Nat) : Int) := by omega
      have hin9 : i + nn ≤ 2000 := by have := HFL.out; omega
      have ihh := fun (W : World) (hW : Below w.heap.size w W) => IH.out (i + nn) A n c W (by omega) (by omega) (HS.out.up hW)
      have htl := HTL.out (i + nn) (by omega)
      rw [Nat.add_sub_cancel] at ihh htl
      rw [hj] at jn
      simp only [Option.getD_some] at jn
      obtain ⟨T2, hT2⟩ : ∃ T2, T2 = tail (tf ss fr g) m k' (i + nn) := ⟨_, rfl⟩
      rw [← hT2] at ihh hT htl
      obtain ⟨rs, en⟩ := T2
      simp only at hT htl
      have JN := Lib.hid jn; clear jn
      have IHH := Lib.hid ihh; clear ihh
      have hrs : rs.length ≤ 2000 := by have := HFL.out; omega
      subst hT
      clear hT2 htl
      generalize i + nn = ii at *
      go_wp2_with (first
        | (go_at_call 74; refine (JN.out).mono ?_; rintro e w7 ⟨v7, rfl, hs7, hb7⟩; obtain ⟨A7, n7, c7, rfl, _⟩ := id hs7; have HS7 := Lib.hid hs7; have HB7 := Lib.hid (HBW.out.trans (hb7.mono HBW.out.size)); have kb7 := HBK.out.below hb7 HBK.out.lt; have z0 := kb7.cell 0; have z1 := kb7.cell 1; have z2 := kb7.cell 2; simp at z0 z1 z2; clear hs7 hb7 kb7)
        | (go_at_call 43; refine (IHH.out _ HB7.out).mono ?_; rintro e w8 ⟨v8, rfl, hr8, hb8⟩; have hs8 := slRow_sls hr8; obtain ⟨A8, n8, c8, rfl, hl8, _⟩ := id hs8; obtain ⟨us8, hu8⟩ := slSrc_of hs8; have HU8 := Lib.hid hu8; have HS8 := Lib.hid (sl_up HS7.out hb8); have HB8 := Lib.hid (HB7.out.trans (hb8.mono HB7.out.size)); have hn8 : n8 ≤ 2000 := (by rw [← hl8]; exact hrs); clear hs8 hb8 hr8)
        | (at_builtin; refine wpList_append_n _ rfl (.tmp 79) (.tmp 80) 32 rfl w8.heap.size 31 i5 (.slice none 0 0) 1 24 Tryz.underlying32 HI5.out HY0.out HY1.out HY2.out rfl (by decide) zSl_nob (.slice (some ⟨w8.heap.size, 0, none⟩) 1 1) 1 [.slice A7 n7 c7] rfl ?own (w8.alloc (.cells #[.slice A7 n7 c7] 31)).heap.size A8 n8 c8 us8 ?hx ?hr HU8.out.ones HU8.out.nob ?h63 ?hby ?hbase ?_; (case own => exact row_one_sl w8 w8.heap.size _ rfl (Nat.le_refl _) _ bs HS8.out); (case hx => first | rfl | simp [Act.eval]); (case hr => exact (HU8.out.below (palloc (Below.refl _ _) _)).reads.more (by simp)); (case h63 => (unfold maxLen; omega)); (case hby => omega); (case hbase => simp); intro v9 w9 hown9 hg9 _; have hbl := palloc (Below.refl w8.heap.size w8) (.cells #[.slice A7 n7 c7] 31); have HB9 := Lib.hid ((HB8.out.trans (hbl.mono HB8.out.size)).grown hg9 (HB8.out.trans (hbl.mono HB8.out.size)).size (fun q hq => by cases hq; exact HB8.out.size)); have HR9 := Lib.hid ((slRow_app (base := w8.heap.size) (ss := [bs]) (ts := rs) (vs := [.slice A7 n7 c7]) rfl HU8.out.len (row_one_sl w8 w8.heap.size _ rfl (Nat.le_refl _) _ bs HS8.out).2 (fun i hi => by obtain rfl : i = 0 := (by simpa using hi); exact sl_up HS8.out hbl) (fun i hi => (((HU8.out.below hbl).sl i hi).more hbl.size)) (by rw [← hl8] at hown9; exact hown9) hg9)); clear hown9 hg9 hbl))
      obtain ⟨A9, n9, c9, e9, _⟩ := id (slRow_sls HR9.out)
      subst e9
      exact bodyPost_ret (v := .tuple #[.slice A9 n9 c9, .int .i64 (en : Nat)]) (by simp [results, Tryz.results43, go_sem]) rfl ⟨_, rfl, slRow_mono HR9.out HB8.out.size, HB9.out⟩
set_option maxRecDepth 20000 in
set_option maxHeartbeats 2000000 in
theorem rtail_any (ss : List (List Nat)) (fr m : Nat) (g p0 : Int) (hlen : ∀ s ∈ ss, s.length ≤ 600) (hfl : fr + m ≤ ss.length) (h1000 : ss.length ≤ 1000) :
    ∀ (k i : Nat) (A : Option Addr) (n c : Nat) (w : World), i ≤ m → m - i ≤ k → Sls w w.heap.size (.slice A n c) ss →
      Calls Tryz.prog 43 #[.agg #[.int .i64 p0, .int .i64 (fr : Nat), .int .i64 (m : Nat)], .slice A n c, .int .i64 g, .int .i64 (i : Nat)] w (TailOut w (tail (tf ss fr g) m k i)) := by
  intro k
  induction k with
  | zero =>
    intro i A n c w him hik h
    exact rtail_core ss fr m g p0 hlen hfl h1000 0 (fun i' A' n' c' w' h1 h2 => absurd h2 (by omega)) i A n c w him hik h
  | succ k ih =>
    intro i A n c w him hik h
    exact rtail_core ss fr m g p0 hlen hfl h1000 (k + 1) (fun i' A' n' c' w' h1 h2 h3 => ih i' A' n' c' w' h1 (by omega) h3) i A n c w him hik h
end Go.Proofs.YtnenbocjfekmfaaGreat.Wl
