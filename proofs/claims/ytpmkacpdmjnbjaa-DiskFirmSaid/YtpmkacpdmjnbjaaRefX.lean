/- The reference of layer 3: Write. -/
import Derived.Test.YtpmkacpdmjnbjaaRefN
namespace Go.Proofs.Ytpmkacpdmjnbjaa.Dsk
open Go.RowKit Go.Maps Go.Proofs.Ytpmkacpdmjnbjaa.Mem
set_option linter.unusedVariables false
set_option linter.unusedSimpArgs false
theorem SlS.raise {w : World} {S S' : List Nat} {u : Value} {xs : List Nat} (h : SlS w S u xs) (hs : ∀ x ∈ S', x ∈ S ∨ w.heap.size ≤ x) : SlS w S' u xs := by
  obtain ⟨A, n, c, rfl, h1, h2, h3, h4, h5, h6, h7⟩ := h
  refine ⟨A, n, c, rfl, h1, h2, h3, h4, h5, h6, fun h0 => ?_⟩
  obtain ⟨b, off, e, hb, hn, hc⟩ := h7 h0
  exact ⟨b, off, e, hb, fun hm => by rcases hs b hm with h | h; exact hn h; omega, hc⟩
theorem RowS.raise {w : World} {S S' : List Nat} {v : Value} {n : Nat} {us : Nat → Value} (h : RowS w S v n us) (hs : ∀ x ∈ S', x ∈ S ∨ w.heap.size ≤ x) : RowS w S' v n us := by
  obtain ⟨A, c, rfl, h4, h5, h6, h7⟩ := h
  refine ⟨A, c, rfl, h4, h5, h6, fun h0 => ?_⟩
  obtain ⟨b, off, e, hb, hn, hc⟩ := h7 h0
  exact ⟨b, off, e, hb, fun hm => by rcases hs b hm with h | h; exact hn h; omega, hc⟩
theorem RefAt.raise {w : World} {S S' : List Nat} {v : Value} {s : St} (h : RefAt w S v s) (hs : ∀ x ∈ S', x ∈ S ∨ w.heap.size ≤ x) : RefAt w S' v s := by
  obtain ⟨v1, v2, us1, us2, rfl, h1, h2, h3, h4⟩ := h
  exact ⟨v1, v2, us1, us2, rfl, h1.raise hs, h2.raise hs, fun i hi => (h3 i hi).raise hs, fun i hi => (h4 i hi).raise hs⟩
theorem raise_cons {S : List Nat} {B x : Nat} (h : B ≤ x) : ∀ y ∈ x :: S, y ∈ S ∨ B ≤ y := by
  intro y hy
  rcases List.mem_cons.1 hy with rfl | hy
  · exact .inr h
  · exact .inl hy
theorem cons_lt {S : List Nat} {B x C : Nat} (hS : ∀ y ∈ S, y < B) (hB : B ≤ C) (h : x < C) : ∀ y ∈ x :: S, y < C := by
  intro y hy
  rcases List.mem_cons.1 hy with rfl | hy
  · exact h
  · have := hS y hy; omega
theorem set_map_at (us : Nat → Value) (n i j : Nat) (u : Value) (hj : j < n) : (((List.range n).map us).set i u).getD j nilS = if j = i then u else us j := by
  rw [List.getD_eq_getElem?_getD, List.getElem?_set]
  by_cases e : j = i
  · subst e
    simp [hj]
  · rw [if_neg (fun h => e h.symm), if_neg e]
    simp [hj]
theorem ract_live {s : St} (h : s.dead = false) : s.ract = s.act := by simp [St.ract, h]
theorem act_n (s : St) : s.act.1.n = s.n := by unfold St.act; split <;> rfl
theorem act_fs (s : St) : s.act.1.fs = s.fs := by unfold St.act; split <;> rfl
theorem act_fw (s : St) : s.act.1.fw = s.fw := by unfold St.act; split <;> rfl
theorem refV_cells (A1 A2 : Option Addr) (n1 n2 c1 c2 : Nat) (s : St) : refV (.slice A1 n1 c1) (.slice A2 n2 c2) s = .agg #[.slice A1 n1 c1, .slice A2 n2 c2, .int .i64 (armedOf s.left), .bool s.dead] := rfl
abbrev zero31 : Obj := .cells #[nilS, nilS, .int .i64 0, .bool false] 31
abbrev dcells (A1 A2 : Option Addr) (n1 n2 c1 c2 : Nat) (ar : Int) (dd : Bool) : Obj := .cells #[.slice A1 n1 c1, .slice A2 n2 c2, .int .i64 ar, .bool dd] 31
set_option maxRecDepth 20000 in
set_option maxHeartbeats 2000000 in
theorem rwrite_dead (A1 A2 : Option Addr) (n1 n2 c1 c2 : Nat) (s : St) (i : Int) (vb : Value) (w : World) (hd : s.dead = true) :
    Calls Try.prog 37 #[refV (.slice A1 n1 c1) (.slice A2 n2 c2) s, .int .i64 i, vb] w fun e w' => e = .returned (.tuple #[refV (.slice A1 n1 c1) (.slice A2 n2 c2) s, .int .i64 7]) ∧ Below w.heap.size w w' := by
  unfold refV
  rw [hd]
  generalize armedOf s.left = ar
  clear hd
  go_enter Try.func37, Try.ntmps37
  go_wp2
  exact bodyPost_ret (v := .tuple #[.agg #[.slice A1 n1 c1, .slice A2 n2 c2, .int .i64 ar, .bool true], .int .i64 7]) (by simp [results, Try.results37, go_sem]) rfl ⟨rfl, ((Below.refl _ _).alloc (Nat.le_refl _) _).alloc (by simp) _⟩
set_option maxRecDepth 20000 in
set_option maxHeartbeats 2000000 in
theorem rwrite_arg (A1 A2 A3 : Option Addr) (n n2 n3 c1 c2 c3 : Nat) (s : St) (i : Int) (w : World) (hd : s.dead = false) (hi : ¬ (0 ≤ i ∧ i < n ∧ n3 = 512)) :
    Calls Try.prog 37 #[refV (.slice A1 n c1) (.slice A2 n2 c2) s, .int .i64 i, .slice A3 n3 c3] w fun e w' => e = .returned (.tuple #[refV (.slice A1 n c1) (.slice A2 n2 c2) s, .int .i64 1]) ∧ Below w.heap.size w w' := by
  unfold refV
  rw [hd]
  generalize armedOf s.left = ar
  clear hd
  by_cases h0 : i < 0
  · have hd1 : decide (i < 0) = true := by simpa using h0
    go_enter Try.func37, Try.ntmps37
    go_wp2
    exact bodyPost_ret (v := .tuple #[.agg #[.slice A1 n c1, .slice A2 n2 c2, .int .i64 ar, .bool false], .int .i64 1]) (by simp [results, Try.results37, go_sem]) rfl ⟨rfl, ((Below.refl _ _).alloc (Nat.le_refl _) _).alloc (by simp) _⟩
  · have hd1 : decide (i < 0) = false := by simpa using h0
    by_cases h1 : i < n
    · have hd2 : decide ((n : Int) ≤ i) = false := by simpa using h1
      have hd3 : ((n3 : Int) != 512) = true := by rw [bne_iff_ne]; omega
      go_enter Try.func37, Try.ntmps37
      go_wp2
      exact bodyPost_ret (v := .tuple #[.agg #[.slice A1 n c1, .slice A2 n2 c2, .int .i64 ar, .bool false], .int .i64 1]) (by simp [results, Try.results37, go_sem]) rfl ⟨rfl, ((Below.refl _ _).alloc (Nat.le_refl _) _).alloc (by simp) _⟩
    · have hd2 : decide ((n : Int) ≤ i) = true := by simpa using h1
      go_enter Try.func37, Try.ntmps37
      go_wp2
      exact bodyPost_ret (v := .tuple #[.agg #[.slice A1 n c1, .slice A2 n2 c2, .int .i64 ar, .bool false], .int .i64 1]) (by simp [results, Try.results37, go_sem]) rfl ⟨rfl, ((Below.refl _ _).alloc (Nat.le_refl _) _).alloc (by simp) _⟩
set_option maxRecDepth 20000 in
set_option maxHeartbeats 2000000 in
theorem rwrite_dies (A1 A2 A3 : Option Addr) (n n2 n3 c1 c2 c3 : Nat) (s : St) (i : Int) (w : World) (hg : Good s) (hd : s.dead = false) (h0 : 0 ≤ i) (h1 : i < n) (h3 : n3 = 512) (ha : s.act.2 = false) :
    Calls Try.prog 37 #[refV (.slice A1 n c1) (.slice A2 n2 c2) s, .int .i64 i, .slice A3 n3 c3] w fun e w' => e = .returned (.tuple #[refV (.slice A1 n c1) (.slice A2 n2 c2) s.act.1, .int .i64 7]) ∧ Below w.heap.size w w' := by
  have c := fun W => ref_act A1 A2 n n2 c1 c2 s W hg
  rw [ract_live hd, ha] at c
  unfold refV at c ⊢
  rw [hd] at c ⊢
  have C := Lib.hid c; clear c
  have hd1 : decide (i < 0) = false := by simpa using h0
  have hd2 : decide ((n : Int) ≤ i) = false := by simpa using h1
  have hd3 : ((n3 : Int) != 512) = false := by simp; omega
  clear h0 h1 h3 ha hd hg
  generalize armedOf s.left = ar at *
  generalize armedOf s.act.1.left = ar2 at *
  generalize s.act.1.dead = dd2 at *
  have k1 : Blk ((w.alloc (dcells A1 A2 n n2 c1 c2 ar false)).alloc zero31) (w.heap.size + 1) 31 #[nilS, nilS, .int .i64 0, .bool false] := by
    have := Blk.new (w.alloc (dcells A1 A2 n n2 c1 c2 ar false)) 31 #[nilS, nilS, .int .i64 0, .bool false]
    simpa using this
  have K1 := Lib.hid k1; clear k1
  have hb1 : Below w.heap.size w ((w.alloc (dcells A1 A2 n n2 c1 c2 ar false)).alloc zero31) := ((Below.refl _ _).alloc (Nat.le_refl _) _).alloc (by simp) _
  have HB1 := Lib.hid hb1; clear hb1
  go_enter Try.func37, Try.ntmps37
  go_wp2_with (go_at_call 61; refine (C.out _).mono ?_; rintro e w2 ⟨rfl, hb⟩; have kb := K1.out.below hb K1.out.lt; have q0 := kb.cell 0; have q1 := kb.cell 1; have q2 := kb.cell 2; have q3 := kb.cell 3; have p0 := kb.frozen 0; have p1 := kb.frozen 1; have p2 := kb.frozen 2; have p3 := kb.frozen 3; have klt := kb.lt; simp at q0 q1 q2 q3; clear kb; have HB := Lib.hid (HB1.out.trans (hb.mono HB1.out.size)); clear hb)
  have hs := HB.out.size
  exact bodyPost_ret (v := .tuple #[.agg #[.slice A1 n c1, .slice A2 n2 c2, .int .i64 ar2, .bool dd2], .int .i64 7]) (by simp [results, Try.results37, go_sem, q0, q1, q2, q3, klt]) rfl ⟨rfl, (set4_below HB.out (by omega)).alloc (by simp; omega) _⟩
set_option maxRecDepth 20000 in
set_option maxHeartbeats 4000000 in
theorem rwrite_ok (S : List Nat) (A1 A2 A3 : Option Addr) (n c1 c2 c3 N : Nat) (s : St) (i : Nat) (xs : List Nat) (us1 us2 : Nat → Value) (w : World) (hg : Good s) (hd : s.dead = false) (hn : n = s.n) (h1 : i < n) (h3 : N = 512) (ha : s.act.2 = true)
    (hr1 : RowS w S (.slice A1 n c1) n us1) (hr2 : RowS w S (.slice A2 n c2) n us2) (he1 : ∀ j, j < n → SlS w S (us1 j) ((s.fs j).getD noughts)) (he2 : ∀ j, j < n → SlS w S (us2 j) ((s.fw j).getD [])) (hb : Bts w w.heap.size A3 N xs) (hS : ∀ x ∈ S, x < w.heap.size) :
    Calls Try.prog 37 #[refV (.slice A1 n c1) (.slice A2 n c2) s, .int .i64 (i : Nat), .slice A3 N c3] w fun e w' => ∃ v', e = .returned (.tuple #[v', .int .i64 0]) ∧ RefAt w' S v' { s.act.1 with fw := upd1 s.act.1.fw i xs } ∧ Below w.heap.size w w' := by
  have c := fun W => ref_act A1 A2 n n c1 c2 s W hg
  rw [ract_live hd, ha] at c
  have hn1 : n ≤ 1024 := by have := hg.2.1; omega
  unfold refV at c ⊢
  rw [hd] at c ⊢
  have C := Lib.hid c; clear c
  have hd1 : decide ((i : Int) < 0) = false := by simp
  have hd2 : decide ((n : Int) ≤ i) = false := by simpa using h1
  have hd3 : ((N : Int) != 512) = false := by simp; omega
  obtain ⟨A2', c2', e, hreads⟩ := hr2.reads
  injection e with e1 e2 e3
  subst e1 e3
  have HRD := Lib.hid hreads; clear hreads
  have HR1 := Lib.hid hr1; clear hr1
  have HR2 := Lib.hid hr2; clear hr2
  have HE1 := Lib.hid he1; clear he1
  have HE2 := Lib.hid he2; clear he2
  have HBR := Lib.hid hb.reads
  have HBT := Lib.hid hb; clear hb
  have HS := Lib.hid hS; clear hS
  have HN := Lib.hid hn; clear hn
  have h3' : N ≤ 512 := by omega
  have H3 := Lib.hid h3; clear h3
  clear ha hg e2
  have HD := Lib.hid hd; clear hd
  generalize har : armedOf s.left = ar at *
  generalize har2 : armedOf s.act.1.left = ar2 at *
  generalize hdd2 : s.act.1.dead = dd2 at *
  have HAR2 := Lib.hid har2; clear har2 har
  have HDD2 := Lib.hid hdd2; clear hdd2
  obtain ⟨i0, hi, hz0, hz1, hz2⟩ := info_parts Try.info35
  have HI := Lib.hid hi; clear hi
  have HZ0 := Lib.hid hz0; clear hz0
  have HZ1 := Lib.hid hz1; clear hz1
  have HZ2 := Lib.hid hz2; clear hz2
  obtain ⟨i1, hi, hz0, hz1, hz2⟩ := info_parts Try.info5
  have HJ := Lib.hid hi; clear hi
  have HY0 := Lib.hid hz0; clear hz0
  have HY1 := Lib.hid hz1; clear hz1
  have HY2 := Lib.hid hz2; clear hz2
  have k1 : Blk ((w.alloc (dcells A1 A2 n n c1 c2 ar false)).alloc zero31) (w.heap.size + 1) 31 #[nilS, nilS, .int .i64 0, .bool false] := by
    have := Blk.new (w.alloc (dcells A1 A2 n n c1 c2 ar false)) 31 #[nilS, nilS, .int .i64 0, .bool false]
    simpa using this
  have K1 := Lib.hid k1; clear k1
  have hb1 : Below w.heap.size w ((w.alloc (dcells A1 A2 n n c1 c2 ar false)).alloc zero31) := ((Below.refl _ _).alloc (Nat.le_refl _) _).alloc (by simp) _
  have HB1 := Lib.hid hb1; clear hb1
  have hlits : ∀ W : World, (W.alloc (Obj.cells #[] 35)).ownsRow W.heap.size 35 1 (.slice (some ⟨W.heap.size, 0, none⟩) 0 0) 0 [] := fun W => World.ownsRow_lit W #[] 0 (Nat.le_refl _) (by unfold maxLen; omega) rfl
  have HLIT := Lib.hid hlits; clear hlits
  have hones : ∀ u ∈ (List.range n).map us2, u.oneCell' = true := by
    intro u hu
    obtain ⟨j, hj, rfl⟩ := List.mem_map.1 hu
    obtain ⟨A', c', e', _⟩ := (HE2.out j (by simpa using hj)).len
    rw [e']
    rfl
  have HONE := Lib.hid hones; clear hones
  have hnpos : 0 < n := by omega
  go_enter Try.func37, Try.ntmps37
  go_wp2_with (first
    | (go_at_call 61; refine (C.out _).mono ?_; rintro e w2 ⟨rfl, hb⟩; have kb := K1.out.below hb K1.out.lt; have HB := Lib.hid (HB1.out.trans (hb.mono HB1.out.size)); clear hb; have hs2 : w.heap.size + 1 < w2.heap.size := kb.lt; have K2 := Lib.hid kb; clear kb)
    | (at_builtin; go_loud (refine wpList_append_any _ rfl (.tmp 36) (.tmp 38) 29 rfl (w2.heap.size + 1) 35 i0 nilS 1 24 Try.underlying29 HI.out HZ0.out HZ1.out HZ2.out rfl (by decide) (.slice (some ⟨w2.heap.size + 1, 0, none⟩) 0 0) 0 [] rfl (by have := HLIT.out (w2.alloc (dcells A1 A2 n n c1 c2 ar2 dd2)); simpa using this) w.heap.size A2 n c2 ((List.range n).map us2) rfl (((HRD.out.below HB.out).alloc HB.out.size _).alloc (by simp; omega) _) HONE.out (by unfold maxLen; omega) (by omega) (by simp) ?_; intro v2 w4 hown4 hg4 _; rw [Nat.zero_add, List.nil_append] at hown4; obtain ⟨gr, cap, rfl, hgr, hgrlt⟩ := hown4.form hnpos; have kd4 := ((Blk.new w2 31 #[.slice A1 n c1, .slice A2 n c2, .int .i64 ar2, .bool dd2]).alloc (Obj.cells #[] 35)).grown hg4 (by simp [Value.ownBlock]); have e1 := kd4.cell 1; have p1 := kd4.frozen 1; have klt := kd4.lt; simp at e1; have HO4 := Lib.hid hown4; clear hown4; have HB4 := Lib.hid (((HB.out.alloc HB.out.size _).alloc (by simp; omega) _).grown hg4 (by simp; omega) (fun q hq => by simp [Value.ownBlock] at hq; omega)); have hk4 := (((K2.out.alloc (dcells A1 A2 n n c1 c2 ar2 dd2)).alloc (Obj.cells #[] 35)).grown hg4 (by simp [Value.ownBlock]; omega)); have K4 := Lib.hid hk4; clear hk4; have KD4 := Lib.hid kd4; clear kd4 hg4)))
  have KD5 := Lib.hid (KD4.out.set_ 1 (.slice (some ⟨gr, 0, none⟩) n cap))
  have K5 := Lib.hid (K4.out.far (p := ⟨w2.heap.size, 1, none⟩) (by simp; omega) (.slice (some ⟨gr, 0, none⟩) n cap))
  have HO5 := Lib.hid (ownsRow_setCell_below HO4.out (a := ⟨w2.heap.size, 1, none⟩) (by simp) (.slice (some ⟨gr, 0, none⟩) n cap))
  have HB5 := Lib.hid (HB4.out.setCell (p := ⟨w2.heap.size, 1, none⟩) (by simp; omega) (.slice (some ⟨gr, 0, none⟩) n cap))
  have hgr5 : gr < (w4.setCell ⟨w2.heap.size, 1, none⟩ (.slice (some ⟨gr, 0, none⟩) n cap)).heap.size := by simpa using hgrlt
  clear KD4 K4 HO4 HB4 e1 p1 klt hgrlt
  generalize w4.setCell ⟨w2.heap.size, 1, none⟩ (.slice (some ⟨gr, 0, none⟩) n cap) = w5 at *
  have e1 := KD5.out.cell 1
  have e2 := (KD5.out.alloc (.cells #[] 5)).cell 1
  have klt := KD5.out.lt
  simp at e1 e2
  have hown5 : (w5.alloc (.cells #[] 5)).drew.ownsRow w5.heap.size 5 1 (.slice (some ⟨w5.heap.size, 0, none⟩) 0 0) 0 [] := (World.ownsRow_lit w5 #[] 0 (Nat.le_refl _) (by unfold maxLen; omega) rfl).drew
  have HL5 := Lib.hid hown5; clear hown5
  have hg5 : w5.grownBy (w5.alloc (.cells #[] 5)).drew none := grown_of_below (((Below.refl _ w5).alloc (Nat.le_refl _) _).drew)
  have HG5 := Lib.hid hg5; clear hg5
  have hw5 := HB5.out.size
  have hus : ((List.range n).map us2)[i]? = some (us2 i) := by simp [h1]
  have HUS := Lib.hid hus; clear hus
  have hN63 : 0 + N ≤ maxLen := by unfold maxLen; omega
  have HN63 := Lib.hid hN63; clear hN63
  have hNb : (0 + N) * 1 ≤ 140737488355328 := by omega
  have HNB := Lib.hid hNb; clear hNb
  go_region_law (refine step_append_any _ rfl (.tmp 44) (.tmp 45) 35 rfl w5.heap.size 5 i1 (.int .u8 0) 1 1 Try.underlying35 HJ.out HY0.out HY1.out HY2.out rfl (by decide) (.slice (some ⟨w5.heap.size, 0, none⟩) 0 0) 0 [] rfl HL5.out w.heap.size A3 N c3 (vals xs) rfl (((HBR.out.below HB5.out).alloc hw5 _).drew) (vals_one _) HN63.out HNB.out (by simp) ?_; intro v6 w6 hown6 hg6 _; rw [Nat.zero_add, List.nil_append] at hown6; obtain ⟨A6, c6, rfl⟩ := own_form hown6; have hr6 := (HO5.out.kept HG5.out (by simp [Value.ownBlock])).kept hg6 (by simp [Value.ownBlock]; omega); have x1 := hr6.cellAt i (by omega); rw [HUS.out] at x1; have x2 := hr6.frozenAt i; have x3 := (hr6.lt gr rfl).2; have kd6 := ((KD5.out.alloc (.cells #[] 5)).drew).grown hg6 (by simp [Value.ownBlock]; omega); have x4 := kd6.cell 1; have x5 := kd6.lt; simp at x4; have KD6 := Lib.hid kd6; clear kd6; have HR6 := Lib.hid hr6; clear hr6; have HO6 := Lib.hid hown6; clear hown6; have HG6 := Lib.hid hg6; clear hg6)
  all_goals
    have kd7 := KD6.out.far (p := ⟨gr, i, none⟩) (by simp; omega) (.slice A6 N c6)
    have k7 := ((((K5.out.alloc (.cells #[] 5)).drew).grown HG6.out (by simp [Value.ownBlock]; omega)).far (p := ⟨gr, i, none⟩) (by simp; omega) (.slice A6 N c6))
    have hr7 := (HR6.out.stored i (.slice A6 N c6)).1
    have ho7 := ownsRow_setCell_below HO6.out (a := ⟨gr, i, none⟩) (by simp; omega) (.slice A6 N c6)
    have hb7 := ((((HB5.out.alloc hw5 (.cells #[] 5)).drew).grown HG6.out (by simp; omega) (fun q hq => by have := (HL5.out.lt q hq).1; omega)).setCell (p := ⟨gr, i, none⟩) (by simp; omega) (.slice A6 N c6))
    generalize w6.setCell ⟨gr, i, none⟩ (.slice A6 N c6) = w7 at *
    clear x1 x2 x3 x4 x5 KD6 HR6 HO6 HG6
    have d0 := kd7.cell 0
    have d1 := kd7.cell 1
    have d2 := kd7.cell 2
    have d3 := kd7.cell 3
    have q0 := k7.cell 0
    have q1 := k7.cell 1
    have q2 := k7.cell 2
    have q3 := k7.cell 3
    have p0 := k7.frozen 0
    have p1 := k7.frozen 1
    have p2 := k7.frozen 2
    have p3 := k7.frozen 3
    have hl7 := kd7.lt
    have hl8 := k7.lt
    simp at d0 d1 d2 d3 q0 q1 q2 q3
    have HR7 := Lib.hid hr7; clear hr7
    have HO7 := Lib.hid ho7; clear ho7
    have HB7 := Lib.hid hb7; clear hb7 kd7 k7
    have hra : RefAt w7 ((w.heap.size + 1) :: S) (.agg #[.slice A1 n c1, .slice (some ⟨gr, 0, none⟩) n cap, .int .i64 ar2, .bool dd2]) { s.act.1 with fw := upd1 s.act.1.fw i xs } := by
      have hK : KeptBut w w7 ((w.heap.size + 1) :: S) := kept_of_below HB7.out (Nat.le_refl _)
      have hn' : s.act.1.n = n := (act_n s).trans HN.out.symm
      have hraise := raise_cons (S := S) (B := w.heap.size) (x := w.heap.size + 1) (by omega)
      refine ⟨.slice A1 n c1, .slice (some ⟨gr, 0, none⟩) n cap, us1, fun j => if j = i then .slice A6 N c6 else us2 j, ?_, ?_, ?_, ?_, ?_⟩
      · show _ = Value.agg #[_, _, .int .i64 (armedOf s.act.1.left), .bool s.act.1.dead]
        rw [HAR2.out, HDD2.out]
      · show RowS w7 _ _ s.act.1.n us1
        rw [hn']
        exact (HR1.out.raise hraise).kept hK
      · show RowS w7 _ _ s.act.1.n _
        rw [hn']
        refine (rowS_own HR7.out (cons_lt HS.out (by omega) (by omega))).ext fun j hj => ?_
        exact set_map_at us2 n i j _ hj
      · intro j hj
        have hj' : j < n := by rw [← hn']; exact hj
        show SlS w7 _ (us1 j) ((s.act.1.fs j).getD noughts)
        rw [act_fs]
        exact ((HE1.out j hj').raise hraise).kept hK
      · intro j hj
        have hj' : j < n := by rw [← hn']; exact hj
        show SlS w7 _ (if j = i then .slice A6 N c6 else us2 j) ((upd1 s.act.1.fw i xs j).getD [])
        unfold upd1
        by_cases e : j = i
        · subst e
          rw [if_pos rfl, if_pos rfl]
          exact slS_own HO7.out HBT.out.2.1 HBT.out.2.2.1 (cons_lt HS.out (by omega) (by omega))
        · rw [if_neg e, if_neg e, act_fw]
          exact ((HE2.out j hj').raise hraise).kept hK
    have HRA := Lib.hid hra; clear hra
    go_wp2
    exact bodyPost_ret (v := .tuple #[.agg #[.slice A1 n c1, .slice (some ⟨gr, 0, none⟩) n cap, .int .i64 ar2, .bool dd2], .int .i64 0]) (by simp [results, Try.results37, go_sem, q0, q1, q2, q3, hl8]) rfl ⟨_, rfl, (HRA.out.kept (set4_kept (KeptBut.refl _ _) (List.mem_cons_self ..))).more (fun x hx => List.mem_cons_of_mem _ hx), set4_below HB7.out (by omega)⟩
end Go.Proofs.Ytpmkacpdmjnbjaa.Dsk
