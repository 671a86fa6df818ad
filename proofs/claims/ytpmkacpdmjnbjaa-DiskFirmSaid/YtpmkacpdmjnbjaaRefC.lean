/- The reference of layer 3: Crash. -/
import Derived.Test.YtpmkacpdmjnbjaaRefF
import Derived.Deep.CutRange
namespace Go.Proofs.Ytpmkacpdmjnbjaa.Dsk
open Go.RowKit Go.Maps Go.Shelf Go.Proofs.Ytpmkacpdmjnbjaa.Mem
set_option linter.unusedVariables false
set_option linter.unusedSimpArgs false
theorem tears_fs (l : List (Nat × Int × List Nat)) (j : Nat) : ∀ (s : St), (∀ p ∈ l, p.1 ≠ j) → (s.tears l).fs j = s.fs j := by
  induction l with
  | nil => exact fun s _ => rfl
  | cons p r ih =>
    intro s h
    have h1 : (s.tear p.1 p.2.1 p.2.2).fs j = s.fs j := by
      have hp := h p (List.mem_cons_self ..)
      unfold St.tear
      split
      · show (if j = p.1 then _ else _) = _
        rw [if_neg (fun e => hp e.symm)]
      · split
        · show (if j = p.1 then _ else _) = _
          rw [if_neg (fun e => hp e.symm)]
        · rfl
    exact (ih (s.tear p.1 p.2.1 p.2.2) (fun q hq => h q (List.mem_cons_of_mem _ hq))).trans h1
theorem waiting_nodup (s : St) : s.waiting.Nodup := (List.nodup_range).filter _
theorem tears_at (s : St) (l : List (Int × List Nat)) (k : Nat) (hk : k < s.waiting.length) : (s.tears ((s.waiting.zip l).take k)).fs (s.waiting.getD k 0) = s.fs (s.waiting.getD k 0) := by
  refine tears_fs _ _ s fun p hp e => ?_
  obtain ⟨j, hpj⟩ := List.getElem?_of_mem hp
  rw [List.getElem?_take] at hpj
  split at hpj
  · rename_i hjk
    rw [List.getElem?_zip_eq_some] at hpj
    have h1 := hpj.1
    have h2 : s.waiting[k]? = some (s.waiting.getD k 0) := by simp [List.getD, List.getElem?_eq_getElem hk]
    rw [e, ← h2] at h1
    have := (List.getElem?_inj (by omega) (waiting_nodup s)).1 h1
    omega
  · cases hpj
theorem map_set (us : Nat → Value) (n i : Nat) (u : Value) : ((List.range n).map us).set i u = (List.range n).map (fun j => if j = i then u else us j) := by
  apply List.ext_getElem?
  intro j
  by_cases hj : j < n
  · rw [List.getElem?_set]
    by_cases e : i = j
    · subst e; simp [hj]
    · have e' : ¬ j = i := fun h => e h.symm
      simp [e, e', hj]
  · rw [List.getElem?_eq_none (by simp; omega), List.getElem?_eq_none (by simp; omega)]
theorem step_sls {w w' : World} {S : List Nat} {n i : Nat} {us : Nat → Value} {f : Nat → Option (List Nat)} {u : Value} {ys : List Nat} (h : ∀ j, j < n → SlS w S (us j) ((f j).getD noughts)) (k : KeptBut w w' S) (hu : SlS w' S u ys) :
    ∀ j, j < n → SlS w' S (if j = i then u else us j) ((upd1 f i ys j).getD noughts) := by
  intro j hj
  unfold upd1
  by_cases e : j = i
  · rw [if_pos e, if_pos e]
    exact hu
  · rw [if_neg e, if_neg e]
    exact (h j hj).kept k
theorem getD_some_any {o : Option (List Nat)} (h : o.isSome = true) (a b : List Nat) : o.getD a = o.getD b := by
  obtain ⟨x, rfl⟩ := Option.isSome_iff_exists.1 h
  rfl
theorem far_cell {g i b o : Nat} {u : Value} (w : World) (h : b ≠ g) : (w.setCell ⟨g, i, none⟩ u).cell? ⟨b, o, none⟩ = w.cell? ⟨b, o, none⟩ :=
  World.cell?_setCell_other w _ _ _ (fun e => h (by injection e with e1; exact e1.symm))
theorem blk_of_own {w : World} {base n cap gr size : Nat} {e : TypeId} {xs : List Value} (h : w.ownsRow base e size (.slice (some ⟨gr, 0, none⟩) n cap) n xs) : ∃ cs, Blk w gr e cs := by
  rcases h.2 with ⟨h', _⟩ | ⟨g', cap', cur, h', _, hg, _⟩
  · cases h'
  · injection h' with h1 _ _
    injection h1 with h1
    injection h1 with h1
    subst h1
    exact ⟨cur, hg⟩
theorem blk_c0 {w : World} {g : Nat} {t : TypeId} {a b c d : Value} (h : Blk w g t #[a, b, c, d]) : w.cell? ⟨g, 0, none⟩ = some a := by rw [h.cell]; rfl
theorem blk_last {w : World} {g : Nat} {t : TypeId} {cs : Array Value} (hg : g = w.heap.size) : Blk (w.alloc (.cells cs t)) g t cs := by subst hg; exact Blk.new _ _ _
theorem lit_last {w : World} {g base : Nat} (hg : g = w.heap.size) (hb : base ≤ w.heap.size) : (w.alloc (.cells #[] 35)).ownsRow base 35 1 (.slice (some ⟨g, 0, none⟩) 0 0) 0 [] := by
  subst hg
  exact World.ownsRow_lit w #[] 0 hb (by unfold maxLen; omega) rfl
theorem set4_blk {w : World} {g : Nat} {t : TypeId} {a b c d a' b' c' d' : Value} (h : Blk w g t #[a, b, c, d]) : Blk (set4 w g a' b' c' d') g t #[a', b', c', d'] := (((h.set_ 0 a').set_ 1 b').set_ 2 c').set_ 3 d'
theorem set4_far {w : World} {g g' : Nat} {t : TypeId} {cs : Array Value} {a' b' c' d' : Value} (h : Blk w g t cs) (hn : g ≠ g') : Blk (set4 w g' a' b' c' d') g t cs :=
  (((h.far (p := ⟨g', 0, none⟩) hn _).far (p := ⟨g', 1, none⟩) hn _).far (p := ⟨g', 2, none⟩) hn _).far (p := ⟨g', 3, none⟩) hn _
theorem set4_own {w : World} {base g size n : Nat} {e t : TypeId} {v : Value} {xs : List Value} {cs : Array Value} {a' b' c' d' : Value} (h : w.ownsRow base e size v n xs) (hb : Blk w g t cs) (ht : e ≠ t) : (set4 w g a' b' c' d').ownsRow base e size v n xs := by
  have hn : v.ownBlock ≠ some g := own_blk_ne h hb ht
  have k : w.grownBy (set4 w g a' b' c' d') (some g) := grown_trans (grown_trans (grown_trans (grown_set w ⟨g, 0, none⟩ a') (grown_set _ ⟨g, 1, none⟩ b')) (grown_set _ ⟨g, 2, none⟩ c')) (grown_set _ ⟨g, 3, none⟩ d')
  exact h.kept k (.inr hn)
set_option maxRecDepth 20000 in
set_option maxHeartbeats 8000000 in
theorem ref_crash (S : List Nat) (B : Nat) (v vl : Value) (s : St) (l : List (Int × List Nat)) (w : World) (hg : Good s) (h : RefAt w S v s) (hS : ∀ x ∈ S, x < w.heap.size) (hl : TearsAt w B vl l) (hB : B ≤ w.heap.size) (hr : ∀ i, s.n ≤ i → s.fw i = none) :
    Calls Try.prog 39 #[v, vl] w fun e w' => ∃ v', e = .returned v' ∧ RefAt w' S v' (s.crash l) ∧ Below w.heap.size w w' := by
  have hwt := fun (W : World) (hW : Below w.heap.size w W) => ref_waiting S v s W hg (h.kept (kept_of_below hW (Nat.le_refl _)))
  obtain ⟨v1, v2, us1, us2, rfl, hr1, hr2, he1, he2⟩ := h
  obtain ⟨A1, c1, rfl, _⟩ := id hr1
  obtain ⟨A2, c2, rfl, _⟩ := id hr2
  obtain ⟨n, hn⟩ : ∃ n, n = s.n := ⟨_, rfl⟩
  rw [← hn] at hr1 hr2 he1 he2 hr
  have hn1 : n ≤ 1024 := by have := hg.2.1; omega
  obtain ⟨A1', c1', e, hreads⟩ := hr1.reads
  injection e with e1 e2 e3
  subst e1 e3
  unfold refV at hwt ⊢
  rw [← hn] at hwt ⊢
  have HWT := Lib.hid hwt; clear hwt
  have HRD := Lib.hid hreads; clear hreads
  have HR1 := Lib.hid hr1; clear hr1
  have HR2 := Lib.hid hr2; clear hr2
  have HE1 := Lib.hid he1; clear he1
  have HE2 := Lib.hid he2; clear he2
  have HS := Lib.hid hS; clear hS
  have HN := Lib.hid hn; clear hn
  have HG := Lib.hid hg; clear hg
  have HR := Lib.hid hr; clear hr e2
  have hones : ∀ u ∈ (List.range n).map us1, u.oneCell' = true := by
    intro u hu
    obtain ⟨j, hj, rfl⟩ := List.mem_map.1 hu
    obtain ⟨A', c', e', _⟩ := (HE1.out j (by simpa using hj)).len
    rw [e']
    rfl
  have HONE := Lib.hid hones; clear hones
  generalize armedOf s.left = ar at *
  generalize s.dead = dd at *
  obtain ⟨i0, hi, hz0, hz1, hz2⟩ := info_parts Try.info35
  have HI := Lib.hid hi; clear hi
  have HZ0 := Lib.hid hz0; clear hz0
  have HZ1 := Lib.hid hz1; clear hz1
  have HZ2 := Lib.hid hz2; clear hz2
  have hmr := make_rows n hn1
  obtain ⟨MC, hMC⟩ : ∃ MC, MC = madeCells #[nilS] n := ⟨_, rfl⟩
  rw [← hMC] at hmr
  have HMC := Lib.hid hMC; clear hMC
  obtain ⟨m, hm⟩ : ∃ m, m = s.waiting.length := ⟨_, rfl⟩
  rw [← hm] at HWT
  have HM := Lib.hid hm; clear hm
  have k1 : Blk ((w.alloc (dcells A1 A2 n n c1 c2 ar dd)).alloc zero31) (w.heap.size + 1) 31 #[nilS, nilS, .int .i64 0, .bool false] := (blk_last (by simp))
  have K1 := Lib.hid k1; clear k1
  have k0 : Blk ((w.alloc (dcells A1 A2 n n c1 c2 ar dd)).alloc zero31) w.heap.size 31 #[.slice A1 n c1, .slice A2 n c2, .int .i64 ar, .bool dd] := (Blk.new _ _ _).alloc _
  have K0 := Lib.hid k0; clear k0
  have hb1 : Below w.heap.size w ((w.alloc (dcells A1 A2 n n c1 c2 ar dd)).alloc zero31) := ((Below.refl _ _).alloc (Nat.le_refl _) _).alloc (by simp) _
  have HB1 := Lib.hid hb1; clear hb1
  go_enter Try.func39, Try.ntmps39
  go_wp2_with (go_at_call 40; refine (HWT.out _ HB1.out).mono ?_; rintro e w3 ⟨vw, rfl, hroww, hb⟩; obtain ⟨Aw, cw, rfl, hcw⟩ := own_ints hroww HM.out.symm; have L3 := Lib.hid (K0.out.below hb K0.out.lt); have K3 := Lib.hid (K1.out.below hb K1.out.lt); have HB3 := Lib.hid (HB1.out.trans (hb.mono HB1.out.size)); have hs3 : w.heap.size + 1 < w3.heap.size := K3.out.lt; have HCW := Lib.hid hcw; clear hcw; have HRW := Lib.hid hroww; clear hroww hb)
  go_cut [6] from 10 to 18 (fun s6 wx => ∃ (yb rb : Nat) (A : Option Addr) (c : Nat), s6 = .pointer (some ⟨yb, 0, none⟩) ∧ Blk wx yb 31 #[.slice A n c, .slice (some ⟨rb, 0, none⟩) n n, .int .i64 (-1), .bool false] ∧ Blk wx rb 35 MC ∧
    wx.ownsRow w3.heap.size 35 1 (.slice A n c) n ((List.range n).map us1) ∧ (Value.slice A n c).ownBlock ≠ some rb ∧ w3.heap.size ≤ yb ∧ w3.heap.size ≤ rb ∧ Below w3.heap.size w3 wx)
  case first =>
    have a0 := L3.out.cell 0
    have l1 := L3.out.lt
    simp at a0
    clear HE1 HE2 HR1 HR2 HWT HS HN HG HR HCW HRW HM K1 K0 HB1 K3 hl hB
    go_region_held3 (fun W => W.cell? ⟨w.heap.size, 0, none⟩ = some (.slice A1 n c1))
      (first
        | with_reducible exact a0
        | with_reducible exact blk_c0 L3.out
        | with_reducible exact blk_c0 (Blk.drew L3.out)
        | with_reducible exact blk_c0 (L3.out.alloc _)
        | with_reducible exact blk_c0 (Blk.drew (L3.out.alloc _))
        | with_reducible exact blk_c0 ((L3.out.alloc _).alloc _)
        | with_reducible exact blk_c0 (Blk.drew ((L3.out.alloc _).alloc _))
        | with_reducible exact blk_c0 (((L3.out.alloc _).alloc _).alloc _)
        | with_reducible exact blk_c0 (Blk.drew (((L3.out.alloc _).alloc _).alloc _))
        | with_reducible exact blk_c0 L7.out
        | with_reducible exact blk_c0 (Blk.drew L7.out)
        | with_reducible exact blk_c0 (L7.out.alloc _)
        | with_reducible exact blk_c0 (Blk.drew (L7.out.alloc _))
        | with_reducible exact blk_c0 ((L7.out.alloc _).alloc _)
        | with_reducible exact blk_c0 (Blk.drew ((L7.out.alloc _).alloc _))
        | with_reducible exact blk_c0 (((L7.out.alloc _).alloc _).alloc _)
        | with_reducible exact blk_c0 (Blk.drew (((L7.out.alloc _).alloc _).alloc _))
        | with_reducible exact blk_c0 (set4_far L7.out (by first | omega | (simp <;> omega)))
        | with_reducible exact blk_c0 ((set4_far L7.out (by first | omega | (simp <;> omega))).alloc _)
        | with_reducible exact blk_c0 (Blk.drew (set4_far L7.out (by first | omega | (simp <;> omega))))
        | with_reducible exact blk_c0 (Blk.drew ((set4_far L7.out (by first | omega | (simp <;> omega))).alloc _))
        | go_keep)
      (first
        | (refine step_append_any _ rfl (.tmp 10) (.tmp 12) 29 rfl w3.heap.size 35 i0 nilS 1 24 Try.underlying29 HI.out HZ0.out HZ1.out HZ2.out rfl (by decide) (.slice (some ⟨w3.heap.size, 0, none⟩) 0 0) 0 [] rfl (by first | with_reducible exact World.ownsRow.drew (lit_last (by simp) (by first | omega | (simp <;> omega))) | with_reducible exact World.ownsRow.drew (World.ownsRow.alloc (lit_last (by simp) (by first | omega | (simp <;> omega))) _) | with_reducible exact World.ownsRow.drew (World.ownsRow.alloc (World.ownsRow.alloc (lit_last (by simp) (by first | omega | (simp <;> omega))) _) _)) w.heap.size A1 n c1 ((List.range n).map us1) rfl (HRD.out.below (by first | with_reducible exact Below.drew (HB3.out.alloc (by omega) _) | with_reducible exact Below.drew ((HB3.out.alloc (by omega) _).alloc (by first | omega | (simp <;> omega)) _) | with_reducible exact Below.drew (((HB3.out.alloc (by omega) _).alloc (by first | omega | (simp <;> omega)) _).alloc (by first | omega | (simp <;> omega)) _))) HONE.out (by unfold maxLen; omega) (by omega) (by first | omega | (simp <;> omega)) ?_; intro v7 w7 hown7 hg7 hor7; rw [Nat.zero_add, List.nil_append] at hown7; obtain ⟨A7, c7, rfl⟩ := own_form hown7; have L7 : Hid (Blk w7 w.heap.size 31 #[.slice A1 n c1, .slice A2 n c2, .int .i64 ar, .bool dd]) := Blk.grown (by first | with_reducible exact Blk.drew (L3.out.alloc _) | with_reducible exact Blk.drew ((L3.out.alloc _).alloc _) | with_reducible exact Blk.drew (((L3.out.alloc _).alloc _).alloc _)) hg7 (by simp [Value.ownBlock] <;> omega); have l7 := L7.out.lt; have z7 := hg7.size; simp at z7; (try (have y7 : Blk w7 _ 31 #[nilS, nilS, .int .i64 0, .bool false] := Blk.grown (by first | with_reducible exact Blk.drew (blk_last rfl) | with_reducible exact Blk.drew (Blk.alloc (blk_last rfl) _) | with_reducible exact Blk.drew (Blk.alloc (Blk.alloc (blk_last rfl) _) _)) hg7 (by simp [Value.ownBlock] <;> omega); have q0 := y7.cell 0; have q1 := y7.cell 1; have q2 := y7.cell 2; have q3 := y7.cell 3; have f0 := y7.frozen 0; have f1 := y7.frozen 1; have f2 := y7.frozen 2; have f3 := y7.frozen 3; have q4 := y7.lt; simp at q0 q1 q2 q3 f0 f1 f2 f3 q4; clear y7)); have HP := Lib.hid hown7; clear hown7; have GR := Lib.hid hg7; clear hg7; have HOR := Lib.hid hor7; clear hor7)
        | (refine step_append_any _ rfl (.tmp 10) (.tmp 12) 29 rfl w3.heap.size 35 i0 nilS 1 24 Try.underlying29 HI.out HZ0.out HZ1.out HZ2.out rfl (by decide) (.slice (some ⟨w3.heap.size + 1, 0, none⟩) 0 0) 0 [] rfl (by first | with_reducible exact World.ownsRow.drew (lit_last (by simp) (by first | omega | (simp <;> omega))) | with_reducible exact World.ownsRow.drew (World.ownsRow.alloc (lit_last (by simp) (by first | omega | (simp <;> omega))) _) | with_reducible exact World.ownsRow.drew (World.ownsRow.alloc (World.ownsRow.alloc (lit_last (by simp) (by first | omega | (simp <;> omega))) _) _)) w.heap.size A1 n c1 ((List.range n).map us1) rfl (HRD.out.below (by first | with_reducible exact Below.drew (HB3.out.alloc (by omega) _) | with_reducible exact Below.drew ((HB3.out.alloc (by omega) _).alloc (by first | omega | (simp <;> omega)) _) | with_reducible exact Below.drew (((HB3.out.alloc (by omega) _).alloc (by first | omega | (simp <;> omega)) _).alloc (by first | omega | (simp <;> omega)) _))) HONE.out (by unfold maxLen; omega) (by omega) (by first | omega | (simp <;> omega)) ?_; intro v7 w7 hown7 hg7 hor7; rw [Nat.zero_add, List.nil_append] at hown7; obtain ⟨A7, c7, rfl⟩ := own_form hown7; have L7 : Hid (Blk w7 w.heap.size 31 #[.slice A1 n c1, .slice A2 n c2, .int .i64 ar, .bool dd]) := Blk.grown (by first | with_reducible exact Blk.drew (L3.out.alloc _) | with_reducible exact Blk.drew ((L3.out.alloc _).alloc _) | with_reducible exact Blk.drew (((L3.out.alloc _).alloc _).alloc _)) hg7 (by simp [Value.ownBlock] <;> omega); have l7 := L7.out.lt; have z7 := hg7.size; simp at z7; (try (have y7 : Blk w7 _ 31 #[nilS, nilS, .int .i64 0, .bool false] := Blk.grown (by first | with_reducible exact Blk.drew (blk_last rfl) | with_reducible exact Blk.drew (Blk.alloc (blk_last rfl) _) | with_reducible exact Blk.drew (Blk.alloc (Blk.alloc (blk_last rfl) _) _)) hg7 (by simp [Value.ownBlock] <;> omega); have q0 := y7.cell 0; have q1 := y7.cell 1; have q2 := y7.cell 2; have q3 := y7.cell 3; have f0 := y7.frozen 0; have f1 := y7.frozen 1; have f2 := y7.frozen 2; have f3 := y7.frozen 3; have q4 := y7.lt; simp at q0 q1 q2 q3 f0 f1 f2 f3 q4; clear y7)); have HP := Lib.hid hown7; clear hown7; have GR := Lib.hid hg7; clear hg7; have HOR := Lib.hid hor7; clear hor7)
        | (refine step_append_any _ rfl (.tmp 10) (.tmp 12) 29 rfl w3.heap.size 35 i0 nilS 1 24 Try.underlying29 HI.out HZ0.out HZ1.out HZ2.out rfl (by decide) (.slice (some ⟨w3.heap.size + 1 + 1, 0, none⟩) 0 0) 0 [] rfl (by first | with_reducible exact World.ownsRow.drew (lit_last (by simp) (by first | omega | (simp <;> omega))) | with_reducible exact World.ownsRow.drew (World.ownsRow.alloc (lit_last (by simp) (by first | omega | (simp <;> omega))) _) | with_reducible exact World.ownsRow.drew (World.ownsRow.alloc (World.ownsRow.alloc (lit_last (by simp) (by first | omega | (simp <;> omega))) _) _)) w.heap.size A1 n c1 ((List.range n).map us1) rfl (HRD.out.below (by first | with_reducible exact Below.drew (HB3.out.alloc (by omega) _) | with_reducible exact Below.drew ((HB3.out.alloc (by omega) _).alloc (by first | omega | (simp <;> omega)) _) | with_reducible exact Below.drew (((HB3.out.alloc (by omega) _).alloc (by first | omega | (simp <;> omega)) _).alloc (by first | omega | (simp <;> omega)) _))) HONE.out (by unfold maxLen; omega) (by omega) (by first | omega | (simp <;> omega)) ?_; intro v7 w7 hown7 hg7 hor7; rw [Nat.zero_add, List.nil_append] at hown7; obtain ⟨A7, c7, rfl⟩ := own_form hown7; have L7 : Hid (Blk w7 w.heap.size 31 #[.slice A1 n c1, .slice A2 n c2, .int .i64 ar, .bool dd]) := Blk.grown (by first | with_reducible exact Blk.drew (L3.out.alloc _) | with_reducible exact Blk.drew ((L3.out.alloc _).alloc _) | with_reducible exact Blk.drew (((L3.out.alloc _).alloc _).alloc _)) hg7 (by simp [Value.ownBlock] <;> omega); have l7 := L7.out.lt; have z7 := hg7.size; simp at z7; (try (have y7 : Blk w7 _ 31 #[nilS, nilS, .int .i64 0, .bool false] := Blk.grown (by first | with_reducible exact Blk.drew (blk_last rfl) | with_reducible exact Blk.drew (Blk.alloc (blk_last rfl) _) | with_reducible exact Blk.drew (Blk.alloc (Blk.alloc (blk_last rfl) _) _)) hg7 (by simp [Value.ownBlock] <;> omega); have q0 := y7.cell 0; have q1 := y7.cell 1; have q2 := y7.cell 2; have q3 := y7.cell 3; have f0 := y7.frozen 0; have f1 := y7.frozen 1; have f2 := y7.frozen 2; have f3 := y7.frozen 3; have q4 := y7.lt; simp at q0 q1 q2 q3 f0 f1 f2 f3 q4; clear y7)); have HP := Lib.hid hown7; clear hown7; have GR := Lib.hid hg7; clear hg7; have HOR := Lib.hid hor7; clear hor7))
    all_goals
      go_wp2_with fail
      go_meet
      case rel =>
        apply Exists.intro
        apply Exists.intro
        refine ⟨A7, c7, rfl, ?_, ?_, ?_, ?_, ?_, ?_, ?_⟩
        · first | with_reducible exact blk_last (by simp) | (with_reducible refine Blk.alloc ?_ _; with_reducible exact blk_last (by simp)) | (with_reducible refine set4_blk (a := nilS) (b := nilS) (c := .int .i64 0) (d := .bool false) ?_; with_reducible refine Blk.grown ?_ GR.out (by simp [Value.ownBlock] <;> omega); repeat (first | with_reducible exact blk_last (by simp) | with_reducible refine Blk.drew ?_ | with_reducible refine Blk.alloc ?_ _)) | (with_reducible refine Blk.alloc ?_ _; with_reducible refine set4_blk (a := nilS) (b := nilS) (c := .int .i64 0) (d := .bool false) ?_; with_reducible refine Blk.grown ?_ GR.out (by simp [Value.ownBlock] <;> omega); repeat (first | with_reducible exact blk_last (by simp) | with_reducible refine Blk.drew ?_ | with_reducible refine Blk.alloc ?_ _))
        · first | with_reducible exact blk_last (by simp) | (with_reducible refine Blk.alloc ?_ _; with_reducible exact blk_last (by simp)) | (with_reducible refine Blk.alloc ?_ _; with_reducible refine Blk.grown ?_ GR.out (by simp [Value.ownBlock] <;> omega); repeat (first | with_reducible exact blk_last (by simp) | with_reducible refine Blk.drew ?_ | with_reducible refine Blk.alloc ?_ _)) | (with_reducible refine set4_far ?_ (by first | omega | (simp <;> omega)); with_reducible refine Blk.grown ?_ GR.out (by simp [Value.ownBlock] <;> omega); repeat (first | with_reducible exact blk_last (by simp) | with_reducible refine Blk.drew ?_ | with_reducible refine Blk.alloc ?_ _))
        · first | with_reducible exact HP.out.alloc _ | with_reducible exact (HP.out.alloc _).alloc _ | (with_reducible refine set4_own HP.out (t := 31) (cs := #[nilS, nilS, .int .i64 0, .bool false]) ?_ (by decide); with_reducible refine Blk.grown ?_ GR.out (by simp [Value.ownBlock] <;> omega); repeat (first | with_reducible exact blk_last (by simp) | with_reducible refine Blk.drew ?_ | with_reducible refine Blk.alloc ?_ _)) | (with_reducible refine World.ownsRow.alloc ?_ _; with_reducible refine set4_own HP.out (t := 31) (cs := #[nilS, nilS, .int .i64 0, .bool false]) ?_ (by decide); with_reducible refine Blk.grown ?_ GR.out (by simp [Value.ownBlock] <;> omega); repeat (first | with_reducible exact blk_last (by simp) | with_reducible refine Blk.drew ?_ | with_reducible refine Blk.alloc ?_ _))
        · intro hq
          have h1 := (HP.out.lt _ hq).2
          rcases HOR.out with e | e <;> rw [hq] at e <;> simp [Value.ownBlock] at e <;> first | omega | (simp at h1; omega)
        · first | omega | (simp <;> omega)
        · first | omega | (simp <;> omega)
        · repeat (first | with_reducible exact Below.refl _ _ | with_reducible refine Below.alloc ?_ (by first | omega | (simp <;> omega)) _ | with_reducible refine Below.drew ?_ | with_reducible refine Below.grown ?_ GR.out (by first | omega | (simp <;> omega)) (fun q hq => by simp [Value.ownBlock] at hq <;> omega) | with_reducible refine Below.setCell ?_ (by first | omega | (simp <;> omega)) _)
  case rest =>
    obtain ⟨yb, rb, A, c, rfl, hy, hrbk, hown, hrne, hyb, hrb, hbel⟩ := hcut
    have hnpos : 0 < n := by have := HG.out.1; have := HN.out; omega
    obtain ⟨gr, cap, hv, hgr, hgrlt⟩ := hown.form hnpos
    injection hv with hA _ hc
    subst hA hc
    have hgrb : gr ≠ rb := fun e => hrne (by simp [Value.ownBlock, e])
    obtain ⟨Al, nl, cl, rfl, hll, hlb, hlc⟩ := hl
    have hK : KeptBut w wc [] := kept_of_below (HB3.out.trans (hbel.mono (by omega))) (Nat.le_refl _)
    have hS0 : ∀ x ∈ (w.heap.size + 1) :: S, x < w3.heap.size := cons_lt HS.out (by omega) (by omega)
    have hraise := raise_cons (S := S) (B := w.heap.size) (x := w.heap.size + 1) (by omega)
    have hel : ∀ j, j < n → SlS wc (gr :: (w.heap.size + 1) :: S) (us1 j) ((s.fs j).getD noughts) := fun j hj => (((HE1.out j hj).raise (S' := gr :: (w.heap.size + 1) :: S) (fun x hx => by
      rcases List.mem_cons.1 hx with rfl | hx
      · exact .inr (by omega)
      · exact hraise x hx))).kept (kept_of_below (HB3.out.trans (hbel.mono (by omega))) (Nat.le_refl _))
    have hLc := L3.out.below hbel (by omega)
    have hKc := K3.out.below hbel (by omega)
    obtain ⟨KK, hKK⟩ : ∃ KK, KK = min m nl := ⟨_, rfl⟩
    have HKK := Lib.hid hKK
    have hKm : KK ≤ m := by omega
    have hKn : KK ≤ nl := by omega
    have hmn : m ≤ 1024 := by
      have h1 := wt_le s s.n
      have h2 := HM.out
      have h3 : (wt s s.n).length = s.waiting.length := rfl
      have := HN.out
      omega
    have HEL := Lib.hid hel; clear hel
    have HLC := Lib.hid hLc; clear hLc
    have HKC := Lib.hid hKc; clear hKc
    have HY := Lib.hid hy; clear hy
    have HRB := Lib.hid hrbk; clear hrbk
    have HO := Lib.hid hown; clear hown
    have HBC := Lib.hid hbel; clear hbel
    have HLCC := Lib.hid hlc; clear hlc
    have HLL := Lib.hid hll; clear hll
    have hrowz : wc.ownsRow w3.heap.size 35 1 (.slice (some ⟨gr, 0, none⟩) n c) n ((List.range n).map us1) := HO.out
    clear hK hrne hKK
    go_wp2
    go_loopw [7] (fun i wr => ∃ (k : Nat) (us : Nat → Value), k ≤ KK ∧ i = .int .i64 k ∧ wr.ownsRow w3.heap.size 35 1 (.slice (some ⟨gr, 0, none⟩) n c) n ((List.range n).map us) ∧
      (∀ j, j < n → SlS wr (gr :: (w.heap.size + 1) :: S) (us j) (((s.tears ((s.waiting.zip l).take k)).fs j).getD noughts)) ∧ KeptBut wc wr [gr]) (fun i _ => KK - (intOf i).toNat)
    case atStart => exact ⟨0, us1, Nat.zero_le _, rfl, hrowz, HEL.out, KeptBut.refl _ _⟩
    case round =>
      obtain ⟨k, us, hk, rfl, hown, hels, hkp⟩ := hrel
      have hgrlt2 : gr < wr.heap.size := (hown.lt gr rfl).2
      have hlc := hkp.blk HLC.out (by simp; omega)
      have d0 := hlc.cell 0
      have d1 := hlc.cell 1
      have dlt := hlc.lt
      have hyr := hkp.blk HY.out (fun e => (by simp at e; subst e; obtain ⟨cs, hcs⟩ := blk_of_own HO.out; exact HY.out.ne_ hcs (by decide) rfl))
      have y0 := hyr.cell 0
      have ylt := hyr.lt
      simp at d0 d1 y0
      have hbw : Below w.heap.size w wc := HB3.out.trans (HBC.out.mono (by omega))
      have hbr : Below w.heap.size w wr := hbw.trans (hkp.below (by simp; omega) (by omega))
      have HBR := Lib.hid hbr; clear hbr hbw hyr hlc
      have HO2 := Lib.hid hown; clear hown
      have HELS := Lib.hid hels; clear hels
      have HKP := Lib.hid hkp; clear hkp
      by_cases hlt : k < KK
      · have hkm : k < m := by omega
        have hkn : k < nl := by omega
        obtain ⟨bw', rfl, hbw1, hbw2, hcw1⟩ := HCW.out (by omega)
        obtain ⟨bl, ol, rfl, hbl, hcl⟩ := HLCC.out (by omega)
        obtain ⟨kd, u, ts, hlk, g0, g1, hsl, hwf⟩ := hcl k hkn
        have hi := waiting_lt s _ (getD_mem (ws := s.waiting) (k := k) (by rw [← HM.out]; exact hkm))
        have hat := tears_at s l k (by rw [← HM.out]; exact hkm)
        have hz := zip_at (ws := s.waiting) (l := l) (by rw [← HM.out]; exact hkm) hlk
        have hwi := List.mem_filter.1 (getD_mem (ws := s.waiting) (k := k) (by rw [← HM.out]; exact hkm))
        have e0 := (HBR.out.cell (p := ⟨bl, ol + k * 2, none⟩) (Nat.lt_of_lt_of_le hbl hB)).trans g0
        have e1 := (HBR.out.cell (p := ⟨bl, ol + k * 2 + 1, none⟩) (Nat.lt_of_lt_of_le hbl hB)).trans g1
        have e2 := (HKP.out.cell (p := ⟨bw', k, none⟩) (Nat.lt_of_lt_of_le hbw2 HBC.out.size) (by simp; omega)).trans ((HBC.out.cell (p := ⟨bw', k, none⟩) hbw2).trans (hcw1 k hkm))
        have hbl2 : bl < wr.heap.size := by have := HBR.out.size; omega
        have hbw3 : bw' < wr.heap.size := by have := HKP.out.size; have := HBC.out.size; omega
        have HT := Lib.hid (tears_step s _ k _ hz)
        have HSL := Lib.hid (hsl.below HBR.out hB)
        generalize hig : s.waiting.getD k 0 = i at *
        have hin : i < n := by rw [HN.out]; exact hi
        obtain ⟨b2, o2, c2', ev2, hb2, _, hg2⟩ := HR2.out.at_ hin
        obtain ⟨b1, o1, c1', ev1, hb1, _, hg1⟩ := HR1.out.at_ hin
        injection ev2 with ev2 _ ec2
        injection ev1 with ev1 _ ec1
        subst ev1 ev2 ec1 ec2
        have e3 := (HBR.out.cell (p := ⟨b2, o2 + i, none⟩) hb2).trans hg2
        have e4 := (HBR.out.cell (p := ⟨b1, o1 + i, none⟩) hb1).trans hg1
        have hb1w : b1 < wr.heap.size := by have := HBR.out.size; omega
        have hb2w : b2 < wr.heap.size := by have := HBR.out.size; omega
        have hst := HO2.out.cellAt i (by omega)
        have hst2 : ((List.range n).map us)[i]? = some (us i) := by simp [hin]
        rw [hst2] at hst
        have hfz := HO2.out.frozenAt i
        obtain ⟨Au2, cu2, eu2, _⟩ := (HE2.out i hin).len
        obtain ⟨Au1, cu1, eu1, _⟩ := (HE1.out i hin).len
        obtain ⟨At, nt, ct, eut, _⟩ := HSL.out
        rw [eu2] at e3
        rw [eu1] at e4
        rw [eut] at e1
        have HSL2 := Lib.hid (eut ▸ HSL.out)
        have HU2 := Lib.hid (eu2 ▸ HE2.out i hin)
        have HU1 := Lib.hid (eu1 ▸ HE1.out i hin)
        have HAT := Lib.hid hat
        have HWI := Lib.hid hwi.2
        clear hat hwi hz hcl hcw1 g0 g1 hsl hwf hlk hg1 hg2 hst2 eu1 eu2 eut hig
        have hgm : gr ∈ gr :: (w.heap.size + 1) :: S := List.mem_cons_self ..
        have hr2 : ∀ x ∈ gr :: (w.heap.size + 1) :: S, x ∈ S ∨ w.heap.size ≤ x := by
          intro x hx
          rcases List.mem_cons.1 hx with rfl | hx
          · exact .inr (by omega)
          · exact hraise x hx
        obtain ⟨m2, hm2⟩ : ∃ m2, m2 = ((s.fw i).getD []).length := ⟨_, rfl⟩
        rw [← hm2] at e3
        obtain ⟨m1, hm1⟩ : ∃ m1, m1 = ((s.fs i).getD noughts).length := ⟨_, rfl⟩
        rw [← hm1] at e4
        have HM2 := Lib.hid hm2; clear hm2
        have HM1 := Lib.hid hm1; clear hm1
        by_cases h1 : kd = 1
        · subst h1
          have hfin : KeptBut wr (wr.drew.setCell ⟨gr, i, none⟩ (.slice Au2 m2 cu2)) (gr :: (w.heap.size + 1) :: S) := kept_drew.trans (kept_set _ _ hgm)
          have hs7 := step_sls (i := i) HELS.out hfin (((HU2.out.raise hr2).kept (kept_of_below HBR.out (Nat.le_refl _))).kept hfin)
          have HS7 := Lib.hid hs7; clear hs7
          go_wp2
          go_still_tail 15, (by kernel_rfl)
          change wpList _ _ _ _ _ wr.drew
          have hne1 : ¬ bl = gr := by omega
          have hne2 : ¬ gr = bl := by omega
          go_wp2
          go_roundw
          case rel =>
            refine ⟨k + 1, fun j => if j = i then .slice Au2 m2 cu2 else us j, by omega, by go_num, by rw [← map_set]; exact (HO2.out.drew.stored i _).1, fun j hj => ?_, (HKP.out.trans kept_drew).trans (kept_set _ _ (by simp))⟩
            rw [HT.out]
            show SlS _ _ _ (((St.tear _ i 1 ts).fs j).getD noughts)
            unfold St.tear
            rw [if_pos rfl]
            show SlS _ _ _ ((upd1 _ i (((s.tears ((s.waiting.zip l).take k)).fw i).getD noughts) j).getD noughts)
            rw [(tears_same _ s).2, getD_some_any HWI.out noughts []]
            have h7 := HS7.out j hj
            rw [← HM2.out] at h7
            exact h7
          case measure => simp [intOf]; omega
        · have hk1 : (kd == 1) = false := beq_false_of_ne h1
          by_cases h2 : kd = 2
          · subst h2
            have hsec : IsSec ((s.fs i).getD noughts) := by
              cases hf : s.fs i with
              | none => exact isSec_noughts
              | some xs => exact HG.out.2.2.1 i xs hf
            have hB2 : B ≤ wr.drew.heap.size := by have := HBR.out.size; show B ≤ wr.heap.size; omega
            have ht := ref_torn (.slice At nt ct) (.slice Au1 m1 cu1) ts ((s.fs i).getD noughts) wr.drew (HSL2.out.drew.more hB2) (by rw [HM1.out]; exact (((HU1.out.raise hr2).kept (kept_of_below HBR.out (Nat.le_refl _))).kept kept_drew).sl) hsec
            have T := Lib.hid ht; clear ht hsec
            have hwb : w.heap.size ≤ wr.heap.size := HBR.out.size
            have hgy : yb ≠ gr := fun e => by subst e; obtain ⟨cs, hcs⟩ := blk_of_own HO.out; exact HY.out.ne_ hcs (by decide) rfl
            have hgw : bw' ≠ gr := by omega
            have hgl : bl ≠ gr := by omega
            have hgd : w.heap.size ≠ gr := by omega
            have hgb1 : b1 ≠ gr := by omega
            go_wp2
            go_region_held3 (fun W => W.cell? ⟨yb, 0, none⟩ = some (.slice (some ⟨gr, 0, none⟩) n c) ∧ W.cell? ⟨bw', k, none⟩ = some (.int .i64 (i : Nat)) ∧ W.cell? ⟨bl, ol + k * 2 + 1, none⟩ = some (.slice At nt ct) ∧ W.cell? ⟨w.heap.size, 0, none⟩ = some (.slice (some ⟨b1, o1, none⟩) n c1) ∧ W.cell? ⟨b1, o1 + i, none⟩ = some (.slice Au1 m1 cu1))
              (first
                | exact ⟨y0, e2, e1, d0, e4⟩
                | exact ⟨z0, z1, z2, z3, z4⟩
                | exact ⟨(far_cell w6 hgy).trans z0, (far_cell w6 hgw).trans z1, (far_cell w6 hgl).trans z2, (far_cell w6 hgd).trans z3, (far_cell w6 hgb1).trans z4⟩)
              (first
                | (go_at_call 22; refine (T.out).mono ?_; rintro e w6 ⟨vt, rfl, hrt, hb⟩; have hb : Below wr.heap.size wr w6 := ⟨hb.os, hb.tape, hb.output, hb.size, hb.block⟩; obtain ⟨Avt, cvt, rfl⟩ := own_form hrt; have z0 := (hb.cell (p := ⟨yb, 0, none⟩) ylt).trans y0; have z1 := (hb.cell (p := ⟨bw', k, none⟩) hbw3).trans e2; have z2 := (hb.cell (p := ⟨bl, ol + k * 2 + 1, none⟩) hbl2).trans e1; have z3 := (hb.cell (p := ⟨w.heap.size, 0, none⟩) dlt).trans d0; have z4 := (hb.cell (p := ⟨b1, o1 + i, none⟩) hb1w).trans e4; have z5 := (hb.cell (p := ⟨gr, i, none⟩) hgrlt2).trans hst; have z6 := (own_below HO2.out hb).frozenAt i; have z7 := Nat.lt_of_lt_of_le hgrlt2 hb.size; have HRT := Lib.hid hrt; clear hrt; have HB6 := Lib.hid hb; clear hb))
            go_wp2
            have hfin : KeptBut wr (w6.setCell ⟨gr, i, none⟩ (.slice Avt 512 cvt)) (gr :: (w.heap.size + 1) :: S) := (kept_of_below HB6.out (Nat.le_refl _)).trans (kept_set _ _ hgm)
            have hSw : ∀ x ∈ gr :: (w.heap.size + 1) :: S, x < wr.heap.size := by
              intro x hx
              rcases List.mem_cons.1 hx with rfl | hx
              · exact hgrlt2
              · have := hS0 x hx; omega
            have htl : ∀ x ∈ torn ts ((s.fs i).getD noughts), x < 256 := by
              have h1 := HSL.out.lt
              have h2 := HU1.out.lt
              intro x hx
              rcases List.mem_append.1 hx with hx | hx
              · exact h1 x (List.mem_of_mem_take hx)
              · exact h2 x (List.mem_of_mem_drop hx)
            have hs7 := step_sls (i := i) HELS.out hfin (((slS_own HRT.out htl (by omega) hSw).kept (kept_set _ _ hgm)))
            have HS7 := Lib.hid hs7; clear hs7
            go_roundw
            case rel =>
              refine ⟨k + 1, fun j => if j = i then .slice Avt 512 cvt else us j, by omega, by go_num, by rw [← map_set]; exact ((own_below HO2.out HB6.out).stored i _).1, fun j hj => ?_, (HKP.out.trans (kept_of_below HB6.out (Nat.le_refl _))).trans (kept_set _ _ (by simp))⟩
              rw [HT.out]
              show SlS _ _ _ (((St.tear _ i 2 ts).fs j).getD noughts)
              unfold St.tear
              rw [if_neg (by omega), if_pos rfl]
              show SlS _ _ _ ((upd1 _ i (torn ts (((s.tears ((s.waiting.zip l).take k)).fs i).getD noughts)) j).getD noughts)
              rw [HAT.out]
              exact HS7.out j hj
            case measure => simp [intOf]; omega
          · have hk2 : (kd == 2) = false := beq_false_of_ne h2
            go_wp2
            go_roundw
            case rel =>
              refine ⟨k + 1, us, by omega, by go_num, HO2.out, fun j hj => ?_, HKP.out⟩
              rw [HT.out]
              show SlS _ _ _ (((St.tear _ i kd ts).fs j).getD noughts)
              unfold St.tear
              rw [if_neg h1, if_neg h2]
              exact HELS.out j hj
            case measure => simp [intOf]; omega
      · have hke : k = KK := by omega
        subst hke
        have hfull : (s.waiting.zip l).take k = s.waiting.zip l := List.take_of_length_le (by rw [List.length_zip, ← HM.out, HLL.out, HKK.out]; exact Nat.le_refl _)
        rw [hfull] at HELS
        have hyk := HKP.out.blk HY.out (fun e => (by simp at e; subst e; obtain ⟨cs, hcs⟩ := blk_of_own HO.out; exact HY.out.ne_ hcs (by decide) rfl))
        have hkk := HKP.out.blk HKC.out (by simp; omega)
        have hrk := HKP.out.blk HRB.out (by simp; exact fun e => hgrb e.symm)
        have y1 := hyk.cell 1
        have y2 := hyk.cell 2
        have y3 := hyk.cell 3
        have q0 := hkk.cell 0
        have q1 := hkk.cell 1
        have q2 := hkk.cell 2
        have q3 := hkk.cell 3
        have p0 := hkk.frozen 0
        have p1 := hkk.frozen 1
        have p2 := hkk.frozen 2
        have p3 := hkk.frozen 3
        have hkl := hkk.lt
        simp at y1 y2 y3 q0 q1 q2 q3
        rw [HMC.out] at hrk
        have hra : RefAt wr ((w.heap.size + 1) :: S) (.agg #[.slice (some ⟨gr, 0, none⟩) n c, .slice (some ⟨rb, 0, none⟩) n n, .int .i64 (-1), .bool false]) (s.crash l) := by
          have hn' : (s.crash l).n = n := ((tears_same (s.waiting.zip l) s).1).trans HN.out.symm
          refine ⟨.slice (some ⟨gr, 0, none⟩) n c, .slice (some ⟨rb, 0, none⟩) n n, us, fun _ => nilS, rfl, ?_, ?_, ?_, ?_⟩
          · rw [hn']
            refine (rowS_own HO2.out hS0).ext fun j hj => ?_
            simp [List.getD, hj]
          · rw [hn']
            exact madeRow n hn1 hrk (fun x hx => by have := hS0 x hx; omega)
          · intro j hj
            rw [hn'] at hj
            exact (HELS.out j hj).more (fun x hx => List.mem_cons_of_mem _ hx)
          · intro j hj
            exact slS_nil _ _
        have HRA := Lib.hid hra; clear hra hyk hkk hrk
        have hfinal : ∀ (hh : (decide ((k : Int) < m) = false) ∨ (decide ((k : Int) < nl) = false)), True := fun _ => trivial
        clear hfinal
        by_cases hkm2 : k < m
        · have hkn2 : ¬ k < nl := by have := HKK.out; omega
          go_wp2
          exact bodyPost_ret (v := .agg #[.slice (some ⟨gr, 0, none⟩) n c, .slice (some ⟨rb, 0, none⟩) n n, .int .i64 (-1), .bool false]) (by simp [results, Try.results39, go_sem, q0, q1, q2, q3, hkl]) rfl ⟨_, rfl, (HRA.out.kept (set4_kept (KeptBut.refl _ _) (List.mem_cons_self ..))).more (fun x hx => List.mem_cons_of_mem _ hx), set4_below HBR.out (by omega)⟩
        · go_wp2
          exact bodyPost_ret (v := .agg #[.slice (some ⟨gr, 0, none⟩) n c, .slice (some ⟨rb, 0, none⟩) n n, .int .i64 (-1), .bool false]) (by simp [results, Try.results39, go_sem, q0, q1, q2, q3, hkl]) rfl ⟨_, rfl, (HRA.out.kept (set4_kept (KeptBut.refl _ _) (List.mem_cons_self ..))).more (fun x hx => List.mem_cons_of_mem _ hx), set4_below HBR.out (by omega)⟩
end Go.Proofs.Ytpmkacpdmjnbjaa.Dsk
