/- The base that a slot has (layer 7): the contracts of slot.Load and the reference's. -/
import Derived.Test.YtkidjlmjjfgknaaSlotPages
import Derived.Test.YtkidjlmjjfgknaaRefJoin
namespace Go.Proofs.Ytkidjlmjjfgknaa.Slt
open Go.RowKit Go.Proofs.Ytkidjlmjjfgknaa.Mem Go.Proofs.Ytkidjlmjjfgknaa.Oct Go.Proofs.Ytkidjlmjjfgknaa.Pg Go.Proofs.Ytkidjlmjjfgknaa.Rcd
set_option linter.unusedVariables false
set_option linter.unusedSimpArgs false
def BsAt (w : World) (B : Nat) (v : Value) (x : Bs) : Prop := ∃ vb, v = .agg #[.int .i64 x.1, vb] ∧ Sb w B vb x.2
theorem BsAt.up {w w' : World} {v : Value} {x : Bs} (h : BsAt w w.heap.size v x) (hb : Below w.heap.size w w') : BsAt w' w'.heap.size v x := by
  obtain ⟨vb, e, hs⟩ := h
  exact ⟨vb, e, (hs.below hb (Nat.le_refl _)).more hb.size⟩
theorem loaded_cut (ss : List (List Nat)) : loaded (ss.take 16) = loaded ss := by
  unfold loaded
  rw [pagesOf_cut]
  cases h : pagesOf ss with
  | nil => rfl
  | cons q r =>
    have := joined_cut (q :: r)
    rw [show (q :: r).take 16 = q :: r.take 15 from rfl] at this ⊢
    simp only [this]
theorem may_facts {ps : List P} (h : ∀ p ∈ ps, p.may = true) : (∀ q ∈ ps, q.b.length ≤ 600) ∧ ∀ q ∈ ps, In64 q.index := by
  refine ⟨fun q hq => ?_, fun q hq => ?_⟩
  · have := ((may_iff q).1 (h q hq)).l
    omega
  · have := win_yes ((may_iff q).1 (h q hq)).i
    unfold In64
    omega
theorem set2_grown (w : World) (g : Nat) (a b : Value) : w.grownBy ((w.setCell ⟨g, 0, none⟩ a).setCell ⟨g, 1, none⟩ b) (some g) :=
  grown_trans (grown_set _ _ _) (grown_set _ ⟨g, 1, none⟩ _)
theorem noBy_blk2 {w : World} {g : Nat} {t : TypeId} {z : Int} {A : Option Addr} {n c : Nat} (h : Blk w g t #[.int .i64 z, .slice A n c]) : NoBy w (some g) :=
  noBy_cells h (by simp [isBy])
theorem head_cells {w : World} {B n c : Nat} {A : Option Addr} {q : P} {r : List P} (h : Pgs w B (.slice A n c) (q :: r)) : ∃ b off, A = some ⟨b, off, none⟩ ∧ 0 < n ∧ n ≤ c ∧ w.cell? ⟨b, off, none⟩ = some (.int .i64 q.kind) ∧ w.cell? ⟨b, off + 1, none⟩ = some (.int .i64 q.gen) ∧ w.cell? ⟨b, off + 3, none⟩ = some (.int .i64 q.index) := by
  obtain ⟨h1, h2, _⟩ := pgs_len h
  have hn : 0 < n := by rw [List.length_cons] at h1; omega
  obtain ⟨b, off, rfl, hb, hc⟩ := pgs_at h hn
  obtain ⟨vb, hr, _⟩ := hc 0 hn
  rw [show off + 0 * 7 = off by omega] at hr
  exact ⟨b, off, rfl, hn, h2, hr 0 _ rfl, hr 1 _ rfl, hr 3 _ rfl⟩
set_option maxRecDepth 20000 in
set_option maxHeartbeats 4000000 in
theorem load_any (A : Option Addr) (n c : Nat) (ss : List (List Nat)) (w : World) (h : Sls w w.heap.size (.slice A n c) ss) (hn : n ≤ 1000) (hA : A = none → c = 0) (hlen : ∀ s ∈ ss, s.length ≤ 600) :
    Calls Try.prog 8 #[.slice A n c] w fun e w' => ∃ v', e = .returned (.tuple #[v', .bool (loaded ss).isSome]) ∧ BsAt w' w'.heap.size v' (theB ss) ∧ Below w.heap.size w w' := by
  have hb0 := palloc (Below.refl w.heap.size w) (Obj.cells #[.int .i64 0, .slice none 0 0] 27)
  have kp := Blk.new w 27 #[.int .i64 0, .slice none 0 0]
  have pg := pages_any A n c ss _ (h.up hb0) hn hA hlen
  unfold theB
  rw [← loaded_cut]
  have hmay := pagesOf_may (ss.take 16)
  have hpl : (pagesOf (ss.take 16)).length ≤ 16 := Nat.le_trans (pagesOf_len _) (by rw [List.length_take]; omega)
  have hld := fun q r => loaded_eq (ss.take 16) (q := q) (r := r)
  have hln := @loaded_not (ss.take 16)
  obtain ⟨lo, hlo⟩ : ∃ lo, lo = loaded (ss.take 16) := ⟨_, rfl⟩
  rw [← hlo] at hld hln ⊢
  obtain ⟨ps, hps⟩ : ∃ ps, ps = pagesOf (ss.take 16) := ⟨_, rfl⟩
  rw [← hps] at pg hmay hpl hld hln
  obtain ⟨hl6, hin⟩ := may_facts hmay
  have jn := fun (A1 : Option Addr) (n1 c1 : Nat) (W : World) (h1 : Pgs W W.heap.size (.slice A1 n1 c1) ps) => join_any A1 n1 c1 ps W h1 (by have := (pgs_len h1).1; omega) hl6 hin
  clear hlo hps hl6 hin hmay h hlen
  have PG := Lib.hid pg; clear pg
  have HB0 := Lib.hid hb0; clear hb0
  have KP0 := Lib.hid kp; clear kp
  have h0 : w.heap.size < (w.alloc (.cells #[.int .i64 0, .slice none 0 0] 27)).heap.size := by simp
  have HPL := Lib.hid hpl; clear hpl
  cases hj : joined ps with
  | none =>
    have e1 := hln hj
    rw [e1]
    have e2 : jb ps = ([], 0) := jb_none hj
    rw [hj, e2] at jn
    have JN := Lib.hid jn; clear jn
    clear hld hln e1 e2 hj
    go_enter Try.func8, Try.ntmps8
    go_wp2_with (first
      | (go_at_call 19; refine (PG.out).mono ?_; rintro e w1 ⟨v1, rfl, hrow, hb⟩; have hpg := pgRow_pgs hrow; obtain ⟨A1, n1, c1, rfl, _⟩ := id hpg; have KP1 := Lib.hid (KP0.out.below hb h0); have HB1 := Lib.hid (HB0.out.trans (hb.mono HB0.out.size)); have HP1 := Lib.hid hpg; clear hpg hrow hb)
      | (go_at_call 20; refine (JN.out A1 n1 c1 _ HP1.out).mono ?_; rintro e w2 ⟨v2, rfl, hs2, hb⟩; have KP2 := Lib.hid (KP1.out.below hb KP1.out.lt); have HB2 := Lib.hid (HB1.out.trans (hb.mono HB1.out.size)); have a0 := KP2.out.cell 0; have a1 := KP2.out.cell 1; simp at a0 a1; have hz2 := KP2.out.lt; have f0 := KP2.out.frozen 0; have f1 := KP2.out.frozen 1; clear hs2 hb))
    have hgr := set2_grown w2 w.heap.size (.int .i64 0) (.slice none 0 0)
    refine bodyPost_ret (v := .tuple #[.agg #[.int .i64 0, .slice none 0 0], .bool false]) ?_ rfl ⟨_, rfl, ⟨.slice none 0 0, rfl, sb_of (sl_nil _ _)⟩, ?_⟩
    · simp [results, Try.results8, go_sem, a0, a1, hz2]
    · exact HB2.out.grown hgr HB2.out.size (fun q hq => by cases hq; exact Nat.le_refl _)
  | some x =>
    obtain ⟨bs, cnt⟩ := x
    obtain ⟨q, r, hqr⟩ : ∃ q r, ps = q :: r := by
      cases ps with
      | nil => rw [joined_nil rfl] at hj; cases hj
      | cons q r => exact ⟨q, r, rfl⟩
    subst hqr
    have e1 := hld q r rfl
    rw [hj] at e1
    have e2 : jb (q :: r) = (bs, cnt) := jb_some hj
    rw [hj, e2] at jn
    have JN := Lib.hid jn; clear jn
    simp only at e1
    clear hld hln e2 hj
    by_cases hk : q.kind = 1
    · have hkb : (q.kind != 1) = false := by simp [hk]
      by_cases hi : q.index = 0
      · have hib : (q.index != 0) = false := by simp [hi]
        have e3 : lo = some (q.gen, bs) := by rw [e1]; unfold base0; rw [if_pos ⟨hk, hi⟩]
        rw [e3]
        clear e1 e3 hk hi
        go_enter Try.func8, Try.ntmps8
        go_wp2_with (first
          | (go_at_call 19; refine (PG.out).mono ?_; rintro e w1 ⟨v1, rfl, hrow, hb⟩; have hpg := pgRow_pgs hrow; obtain ⟨A1, n1, c1, rfl, _⟩ := id hpg; have KP1 := Lib.hid (KP0.out.below hb h0); have HB1 := Lib.hid (HB0.out.trans (hb.mono HB0.out.size)); have HP1 := Lib.hid hpg; clear hpg hrow hb)
          | (go_at_call 20; refine (JN.out A1 n1 c1 _ HP1.out).mono ?_; rintro e w2 ⟨v2, rfl, hs2, hb⟩; obtain ⟨b1, o1, rfl, hn1, hnc1, k0, k1, k3⟩ := head_cells ((HP1.out.below hb (Nat.le_refl _)).more hb.size); obtain ⟨A2, n2, c2, rfl, _⟩ := id hs2; have HS2 := Lib.hid hs2; have KP2 := Lib.hid (KP1.out.below hb KP1.out.lt); have HB2 := Lib.hid (HB1.out.trans (hb.mono HB1.out.size)); have a0 := KP2.out.cell 0; have a1 := KP2.out.cell 1; simp at a0 a1; have hz2 := KP2.out.lt; have f0 := KP2.out.frozen 0; have f1 := KP2.out.frozen 1; clear hs2 hb))
        have hgr := set2_grown w2 w.heap.size (.int .i64 q.gen) (.slice A2 n2 c2)
        refine bodyPost_ret (v := .tuple #[.agg #[.int .i64 q.gen, .slice A2 n2 c2], .bool true]) ?_ rfl ⟨_, rfl, ⟨.slice A2 n2 c2, rfl, (sb_by (sb_of HS2.out) hgr (Nat.le_refl _) (noBy_blk2 KP2.out)).more hgr.size⟩, ?_⟩
        · simp [results, Try.results8, go_sem, a0, a1, hz2]
        · exact HB2.out.grown hgr HB2.out.size (fun q hq => by cases hq; exact Nat.le_refl _)
      · have hib : (q.index != 0) = true := by simp [hi]
        have e3 : lo = none := by rw [e1]; unfold base0; rw [if_neg (fun h => hi h.2)]
        rw [e3]
        clear e1 e3 hk hi
        go_enter Try.func8, Try.ntmps8
        go_wp2_with (first
          | (go_at_call 19; refine (PG.out).mono ?_; rintro e w1 ⟨v1, rfl, hrow, hb⟩; have hpg := pgRow_pgs hrow; obtain ⟨A1, n1, c1, rfl, _⟩ := id hpg; have KP1 := Lib.hid (KP0.out.below hb h0); have HB1 := Lib.hid (HB0.out.trans (hb.mono HB0.out.size)); have HP1 := Lib.hid hpg; clear hpg hrow hb)
          | (go_at_call 20; refine (JN.out A1 n1 c1 _ HP1.out).mono ?_; rintro e w2 ⟨v2, rfl, hs2, hb⟩; obtain ⟨b1, o1, rfl, hn1, hnc1, k0, k1, k3⟩ := head_cells ((HP1.out.below hb (Nat.le_refl _)).more hb.size); have KP2 := Lib.hid (KP1.out.below hb KP1.out.lt); have HB2 := Lib.hid (HB1.out.trans (hb.mono HB1.out.size)); have a0 := KP2.out.cell 0; have a1 := KP2.out.cell 1; simp at a0 a1; have hz2 := KP2.out.lt; have f0 := KP2.out.frozen 0; have f1 := KP2.out.frozen 1; clear hs2 hb))
        have hgr := set2_grown w2 w.heap.size (.int .i64 0) (.slice none 0 0)
        refine bodyPost_ret (v := .tuple #[.agg #[.int .i64 0, .slice none 0 0], .bool false]) ?_ rfl ⟨_, rfl, ⟨.slice none 0 0, rfl, sb_of (sl_nil _ _)⟩, ?_⟩
        · simp [results, Try.results8, go_sem, a0, a1, hz2]
        · exact HB2.out.grown hgr HB2.out.size (fun q hq => by cases hq; exact Nat.le_refl _)
    · have hkb : (q.kind != 1) = true := by simp [hk]
      have e3 : lo = none := by rw [e1]; unfold base0; rw [if_neg (fun h => hk h.1)]
      rw [e3]
      clear e1 e3 hk
      go_enter Try.func8, Try.ntmps8
      go_wp2_with (first
        | (go_at_call 19; refine (PG.out).mono ?_; rintro e w1 ⟨v1, rfl, hrow, hb⟩; have hpg := pgRow_pgs hrow; obtain ⟨A1, n1, c1, rfl, _⟩ := id hpg; have KP1 := Lib.hid (KP0.out.below hb h0); have HB1 := Lib.hid (HB0.out.trans (hb.mono HB0.out.size)); have HP1 := Lib.hid hpg; clear hpg hrow hb)
        | (go_at_call 20; refine (JN.out A1 n1 c1 _ HP1.out).mono ?_; rintro e w2 ⟨v2, rfl, hs2, hb⟩; obtain ⟨b1, o1, rfl, hn1, hnc1, k0, k1, k3⟩ := head_cells ((HP1.out.below hb (Nat.le_refl _)).more hb.size); have KP2 := Lib.hid (KP1.out.below hb KP1.out.lt); have HB2 := Lib.hid (HB1.out.trans (hb.mono HB1.out.size)); have a0 := KP2.out.cell 0; have a1 := KP2.out.cell 1; simp at a0 a1; have hz2 := KP2.out.lt; have f0 := KP2.out.frozen 0; have f1 := KP2.out.frozen 1; clear hs2 hb))
      have hgr := set2_grown w2 w.heap.size (.int .i64 0) (.slice none 0 0)
      refine bodyPost_ret (v := .tuple #[.agg #[.int .i64 0, .slice none 0 0], .bool false]) ?_ rfl ⟨_, rfl, ⟨.slice none 0 0, rfl, sb_of (sl_nil _ _)⟩, ?_⟩
      · simp [results, Try.results8, go_sem, a0, a1, hz2]
      · exact HB2.out.grown hgr HB2.out.size (fun q hq => by cases hq; exact Nat.le_refl _)
theorem jb_pos7 {ps : List P} {b : List Nat} {n : Nat} (h : joined ps = some (b, n)) : 1 ≤ n := by
  cases ht : told ps with
  | nil => rw [joined_nil ht] at h; cases h
  | cons q r =>
    rw [joined_of ht] at h
    split at h
    · injection h with h
      injection h with _ h2
      rw [← h2]
      simp
    · cases h
set_option maxRecDepth 20000 in
set_option maxHeartbeats 4000000 in
theorem rload_any (A : Option Addr) (n c : Nat) (ss : List (List Nat)) (w : World) (h : Sls w w.heap.size (.slice A n c) ss) (hn : n ≤ 1000) (hlen : ∀ s ∈ ss, s.length ≤ 600) :
    Calls Try.prog 10 #[.slice A n c] w fun e w' => ∃ v', e = .returned (.tuple #[v', .bool (loaded ss).isSome]) ∧ BsAt w' w'.heap.size v' (theB ss) ∧ Below w.heap.size w w' := by
  have hb0 := palloc (Below.refl w.heap.size w) (Obj.cells #[.int .i64 0, .slice none 0 0] 27)
  have kp := Blk.new w 27 #[.int .i64 0, .slice none 0 0]
  have pg := rpages_any A n c ss _ (h.up hb0) hn hlen
  unfold theB
  have hmay := pagesOf_may ss
  have hpl : (pagesOf ss).length ≤ 1000 := Nat.le_trans (pagesOf_len _) (by rw [(sls_len h).1]; exact hn)
  have hld := fun q r => loaded_eq ss (q := q) (r := r)
  have hln := @loaded_not ss
  obtain ⟨lo, hlo⟩ : ∃ lo, lo = loaded ss := ⟨_, rfl⟩
  rw [← hlo] at hld hln ⊢
  obtain ⟨ps, hps⟩ : ∃ ps, ps = pagesOf ss := ⟨_, rfl⟩
  rw [← hps] at pg hmay hpl hld hln
  obtain ⟨hl6, hin⟩ := may_facts hmay
  have jn := fun (A1 : Option Addr) (n1 c1 : Nat) (W : World) (h1 : Pgs W W.heap.size (.slice A1 n1 c1) ps) => rjoin_any A1 n1 c1 ps W h1 (by have := (pgs_len h1).1; omega) hl6
  clear hlo hps hl6 hin hmay h hlen
  have PG := Lib.hid pg; clear pg
  have HB0 := Lib.hid hb0; clear hb0
  have KP0 := Lib.hid kp; clear kp
  have h0 : w.heap.size < (w.alloc (.cells #[.int .i64 0, .slice none 0 0] 27)).heap.size := by simp
  have HPL := Lib.hid hpl; clear hpl
  cases hj : joined ps with
  | none =>
    have e1 := hln hj
    rw [e1]
    have e2 : jb ps = ([], 0) := jb_none hj
    rw [e2] at jn
    have JN := Lib.hid jn; clear jn
    clear hld hln e1 e2 hj
    go_enter Try.func10, Try.ntmps10
    go_wp2_with (first
      | (go_at_call 21; refine (PG.out).mono ?_; rintro e w1 ⟨v1, rfl, hrow, hb⟩; have hpg := pgRow_pgs hrow; obtain ⟨A1, n1, c1, rfl, _⟩ := id hpg; have KP1 := Lib.hid (KP0.out.below hb h0); have HB1 := Lib.hid (HB0.out.trans (hb.mono HB0.out.size)); have HP1 := Lib.hid hpg; clear hpg hrow hb)
      | (go_at_call 22; refine (JN.out A1 n1 c1 _ HP1.out).mono ?_; rintro e w2 ⟨v2, rfl, hs2, hb⟩; have KP2 := Lib.hid (KP1.out.below hb KP1.out.lt); have HB2 := Lib.hid (HB1.out.trans (hb.mono HB1.out.size)); have a0 := KP2.out.cell 0; have a1 := KP2.out.cell 1; simp at a0 a1; have hz2 := KP2.out.lt; have f0 := KP2.out.frozen 0; have f1 := KP2.out.frozen 1; clear hs2 hb))
    have hgr := set2_grown w2 w.heap.size (.int .i64 0) (.slice none 0 0)
    refine bodyPost_ret (v := .tuple #[.agg #[.int .i64 0, .slice none 0 0], .bool false]) ?_ rfl ⟨_, rfl, ⟨.slice none 0 0, rfl, sb_of (sl_nil _ _)⟩, ?_⟩
    · simp [results, Try.results10, go_sem, a0, a1, hz2]
    · exact HB2.out.grown hgr HB2.out.size (fun q hq => by cases hq; exact Nat.le_refl _)
  | some x =>
    obtain ⟨bs, cnt⟩ := x
    obtain ⟨q, r, hqr⟩ : ∃ q r, ps = q :: r := by
      cases ps with
      | nil => rw [joined_nil rfl] at hj; cases hj
      | cons q r => exact ⟨q, r, rfl⟩
    subst hqr
    have e1 := hld q r rfl
    rw [hj] at e1
    have e2 : jb (q :: r) = (bs, cnt) := jb_some hj
    rw [e2] at jn
    have JN := Lib.hid jn; clear jn
    simp only at e1
    have hcn := jb_pos7 hj
    have hcb : ((cnt : Int) == 0) = false := by rw [beq_eq_false_iff_ne]; omega
    clear hld hln e2 hj
    by_cases hk : q.kind = 1
    · have hkb : (q.kind != 1) = false := by simp [hk]
      by_cases hi : q.index = 0
      · have hib : (q.index != 0) = false := by simp [hi]
        have e3 : lo = some (q.gen, bs) := by rw [e1]; unfold base0; rw [if_pos ⟨hk, hi⟩]
        rw [e3]
        clear e1 e3 hk hi
        go_enter Try.func10, Try.ntmps10
        go_wp2_with (first
          | (go_at_call 21; refine (PG.out).mono ?_; rintro e w1 ⟨v1, rfl, hrow, hb⟩; have hpg := pgRow_pgs hrow; obtain ⟨A1, n1, c1, rfl, _⟩ := id hpg; have KP1 := Lib.hid (KP0.out.below hb h0); have HB1 := Lib.hid (HB0.out.trans (hb.mono HB0.out.size)); have HP1 := Lib.hid hpg; clear hpg hrow hb)
          | (go_at_call 22; refine (JN.out A1 n1 c1 _ HP1.out).mono ?_; rintro e w2 ⟨v2, rfl, hs2, hb⟩; obtain ⟨b1, o1, rfl, hn1, hnc1, k0, k1, k3⟩ := head_cells ((HP1.out.below hb (Nat.le_refl _)).more hb.size); obtain ⟨A2, n2, c2, rfl, _⟩ := id hs2; have HS2 := Lib.hid hs2; have KP2 := Lib.hid (KP1.out.below hb KP1.out.lt); have HB2 := Lib.hid (HB1.out.trans (hb.mono HB1.out.size)); have a0 := KP2.out.cell 0; have a1 := KP2.out.cell 1; simp at a0 a1; have hz2 := KP2.out.lt; have f0 := KP2.out.frozen 0; have f1 := KP2.out.frozen 1; clear hs2 hb))
        have hgr := set2_grown w2 w.heap.size (.int .i64 q.gen) (.slice A2 n2 c2)
        refine bodyPost_ret (v := .tuple #[.agg #[.int .i64 q.gen, .slice A2 n2 c2], .bool true]) ?_ rfl ⟨_, rfl, ⟨.slice A2 n2 c2, rfl, (sb_by (sb_of HS2.out) hgr (Nat.le_refl _) (noBy_blk2 KP2.out)).more hgr.size⟩, ?_⟩
        · simp [results, Try.results10, go_sem, a0, a1, hz2]
        · exact HB2.out.grown hgr HB2.out.size (fun q hq => by cases hq; exact Nat.le_refl _)
      · have hib : (q.index != 0) = true := by simp [hi]
        have e3 : lo = none := by rw [e1]; unfold base0; rw [if_neg (fun h => hi h.2)]
        rw [e3]
        clear e1 e3 hk hi
        go_enter Try.func10, Try.ntmps10
        go_wp2_with (first
          | (go_at_call 21; refine (PG.out).mono ?_; rintro e w1 ⟨v1, rfl, hrow, hb⟩; have hpg := pgRow_pgs hrow; obtain ⟨A1, n1, c1, rfl, _⟩ := id hpg; have KP1 := Lib.hid (KP0.out.below hb h0); have HB1 := Lib.hid (HB0.out.trans (hb.mono HB0.out.size)); have HP1 := Lib.hid hpg; clear hpg hrow hb)
          | (go_at_call 22; refine (JN.out A1 n1 c1 _ HP1.out).mono ?_; rintro e w2 ⟨v2, rfl, hs2, hb⟩; obtain ⟨b1, o1, rfl, hn1, hnc1, k0, k1, k3⟩ := head_cells ((HP1.out.below hb (Nat.le_refl _)).more hb.size); have KP2 := Lib.hid (KP1.out.below hb KP1.out.lt); have HB2 := Lib.hid (HB1.out.trans (hb.mono HB1.out.size)); have a0 := KP2.out.cell 0; have a1 := KP2.out.cell 1; simp at a0 a1; have hz2 := KP2.out.lt; have f0 := KP2.out.frozen 0; have f1 := KP2.out.frozen 1; clear hs2 hb))
        have hgr := set2_grown w2 w.heap.size (.int .i64 0) (.slice none 0 0)
        refine bodyPost_ret (v := .tuple #[.agg #[.int .i64 0, .slice none 0 0], .bool false]) ?_ rfl ⟨_, rfl, ⟨.slice none 0 0, rfl, sb_of (sl_nil _ _)⟩, ?_⟩
        · simp [results, Try.results10, go_sem, a0, a1, hz2]
        · exact HB2.out.grown hgr HB2.out.size (fun q hq => by cases hq; exact Nat.le_refl _)
    · have hkb : (q.kind != 1) = true := by simp [hk]
      have e3 : lo = none := by rw [e1]; unfold base0; rw [if_neg (fun h => hk h.1)]
      rw [e3]
      clear e1 e3 hk
      go_enter Try.func10, Try.ntmps10
      go_wp2_with (first
        | (go_at_call 21; refine (PG.out).mono ?_; rintro e w1 ⟨v1, rfl, hrow, hb⟩; have hpg := pgRow_pgs hrow; obtain ⟨A1, n1, c1, rfl, _⟩ := id hpg; have KP1 := Lib.hid (KP0.out.below hb h0); have HB1 := Lib.hid (HB0.out.trans (hb.mono HB0.out.size)); have HP1 := Lib.hid hpg; clear hpg hrow hb)
        | (go_at_call 22; refine (JN.out A1 n1 c1 _ HP1.out).mono ?_; rintro e w2 ⟨v2, rfl, hs2, hb⟩; obtain ⟨b1, o1, rfl, hn1, hnc1, k0, k1, k3⟩ := head_cells ((HP1.out.below hb (Nat.le_refl _)).more hb.size); have KP2 := Lib.hid (KP1.out.below hb KP1.out.lt); have HB2 := Lib.hid (HB1.out.trans (hb.mono HB1.out.size)); have a0 := KP2.out.cell 0; have a1 := KP2.out.cell 1; simp at a0 a1; have hz2 := KP2.out.lt; have f0 := KP2.out.frozen 0; have f1 := KP2.out.frozen 1; clear hs2 hb))
      have hgr := set2_grown w2 w.heap.size (.int .i64 0) (.slice none 0 0)
      refine bodyPost_ret (v := .tuple #[.agg #[.int .i64 0, .slice none 0 0], .bool false]) ?_ rfl ⟨_, rfl, ⟨.slice none 0 0, rfl, sb_of (sl_nil _ _)⟩, ?_⟩
      · simp [results, Try.results10, go_sem, a0, a1, hz2]
      · exact HB2.out.grown hgr HB2.out.size (fun q hq => by cases hq; exact Nat.le_refl _)
end Go.Proofs.Ytkidjlmjjfgknaa.Slt
