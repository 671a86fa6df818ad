/- The contract of a disk's Flush (layer 3). -/
import Derived.Test.YtddhkajcakndlaaCopy
namespace Go.Proofs.Ytddhkajcakndlaa.Dsk
open Go.RowKit Go.Maps Go.Proofs.Ytddhkajcakndlaa.Mem
set_option linter.unusedVariables false
set_option linter.unusedSimpArgs false
theorem wpList_clear_sec (w : World) {ops : Array Oper} {rest : List Oper} {o : Oper} {a : Act} {Q : Exit → Act → World → Prop} (hg : o.guard = none) (m : Operand)
    (hop : o.op = Op.call { callee := Callee.builtin Builtin.clear, args := #[m], argTypes := #[36] }) (b : Nat) (f : Nat → Option (List Nat)) (hm : a.eval m = .map (some b))
    (h : SMap w b f) (hK : ∀ w', Hid (SMap w' b (fun _ => none)) → w.grownBy w' (some b) → wpList Try.prog ops Q rest (a.put o.dst (.tuple #[])) w') : wpList Try.prog ops Q (o :: rest) a w := by
  refine wpList_plain hg fun K' hK' => ?_
  obtain ⟨w', hrun, r1, r2⟩ := h.wipe o.type
  unfold Oper.wp
  simp [execOp, hop, resolve, invoke, builtin, hm, hrun, Result.andThen]
  exact hK' _ _ (hK w' r1 r2)
theorem disk_flushed {w w1 w2 : World} {g bs bw : Nat} {s : St} (h : DiskAt w g bs bw s) (h1 : SMap w1 bs (fun i => (s.fw i).or (s.fs i))) (g1 : w.grownBy w1 (some bs)) (h2 : SMap w2 bw (fun _ => none)) (g2 : w1.grownBy w2 (some bw)) :
    DiskAt w2 g bs bw { s with fs := fun i => (s.fw i).or (s.fs i), fw := fun _ => none } := by
  obtain ⟨e1, e2, e3⟩ := h.ne
  obtain ⟨hb, hs, hw, hne, hn1, hn2, hl1, hl2, hr⟩ := h
  exact ⟨(hb.grown g1 (by simp; omega)).grown g2 (by simp; omega), h1.kept g2 (by simp; omega), h2, hne, hn1, hn2, hl1, hl2, fun _ _ => rfl⟩
set_option maxRecDepth 20000 in
set_option maxHeartbeats 1000000 in
theorem flush_dead (g bs bw : Nat) (s : St) (w : World) (h : DiskAt w g bs bw s) (hd : s.dead = true) :
    Calls Try.prog 11 #[ptr g] w fun e w' => e = .returned (.int .i64 7) ∧ w = w' := by
  have c1 := dead_any g bs bw s w h
  rw [hd] at c1
  have C1 := Lib.hid c1; clear c1
  clear h
  go_enter Try.func11, Try.ntmps11
  go_wp2_with (go_at_call 30; refine (C1.out).mono ?_; rintro e w' ⟨rfl, rfl⟩)
  go_ret
  exact ⟨rfl, rfl⟩
set_option maxRecDepth 20000 in
set_option maxHeartbeats 1000000 in
theorem flush_dies (g bs bw : Nat) (s : St) (w : World) (h : DiskAt w g bs bw s) (hd : s.dead = false) (ha : s.act.2 = false) :
    Calls Try.prog 11 #[ptr g] w fun e w' => e = .returned (.int .i64 7) ∧ DiskAt w' g bs bw s.act.1 ∧ w.grownBy w' (some g) := by
  have c1 := dead_any g bs bw s w h
  have c3 := act_any g bs bw s w h
  rw [hd] at c1
  rw [ha] at c3
  have C1 := Lib.hid c1; clear c1
  have C3 := Lib.hid c3; clear c3
  clear h
  go_enter Try.func11, Try.ntmps11
  go_wp2_with (first
    | (go_at_call 30; refine (C1.out).mono ?_; rintro e w' ⟨rfl, rfl⟩)
    | (go_at_call 32; refine (C3.out).mono ?_; rintro e w' ⟨rfl, hD, hG⟩))
  go_ret
  exact ⟨rfl, hD, hG⟩
set_option maxRecDepth 20000 in
set_option maxHeartbeats 1000000 in
theorem flush_ok (g bs bw : Nat) (s : St) (w : World) (h : DiskAt w g bs bw s) (hd : s.dead = false) (ha : s.act.2 = true) :
    Calls Try.prog 11 #[ptr g] w fun e w' => e = .returned (.int .i64 0) ∧ DiskAt w' g bs bw { s.act.1 with fs := fun i => (s.act.1.fw i).or (s.act.1.fs i), fw := fun _ => none } ∧ KeptBut w w' [g, bs, bw] := by
  have c1 := dead_any g bs bw s w h
  have c3 := act_any g bs bw s w h
  have c4 := fun (W : World) (hW : DiskAt W g bs bw s.act.1) => copy_any bs bw s.act.1.fs s.act.1.fw W hW.2.1 hW.2.2.1 hW.2.2.2.1
  rw [hd] at c1
  rw [ha] at c3
  have C1 := Lib.hid c1; clear c1
  have C3 := Lib.hid c3; clear c3
  have C4 := Lib.hid c4; clear c4
  clear h
  obtain ⟨s1, hs1⟩ : ∃ s1, s1 = s.act.1 := ⟨_, rfl⟩
  rw [← hs1] at C3 C4 ⊢
  clear hs1 ha hd
  go_enter Try.func11, Try.ntmps11
  go_wp2_with (first
    | (go_at_call 30; refine (C1.out).mono ?_; rintro e w' ⟨rfl, rfl⟩)
    | (go_at_call 32; refine (C3.out).mono ?_; rintro e w1 ⟨rfl, hD, hG⟩; have k1 := hD.c1; have k2 := hD.c2; have hlt1 := hD.1.lt; have HD := Lib.hid hD; clear hD; have HG := Lib.hid hG; clear hG))
  go_still_tail 8, (by kernel_rfl)
  change wpList _ _ _ _ _ w1.drew
  have HD2 : Hid (DiskAt w1.drew g bs bw s1) := HD.out.drew
  have HK2 : Hid (KeptBut w w1.drew [g, bs, bw]) := (kept_of_grown HG.out (by simp)).trans kept_drew
  have k3 : w1.drew.cell? ⟨g, 2, none⟩ = some (.map (some bw)) := k2
  have hlt3 : g < w1.drew.heap.size := hlt1
  clear k1 k2 hlt1 HD HG
  generalize w1.drew = w2 at *
  go_wp2_with (first
    | (go_at_call 33; refine (C4.out w2 HD2.out).mono ?_; rintro e w3 ⟨rfl, hm3, hg3⟩; have k4 := (World.cell?_of_block (hg3.block g hlt3 (by simp; exact HD2.out.ne.1))).trans k3; have hm4 := HD2.out.2.2.1.kept hg3 (by simp; exact fun e => HD2.out.ne.2.2 e.symm); have HM3 := Lib.hid hm3; clear hm3; have HG3 := Lib.hid hg3; clear hg3; have HM4 := Lib.hid hm4; clear hm4)
    | (refine wpList_clear_sec _ rfl (.tmp 22) rfl bw s1.fw rfl HM4.out ?_; intro w4 hm5 hg5))
  go_ret
  exact ⟨rfl, disk_flushed HD2.out HM3.out HG3.out hm5.out hg5, (HK2.out.trans (kept_of_grown HG3.out (by simp))).trans (kept_of_grown hg5 (by simp))⟩
theorem flush_any (g bs bw : Nat) (s : St) (w : World) (h : DiskAt w g bs bw s) :
    Calls Try.prog 11 #[ptr g] w fun e w' => e = .returned (.int .i64 s.flush.2) ∧ DiskAt w' g bs bw s.flush.1 ∧ KeptBut w w' [g, bs, bw] := by
  cases hd : s.dead with
  | true =>
    have e : s.flush = (s, 7) := by simp [St.flush, hd]
    rw [e]
    refine (flush_dead g bs bw s w h hd).mono ?_
    rintro e w' ⟨rfl, rfl⟩
    exact ⟨rfl, h, KeptBut.refl _ _⟩
  | false =>
    cases ha : s.act.2 with
    | false =>
      have e : s.flush = (s.act.1, 7) := by simp [St.flush, hd, ha]
      rw [e]
      refine (flush_dies g bs bw s w h hd ha).mono ?_
      rintro e w' ⟨rfl, h1, h2⟩
      exact ⟨rfl, h1, kept_of_grown h2 (by simp)⟩
    | true =>
      have e1 : s.act.1.fs = s.fs := by unfold St.act; split <;> rfl
      have e2 : s.act.1.fw = s.fw := by unfold St.act; split <;> rfl
      have e : s.flush = ({ s.act.1 with fs := fun i => (s.act.1.fw i).or (s.act.1.fs i), fw := fun _ => none }, 0) := by simp [St.flush, hd, ha, e1, e2]
      rw [e]
      exact flush_ok g bs bw s w h hd ha
theorem write_any (g bs bw : Nat) (s : St) (i : Int) (A : Option Addr) (n c : Nat) (xs : List Nat) (w : World) (h : DiskAt w g bs bw s) (hl : xs.length = n) (hb : ∀ x ∈ xs, x < 256) (hx : ∀ w1, w.grownBy w1 (some g) → Bts w1 w1.heap.size A n xs) :
    Calls Try.prog 10 #[ptr g, .int .i64 i, .slice A n c] w fun e w' => e = .returned (.int .i64 (s.write i xs).2) ∧ DiskAt w' g bs bw (s.write i xs).1 ∧ KeptBut w w' [g, bs, bw] := by
  cases hd : s.dead with
  | true =>
    have e : s.write i xs = (s, 7) := by simp [St.write, hd]
    rw [e]
    refine (write_dead g bs bw s i _ w h hd).mono ?_
    rintro e w' ⟨rfl, rfl⟩
    exact ⟨rfl, h, KeptBut.refl _ _⟩
  | false =>
    by_cases hi : 0 ≤ i ∧ i < s.n ∧ n = 512
    · cases ha : s.act.2 with
      | false =>
        have e : s.write i xs = (s.act.1, 7) := by simp [St.write, hd, ha, hl, hi]
        rw [e]
        refine (write_dies g bs bw s i A n c w h hd ⟨hi.1, hi.2.1⟩ hi.2.2 ha).mono ?_
        rintro e w' ⟨rfl, h1, h2⟩
        exact ⟨rfl, h1, kept_of_grown h2 (by simp)⟩
      | true =>
        have e : s.write i xs = ({ s.act.1 with fw := upd1 s.act.1.fw i.toNat xs }, 0) := by simp [St.write, hd, ha, hl, hi]
        rw [e]
        have := write_ok g bs bw s i.toNat A n c xs w h hd (by omega) ha hi.2.2 ⟨hl.trans hi.2.2, hb⟩ hx
        rw [Int.toNat_of_nonneg hi.1] at this
        exact this
    · have e : s.write i xs = (s, 1) := by
        unfold St.write
        rw [hd, if_neg (by simp), if_neg (by rw [hl]; exact hi)]
      rw [e]
      refine (write_arg g bs bw s i A n c w h hd hi).mono ?_
      rintro e w' ⟨rfl, rfl⟩
      exact ⟨rfl, h, KeptBut.refl _ _⟩
end Go.Proofs.Ytddhkajcakndlaa.Dsk
