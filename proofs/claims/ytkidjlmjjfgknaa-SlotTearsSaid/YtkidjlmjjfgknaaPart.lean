/- One page of a record (layer 5): the contract of record.part. -/
import Derived.Test.YtkidjlmjjfgknaaPgs
import Derived.Test.YtkidjlmjjfgknaaParts
import Derived.Test.YtkidjlmjjfgknaaPagePut
import Derived.Test.YtkidjlmjjfgknaaPageGet
import Derived.Deep.RegionHeld3
namespace Go.Proofs.Ytkidjlmjjfgknaa.Rcd
open Go.RowKit Go.Proofs.Ytkidjlmjjfgknaa.Mem Go.Proofs.Ytkidjlmjjfgknaa.Oct Go.Proofs.Ytkidjlmjjfgknaa.Pg
set_option linter.unusedVariables false
set_option linter.unusedSimpArgs false
/-- bytes in a block made since lo -/
def Sf (w : World) (lo : Nat) (v : Value) (xs : List Nat) : Prop := ∃ (A : Option Addr) (n c : Nat), v = .slice A n c ∧ Bts w w.heap.size A n xs ∧ ∀ ad, A = some ad → lo ≤ ad.block
theorem Sf.sb {w : World} {lo : Nat} {v : Value} {xs : List Nat} (h : Sf w lo v xs) : Sb w w.heap.size v xs := by
  obtain ⟨A, n, c, e, hb, _⟩ := h
  exact ⟨A, n, c, e, hb⟩
theorem cut_lhn {w : World} {B n cap : Nat} {A : Option Addr} {xs : List Nat} (h : Bts w B A n xs) (i k : Nat) (hik : i ≤ k) (hk : k ≤ n) (hc : n ≤ cap) :
    ∃ A', (∀ W, (Instr.slice 25 (.slice A n cap) (some (.int .i64 i)) (some (.int .i64 k)) none).run Try.prog W = .ok (.slice A' (k - i) (cap - i)) W) ∧ Bts w B A' (k - i) ((xs.drop i).take (k - i)) ∧ (A' = none → A = none) := by
  obtain ⟨A', e, hb⟩ := bts_sliced h i k hik hk hc
  refine ⟨A', fun W => ?_, hb, fun e0 => ?_⟩
  · rw [run_slice_lh W _ A n cap under22 .i64 .i64 i k (by omega) (by omega) (by omega), size1]
    simp only [Result.andThen, Int.toNat_natCast, e]
  · subst e0
    unfold sliced at e
    injection e with e1 _ _
    cases A with
    | none => rfl
    | some ad => split at e1 <;> simp_all
theorem pdrew {w w' : World} (h : Below w.heap.size w w') : Below w.heap.size w w'.drew := h.drew
set_option maxRecDepth 20000 in
set_option maxHeartbeats 8000000 in
theorem part_at (p : P) (v : Value) (A : Option Addr) (n c i k m : Nat) (bs : List Nat) (w : World) (h : Sl w w.heap.size (.slice A n c) bs) (hik : i * 488 ≤ k) (hkn : k ≤ n) (hn : n ≤ 7808) (hi : i ≤ 16) (hm : m ≤ 16)
    (hx0 : -9223372036854775808 ≤ p.index + i) (hx1 : p.index + i ≤ 9223372036854775807) (hcase : (n ≤ i * 488 + 488 ∧ k = n) ∨ (i * 488 + 488 < n ∧ k = i * 488 + 488)) :
    Calls Try.prog 39 #[pgV p v, .slice A n c, .int .i64 (i : Nat), .int .i64 (m : Nat)] w fun e w' =>
      ∃ v', e = .returned (pgV ⟨p.kind, p.gen, p.mark, p.index + i, i, m, (bs.drop (i * 488)).take (k - i * 488)⟩ v') ∧ Sf w' w.heap.size v' ((bs.drop (i * 488)).take (k - i * 488)) ∧ Below w.heap.size w w' := by
  obtain ⟨hbt, hnc, hcm, hnil⟩ : Bts w w.heap.size A n bs ∧ n ≤ c ∧ c ≤ maxLen ∧ (A = none → c = 0) := by
    obtain ⟨A', n', c', e, h1, h2, h3, h4⟩ := h
    injection e with e1 e2 e3
    subst e1 e2 e3
    exact ⟨h1, h2, h3, h4⟩
  obtain ⟨kind, gen, mark, index, part, parts, b⟩ := p
  simp only at hx0 hx1
  unfold pgV
  simp only
  have kb1 := (Blk.new w 43 #[.int .i64 kind, .int .i64 gen, .int .i64 mark, .int .i64 index, .int .i64 part, .int .i64 parts, v]).alloc (Obj.cells #[.int .i64 0, .int .i64 0, .int .i64 0, .int .i64 0, .int .i64 0, .int .i64 0, .slice none 0 0] 43)
  have kz0 := Blk.new (w.alloc (Obj.cells #[.int .i64 kind, .int .i64 gen, .int .i64 mark, .int .i64 index, .int .i64 part, .int .i64 parts, v] 43)) 43 #[.int .i64 0, .int .i64 0, .int .i64 0, .int .i64 0, .int .i64 0, .int .i64 0, .slice none 0 0]
  rw [show (w.alloc (Obj.cells #[.int .i64 kind, .int .i64 gen, .int .i64 mark, .int .i64 index, .int .i64 part, .int .i64 parts, v] 43)).heap.size = w.heap.size + 1 by simp] at kz0
  have hb1 : Below w.heap.size w ((w.alloc (Obj.cells #[.int .i64 kind, .int .i64 gen, .int .i64 mark, .int .i64 index, .int .i64 part, .int .i64 parts, v] 43)).alloc (Obj.cells #[.int .i64 0, .int .i64 0, .int .i64 0, .int .i64 0, .int .i64 0, .int .i64 0, .slice none 0 0] 43)) := ((Below.refl _ w).alloc (Nat.le_refl _) _).alloc (by simp) _
  have hs2 : ((w.alloc (Obj.cells #[.int .i64 kind, .int .i64 gen, .int .i64 mark, .int .i64 index, .int .i64 part, .int .i64 parts, v] 43)).alloc (Obj.cells #[.int .i64 0, .int .i64 0, .int .i64 0, .int .i64 0, .int .i64 0, .int .i64 0, .slice none 0 0] 43)).heap.size = w.heap.size + 2 := by simp
  obtain ⟨A5, hc5, hb5, hn5⟩ := cut_lhn hbt (i * 488) k hik hkn hnc
  have hnil5 : A5 = none → c - i * 488 = 0 := fun e => by
    have := hnil (hn5 e)
    omega
  have cl := fun (W : World) (hW : Below w.heap.size w W) => clone_any A5 (k - i * 488) (c - i * 488) _ W (by omega) hnil5 ((hb5.below hW (Nat.le_refl _)).more hW.size)
  have e488 : ((i * 488 : Nat) : Int) = (i : Int) * 488 := by omega
  rw [e488] at hc5
  have k0 := kb1.cell 0
  have k1 := kb1.cell 1
  have k2 := kb1.cell 2
  have k3 := kb1.cell 3
  simp at k0 k1 k2 k3
  have KB := Lib.hid kb1; clear kb1
  have KZ := Lib.hid kz0; clear kz0
  have HB1 := Lib.hid hb1; clear hb1
  have CL := Lib.hid cl; clear cl
  have HX := Lib.hid hbt.2.1
  clear hbt hb5 hnil hnil5 hn5 h
  rcases hcase with ⟨hcs, hkk⟩ | ⟨hcs, hkk⟩
  all_goals
    have hmin : min ((i : Int) * 488 + 488) (n : Int) = (k : Int) := by omega
    have HMIN := Lib.hid hmin; clear hmin hcs hkk
    go_enter Try.func39, Try.ntmps39
    go_wp2
    rw [HMIN.out]
    generalize hw2 : (w.alloc (Obj.cells #[.int .i64 kind, .int .i64 gen, .int .i64 mark, .int .i64 index, .int .i64 part, .int .i64 parts, v] 43)).alloc (Obj.cells #[.int .i64 0, .int .i64 0, .int .i64 0, .int .i64 0, .int .i64 0, .int .i64 0, .slice none 0 0] 43) = w2 at *
    have hlt1 : w.heap.size + 1 < w2.heap.size := by omega
    have hlt0 : w.heap.size < w2.heap.size := by omega
    have hwr : IntKind.i64.wrap (index + (i : Int)) = index + i := by rw [IntKind.wrap_i64]; omega
    have k0 := KB.out.cell 0
    have k1 := KB.out.cell 1
    have k2 := KB.out.cell 2
    have k3 := KB.out.cell 3
    simp at k0 k1 k2 k3
    go_region_held3 (fun W => W.cell? ⟨w.heap.size, 0, none⟩ = some (.int .i64 kind) ∧ W.cell? ⟨w.heap.size, 1, none⟩ = some (.int .i64 gen) ∧ W.cell? ⟨w.heap.size, 2, none⟩ = some (.int .i64 mark) ∧ W.cell? ⟨w.heap.size, 3, none⟩ = some (.int .i64 index))
      (first
        | with_reducible exact ⟨k0, k1, k2, k3⟩
        | with_reducible exact ⟨m0, m1, m2, m3⟩
        | go_keep)
      (first | (go_at_call 51; refine (CL.out _ ?hbw).mono ?_; (case hbw => with_reducible repeat (first | exact HB1.out | refine below_drewN ?_ _ | refine pdrew ?_)); rintro e w3 ⟨v3, rfl, hown, hb⟩; have KB3 := Lib.hid (Blk.below (w := w2.drew) KB.out hb hlt0); have KZ3 := Lib.hid (Blk.below (w := w2.drew) KZ.out hb hlt1); have m0 := KB3.out.cell 0; have m1 := KB3.out.cell 1; have m2 := KB3.out.cell 2; have m3 := KB3.out.cell 3; simp at m0 m1 m2 m3; have a0 := KZ3.out.cell 0; have a1 := KZ3.out.cell 1; have a2 := KZ3.out.cell 2; have a3 := KZ3.out.cell 3; have a4 := KZ3.out.cell 4; have a5 := KZ3.out.cell 5; have a6 := KZ3.out.cell 6; simp at a0 a1 a2 a3 a4 a5 a6; have f0 := KZ3.out.frozen 0; have f1 := KZ3.out.frozen 1; have f2 := KZ3.out.frozen 2; have f3 := KZ3.out.frozen 3; have f4 := KZ3.out.frozen 4; have f5 := KZ3.out.frozen 5; have f6 := KZ3.out.frozen 6; have al := KZ3.out.lt; obtain ⟨A6, c6, rfl⟩ := own_form hown; have HOWN := Lib.hid hown; have HB3 := Lib.hid (Below.trans (b := w2.drew) HB1.out.drew (hb.mono (B' := w.heap.size) (Nat.le_of_lt hlt0))); clear hown))
    go_wp2
    have hgr := set7_grown w3 (w.heap.size + 1) (.int .i64 kind) (.int .i64 gen) (.int .i64 mark) (.int .i64 (index + i)) (.int .i64 (i : Nat)) (.int .i64 (m : Nat)) (.slice A6 (k - i * 488) c6)
    have hcutx : ∀ x ∈ (bs.drop (i * 488)).take (k - i * 488), x < 256 := fun x hx => HX.out x (List.mem_of_mem_drop (List.mem_of_mem_take hx))
    have hb6 := sl_bts (sl_own HOWN.out hcutx (by omega))
    refine bodyPost_ret (v := .agg #[.int .i64 kind, .int .i64 gen, .int .i64 mark, .int .i64 (index + i), .int .i64 (i : Nat), .int .i64 (m : Nat), .slice A6 (k - i * 488) c6]) ?_ rfl ⟨.slice A6 (k - i * 488) c6, rfl, ⟨A6, _, c6, rfl, (bts_grownU hb6 (noU8_blk KZ3.out) hgr).more hgr.size, ?_⟩, ?_⟩
    · simp [results, Try.results39, go_sem, a0, a1, a2, a3, a4, a5, a6, al]
    · intro ad hq
      have h9 := (HOWN.out.lt ad.block (by rw [hq]; rfl)).1
      exact Nat.le_trans (Nat.le_of_lt hlt0) h9
    · exact HB3.out.grown hgr HB3.out.size (fun q hq => by cases hq; omega)
end Go.Proofs.Ytkidjlmjjfgknaa.Rcd
