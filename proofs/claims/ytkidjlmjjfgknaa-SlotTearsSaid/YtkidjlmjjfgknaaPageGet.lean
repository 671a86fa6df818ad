/- The contracts of page.read, Get and Blank (layer 4). -/
import Derived.Test.YtkidjlmjjfgknaaPagePut
namespace Go.Proofs.Ytkidjlmjjfgknaa.Pg
open Go.RowKit Go.Proofs.Ytkidjlmjjfgknaa.Mem Go.Proofs.Ytkidjlmjjfgknaa.Oct
set_option linter.unusedVariables false
set_option linter.unusedSimpArgs false
def NoU8 (w : World) (g : Nat) : Prop := ∀ i x, w.cell? ⟨g, i, none⟩ ≠ some (.int .u8 x)
theorem bts_grownU {w w' : World} {B g n : Nat} {A : Option Addr} {xs : List Nat} (h : Bts w B A n xs) (hn : NoU8 w g) (hg : w.grownBy w' (some g)) : Bts w' B A n xs := by
  obtain ⟨h1, h2, h3, h4⟩ := h
  refine ⟨h1, h2, h3, fun h0 => ?_⟩
  obtain ⟨b, off, e, hb, hc⟩ := h4 h0
  have hne : b ≠ g := fun e => hn (off + 0) _ (e ▸ hc 0 h0)
  refine ⟨b, off, e, hb, fun i hi => ?_⟩
  rw [← hc i hi]
  exact World.cell?_of_block (hg.block b (block_lt_of_cell (hc i hi)) (by simpa using hne))
theorem noU8_blk {w : World} {g : Nat} {a b c d e f : Int} {A : Option Addr} {n m : Nat} (h : Blk w g 43 #[.int .i64 a, .int .i64 b, .int .i64 c, .int .i64 d, .int .i64 e, .int .i64 f, .slice A n m]) : NoU8 w g := by
  intro i x hx
  rw [h.cell] at hx
  match i, hx with
  | 0, hx => simp at hx
  | 1, hx => simp at hx
  | 2, hx => simp at hx
  | 3, hx => simp at hx
  | 4, hx => simp at hx
  | 5, hx => simp at hx
  | 6, hx => simp at hx
  | i + 7, hx => simp at hx
theorem set7_grown (w : World) (g : Nat) (a b c d e f h : Value) : w.grownBy (((((((w.setCell ⟨g, 0, none⟩ a).setCell ⟨g, 1, none⟩ b).setCell ⟨g, 2, none⟩ c).setCell ⟨g, 3, none⟩ d).setCell ⟨g, 4, none⟩ e).setCell ⟨g, 5, none⟩ f).setCell ⟨g, 6, none⟩ h) (some g) :=
  grown_trans (grown_trans (grown_trans (grown_trans (grown_trans (grown_trans (grown_set _ _ _) (grown_set _ ⟨g, 1, none⟩ _)) (grown_set _ ⟨g, 2, none⟩ _)) (grown_set _ ⟨g, 3, none⟩ _)) (grown_set _ ⟨g, 4, none⟩ _)) (grown_set _ ⟨g, 5, none⟩ _)) (grown_set _ ⟨g, 6, none⟩ _)
theorem rnum_lt {st : St} {k : Int} (h : ∀ x ∈ st.1, x < 256) (hk : k ≤ 4) : (rnum st k).2 < 4294967296 := by
  unfold rnum
  split
  · have h1 := num_lt (st.1.take k.toNat) (fun x hx => h x (List.mem_of_mem_take hx))
    have h2 : (st.1.take k.toNat).length ≤ 4 := by have := List.length_take_le k.toNat st.1; omega
    have h3 : 256 ^ (st.1.take k.toNat).length ≤ 256 ^ 4 := Nat.pow_le_pow_right (by decide) h2
    exact Nat.lt_of_lt_of_le h1 h3
  · show 0 < 4294967296
    omega
theorem rnum_b (g : Nat) (st : St) (k : Int) (w : World) (h : Rdr w g st) (hk : k ≤ 4) :
    Calls Try.prog 49 #[Oct.ptr g, .int .i64 k] w fun e w' => e = .returned (.int .u64 ((rnum st k).2 : Nat)) ∧ Rdr w' g (rnum st k).1 ∧ w.grownBy w' (some g) ∧ (rnum st k).2 < 4294967296 :=
  (rnum_any g st k w h).mono fun e w' ⟨h1, h2, h3⟩ => ⟨h1, h2, h3, rnum_lt h.lt hk⟩
def zeroP : P := ⟨0, 0, 0, 0, 0, 0, []⟩
set_option maxRecDepth 20000 in
set_option maxHeartbeats 16000000 in
theorem read_page (v : Value) (xs : List Nat) (w : World) (h : Sl w w.heap.size v xs) (hl : xs.length ≤ 1000) :
    Calls Try.prog 37 #[v] w fun e w' => ∃ v', e = .returned v' ∧ PgAt w' w'.heap.size v' (readP xs) ∧ Below w.heap.size w w' := by
  have kp := Blk.new w 43 #[.int .i64 0, .int .i64 0, .int .i64 0, .int .i64 0, .int .i64 0, .int .i64 0, .slice none 0 0]
  have hb0 := (Below.refl w.heap.size w).alloc (Nat.le_refl _) (Obj.cells #[.int .i64 0, .int .i64 0, .int .i64 0, .int .i64 0, .int .i64 0, .int .i64 0, .slice none 0 0] 43)
  have rd := read_any v xs (w.alloc (.cells #[.int .i64 0, .int .i64 0, .int .i64 0, .int .i64 0, .int .i64 0, .int .i64 0, .slice none 0 0] 43)) ((h.below hb0 (Nat.le_refl _)).more (by simp)) (by omega)
  have KP0 := Lib.hid kp; clear kp
  have HB0 := Lib.hid hb0; clear hb0
  have RR := Lib.hid rd; clear rd
  go_enter Try.func37, Try.ntmps37
  go_wp2_with (first
    | (go_at_call 48; refine (RR.out).mono ?_; rintro e w1 ⟨g, rfl, hge, hr, hb⟩; have hgs : w.heap.size < g := Nat.lt_of_lt_of_le (by simp) hge; have RD := Lib.hid hr; have KP := Lib.hid (KP0.out.below hb (by simp)); have HB := Lib.hid (HB0.out.trans (hb.mono (by simp))); clear hr hb hge)
    | (go_at_call 49; refine (rnum_b g _ _ _ RD.out (by decide)).mono ?_; rintro e w2 ⟨rfl, hr, hg, hlt⟩; have KPn := Lib.hid (KP.out.grown hg (by simp; omega)); clear KP; have KP := KPn; clear KPn; have HBn := Lib.hid (HB.out.grown hg HB.out.size (fun q hq => by cases hq; omega)); clear HB; have HB := HBn; clear HBn RD; have RD := Lib.hid hr; clear hr hg))
  refine (rtext_any g _ _ RD.out).mono ?_
  rintro e w3 ⟨A3, k3, c3, rfl, hbt, hk3, hc3, hr3, hg3⟩
  have kp3 := KP.out.grown hg3 (by simp; omega)
  have hb3 := HB.out.grown hg3 HB.out.size (fun q hq => by cases hq; omega)
  have KP3 := Lib.hid kp3
  have HB3 := Lib.hid hb3
  have hgz : g < w3.heap.size := hr3.size
  have HBT := Lib.hid (hbt.more (Nat.le_of_lt hgz))
  clear kp3 hb3 hbt hr3 hg3 RD KP HB
  have a0 := KP3.out.cell 0
  have a1 := KP3.out.cell 1
  have a2 := KP3.out.cell 2
  have a3 := KP3.out.cell 3
  have a4 := KP3.out.cell 4
  have a5 := KP3.out.cell 5
  have a6 := KP3.out.cell 6
  have f0 := KP3.out.frozen 0
  have f1 := KP3.out.frozen 1
  have f2 := KP3.out.frozen 2
  have f3 := KP3.out.frozen 3
  have f4 := KP3.out.frozen 4
  have f5 := KP3.out.frozen 5
  have f6 := KP3.out.frozen 6
  have al := KP3.out.lt
  simp at a0 a1 a2 a3 a4 a5 a6
  go_wp2
  have hgr := set7_grown w3 w.heap.size (.int .i64 ((readP xs).kind)) (.int .i64 ((readP xs).gen)) (.int .i64 ((readP xs).mark)) (.int .i64 ((readP xs).index)) (.int .i64 ((readP xs).part)) (.int .i64 ((readP xs).parts)) (.slice A3 k3 c3)
  refine bodyPost_ret (v := pgV (readP xs) (.slice A3 k3 c3)) ?_ rfl ⟨_, rfl, ⟨.slice A3 k3 c3, rfl, A3, k3, c3, rfl, ?_⟩, ?_⟩
  · simp [results, Try.results37, go_sem, a0, a1, a2, a3, a4, a5, a6, al, pgV, readP]
  · exact (bts_grownU HBT.out (noU8_blk KP3.out) hgr).more hgr.size
  · exact HB3.out.grown hgr HB3.out.size (fun q hq => by cases hq; exact Nat.le_refl _)
end Go.Proofs.Ytkidjlmjjfgknaa.Pg
