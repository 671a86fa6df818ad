/- PageGets: which page any bytes are the sector of, and whether they are noughts: the walk, at the contract of the reference's Get (a premise as yet). -/
import Derived.Test.YtioledhbdehbpaaPageAwake
namespace Go.Proofs.Ytioledhbdehbpaa.Pg
open Go.RowKit Go.Proofs.Ytioledhbdehbpaa.Mem Go.Proofs.Ytioledhbdehbpaa.Oct
set_option linter.unusedVariables false
set_option linter.unusedSimpArgs false
/-- the contract of the reference's Get -/
def RefGets : Prop := ∀ (A : Option Addr) (n c : Nat) (xs : List Nat) (w : World), Bts w w.heap.size A n xs → n ≤ c → c ≤ maxLen → n ≤ 1000 →
    Calls Try.prog 17 #[.slice A n c] w fun e w' => ∃ v', e = .returned (.tuple #[v', .bool (got xs).isSome]) ∧ PgAt w' w'.heap.size v' ((got xs).getD zeroP) ∧ Below w.heap.size w w'
def bl (xs : List Nat) (k : Nat) : Bool := decide (xs.length = 512) && (xs.take k).all (fun x => x == 0)
theorem bl_step {xs : List Nat} {k : Nat} (h : k < xs.length) : bl xs (k + 1) = (bl xs k && (xs.getD k 0 == 0)) := by
  have e : xs.take (k + 1) = xs.take k ++ [xs.getD k 0] := by
    rw [List.take_add_one, List.getElem?_eq_getElem h]
    simp [List.getD, List.getElem?_eq_getElem h]
  unfold bl
  rw [e, List.all_append]
  simp [Bool.and_assoc]
theorem bl_end {xs : List Nat} {k : Nat} (h : xs.length = k) : bl xs k = decide (xs = noughts) := by
  unfold bl
  rw [List.take_of_length_le (by omega), Bool.eq_iff_iff]
  simp only [Bool.and_eq_true, decide_eq_true_eq, List.all_eq_true, beq_iff_eq]
  constructor
  · rintro ⟨h1, h2⟩
    exact List.eq_replicate_iff.2 ⟨h1, h2⟩
  · rintro rfl
    exact ⟨List.length_replicate, fun x hx => List.eq_of_mem_replicate hx⟩
theorem got_noughts : got noughts = none := by
  have hl : noughts.length = 512 := List.length_replicate
  have h0 : ∀ i n, num ((noughts.drop i).take n) = 0 := by
    intro i n
    unfold noughts
    rw [List.drop_replicate, List.take_replicate]
    generalize min n (512 - i) = m
    induction m with
    | zero => rfl
    | succ m ih =>
      have : num (List.replicate (m + 1) 0) = num (List.replicate m 0) := by simp [num, List.replicate_succ]
      exact this.trans ih
  have hc : count noughts = 0 := h0 18 2
  rw [got_place hl (by omega), if_neg]
  rintro ⟨h1, _⟩
  have hm := ((may_iff _).1 h1).k
  have hk : (decode noughts).kind = 0 := by
    show ((num ((noughts.drop 3).take 1) : Nat) : Int) = 0
    rw [h0]
    rfl
  rw [hk] at hm
  exact absurd hm (by decide)
set_option maxRecDepth 20000 in
set_option maxHeartbeats 16000000 in
theorem gets_true (hrg : RefGets) (A : Option Addr) (n c : Nat) (xs : List Nat) (w : World) (h : Sl w w.heap.size (.slice A n c) xs) (h1 : n ≤ 1000) :
    Calls Try.prog 4 #[.slice A n c] w fun e w' => e = .returned (.bool true) ∧ Below w.heap.size w w' := by
  have hbt := sl_bts h
  obtain ⟨_, _, _, he, _, hnc, hcm, hA0⟩ := id h
  injection he with q1 q2 q3
  subst q1 q2 q3
  have hln := hbt.1
  have hd1 : decide (1000 < (n : Int)) = false := by simp; omega
  have rg := fun (W : World) (hW : Below w.heap.size w W) => hrg A n c xs W ((hbt.below hW (Nat.le_refl _)).more hW.size) hnc hcm h1
  have hgn : decide (xs = noughts) = true → (got xs).isSome = false := by
    intro e
    rw [of_decide_eq_true e, got_noughts]
    rfl
  have bk := fun (W : World) (hW : Below w.heap.size w W) => blank_any A n c w.heap.size xs W (hbt.below hW (Nat.le_refl _)) hW.size
  have hbe := bl_end (xs := xs) hln
  obtain ⟨i1, hi, hz0, hz1, hz2⟩ := info_parts Try.info5
  have HJ := Lib.hid hi; clear hi
  have HY0 := Lib.hid hz0; clear hz0
  have HY1 := Lib.hid hz1; clear hz1
  have HY2 := Lib.hid hz2; clear hz2
  have hown0 : (w.alloc (.cells #[] 5)).ownsRow w.heap.size 5 1 (.slice (some ⟨w.heap.size, 0, none⟩) 0 0) 0 [] := World.ownsRow_lit w #[] 0 (Nat.le_refl _) (by unfold maxLen; omega) rfl
  have HO := Lib.hid hown0; clear hown0
  have HB0 := Lib.hid ((Below.refl w.heap.size w).alloc (Nat.le_refl _) (.cells #[] 5))
  have HRD := Lib.hid ((hbt.below HB0.out (Nat.le_refl _)).reads)
  have HBT := Lib.hid hbt
  have hx256 := hbt.2.1
  have HX := Lib.hid hx256; clear hx256
  have HLN := Lib.hid hln; clear hln hbt h hA0
  have RG := Lib.hid rg; clear rg
  have BK := Lib.hid bk; clear bk
  have HGN := Lib.hid hgn; clear hgn
  have HBE := Lib.hid hbe; clear hbe
  have hn0 : n * 1 ≤ 140737488355328 := by omega
  obtain ⟨d0, hd0⟩ : ∃ d, ((n : Int) == 512) = d := ⟨_, rfl⟩
  have hb0 : bl xs 0 = d0 := by
    rw [← hd0]
    unfold bl
    rw [HLN.out, Bool.eq_iff_iff]
    simp
    omega
  have HBL0 := Lib.hid hb0; clear hb0
  obtain ⟨r0, hr0⟩ : ∃ r, r = (got xs).getD zeroP := ⟨_, rfl⟩
  have hge := fun (W : World) (v : Value) (hv : Sl W W.heap.size v xs) => get_any v xs W hv (by have := HLN.out; omega)
  rw [← hr0] at hge
  rw [← hr0] at RG
  generalize (got xs).isSome = ok at *
  cases ok <;> simp only [Bool.false_eq_true, if_false, if_true] at hge
  all_goals
    (have GE := Lib.hid hge; clear hge hr0
     go_enter Try.func4, Try.ntmps4
     go_wp2_with (first
       | (at_builtin; refine wpList_append_any _ rfl (.tmp 14) (.tmp 15) 22 rfl w.heap.size 5 i1 (.int .u8 0) 1 1 Try.underlying22 HJ.out HY0.out HY1.out HY2.out rfl (by decide) (.slice (some ⟨w.heap.size, 0, none⟩) 0 0) 0 [] rfl HO.out w.heap.size A n c (vals xs) rfl HRD.out (vals_one _) (by unfold maxLen; omega) (by omega) (by simp) ?_; intro v5 w5 hown5 hg5 _; rw [Nat.zero_add, List.nil_append] at hown5; obtain ⟨A5, c5, rfl⟩ := own_form hown5; have HB5 := Lib.hid (HB0.out.grown hg5 HB0.out.size (fun q hq => by simp [Value.ownBlock] at hq; omega)); have GT := Lib.hid (GE.out w5 _ (sl_own hown5 HX.out (by omega))); clear hown5 hg5)
       | (go_at_call 14; refine (GT.out).mono ?_; rintro e w6 ⟨v6, rfl, ⟨vb, rfl, A6, n6, c6, rfl, hbt6⟩, hb⟩; have HB6 := Lib.hid ((HB5.out.trans (hb.mono HB5.out.size)).alloc (Nat.le_trans HB5.out.size hb.size) (.cells #[.int .i64 r0.kind, .int .i64 r0.gen, .int .i64 r0.mark, .int .i64 r0.index, .int .i64 r0.part, .int .i64 r0.parts, .slice A6 n6 c6] 24)); have KP := Lib.hid (Blk.new w6 24 #[.int .i64 r0.kind, .int .i64 r0.gen, .int .i64 r0.mark, .int .i64 r0.index, .int .i64 r0.part, .int .i64 r0.parts, .slice A6 n6 c6]); have S6 := Lib.hid (hbt6.alloc (Nat.le_refl _) (.cells #[.int .i64 r0.kind, .int .i64 r0.gen, .int .i64 r0.mark, .int .i64 r0.index, .int .i64 r0.part, .int .i64 r0.parts, .slice A6 n6 c6] 24)); have RG6 := Lib.hid (RG.out _ HB6.out); clear hb hbt6; unfold pgV)
       | (go_at_call 17; refine (RG6.out).mono ?_; rintro e w7 ⟨v7, rfl, ⟨vb, rfl, A7, n7, c7, rfl, hbt7⟩, hb⟩; have HB7 := Lib.hid ((HB6.out.trans (hb.mono HB6.out.size)).alloc (Nat.le_trans HB6.out.size hb.size) (.cells #[.int .i64 r0.kind, .int .i64 r0.gen, .int .i64 r0.mark, .int .i64 r0.index, .int .i64 r0.part, .int .i64 r0.parts, .slice A7 n7 c7] 24)); have KP7 := Lib.hid ((KP.out.below hb KP.out.lt).alloc (.cells #[.int .i64 r0.kind, .int .i64 r0.gen, .int .i64 r0.mark, .int .i64 r0.index, .int .i64 r0.part, .int .i64 r0.parts, .slice A7 n7 c7] 24)); have KQ7 := Lib.hid (Blk.new w7 24 #[.int .i64 r0.kind, .int .i64 r0.gen, .int .i64 r0.mark, .int .i64 r0.index, .int .i64 r0.part, .int .i64 r0.parts, .slice A7 n7 c7]); have S7 := Lib.hid (hbt7.alloc (Nat.le_refl _) (.cells #[.int .i64 r0.kind, .int .i64 r0.gen, .int .i64 r0.mark, .int .i64 r0.index, .int .i64 r0.part, .int .i64 r0.parts, .slice A7 n7 c7] 24)); have S67 := Lib.hid ((S6.out.below (hb.mono (by simp)) (Nat.le_refl _)).alloc (by have := hb.size; simp at this; omega) (.cells #[.int .i64 r0.kind, .int .i64 r0.gen, .int .i64 r0.mark, .int .i64 r0.index, .int .i64 r0.part, .int .i64 r0.parts, .slice A7 n7 c7] 24)); clear hb hbt7; unfold pgV))
     have hz7 := HB7.out.size
     generalize hw8 : w7.alloc (Obj.cells #[.int .i64 r0.kind, .int .i64 r0.gen, .int .i64 r0.mark, .int .i64 r0.index, .int .i64 r0.part, .int .i64 r0.parts, .slice A7 n7 c7] 24) = w8 at *
     generalize w7.heap.size = x7 at *
     generalize w6.heap.size = x6 at *
     clear hw8
     go_loopw [7, 8] (fun t i wr => (∃ k : Nat, k ≤ n ∧ i = .int .i64 k ∧ t = .bool (bl xs k)) ∧ wr = w8) (fun _ i _ => n - (intOf i).toNat)
     case atStart => exact ⟨⟨0, Nat.zero_le _, rfl, by rw [HBL0.out]⟩, rfl⟩
     case round =>
       obtain ⟨⟨k, hk, rfl, rfl⟩, rfl⟩ := hrel
       by_cases hlt : k < n
       · obtain ⟨b, off, rfl, hb, hc⟩ := HBT.out.2.2.2 (by omega)
         have g := (HB7.out.cell (p := ⟨b, off + k, none⟩) hb).trans (hc k hlt)
         have hst := bl_step (xs := xs) (k := k) (by rw [HLN.out]; exact hlt)
         have hx := getD_lt HX.out k
         generalize xs.getD k 0 = x at *
         generalize bl xs k = t0 at *
         have HST := Lib.hid hst; clear hst hc
         have hxx : ((x : Int) == 0) = (x == 0) := by rw [Bool.eq_iff_iff]; simp
         cases t0
         · go_wp2
           go_roundw
           case rel => exact ⟨⟨k + 1, by omega, by go_num, by rw [HST.out]; rfl⟩, trivial⟩
           case measure => simp [intOf]; omega
         · go_wp2
           go_roundw
           case rel => exact ⟨⟨k + 1, by omega, by go_num, by rw [HST.out, Bool.true_and, ← hxx]⟩, trivial⟩
           case measure => simp [intOf]; omega
       · obtain rfl : k = n := by omega
         rw [HBE.out]
         have hbk := BK.out
         generalize decide (xs = noughts) = d9 at *
         have p_0 := KP7.out.cell 0; have p_1 := KP7.out.cell 1; have p_2 := KP7.out.cell 2; have p_3 := KP7.out.cell 3; have p_4 := KP7.out.cell 4; have p_5 := KP7.out.cell 5; have p_6 := KP7.out.cell 6; simp at p_0 p_1 p_2 p_3 p_4 p_5 p_6
         have q_0 := KQ7.out.cell 0; have q_1 := KQ7.out.cell 1; have q_2 := KQ7.out.cell 2; have q_3 := KQ7.out.cell 3; have q_4 := KQ7.out.cell 4; have q_5 := KQ7.out.cell 5; have q_6 := KQ7.out.cell 6; simp at q_0 q_1 q_2 q_3 q_4 q_5 q_6
         have hp_l := KP7.out.lt
         have hq_l := KQ7.out.lt
         have rs := refsame_any r0 r0 (.slice A6 n6 c6) (.slice A7 n7 c7) wr ⟨A6, n6, c6, rfl, S67.out.more (by omega)⟩ ⟨A7, n7, c7, rfl, S7.out.more (by omega)⟩
         simp only [decide_true] at rs
         unfold pgV at rs
         have RS := Lib.hid rs; clear rs
         have BKK := Lib.hid hbk; clear hbk BK
         have hgn9 := HGN.out
         cases d9 <;> first
           | (have z := hgn9 rfl; cases z; done)
           | (clear hgn9
              go_wp2_with (first
                | (go_at_call 12; refine (RS.out).mono ?_; rintro e w9 ⟨rfl, hb⟩; have HB9 := Lib.hid (HB7.out.trans (hb.mono HB7.out.size)); clear hb)
                | (go_at_call 18; refine (BKK.out _ HB9.out).mono ?_; rintro e w10 ⟨rfl, hb⟩; have HB10 := Lib.hid (HB9.out.trans (hb.mono HB9.out.size)); clear hb)
                | (go_at_call 9; refine (awake_any _).mono ?_; rintro e w11 ⟨rfl, hb11⟩))
              go_ret
              exact ⟨rfl, HB10.out.trans (hb11.mono HB10.out.size)⟩))
end Go.Proofs.Ytioledhbdehbpaa.Pg
