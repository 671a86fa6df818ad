/- LsaPuts: for every Lsa and every bytes ahead and behind, the law returns true and its arguments read as before: which Lsas there may be, any one's bytes, and that what is put is read. No condition. -/
import Derived.Test.YtkchocafnidfiaaLsaAwake
import Derived.Test.YtkchocafnidfiaaLsaRefPut
import Derived.Test.YtkchocafnidfiaaReaderEnd
import Derived.Test.YtkchocafnidfiaaSame
import Derived.IntWalk
import Derived.WalkKit
import Derived.ProofKit
import Derived.OpenShut
import Derived.ShutString
import Derived.ChangeOld
import Derived.Below
namespace Go.Proofs.Ytkchocafnidfiaa.lsaPuts
open Go.RowKit Go.Proofs.Ytkchocafnidfiaa.Mem Go.Proofs.Ytkchocafnidfiaa.Oct Go.Proofs.Ytkchocafnidfiaa.Lsa
set_option linter.unusedVariables false
set_option linter.unusedSimpArgs false
theorem step_low {wz w w' : World} (h : Below wz.heap.size wz w) (k : Below w.heap.size w w') : Below wz.heap.size wz w' := h.trans (k.mono h.size)
theorem sl_bts' {w : World} {B n c : Nat} {A : Option Addr} {xs : List Nat} (h : Sl w B (.slice A n c) xs) : Bts w B A n xs := by
  obtain ⟨A', n', c', e, hb, _⟩ := h
  injection e with e1 e2 e3
  subst e1 e2 e3
  exact hb
theorem app_lt {xs ys : List Nat} (h : ∀ x ∈ xs, x < 256) (h' : ∀ x ∈ ys, x < 256) : ∀ x ∈ xs ++ ys, x < 256 := fun x hx => by
  rcases List.mem_append.1 hx with h1 | h1
  · exact h x h1
  · exact h' x h1
theorem own_lit0 (w : World) (base g : Nat) (hg : g = w.heap.size) (hb : base ≤ w.heap.size) : (w.alloc (.cells #[] 5)).ownsRow base 5 1 (.slice (some ⟨g, 0, none⟩) 0 0) 0 [] := by
  subst hg
  exact World.ownsRow_lit w #[] 0 hb (by unfold maxLen; omega) rfl
set_option maxHeartbeats 4000000 in
theorem walk_long (o s : Int) (a0c : Option Addr) (n0 c0 : Nat) (a1 : Option Addr) (n1 c1 : Nat) (a2 : Option Addr) (n2 c2 : Nat) (w : World) (h : 40 < n0 ∨ 300 < n1 ∨ 300 < n2) :
    Calls Try.prog 4 #[lsaV o s (.slice a0c n0 c0), .slice a1 n1 c1, .slice a2 n2 c2] w fun e w' => e = .returned (.bool true) ∧ Below w.heap.size w w' := by
  have HB := Lib.hid (up1 (Below.refl w.heap.size w) (.cells #[.int .i64 o, .int .i64 s, .slice a0c n0 c0] 47))
  by_cases h0 : 40 < n0
  · have hd : decide ((n0 : Int) ≤ 40) = false := by simp; omega
    go_enter Try.func4, Try.ntmps4
    go_wp2_with (first
      | (go_at_call 19; refine (light_any _ _ _ _ _ _ false hd).mono ?_; rintro e w3 ⟨rfl, hb⟩; have HB3 := Lib.hid (step_low HB.out hb); clear hb)
      | (go_at_call 20; refine (awake_any _).mono ?_; rintro e w4 ⟨rfl, hb⟩; have HB4 := Lib.hid (step_low HB3.out hb); clear hb))
    go_ret
    exact ⟨rfl, HB4.out⟩
  · have hd : decide ((n0 : Int) ≤ 40) = true := by simp; omega
    by_cases h1 : 300 < n1
    · have hd1 : decide ((300 : Int) < n1) = true := by simp; omega
      go_enter Try.func4, Try.ntmps4
      go_wp2_with (first
        | (go_at_call 19; refine (light_any _ _ _ _ _ _ true hd).mono ?_; rintro e w3 ⟨rfl, hb⟩; have HB3 := Lib.hid (step_low HB.out hb); clear hb)
        | (go_at_call 20; refine (awake_any _).mono ?_; rintro e w4 ⟨rfl, hb⟩; have HB4 := Lib.hid (step_low HB3.out hb); clear hb))
      go_ret
      exact ⟨rfl, HB4.out⟩
    · have hd1 : decide ((300 : Int) < n1) = false := by simp; omega
      have hd2 : decide ((300 : Int) < n2) = true := by simp; omega
      go_enter Try.func4, Try.ntmps4
      go_wp2_with (first
        | (go_at_call 19; refine (light_any _ _ _ _ _ _ true hd).mono ?_; rintro e w3 ⟨rfl, hb⟩; have HB3 := Lib.hid (step_low HB.out hb); clear hb)
        | (go_at_call 20; refine (awake_any _).mono ?_; rintro e w4 ⟨rfl, hb⟩; have HB4 := Lib.hid (step_low HB3.out hb); clear hb))
      go_ret
      exact ⟨rfl, HB4.out⟩
set_option maxRecDepth 20000 in
set_option maxHeartbeats 16000000 in
theorem walk_no (o s : Int) (a0c : Option Addr) (n0 c0 : Nat) (a1 : Option Addr) (n1 c1 : Nat) (a2 : Option Addr) (n2 c2 : Nat) (w : World) (ls : List Lk) (xs ys : List Nat) (h0 : n0 ≤ 40) (h1 : n1 ≤ 300) (h2 : n2 ≤ 300) (l0 : Lks w w.heap.size (.slice a0c n0 c0) ls) (b1 : Sl w w.heap.size (.slice a1 n1 c1) xs) (b2 : Sl w w.heap.size (.slice a2 n2 c2) ys) (hx : xs.length = n1) (hy : ys.length = n2) (hm : may o s ls = false) :
    Calls Try.prog 4 #[lsaV o s (.slice a0c n0 c0), .slice a1 n1 c1, .slice a2 n2 c2] w fun e w' => e = .returned (.bool true) ∧ Below w.heap.size w w' := by
  have HB := Lib.hid (up1 (Below.refl w.heap.size w) (.cells #[.int .i64 o, .int .i64 s, .slice a0c n0 c0] 47))
  have K := Lib.hid (Blk.new w 47 #[.int .i64 o, .int .i64 s, .slice a0c n0 c0])
  have hd : decide ((n0 : Int) ≤ 40) = true := by simp; omega
  have hd1 : decide ((300 : Int) < n1) = false := by simp; omega
  have hd2 : decide ((300 : Int) < n2) = false := by simp; omega
  have LA := Lib.hid (fun (W : World) (hW : Below w.heap.size w W) => ((l0.below hW (Nat.le_refl _)).more hW.size : Lks W W.heap.size _ _))
  have HX := Lib.hid (fun (W : World) (hW : Below w.heap.size w W) => sl_up b1 hW)
  have HY := Lib.hid (fun (W : World) (hW : Below w.heap.size w W) => sl_up b2 hW)
  have my := fun (W : World) (hW : Below w.heap.size w W) => may_any o s a0c n0 c0 ls W (LA.out W hW)
  have ck := fun (W : World) (hW : Below w.heap.size w W) => check_any o s a0c n0 c0 ls W (LA.out W hW)
  rw [hm] at my ck
  rw [errI_f] at ck
  have pt := fun (W : World) (hW : Below w.heap.size w W) => lput_no o s (.slice a1 n1 c1) xs a0c n0 c0 ls W (HX.out W hW) (by omega) (LA.out W hW) hm
  have sm := fun (A A' : Option Addr) (n n' c c' : Nat) (W : World) (hA : Sl W W.heap.size (.slice A n c) xs) (hB : Sl W W.heap.size (.slice A' n' c') xs) => rsame_any A A' n n' c c' _ _ xs xs W (sl_bts' hA) (sl_bts' hB)
  simp only [decide_true] at sm
  have SM := Lib.hid sm; clear sm
  have MY := Lib.hid my; clear my
  have CK := Lib.hid ck; clear ck
  have PT := Lib.hid pt; clear pt l0 b1 b2 hx hy hm
  go_enter Try.func4, Try.ntmps4
  go_wp2_with (first
    | (go_at_call 19; refine (light_any _ _ _ _ _ _ true hd).mono ?_; rintro e w3 ⟨rfl, hb⟩; have HB3 := Lib.hid (step_low HB.out hb); have K3 := Lib.hid (K.out.below hb K.out.lt); obtain ⟨x0, x1, x2, x3⟩ := blk_cells3 K3.out; clear hb)
    | (go_at_call 21; refine (MY.out _ HB3.out).mono ?_; rintro e w4 ⟨rfl, hb⟩; have HB4 := Lib.hid (step_low HB3.out hb); have K4 := Lib.hid (K3.out.below hb K3.out.lt); obtain ⟨x0, x1, x2, x3⟩ := blk_cells3 K4.out; clear hb)
    | (go_at_call 22; refine (PT.out _ HB4.out).mono ?_; rintro e w5 ⟨v5, rfl, hs5, hb⟩; obtain ⟨A5, n5, c5, rfl, _⟩ := id hs5; have HB5 := Lib.hid (step_low HB4.out hb); have K5 := Lib.hid (K4.out.below hb K4.out.lt); obtain ⟨x0, x1, x2, x3⟩ := blk_cells3 K5.out; have HS5 := Lib.hid hs5; have HM0 := Lib.hid (rfl : (0 : Nat) = 0); clear hb hs5)
    | (have HM1 := HM0; go_at_call 23; refine (CK.out _ HB5.out).mono ?_; rintro e w6 ⟨rfl, hb⟩; have HB6 := Lib.hid (step_low HB5.out hb); have K6 := Lib.hid (K5.out.below hb K5.out.lt); obtain ⟨x0, x1, x2, x3⟩ := blk_cells3 K6.out; have HS6 := Lib.hid (sl_up HS5.out hb); clear hb HM0 HM1)
    | (go_at_call 23; refine (CK.out _ HB6.out).mono ?_; rintro e w7 ⟨rfl, hb⟩; have HB7 := Lib.hid (step_low HB6.out hb); have K7 := Lib.hid (K6.out.below hb K6.out.lt); obtain ⟨x0, x1, x2, x3⟩ := blk_cells3 K7.out; have HS7 := Lib.hid (sl_up HS6.out hb); clear hb)
    | (go_at_call 24; refine (SM.out A5 a1 n5 n1 c5 c1 _ HS7.out (HX.out _ HB7.out)).mono ?_; rintro e w8 ⟨rfl, m8, rfl⟩; have HB8 := Lib.hid (below_drewN HB7.out m8))
    | (go_at_call 20; refine (awake_any _).mono ?_; rintro e w9 ⟨rfl, hb⟩; have HB9 := Lib.hid (step_low HB8.out hb); clear hb))
  go_ret
  exact ⟨rfl, HB9.out⟩
set_option maxRecDepth 20000 in
set_option maxHeartbeats 16000000 in
theorem walk_yes (o s : Int) (a0c : Option Addr) (n0 c0 : Nat) (a1 : Option Addr) (n1 c1 : Nat) (a2 : Option Addr) (n2 c2 : Nat) (w : World) (ls : List Lk) (xs ys : List Nat) (h0 : n0 ≤ 40) (h1 : n1 ≤ 300) (h2 : n2 ≤ 300) (l0 : Lks w w.heap.size (.slice a0c n0 c0) ls) (b1 : Sl w w.heap.size (.slice a1 n1 c1) xs) (b2 : Sl w w.heap.size (.slice a2 n2 c2) ys) (hx : xs.length = n1) (hy : ys.length = n2) (hm : may o s ls = true) :
    Calls Try.prog 4 #[lsaV o s (.slice a0c n0 c0), .slice a1 n1 c1, .slice a2 n2 c2] w fun e w' => e = .returned (.bool true) ∧ Below w.heap.size w w' := by
  have HB := Lib.hid (up1 (Below.refl w.heap.size w) (.cells #[.int .i64 o, .int .i64 s, .slice a0c n0 c0] 47))
  have K := Lib.hid (Blk.new w 47 #[.int .i64 o, .int .i64 s, .slice a0c n0 c0])
  have hd : decide ((n0 : Int) ≤ 40) = true := by simp; omega
  have hd1 : decide ((300 : Int) < n1) = false := by simp; omega
  have hd2 : decide ((300 : Int) < n2) = false := by simp; omega
  have LA := Lib.hid (fun (W : World) (hW : Below w.heap.size w W) => ((l0.below hW (Nat.le_refl _)).more hW.size : Lks W W.heap.size _ _))
  have HX := Lib.hid (fun (W : World) (hW : Below w.heap.size w W) => sl_up b1 hW)
  have HY := Lib.hid (fun (W : World) (hW : Below w.heap.size w W) => sl_up b2 hW)
  have my := fun (W : World) (hW : Below w.heap.size w W) => may_any o s a0c n0 c0 ls W (LA.out W hW)
  have ck := fun (W : World) (hW : Below w.heap.size w W) => check_any o s a0c n0 c0 ls W (LA.out W hW)
  rw [hm] at my ck
  rw [errI_t] at ck
  obtain ⟨_, _, hn16, _⟩ := may_iff.1 hm
  have hlb := bytesOf_length o s ls
  have hlb100 : (bytesOf o s ls).length ≤ 100 := by omega
  obtain ⟨e1, e2, e3⟩ := read_back o s ls ys hm
  have pt := fun (W : World) (hW : Below w.heap.size w W) => lput_yes o s (.slice a1 n1 c1) xs a0c n0 c0 ls W (HX.out W hW) (by omega) (LA.out W hW) hm
  have rp := fun (W : World) (hW : Below w.heap.size w W) => rput_any o s a0c n0 c0 ls W (LA.out W hW) hm
  have hbl := bytesOf_lt o s ls
  clear hlb hn16
  generalize bytesOf o s ls = bs at *
  have rd := fun (v : Value) (W : World) (hv : Sl W W.heap.size v (bs ++ ys)) => read_any v (bs ++ ys) W hv (by rw [List.length_append]; omega)
  have lr := fun (g : Nat) (W : World) (hR : Rdr W g (bs ++ ys, true)) => lread_any g (bs ++ ys, true) W hR
  have el : lsaOf (bs ++ ys, true) = (o, s, ls) := by rw [lsaOf, if_pos e3, e2]
  rw [e1, e3, el] at lr
  have lf := fun (g : Nat) (W : World) (hR : Rdr W g (ys, true)) => left_any g (ys, true) W hR
  simp only [hy] at lf
  have rs := fun (v : Value) (W : World) (hW : Below w.heap.size w W) (hv : Lks W W.heap.size v ls) => rsame_lsa o s o s v (.slice a0c n0 c0) ls ls W hv (LA.out W hW)
  rw [sameB_self] at rs
  have sm := fun (A A' : Option Addr) (n n' c c' : Nat) (W : World) (hA : Sl W W.heap.size (.slice A n c) (xs ++ bs)) (hB : Sl W W.heap.size (.slice A' n' c') (xs ++ bs)) => rsame_any A A' n n' c c' _ _ (xs ++ bs) (xs ++ bs) W (sl_bts' hA) (sl_bts' hB)
  simp only [decide_true] at sm
  obtain ⟨i0, hi, hz0, hz1, hz2⟩ := info_parts Try.info5
  have HI := Lib.hid hi; clear hi
  have HZ0 := Lib.hid hz0; clear hz0
  have HZ1 := Lib.hid hz1; clear hz1
  have HZ2 := Lib.hid hz2; clear hz2
  have hbz : (n2 : Int) == (n2 : Int) := by simp
  have HXL := Lib.hid hx; clear hx
  have HYL := Lib.hid hy; clear hy
  have HBLT := Lib.hid hbl; clear hbl
  have SM := Lib.hid sm; clear sm
  have MY := Lib.hid my; clear my
  have CK := Lib.hid ck; clear ck
  have RP := Lib.hid rp; clear rp
  have RD := Lib.hid rd; clear rd
  have LR := Lib.hid lr; clear lr
  have LF := Lib.hid lf; clear lf
  have RS := Lib.hid rs; clear rs
  have PT := Lib.hid pt; clear pt l0 b1 b2 hm e1 e2 e3 el
  obtain ⟨bn, hbn⟩ : ∃ bn, bn = bs.length := ⟨_, rfl⟩
  rw [← hbn] at hlb100
  have HBN := Lib.hid hbn; clear hbn
  go_enter Try.func4, Try.ntmps4
  go_wp2_with (first
    | (go_at_call 19; refine (light_any _ _ _ _ _ _ true hd).mono ?_; rintro e w3 ⟨rfl, hb⟩; have HB3 := Lib.hid (step_low HB.out hb); have K3 := Lib.hid (K.out.below hb K.out.lt); obtain ⟨x0, x1, x2, x3⟩ := blk_cells3 K3.out; clear hb)
    | (go_at_call 21; refine (MY.out _ HB3.out).mono ?_; rintro e w4 ⟨rfl, hb⟩; have HB4 := Lib.hid (step_low HB3.out hb); have K4 := Lib.hid (K3.out.below hb K3.out.lt); obtain ⟨x0, x1, x2, x3⟩ := blk_cells3 K4.out; clear hb)
    | (go_at_call 22; refine (PT.out _ HB4.out).mono ?_; rintro e w5 ⟨v5, rfl, hs5, hb⟩; obtain ⟨A5, n5, c5, rfl, _⟩ := id hs5; have HB5 := Lib.hid (step_low HB4.out hb); have K5 := Lib.hid (K4.out.below hb K4.out.lt); obtain ⟨x0, x1, x2, x3⟩ := blk_cells3 K5.out; have HS5 := Lib.hid hs5; have HM0 := Lib.hid (rfl : (0 : Nat) = 0); clear hb hs5)
    | (have HM1 := HM0; go_at_call 23; refine (CK.out _ HB5.out).mono ?_; rintro e w6 ⟨rfl, hb⟩; have HB6 := Lib.hid (step_low HB5.out hb); have K6 := Lib.hid (K5.out.below hb K5.out.lt); obtain ⟨x0, x1, x2, x3⟩ := blk_cells3 K6.out; have HS6 := Lib.hid (sl_up HS5.out hb); clear hb HM0 HM1)
    | (go_at_call 23; refine (CK.out _ HB6.out).mono ?_; rintro e w7 ⟨rfl, hb⟩; have HB7 := Lib.hid (step_low HB6.out hb); have K7 := Lib.hid (K6.out.below hb K6.out.lt); obtain ⟨x0, x1, x2, x3⟩ := blk_cells3 K7.out; have HS7 := Lib.hid (sl_up HS6.out hb); clear hb)
    | (go_at_call 25; refine (RP.out _ HB7.out).mono ?_; rintro e w8 ⟨v8, rfl, hs8, hb⟩; have HB8 := Lib.hid (step_low HB7.out hb); have K8 := Lib.hid (K7.out.below hb K7.out.lt); obtain ⟨x0, x1, x2, x3⟩ := blk_cells3 K8.out; obtain ⟨A8, n8, c8, rfl, ht8, _⟩ := id hs8; have hn8 : n8 = bn := (by rw [← ht8.1, HBN.out]); subst hn8; have HS8 := Lib.hid hs8; have HSP := Lib.hid (sl_up HS7.out hb); have HT8 := Lib.hid ht8.reads; clear hb hs8 ht8)
    | (at_builtin; (refine wpList_append_any _ rfl (.tmp 55) (.tmp 56) 22 rfl w8.heap.size 5 i0 (.int .u8 0) 1 1 Try.underlying22 HI.out HZ0.out HZ1.out HZ2.out rfl (by decide) (.slice (some ⟨w8.heap.size, 0, none⟩) 0 0) 0 [] rfl (own_lit0 w8 w8.heap.size w8.heap.size rfl (Nat.le_refl _)) _ A8 n8 c8 (vals bs) rfl (HT8.out.alloc (Nat.le_refl _) _) (vals_one _) (by unfold maxLen; omega) (by omega) (by simp) ?_; intro v9 w9 hown9 hg9 _; rewrite [Nat.zero_add, List.nil_append] at hown9; obtain ⟨A9, c9, rfl⟩ := Lsa.own_form hown9; have HO9 := Lib.hid (hown9); have LQ9 := Lib.hid (((Below.refl w8.heap.size w8).alloc (Nat.le_refl _) (.cells #[] 5)).grown hg9 (by simp) (fun q hq => by cases hq; exact Nat.le_refl _)); have HB9 := Lib.hid (step_low HB8.out LQ9.out); have hz9 := LQ9.out.size; clear hown9 hg9))
    | (at_builtin; (refine wpList_append_any _ rfl (.tmp 57) (.tmp 58) 22 rfl w8.heap.size 5 i0 (.int .u8 0) 1 1 Try.underlying22 HI.out HZ0.out HZ1.out HZ2.out rfl (by decide) (.slice A9 n8 c9) n8 (vals bs) rfl HO9.out _ a2 n2 c2 (vals ys) rfl (sl_bts' (HY.out _ HB9.out)).reads (vals_one _) (by unfold maxLen; omega) (by omega) hz9 ?_; intro v10 w10 hown10 hg10 _; obtain ⟨A10, c10, rfl⟩ := Lsa.own_form hown10; have LQ10 := Lib.hid (LQ9.out.grown hg10 hz9 (fun q hq => (HO9.out.lt q hq).1)); have HS10 := Lib.hid (sl_own (own_fix (n' := n8 + n2) (xs := bs ++ ys) hown10 (vals_append _ _).symm rfl rfl) (app_lt HBLT.out (HY.out _ HB9.out).lt) (by omega)); have HB10 := Lib.hid (step_low HB8.out LQ10.out); clear hown10 hg10))
    | (go_at_call 26; refine (RD.out _ _ HS10.out).mono ?_; rintro e w11 ⟨g, rfl, hg, hr11, hb⟩; have HR11 := Lib.hid hr11; have LQ11 := Lib.hid (LQ10.out.trans (hb.mono LQ10.out.size)); have hg8 := Nat.le_trans LQ10.out.size hg; clear hr11 hb)
    | (go_at_call 27; refine (LR.out _ _ HR11.out).mono ?_; rintro e w12 ⟨v12, rfl, hl12, hr12, hg12⟩; obtain ⟨A12, n12, c12, rfl, _⟩ := id hl12; have HL12 := Lib.hid (hl12 : Lks w12 w12.heap.size (.slice A12 n12 c12) ls); have HR12 := Lib.hid hr12; have hgl := hr12.size; have LQ12 := Lib.hid (LQ11.out.grown hg12 LQ11.out.size (fun q hq => by cases hq; exact hg8)); have HB12 := Lib.hid (step_low HB8.out LQ12.out); have KX := Lib.hid (Blk.new w12 47 #[.int .i64 o, .int .i64 s, .slice A12 n12 c12]); clear hl12 hr12 hg12)
    | (at_builtin; (refine wpList_append_any _ rfl (.tmp 67) (.tmp 68) 22 rfl (w12.heap.size + 1) 5 i0 (.int .u8 0) 1 1 Try.underlying22 HI.out HZ0.out HZ1.out HZ2.out rfl (by decide) (.slice (some ⟨w12.heap.size + 1, 0, none⟩) 0 0) 0 [] rfl (own_lit0 (w12.alloc (.cells #[.int .i64 o, .int .i64 s, .slice A12 n12 c12] 47)) (w12.heap.size + 1) (w12.heap.size + 1) (by simp) (by simp)) _ a1 n1 c1 (vals xs) rfl (sl_bts' (HX.out _ (up1 (up1 HB12.out (.cells #[.int .i64 o, .int .i64 s, .slice A12 n12 c12] 47)) (.cells #[] 5)))).reads (vals_one _) (by unfold maxLen; omega) (by omega) (by simp) ?_; intro v13 w13 hown13 hg13 _; rewrite [Nat.zero_add, List.nil_append] at hown13; obtain ⟨A13, c13, rfl⟩ := Lsa.own_form hown13; have HO13 := Lib.hid (hown13); have LM13 := Lib.hid ((((Below.refl w12.heap.size w12).alloc (Nat.le_refl _) (.cells #[.int .i64 o, .int .i64 s, .slice A12 n12 c12] 47)).alloc (by simp) (.cells #[] 5)).grown hg13 (by simp; omega) (fun q hq => by cases hq; exact Nat.le_succ _)); have KX13 := Lib.hid ((KX.out.alloc (.cells #[] 5)).grown hg13 (fun e => by have := Option.some.inj e; simp at this)); have hz13 := KX13.out.lt; have LQ13 := Lib.hid (step_low LQ12.out LM13.out); clear hown13 hg13))
    | (at_builtin; (refine wpList_append_any _ rfl (.tmp 69) (.tmp 70) 22 rfl (w12.heap.size + 1) 5 i0 (.int .u8 0) 1 1 Try.underlying22 HI.out HZ0.out HZ1.out HZ2.out rfl (by decide) (.slice A13 n1 c13) n1 (vals xs) rfl HO13.out _ A8 n8 c8 (vals bs) rfl (sl_bts' (sl_up HS8.out LQ13.out)).reads (vals_one _) (by unfold maxLen; omega) (by omega) hz13 ?_; intro v14 w14 hown14 hg14 _; obtain ⟨A14, c14, rfl⟩ := Lsa.own_form hown14; have LM14 := Lib.hid (LM13.out.grown hg14 LM13.out.size (fun q hq => Nat.le_of_succ_le (HO13.out.lt q hq).1)); have KX14 := Lib.hid (KX13.out.grown hg14 (fun e => Nat.lt_irrefl _ (HO13.out.lt _ e.symm).1)); have HS14 := Lib.hid (sl_own (own_fix (n' := n1 + n8) (xs := xs ++ bs) hown14 (vals_append _ _).symm rfl rfl) (app_lt (HX.out _ HB12.out).lt HBLT.out) (by omega)); have LQ14 := Lib.hid (step_low LQ12.out LM14.out); have HB14 := Lib.hid (step_low HB8.out LQ14.out); have K14 := Lib.hid (K8.out.below LQ14.out K8.out.lt); clear hown14 hg14))
    | (go_at_call 24; refine (SM.out A5 A14 n5 (n1 + n8) c5 c14 w14 (sl_up HSP.out LQ14.out) HS14.out).mono ?_; rintro e w15 ⟨rfl, m15, hw15⟩; have LM15 := Lib.hid (show Below w12.heap.size w12 w15 from hw15 ▸ below_drewN LM14.out m15); have HB15 := Lib.hid (show Below w.heap.size w w15 from hw15 ▸ below_drewN HB14.out m15); have KX15 := Lib.hid (show Blk w15 w12.heap.size 47 #[.int .i64 o, .int .i64 s, .slice A12 n12 c12] from hw15 ▸ KX14.out); have K15 := Lib.hid (show Blk w15 w.heap.size 47 #[.int .i64 o, .int .i64 s, .slice a0c n0 c0] from hw15 ▸ K14.out); obtain ⟨x0, x1, x2, x3⟩ := blk_cells3 K15.out; obtain ⟨y0, y1, y2, y3⟩ := blk_cells3 KX15.out; clear hw15)
    | (go_at_call 28; refine (RS.out _ _ HB15.out ((HL12.out.below LM15.out (Nat.le_refl _)).more LM15.out.size)).mono ?_; rintro e w16 ⟨rfl, hb⟩; have HB16 := Lib.hid (step_low HB15.out hb); have HR16 := Lib.hid (HR12.out.below (step_low LM15.out hb) hgl); clear hb)
    | (go_at_call 29; refine (LF.out _ _ HR16.out).mono ?_; rintro e w' ⟨rfl, rfl⟩)
    | (go_at_call 20; refine (awake_any _).mono ?_; rintro e w17 ⟨rfl, hb⟩; have HB17 := Lib.hid (step_low HB16.out hb); clear hb))
  go_ret
  exact ⟨rfl, HB17.out⟩
theorem walk (a0a a0b : Int) (a0c : Option Addr) (len0c cap0c : Nat) (a1 : Option Addr) (len1 cap1 : Nat) (z1 : List Int) (a2 : Option Addr) (len2 cap2 : Nat) (z2 : List Int) (w : World) (w0a : (Lit.int .i64 a0a).wf = true) (w0b : (Lit.int .i64 a0b).wf = true) (w0c : IsRecs w a0c len0c cap0c 2 (fun _ v => NumOf .i64 v)) (w1 : IsRow .u8 w a1 len1 cap1 z1) (w2 : IsRow .u8 w a2 len2 cap2 z2) :
    Calls Try.prog 4 #[lsaV a0a a0b (.slice a0c len0c cap0c), .slice a1 len1 cap1, .slice a2 len2 cap2] w fun e w' => e = .returned (.bool true) ∧ Below w.heap.size w w' := by
  by_cases h : 40 < len0c ∨ 300 < len1 ∨ 300 < len2
  · exact walk_long a0a a0b a0c len0c cap0c a1 len1 cap1 a2 len2 cap2 w h
  · obtain ⟨ls, l0⟩ := lks_in w0c
    obtain ⟨xs, hx, hxl⟩ := sl_of_row w1 (by omega)
    obtain ⟨ys, hy, hyl⟩ := sl_of_row w2 (by omega)
    cases hm : may a0a a0b ls
    · exact walk_no a0a a0b a0c len0c cap0c a1 len1 cap1 a2 len2 cap2 w ls xs ys (by omega) (by omega) (by omega) l0 hx hy hxl hyl hm
    · exact walk_yes a0a a0b a0c len0c cap0c a1 len1 cap1 a2 len2 cap2 w ls xs ys (by omega) (by omega) (by omega) l0 hx hy hxl hyl hm
open Go.ChangeShapes Go.WideShapes Go.ChangeAt Go.RowKit
theorem own : ownKnob Try.prog.godebug = none := by kernel_rfl
theorem laidOut : laidOutB Try.prog = true := by kernel_rfl
/-! the step from the walk to the row -/
set_option maxRecDepth 100000 in
theorem lifted (os : Os) (started : os.Started) (H : Type) (enc : TypeId × Value → H) :
    ReturnsInHanded {} Try.checked os 4 .any (Rows.lsaPutsSpec.pre6 enc Try.prog Try.f4 Rows.lsaPutsRow.domain false) (Rows.lsaPutsSpec.post enc Try.prog Try.f4 false true false false) := by
  refine returnsInHanded_of_change (C := Try.checked) own started (by kernel_rfl) Try.func4
    (ChangeSpec.witness6 (enc := enc) (C := Try.checked) false ⟨#[], #[.agg #[.int .i64 0, .int .i64 0, .slice none 0 0], .slice none 0 0, .slice none 0 0], []⟩ 8 (by kernel_rfl) (by kernel_rfl) (by kernel_rfl) (by kernel_rfl)) ?_
  intro W base args ds gs before hval0 hW hcnd _
  have hval : ∀ (j : Nat) t v, Try.f4.params[j]? = some t → args[j]? = some v → Value.okWide Try.prog W .any base t v := hval0
  have hW' := hW
  obtain ⟨p, q, hA0, hV, rfl, hfz, hnd⟩ := hW
  have hA : DataW.TrodAll enc Try.prog W 0 (fun _ => true) true Try.f4.params.toList args.toList ds p := hA0
  rw [Try.params4] at hA hval
  obtain ⟨v0, vs0, d0, ds0, p0, q0, hargs, rfl, rfl, h0, r0⟩ := trodAll_cons hA
  obtain ⟨v1, vs1, d1, ds1, p1, q1, rfl, rfl, rfl, h1, r1⟩ := trodAll_cons r0
  obtain ⟨v2, vs2, d2, ds2, p2, q2, rfl, rfl, rfl, h2, r2⟩ := trodAll_cons r1
  obtain ⟨rfl, rfl, rfl⟩ := trodAll_nil r2
  obtain rfl : args = #[v0, v1, v2] := by cases args; simp_all
  obtain ⟨rfl, rfl⟩ := trodVars_none hV
  have k0 := h0
  have lt0 : ∀ x ∈ p0, x.block < W.heap.size := by obtain ⟨m, hm⟩ := k0; exact DataW.trod_lt m _ _ _ hm
  obtain ⟨u0a, u0b, u0c, _, _, _, _, rfl, _, _, g0a, g0b, g0c⟩ := Go.Joins.open_agg3 Try.underlying47 (by kernel_rfl) (by kernel_rfl) (hval 0 47 v0 rfl rfl) h0
  obtain ⟨a0a, rfl, w0a⟩ := open_num_at Try.underlying3 g0a
  obtain ⟨a0b, rfl, w0b⟩ := open_num_at Try.underlying3 g0b
  obtain ⟨a0c, len0c, cap0c, rfl, w0c⟩ : ∃ a l c, u0c = .slice a l c ∧ IsRecs W a l c 2 (fun _ v => NumOf .i64 v) := by
    rcases open_slice_fields Try.underlying45 Try.underlying94 (by kernel_rfl) (by kernel_rfl) g0c with ⟨hcs, _⟩ | ⟨x, l, c, m, D, Pl, hcs, _, hl, hm, hmm, _, hh⟩
    · injection hcs with hcs _
      exact ⟨none, 0, 0, hcs, .inl ⟨rfl, rfl, rfl⟩⟩
    · injection hcs with hcs _
      refine ⟨some x, l, c, hcs, .inr ⟨_, rfl, hl, hm, fun i hi j hj => ?_⟩⟩
      obtain ⟨ys, n, _, _, _, hg⟩ := hh i (by rw [hmm, if_pos rfl]; exact hi)
      match j, hj with
      | 0, _ =>
        obtain ⟨v, y, hc, _, ht⟩ := hg 0 _ rfl
        exact ⟨v, hc, open_num_at Try.underlying3 ht⟩
      | 1, _ =>
        obtain ⟨v, y, hc, _, ht⟩ := hg 1 _ rfl
        exact ⟨v, hc, open_num_at Try.underlying3 ht⟩
  obtain ⟨a1, len1, cap1, rfl⟩ := okWide_slice Try.underlying22 (hval 1 22 v1 rfl rfl)
  have k1 := h1
  have lt1 : ∀ x ∈ p1, x.block < W.heap.size := by obtain ⟨m, hm⟩ := k1; exact DataW.trod_lt m _ _ _ hm
  obtain ⟨z1, w1⟩ : ∃ zs, IsRow .u8 W a1 len1 cap1 zs := by
    obtain ⟨fuel, hf⟩ := h1
    rcases open_ints Try.underlying22 Try.underlying5 (by kernel_rfl) hf with ⟨hcs, _⟩ | ⟨x, l, c, zs, hcs, _, hl, hm, hz, _, hcell, hwz⟩
    · simp [Value.cells] at hcs
      obtain ⟨rfl, rfl, rfl⟩ := hcs
      exact ⟨[], .inl ⟨rfl, rfl, rfl, rfl⟩⟩
    · simp [Value.cells] at hcs
      obtain ⟨rfl, rfl, rfl⟩ := hcs
      exact ⟨zs, .inr ⟨_, rfl, hl, hm, by simpa using hz, hcell, hwz⟩⟩
  obtain ⟨a2, len2, cap2, rfl⟩ := okWide_slice Try.underlying22 (hval 2 22 v2 rfl rfl)
  have k2 := h2
  have lt2 : ∀ x ∈ p2, x.block < W.heap.size := by obtain ⟨m, hm⟩ := k2; exact DataW.trod_lt m _ _ _ hm
  obtain ⟨z2, w2⟩ : ∃ zs, IsRow .u8 W a2 len2 cap2 zs := by
    obtain ⟨fuel, hf⟩ := h2
    rcases open_ints Try.underlying22 Try.underlying5 (by kernel_rfl) hf with ⟨hcs, _⟩ | ⟨x, l, c, zs, hcs, _, hl, hm, hz, _, hcell, hwz⟩
    · simp [Value.cells] at hcs
      obtain ⟨rfl, rfl, rfl⟩ := hcs
      exact ⟨[], .inl ⟨rfl, rfl, rfl, rfl⟩⟩
    · simp [Value.cells] at hcs
      obtain ⟨rfl, rfl, rfl⟩ := hcs
      exact ⟨zs, .inr ⟨_, rfl, hl, hm, by simpa using hz, hcell, hwz⟩⟩
  clear hA0 hval0
  refine (walk a0a a0b a0c len0c cap0c a1 len1 cap1 z1 a2 len2 cap2 z2 W w0a w0b w0c w1 w2).mono fun e W' ⟨he, bel⟩ => ?_
  subst he
  exact ⟨_, rfl, _, _, _, [], _, [], hW', trodAll_mk1 (shut_bool Try.underlying4 _), (trodAll_cons_mk (Below.trod laidOut (by kernel_rfl) (of_decide_eq_true (by kernel_rfl)) k0 bel lt0) (trodAll_cons_mk (Below.trod laidOut (by kernel_rfl) (of_decide_eq_true (by kernel_rfl)) k1 bel lt1) (trodAll_cons_mk (Below.trod laidOut (by kernel_rfl) (of_decide_eq_true (by kernel_rfl)) k2 bel lt2) trodAll_mk0))), rfl, bel.frame _, fun h => by cases h⟩

theorem over : Rows.lsaPutsRow.holds Try.pinned (OpenSpec.ofChange Rows.lsaPutsSpec) :=
  OpenClaim.holds_of_wide 4 Try.f4 rfl rfl rfl rfl rfl rfl rfl ⟨rfl, rfl, rfl, rfl, rfl⟩ rfl rfl rfl rfl rfl (by kernel_rfl) Try.func4 (by kernel_rfl)
    (of_decide_eq_true (by kernel_rfl)) (by unfold Func.isWrapper; first | (rw [if_pos (by decide +kernel)]; kernel_rfl) | (rw [if_neg (by decide +kernel)]; exact ⟨rfl, rfl⟩))
    (fun os started H enc _ => lifted os started H enc)

/-- the statement -/
theorem proved : Rows.LsaPutsSaid := over
end Go.Proofs.Ytkchocafnidfiaa.lsaPuts
