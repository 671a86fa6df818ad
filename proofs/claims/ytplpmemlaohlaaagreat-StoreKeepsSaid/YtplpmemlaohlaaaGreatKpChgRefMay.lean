/- Which changes there may be, and which are alike, in the reference's words (layer 10): the contracts of waymarkref10.Same, May. -/
import Derived.Test.YtplpmemlaohlaaaGreatKpChgCheck
namespace Go.Proofs.YtplpmemlaohlaaaGreat.Chg
open Go.RowKit Mem Oct Lsa
set_option linter.unusedVariables false
set_option linter.unusedSimpArgs false
theorem win_split (n hi:Int):win n hi=(decide (1≤n) && decide (n≤hi)):=rfl
set_option maxRecDepth 20000 in
set_option maxHeartbeats 8000000 in
theorem rmay_c (c:Ch) (v:Value) (w:World) (h:Lks w w.heap.size v c.ls) :
  Calls Tryz.prog 59 #[chV c v] w fun e w'=>e=.returned (.bool (mayC c))∧Below w.heap.size w w':=by
 obtain ⟨k,o,s,ls,n,f⟩:=c
 obtain ⟨A,m,q,rfl,_⟩:=id h
 simp only [chV] at h ⊢
 have hb:=low1 (Below.refl w.heap.size w) (.cells #[.int .i64 k,.int .i64 o,.int .i64 s,.slice A m q,.int .i64 n,.int .i64 f] 82)
 have sm:=rsame_lsa o s 0 0 (.slice A m q) (.slice none 0 0) ls [] _ (h.up hb) (lks_nil _ _)
 have my:=fun (W:World) (hW:Below w.heap.size w W)=>may_any o s A m q ls W (h.up hW)
 have K0:=Lib.hid (Blk.new w 82 #[.int .i64 k,.int .i64 o,.int .i64 s,.slice A m q,.int .i64 n,.int .i64 f])
 have HB:=Lib.hid hb;clear hb h
 have hsb:sameB o s ls 0 0 []=noL o s ls:=rfl
 rw [hsb] at sm
 clear hsb
 by_cases e1:k=1
 ·subst e1
  rw [mayC_1]
  generalize noL o s ls=sb at *
  have SM:=Lib.hid sm;clear sm
  cases hm:may o s ls
  ·rw [hm] at my
   have MY:=Lib.hid my;clear my
   go_enter Tryz.func59,Tryz.ntmps59
   go_wp2_with (first
    | (go_at_call 64;refine (SM.out).mono ?_;rintro e w2 ⟨rfl,hb⟩;have HB2:=Lib.hid (low_low HB.out hb);have K2:=Lib.hid (K0.out.below hb K0.out.lt);obtain ⟨x0,x1,x2,x3,x4,x5,x6⟩:=blk_cells6 K2.out;clear hb)
    | (go_at_call 111;refine (MY.out _ HB2.out).mono ?_;rintro e w3 ⟨rfl,hb⟩;have HB3:=Lib.hid (low_low HB2.out hb);obtain ⟨y0,y1,y2,y3,y4,y5,y6⟩:=blk_cells6 (K2.out.below hb K2.out.lt);clear hb))
   go_ret
   exact ⟨ret_bool (by simp),HB3.out⟩
  rw [hm] at my
  have MY:=Lib.hid my;clear my
  cases h1:(n == 0)
  ·go_enter Tryz.func59,Tryz.ntmps59
   go_wp2_with (first
    | (go_at_call 64;refine (SM.out).mono ?_;rintro e w2 ⟨rfl,hb⟩;have HB2:=Lib.hid (low_low HB.out hb);have K2:=Lib.hid (K0.out.below hb K0.out.lt);obtain ⟨x0,x1,x2,x3,x4,x5,x6⟩:=blk_cells6 K2.out;clear hb)
    | (go_at_call 111;refine (MY.out _ HB2.out).mono ?_;rintro e w3 ⟨rfl,hb⟩;have HB3:=Lib.hid (low_low HB2.out hb);obtain ⟨y0,y1,y2,y3,y4,y5,y6⟩:=blk_cells6 (K2.out.below hb K2.out.lt);clear hb))
   go_ret
   exact ⟨ret_bool (by simp),HB3.out⟩
  ·go_enter Tryz.func59,Tryz.ntmps59
   go_wp2_with (first
    | (go_at_call 64;refine (SM.out).mono ?_;rintro e w2 ⟨rfl,hb⟩;have HB2:=Lib.hid (low_low HB.out hb);have K2:=Lib.hid (K0.out.below hb K0.out.lt);obtain ⟨x0,x1,x2,x3,x4,x5,x6⟩:=blk_cells6 K2.out;clear hb)
    | (go_at_call 111;refine (MY.out _ HB2.out).mono ?_;rintro e w3 ⟨rfl,hb⟩;have HB3:=Lib.hid (low_low HB2.out hb);obtain ⟨y0,y1,y2,y3,y4,y5,y6⟩:=blk_cells6 (K2.out.below hb K2.out.lt);clear hb))
   go_ret
   exact ⟨ret_bool (by simp),HB3.out⟩
 have d1:(k == 1)=false:=by rw [beq_eq_false_iff_ne];exact e1
 clear my
 by_cases e2:k=2
 ·subst e2
  rw [mayC_2,win_split]
  generalize noL o s ls=sb at *
  cases sb
  ·have SM:=Lib.hid sm;clear sm
   go_enter Tryz.func59,Tryz.ntmps59
   go_wp2_with (go_at_call 64;refine (SM.out).mono ?_;rintro e w2 ⟨rfl,hb⟩;have HB2:=Lib.hid (low_low HB.out hb);have K2:=Lib.hid (K0.out.below hb K0.out.lt);obtain ⟨x0,x1,x2,x3,x4,x5,x6⟩:=blk_cells6 K2.out;clear hb)
   go_ret
   exact ⟨ret_bool (by simp),HB2.out⟩
  have SM:=Lib.hid sm;clear sm
  cases h1:decide (1≤n) <;> cases h2:decide (n≤4611686018427387904) <;> cases h3:(f == 0)
  all_goals
   go_enter Tryz.func59,Tryz.ntmps59
   go_wp2_with (go_at_call 64;refine (SM.out).mono ?_;rintro e w2 ⟨rfl,hb⟩;have HB2:=Lib.hid (low_low HB.out hb);have K2:=Lib.hid (K0.out.below hb K0.out.lt);obtain ⟨x0,x1,x2,x3,x4,x5,x6⟩:=blk_cells6 K2.out;clear hb)
   go_ret
   exact ⟨ret_bool (by simp [*]),HB2.out⟩
 have d2:(k == 2)=false:=by rw [beq_eq_false_iff_ne];exact e2
 by_cases e3:k=3
 ·subst e3
  rw [mayC_3,win_split]
  generalize noL o s ls=sb at *
  cases sb
  ·have SM:=Lib.hid sm;clear sm
   go_enter Tryz.func59,Tryz.ntmps59
   go_wp2_with (go_at_call 64;refine (SM.out).mono ?_;rintro e w2 ⟨rfl,hb⟩;have HB2:=Lib.hid (low_low HB.out hb);have K2:=Lib.hid (K0.out.below hb K0.out.lt);obtain ⟨x0,x1,x2,x3,x4,x5,x6⟩:=blk_cells6 K2.out;clear hb)
   go_ret
   exact ⟨ret_bool (by simp),HB2.out⟩
  have SM:=Lib.hid sm;clear sm
  cases h1:decide (1≤n) <;> cases h2:decide (n≤1073741824) <;> cases h3:(f == 0)
  all_goals
   go_enter Tryz.func59,Tryz.ntmps59
   go_wp2_with (go_at_call 64;refine (SM.out).mono ?_;rintro e w2 ⟨rfl,hb⟩;have HB2:=Lib.hid (low_low HB.out hb);have K2:=Lib.hid (K0.out.below hb K0.out.lt);obtain ⟨x0,x1,x2,x3,x4,x5,x6⟩:=blk_cells6 K2.out;clear hb)
   go_ret
   exact ⟨ret_bool (by simp [*]),HB2.out⟩
 have d3:(k == 3)=false:=by rw [beq_eq_false_iff_ne];exact e3
 by_cases e4:k=4
 ·subst e4
  rw [mayC_4,win_split,win_split]
  generalize noL o s ls=sb at *
  cases sb
  ·have SM:=Lib.hid sm;clear sm
   go_enter Tryz.func59,Tryz.ntmps59
   go_wp2_with (go_at_call 64;refine (SM.out).mono ?_;rintro e w2 ⟨rfl,hb⟩;have HB2:=Lib.hid (low_low HB.out hb);have K2:=Lib.hid (K0.out.below hb K0.out.lt);obtain ⟨x0,x1,x2,x3,x4,x5,x6⟩:=blk_cells6 K2.out;clear hb)
   go_ret
   exact ⟨ret_bool (by simp),HB2.out⟩
  have SM:=Lib.hid sm;clear sm
  cases h1:decide (1≤n) <;> cases h2:decide (n≤1073741824) <;> cases h3:decide (1≤f) <;> cases h4:decide (f≤64)
  all_goals
   go_enter Tryz.func59,Tryz.ntmps59
   go_wp2_with (go_at_call 64;refine (SM.out).mono ?_;rintro e w2 ⟨rfl,hb⟩;have HB2:=Lib.hid (low_low HB.out hb);have K2:=Lib.hid (K0.out.below hb K0.out.lt);obtain ⟨x0,x1,x2,x3,x4,x5,x6⟩:=blk_cells6 K2.out;clear hb)
   go_ret
   exact ⟨ret_bool (by simp [*]),HB2.out⟩
 have d4:(k == 4)=false:=by rw [beq_eq_false_iff_ne];exact e4
 rw [mayC_no e1 e2 e3 e4]
 generalize noL o s ls=sb at *
 have SM:=Lib.hid sm;clear sm
 go_enter Tryz.func59,Tryz.ntmps59
 go_wp2_with (go_at_call 64;refine (SM.out).mono ?_;rintro e w2 ⟨rfl,hb⟩;have HB2:=Lib.hid (low_low HB.out hb);have K2:=Lib.hid (K0.out.below hb K0.out.lt);obtain ⟨x0,x1,x2,x3,x4,x5,x6⟩:=blk_cells6 K2.out;clear hb)
 go_ret
 exact ⟨rfl,HB2.out⟩
end Go.Proofs.YtplpmemlaohlaaaGreat.Chg
