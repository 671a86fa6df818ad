/- A change that is read next (layer 10): the contract of change.read. -/
import Derived.Test.YtplpmemlaohlaaaGreatKpChgCheck
import Derived.Test.YtplpmemlaohlaaaGreatKpLsaRead
import Derived.Deep.Cut
namespace Go.Proofs.YtplpmemlaohlaaaGreat.Chg
open Go.RowKit Mem Oct Lsa
set_option linter.unusedVariables false
set_option linter.unusedSimpArgs false
abbrev upd6 (w:World) (g:Nat) (u0 u1 u2 u3 u4 u5:Value):World:=(((((w.setCell ⟨g,0,none⟩ u0).setCell ⟨g,1,none⟩ u1).setCell ⟨g,2,none⟩ u2).setCell ⟨g,3,none⟩ u3).setCell ⟨g,4,none⟩ u4).setCell ⟨g,5,none⟩ u5
section
variable {w w1:World} {g g' base n B:Nat} {e:TypeId} {size:Nat} {v u0 u1 u2 u3 u4 u5:Value} {xs:List Value} {t:TypeId} {cs:Array Value} {st:St}
theorem upd6_own (h:w1.ownsRow base e size v n xs) (hg:g<base):(upd6 w1 g u0 u1 u2 u3 u4 u5).ownsRow base e size v n xs :=
 ownsRow_setCell_below (ownsRow_setCell_below (ownsRow_setCell_below (ownsRow_setCell_below (ownsRow_setCell_below (ownsRow_setCell_below h hg _) hg _) hg _) hg _) hg _) hg _
theorem upd6_rdr (h:Rdr w1 g' st) (hg:g'<g):Rdr (upd6 w1 g u0 u1 u2 u3 u4 u5) g' st :=
 (((((h.setFar ⟨g,0,none⟩ hg _).setFar ⟨g,1,none⟩ hg _).setFar ⟨g,2,none⟩ hg _).setFar ⟨g,3,none⟩ hg _).setFar ⟨g,4,none⟩ hg _).setFar ⟨g,5,none⟩ hg _
theorem upd6_grown (w:World) (g:Nat) (u0 u1 u2 u3 u4 u5:Value):w.grownBy (upd6 w g u0 u1 u2 u3 u4 u5) (some g) :=
 grown_trans (grown_trans (grown_trans (grown_trans (grown_trans (grown_set w ⟨g,0,none⟩ u0) (grown_set _ ⟨g,1,none⟩ u1)) (grown_set _ ⟨g,2,none⟩ u2)) (grown_set _ ⟨g,3,none⟩ u3)) (grown_set _ ⟨g,4,none⟩ u4)) (grown_set _ ⟨g,5,none⟩ u5)
end
def CReadOut (w:World) (g:Nat) (r:St × Ch) (e:Ending) (w':World):Prop :=
 ∃ u,e=.returned (chV r.2 u)∧(∃ n,w'.ownsRow w.heap.size 195 2 u n (lkCells r.2.ls))∧Rdr w' g r.1∧w.grownBy w' (some g)
theorem body_1 (st:St):readBody 1 st=((rAll st).1,⟨1,(lsaO st).1,(lsaO st).2.1,(lsaO st).2.2,0,0⟩):=by simp [readBody]
theorem body_2 (st:St):readBody 2 st=((rnum st 8).1,⟨2,0,0,[],sgn (rnum st 8).2,0⟩):=by simp [readBody]
theorem body_3 (st:St):readBody 3 st=((rnum st 4).1,⟨3,0,0,[],((rnum st 4).2:Nat),0⟩):=by simp [readBody]
theorem body_4 (st:St):readBody 4 st=((rnum (rnum st 1).1 4).1,⟨4,0,0,[],((rnum (rnum st 1).1 4).2:Nat),((rnum st 1).2:Nat)⟩):=by simp [readBody]
theorem body_no {k:Int} (st:St) (h1:k≠1) (h2:k≠2) (h3:k≠3) (h4:k≠4):readBody k st=(st,⟨k,0,0,[],0,0⟩):=by simp [readBody,h1,h2,h3,h4]
set_option maxRecDepth 20000 in
set_option maxHeartbeats 2000000 in
theorem cread_no (g:Nat) (st1:St) (N1:Nat) (w:World) (hgs:g<w.heap.size) (n1:N1<256 ^ 1) (r1:Calls Tryz.prog 165 #[ptr g,.int .i64 1] (w.alloc (.cells #[.int .i64 0,.int .i64 0,.int .i64 0,.slice none 0 0,.int .i64 0,.int .i64 0] 82)) fun e w'=>e=.returned (.int .u64 (N1:Nat))∧Rdr w' g st1∧(w.alloc (.cells #[.int .i64 0,.int .i64 0,.int .i64 0,.slice none 0 0,.int .i64 0,.int .i64 0] 82)).grownBy w' (some g))
  (e1:N1≠1) (e2:N1≠2) (e3:N1≠3) (e4:N1≠4):Calls Tryz.prog 176 #[ptr g] w (CReadOut w g (st1,⟨(N1:Nat),0,0,[],0,0⟩)):=by
 have HG0:=Lib.hid (World.grownBy_alloc w (Obj.cells #[.int .i64 0,.int .i64 0,.int .i64 0,.slice none 0 0,.int .i64 0,.int .i64 0] 82) (some g))
 have K0:=Lib.hid (Blk.new w 82 #[.int .i64 0,.int .i64 0,.int .i64 0,.slice none 0 0,.int .i64 0,.int .i64 0])
 have R1:=Lib.hid r1;clear r1
 have d1:((N1:Int) == 1)=false:=by rw [beq_eq_false_iff_ne];omega
 have d2:((N1:Int) == 2)=false:=by rw [beq_eq_false_iff_ne];omega
 have d3:((N1:Int) == 3)=false:=by rw [beq_eq_false_iff_ne];omega
 have d4:((N1:Int) == 4)=false:=by rw [beq_eq_false_iff_ne];omega
 go_enter Tryz.func176,Tryz.ntmps176
 go_upto_region 2 with (go_at_call 165;refine (R1.out).mono ?_;rintro e w1 ⟨rfl,hr1,hg1⟩;have HG1:=Lib.hid (grown_trans HG0.out hg1);have K1:=Lib.hid (K0.out.grown hg1 (by simp;omega));have HR1:=Lib.hid hr1;have hs1:=K1.out.lt;clear hr1 hg1)
 have hne:w.heap.size≠w1.heap.size:=Nat.ne_of_lt hs1
 have L1:=Lib.hid (Blk.new w1 82 #[.int .i64 (N1:Nat),.int .i64 0,.int .i64 0,.slice none 0 0,.int .i64 0,.int .i64 0])
 have K2:=Lib.hid (K1.out.alloc (.cells #[.int .i64 (N1:Nat),.int .i64 0,.int .i64 0,.slice none 0 0,.int .i64 0,.int .i64 0] 82))
 have HG2:=Lib.hid (grown_trans HG1.out (World.grownBy_alloc w1 (.cells #[.int .i64 (N1:Nat),.int .i64 0,.int .i64 0,.slice none 0 0,.int .i64 0,.int .i64 0] 82) (some g)))
 have HR2:=Lib.hid (HR1.out.alloc (.cells #[.int .i64 (N1:Nat),.int .i64 0,.int .i64 0,.slice none 0 0,.int .i64 0,.int .i64 0] 82))
 generalize w1.alloc (.cells #[.int .i64 (N1:Nat),.int .i64 0,.int .i64 0,.slice none 0 0,.int .i64 0,.int .i64 0] 82)=wz at *
 obtain ⟨x0,x1,x2,x3,x4,x5,x6⟩:=blk_cells6 L1.out
 obtain ⟨y0,y1,y2,y3,y4,y5,y6⟩:=blk_cells6 K2.out
 obtain ⟨g0,g1,g2,g3,g4,g5⟩:=blk_fz6 K2.out
 generalize w1.heap.size=q1 at *
 go_wp2
 refine bodyPost_ret (v:=chV ⟨(N1:Nat),0,0,[],0,0⟩ (.slice none 0 0)) ?_ rfl ⟨_,rfl,⟨0,own_none _ _⟩,upd6_rdr (g:=w.heap.size) HR2.out hgs,grown_over HG2.out (upd6_grown _ w.heap.size _ _ _ _ _ _) (fun q hq=>by cases hq;exact Nat.le_refl _)⟩
 simp [results,Tryz.results176,go_sem,y0,y1,y2,y3,y4,y5,y6]
set_option maxRecDepth 20000 in
set_option maxHeartbeats 8000000 in
theorem cread_any (g:Nat) (st:St) (w:World) (h:Rdr w g st) :
  Calls Tryz.prog 176 #[ptr g] w (CReadOut w g (readC st)):=by
 have hgs:=h.size
 unfold readC
 have r1:=rnum_any g st 1 (w.alloc (.cells #[.int .i64 0,.int .i64 0,.int .i64 0,.slice none 0 0,.int .i64 0,.int .i64 0] 82)) (h.alloc _)
 have n1:=rnum_lt (st:=st) (k:=1) (K:=1) rfl h.lt
 generalize rnum st 1=q at *
 obtain ⟨st1,N1⟩:=q
 simp only at r1 n1 ⊢
 have HG0:=Lib.hid (World.grownBy_alloc w (Obj.cells #[.int .i64 0,.int .i64 0,.int .i64 0,.slice none 0 0,.int .i64 0,.int .i64 0] 82) (some g))
 have K0:=Lib.hid (Blk.new w 82 #[.int .i64 0,.int .i64 0,.int .i64 0,.slice none 0 0,.int .i64 0,.int .i64 0])
 have R1:=Lib.hid r1;clear r1 h
 by_cases e1:N1=1
 ·subst e1
  have e0:((1:Nat):Int)=1:=rfl
  rw [e0,body_1]
  have r2:=fun (W:World) (hW:Rdr W g st1)=>lread_own g st1 W hW
  have ho:lsaO st1=lsaOf st1:=rfl
  rw [ho]
  generalize lsaOf st1=L at *
  obtain ⟨o,s,ls⟩:=L
  generalize rOk st1=ok at *
  generalize (rAll st1).1=st2 at *
  have R2:=Lib.hid r2;clear r2 ho
  go_enter Tryz.func176,Tryz.ntmps176
  go_wp2_with (first
   | (go_at_call 165;refine (R1.out).mono ?_;rintro e w1 ⟨rfl,hr1,hg1⟩;have HG1:=Lib.hid (grown_trans HG0.out hg1);have K1:=Lib.hid (K0.out.grown hg1 (by simp;omega));have HR1:=Lib.hid hr1;have hs1:=K1.out.lt;clear hr1 hg1)
   | (go_at_call 174;refine (R2.out _ (HR1.out.alloc _)).mono ?_;rintro e w2 ⟨v2,rfl,⟨n2,ho2⟩,hr2,hg2⟩;obtain ⟨A2,c2,rfl⟩:=own_form ho2;have hne:w.heap.size≠w1.heap.size:=Nat.ne_of_lt hs1;have L2:=Lib.hid ((Blk.new w1 82 #[.int .i64 1,.int .i64 0,.int .i64 0,.slice none 0 0,.int .i64 0,.int .i64 0]).grown hg2 (by simp;omega));have K2:=Lib.hid ((K1.out.alloc _).grown hg2 (by simp;omega));have HG2:=Lib.hid (grown_trans (grown_trans HG1.out (World.grownBy_alloc w1 _ (some g))) hg2);have HO2:=Lib.hid ho2;have HR2:=Lib.hid hr2;obtain ⟨x0,x1,x2,x3,x4,x5,x6⟩:=blk_cells6 L2.out;obtain ⟨f0,f1,f2,f3,f4,f5⟩:=blk_fz6 L2.out;obtain ⟨y0,y1,y2,y3,y4,y5,y6⟩:=blk_cells6 K2.out;obtain ⟨g0,g1,g2,g3,g4,g5⟩:=blk_fz6 K2.out;clear ho2 hr2 hg2))
  have hsz:(w1.alloc (Obj.cells #[.int .i64 1,.int .i64 0,.int .i64 0,.slice none 0 0,.int .i64 0,.int .i64 0] 82)).heap.size=w1.heap.size+1:=by simp
  refine bodyPost_ret (v:=chV ⟨1,o,s,ls,0,0⟩ (.slice A2 n2 c2)) ?_ rfl ⟨_,rfl,⟨n2,own_mono (upd6_own (g:=w.heap.size) (ownsRow_setCell_below (a:=⟨w1.heap.size,3,none⟩) (ownsRow_setCell_below (a:=⟨w1.heap.size,2,none⟩) (ownsRow_setCell_below (a:=⟨w1.heap.size,1,none⟩) HO2.out (by rw [hsz];exact Nat.lt_succ_self _) _) (by rw [hsz];exact Nat.lt_succ_self _) _) (by rw [hsz];exact Nat.lt_succ_self _) _) (by rw [hsz];omega)) (by rw [hsz];omega)⟩,upd6_rdr (g:=w.heap.size) (((HR2.out.setFar ⟨w1.heap.size,1,none⟩ (by show g<w1.heap.size;omega) _).setFar ⟨w1.heap.size,2,none⟩ (by show g<w1.heap.size;omega) _).setFar ⟨w1.heap.size,3,none⟩ (by show g<w1.heap.size;omega) _) hgs,grown_over (grown_over (grown_over (grown_over HG2.out (grown_set w2 ⟨w1.heap.size,1,none⟩ _) (fun q hq=>by cases hq;exact Nat.le_of_lt hs1)) (grown_set _ ⟨w1.heap.size,2,none⟩ _) (fun q hq=>by cases hq;exact Nat.le_of_lt hs1)) (grown_set _ ⟨w1.heap.size,3,none⟩ _) (fun q hq=>by cases hq;exact Nat.le_of_lt hs1)) (upd6_grown _ w.heap.size _ _ _ _ _ _) (fun q hq=>by cases hq;exact Nat.le_refl _)⟩
  simp [results,Tryz.results176,go_sem,y0,y1,y2,y3,y4,y5,y6,x0,x1,x2,x3,x4,x5,x6,hne,hne.symm]
 by_cases e2:N1=2
 ·subst e2
  have e0:((2:Nat):Int)=2:=rfl
  rw [e0,body_2]
  have r2:=fun (W:World) (hW:Rdr W g st1)=>rnum_any g st1 8 W hW
  have n2:=fun (W:World) (hW:Rdr W g st1)=>rnum_lt (st:=st1) (k:=8) (K:=8) rfl hW.lt
  generalize rnum st1 8=q at *
  obtain ⟨st2,N2⟩:=q
  simp only at r2 n2 ⊢
  have hsg:=fun (W:World) (hW:Rdr W g st1)=>sgn_wrap (n:=N2) (n2 W hW)
  obtain ⟨sq,hsq⟩:∃ sq,sq=sgn N2:=⟨_,rfl⟩
  rw [← hsq] at hsg ⊢
  have HSG:=Lib.hid hsg;clear hsg hsq
  have R2:=Lib.hid r2;clear r2
  have NN2:=Lib.hid n2;clear n2
  go_enter Tryz.func176,Tryz.ntmps176
  go_wp2_with (first
   | (have HM1:=R1;go_at_call 165;refine (R1.out).mono ?_;rintro e w1 ⟨rfl,hr1,hg1⟩;have hn2:=NN2.out _ hr1;have hsg:=HSG.out _ hr1;have HG1:=Lib.hid (grown_trans HG0.out hg1);have K1:=Lib.hid (K0.out.grown hg1 (by simp;omega));have HR1:=Lib.hid hr1;have hs1:=K1.out.lt;clear hr1 hg1 HM1 R1)
   | (go_at_call 165;refine (R2.out _ (HR1.out.alloc _)).mono ?_;rintro e w2 ⟨rfl,hr2,hg2⟩;have hne:w.heap.size≠w1.heap.size:=Nat.ne_of_lt hs1;have L2:=Lib.hid ((Blk.new w1 82 #[.int .i64 2,.int .i64 0,.int .i64 0,.slice none 0 0,.int .i64 0,.int .i64 0]).grown hg2 (by simp;omega));have K2:=Lib.hid ((K1.out.alloc _).grown hg2 (by simp;omega));have HG2:=Lib.hid (grown_trans (grown_trans HG1.out (World.grownBy_alloc w1 _ (some g))) hg2);have HR2:=Lib.hid hr2;obtain ⟨x0,x1,x2,x3,x4,x5,x6⟩:=blk_cells6 L2.out;obtain ⟨f0,f1,f2,f3,f4,f5⟩:=blk_fz6 L2.out;obtain ⟨y0,y1,y2,y3,y4,y5,y6⟩:=blk_cells6 K2.out;obtain ⟨g0,g1,g2,g3,g4,g5⟩:=blk_fz6 K2.out;clear hr2 hg2))
  refine bodyPost_ret (v:=chV ⟨2,0,0,[],sq,0⟩ (.slice none 0 0)) ?_ rfl ⟨_,rfl,⟨0,own_none _ _⟩,upd6_rdr (g:=w.heap.size) (HR2.out.setFar ⟨w1.heap.size,4,none⟩ (by show g<w1.heap.size;omega) _) hgs,grown_over (grown_over HG2.out (grown_set w2 ⟨w1.heap.size,4,none⟩ _) (fun q hq=>by cases hq;exact Nat.le_of_lt hs1)) (upd6_grown _ w.heap.size _ _ _ _ _ _) (fun q hq=>by cases hq;exact Nat.le_refl _)⟩
  simp [results,Tryz.results176,go_sem,y0,y1,y2,y3,y4,y5,y6,x0,x1,x2,x3,x4,x5,x6,hne,hne.symm]
 by_cases e3:N1=3
 ·subst e3
  have e0:((3:Nat):Int)=3:=rfl
  rw [e0,body_3]
  have r2:=fun (W:World) (hW:Rdr W g st1)=>rnum_any g st1 4 W hW
  have n2:=fun (W:World) (hW:Rdr W g st1)=>rnum_lt (st:=st1) (k:=4) (K:=4) rfl hW.lt
  generalize rnum st1 4=q at *
  obtain ⟨st2,N2⟩:=q
  simp only at r2 n2 ⊢
  have R2:=Lib.hid r2;clear r2
  have NN2:=Lib.hid n2;clear n2
  go_enter Tryz.func176,Tryz.ntmps176
  go_wp2_with (first
   | (have HM1:=R1;go_at_call 165;refine (R1.out).mono ?_;rintro e w1 ⟨rfl,hr1,hg1⟩;have hn2:=NN2.out _ hr1;have HG1:=Lib.hid (grown_trans HG0.out hg1);have K1:=Lib.hid (K0.out.grown hg1 (by simp;omega));have HR1:=Lib.hid hr1;have hs1:=K1.out.lt;clear hr1 hg1 HM1 R1)
   | (go_at_call 165;refine (R2.out _ (HR1.out.alloc _)).mono ?_;rintro e w2 ⟨rfl,hr2,hg2⟩;have hne:w.heap.size≠w1.heap.size:=Nat.ne_of_lt hs1;have L2:=Lib.hid ((Blk.new w1 82 #[.int .i64 3,.int .i64 0,.int .i64 0,.slice none 0 0,.int .i64 0,.int .i64 0]).grown hg2 (by simp;omega));have K2:=Lib.hid ((K1.out.alloc _).grown hg2 (by simp;omega));have HG2:=Lib.hid (grown_trans (grown_trans HG1.out (World.grownBy_alloc w1 _ (some g))) hg2);have HR2:=Lib.hid hr2;obtain ⟨x0,x1,x2,x3,x4,x5,x6⟩:=blk_cells6 L2.out;obtain ⟨f0,f1,f2,f3,f4,f5⟩:=blk_fz6 L2.out;obtain ⟨y0,y1,y2,y3,y4,y5,y6⟩:=blk_cells6 K2.out;obtain ⟨g0,g1,g2,g3,g4,g5⟩:=blk_fz6 K2.out;clear hr2 hg2))
  refine bodyPost_ret (v:=chV ⟨3,0,0,[],(N2:Nat),0⟩ (.slice none 0 0)) ?_ rfl ⟨_,rfl,⟨0,own_none _ _⟩,upd6_rdr (g:=w.heap.size) (HR2.out.setFar ⟨w1.heap.size,4,none⟩ (by show g<w1.heap.size;omega) _) hgs,grown_over (grown_over HG2.out (grown_set w2 ⟨w1.heap.size,4,none⟩ _) (fun q hq=>by cases hq;exact Nat.le_of_lt hs1)) (upd6_grown _ w.heap.size _ _ _ _ _ _) (fun q hq=>by cases hq;exact Nat.le_refl _)⟩
  simp [results,Tryz.results176,go_sem,y0,y1,y2,y3,y4,y5,y6,x0,x1,x2,x3,x4,x5,x6,hne,hne.symm]
 by_cases e4:N1=4
 ·subst e4
  have e0:((4:Nat):Int)=4:=rfl
  rw [e0,body_4]
  have r2:=fun (W:World) (hW:Rdr W g st1)=>rnum_any g st1 1 W hW
  have n2:=fun (W:World) (hW:Rdr W g st1)=>rnum_lt (st:=st1) (k:=1) (K:=1) rfl hW.lt
  generalize rnum st1 1=q at *
  obtain ⟨st2,N2⟩:=q
  simp only at r2 n2 ⊢
  have r3:=fun (W:World) (hW:Rdr W g st2)=>rnum_any g st2 4 W hW
  have n3:=fun (W:World) (hW:Rdr W g st2)=>rnum_lt (st:=st2) (k:=4) (K:=4) rfl hW.lt
  generalize rnum st2 4=q at *
  obtain ⟨st3,N3⟩:=q
  simp only at r3 n3 ⊢
  have R2:=Lib.hid r2;clear r2
  have NN2:=Lib.hid n2;clear n2
  have R3:=Lib.hid r3;clear r3
  have NN3:=Lib.hid n3;clear n3
  go_enter Tryz.func176,Tryz.ntmps176
  go_wp2_with (first
   | (have HM1:=R1;go_at_call 165;refine (R1.out).mono ?_;rintro e w1 ⟨rfl,hr1,hg1⟩;have hn2:=NN2.out _ hr1;have HG1:=Lib.hid (grown_trans HG0.out hg1);have K1:=Lib.hid (K0.out.grown hg1 (by simp;omega));have HR1:=Lib.hid hr1;have hs1:=K1.out.lt;clear hr1 hg1 HM1 R1)
   | (have HM2:=HR1;go_at_call 165;refine (R2.out _ (HR1.out.alloc _)).mono ?_;rintro e w2 ⟨rfl,hr2,hg2⟩;have hn3:=NN3.out _ hr2;have hne:w.heap.size≠w1.heap.size:=Nat.ne_of_lt hs1;have L2:=Lib.hid ((Blk.new w1 82 #[.int .i64 4,.int .i64 0,.int .i64 0,.slice none 0 0,.int .i64 0,.int .i64 0]).grown hg2 (by simp;omega));have K2:=Lib.hid ((K1.out.alloc _).grown hg2 (by simp;omega));have HG2:=Lib.hid (grown_trans (grown_trans HG1.out (World.grownBy_alloc w1 _ (some g))) hg2);have HR2:=Lib.hid hr2;obtain ⟨z0,z1,z2,z3,z4,z5,hlt2⟩:=blk_cells6 L2.out;obtain ⟨f0,f1,f2,f3,f4,f5⟩:=blk_fz6 L2.out;clear hr2 hg2 HM2 HR1)
   | (go_at_call 165;refine (R3.out _ (HR2.out.setFar ⟨w1.heap.size,5,none⟩ (by show g<w1.heap.size;omega) _)).mono ?_;rintro e w3 ⟨rfl,hr3,hg3⟩;have L3:=Lib.hid ((L2.out.set_ 5 (.int .i64 (N2:Nat))).grown hg3 (by simp;omega));have K3:=Lib.hid ((K2.out.far (p:=⟨w1.heap.size,5,none⟩) hne (.int .i64 (N2:Nat))).grown hg3 (by simp;omega));have HG3:=Lib.hid (grown_trans (grown_over HG2.out (grown_set w2 ⟨w1.heap.size,5,none⟩ (.int .i64 (N2:Nat))) (fun q hq=>by cases hq;exact Nat.le_of_lt hs1)) hg3);have HR3:=Lib.hid hr3;obtain ⟨x0,x1,x2,x3,x4,x5,x6⟩:=blk_cells6 (a:=.int .i64 4) (b:=.int .i64 0) (c:=.int .i64 0) (d:=.slice none 0 0) (e:=.int .i64 0) (f:=.int .i64 (N2:Nat)) L3.out;obtain ⟨m0,m1,m2,m3,m4,m5⟩:=blk_fz6 L3.out;obtain ⟨y0,y1,y2,y3,y4,y5,y6⟩:=blk_cells6 K3.out;obtain ⟨g0,g1,g2,g3,g4,g5⟩:=blk_fz6 K3.out;clear hr3 hg3))
  refine bodyPost_ret (v:=chV ⟨4,0,0,[],(N3:Nat),(N2:Nat)⟩ (.slice none 0 0)) ?_ rfl ⟨_,rfl,⟨0,own_none _ _⟩,upd6_rdr (g:=w.heap.size) (HR3.out.setFar ⟨w1.heap.size,4,none⟩ (by show g<w1.heap.size;omega) _) hgs,grown_over (grown_over HG3.out (grown_set w3 ⟨w1.heap.size,4,none⟩ _) (fun q hq=>by cases hq;exact Nat.le_of_lt hs1)) (upd6_grown _ w.heap.size _ _ _ _ _ _) (fun q hq=>by cases hq;exact Nat.le_refl _)⟩
  simp [results,Tryz.results176,go_sem,y0,y1,y2,y3,y4,y5,y6,x0,x1,x2,x3,x4,x5,x6,hne,hne.symm]
 rw [body_no st1 (by omega) (by omega) (by omega) (by omega)]
 exact cread_no g st1 N1 w hgs n1 R1.out e1 e2 e3 e4
end Go.Proofs.YtplpmemlaohlaaaGreat.Chg
