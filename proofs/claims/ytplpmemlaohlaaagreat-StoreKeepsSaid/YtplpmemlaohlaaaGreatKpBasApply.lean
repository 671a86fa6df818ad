/- Changes done (layer 11): the contract of base.Apply. -/
import Derived.Test.YtplpmemlaohlaaaGreatKpBasCheck
import Derived.Test.YtplpmemlaohlaaaGreatKpBasCopy
namespace Go.Proofs.YtplpmemlaohlaaaGreat.Bas
open Go.RowKit Mem Oct Lsa Chg
set_option linter.unusedVariables false
set_option linter.unusedSimpArgs false
def ApplyOwn (w:World) (s:Sta) (l:List Ch) (e:Ending) (w':World):Prop :=
 ∃ dv ev,e=.returned (.tuple #[stV (applyS s l).1 dv ev,.int .i64 (applyS s l).2])∧OwnL w' w.heap.size dv (applyS s l).1.db∧OwnE w' w.heap.size ev (applyS s l).1.ep∧Below w.heap.size w w'
theorem doAll_step (s:Sta) (l:List Ch) (k:Nat) (h:k<l.length):doAll s (l.drop k)=(doS s (l.getD k zeroC)).bind fun t=>doAll t (l.drop (k+1)):=by
 rw [drop_at l zeroC k h,doAll]
theorem OwnL.more {w:World} {base base':Nat} {v:Value} {l:List La} (h:OwnL w base v l) (hb:base'≤base):OwnL w base' v l:=by
 obtain ⟨us,h1,h2,h3⟩:=h
 exact ⟨us,h1,own_mono h2 hb,fun i hi=>(h3 i hi).more hb⟩
abbrev zSt:Array Value:=#[.slice none 0 0,.int .i64 0,.int .i64 0,.slice none 0 0]
theorem StAt.below {w w':World} {base g:Nat} {s:Sta} (h:StAt w base g s) (hb:Below w.heap.size w w'):StAt w' base g s:=by
 obtain ⟨dv,ev,h1,h2,h3⟩:=h
 exact ⟨dv,ev,h1.below hb h1.lt,h2.below hb,own_below h3 hb⟩
abbrev upd4 (w:World) (g:Nat) (u0 u1 u2 u3:Value):World:=(((w.setCell ⟨g,0,none⟩ u0).setCell ⟨g,1,none⟩ u1).setCell ⟨g,2,none⟩ u2).setCell ⟨g,3,none⟩ u3
theorem upd4_grown (w:World) (g:Nat) (u0 u1 u2 u3:Value):w.grownBy (upd4 w g u0 u1 u2 u3) (some g):=grown_trans (grown_trans (grown_trans (grown_set w ⟨g,0,none⟩ u0) (grown_set _ ⟨g,1,none⟩ u1)) (grown_set _ ⟨g,2,none⟩ u2)) (grown_set _ ⟨g,3,none⟩ u3)
theorem upd4_blk {w:World} {g:Nat} {t:TypeId} {a b c d u0 u1 u2 u3:Value} (h:Blk w g t #[a,b,c,d]):Blk (upd4 w g u0 u1 u2 u3) g t #[u0,u1,u2,u3]:=(((h.set_ 0 u0).set_ 1 u1).set_ 2 u2).set_ 3 u3
set_option maxHeartbeats 8000000 in
set_option maxRecDepth 100000 in
theorem apply_arg (s:Sta) (dv ev:Value) (A:Option Addr) (n c:Nat) (l:List Ch) (w:World) (h:StM w w.heap.size dv ev s) (hl:Chs w w.heap.size (.slice A n c) l) (ha:¬ (mayS s=true∧l.all mayC=true)) :
  Calls Tryz.prog 41 #[stV s dv ev,.slice A n c] w (ApplyOwn w s l):=by
 have hap:applyS s l=(zeroS,1):=by unfold applyS;rw [if_neg ha]
 obtain ⟨A1,n1,c1,rfl,_,hr_⟩:=id h.1
 obtain ⟨A2,n2,c2,rfl,_,hs_⟩:=id h.2
 clear hr_ hs_
 have hb:=low2 w (.cells #[.slice A1 n1 c1,.int .i64 s.up,.int .i64 s.bo,.slice A2 n2 c2] 43) (.cells zSt 43)
 have k0:=(Blk.new w 43 #[.slice A1 n1 c1,.int .i64 s.up,.int .i64 s.bo,.slice A2 n2 c2]).alloc (.cells zSt 43)
 have k1:=blk_second w (.cells #[.slice A1 n1 c1,.int .i64 s.up,.int .i64 s.bo,.slice A2 n2 c2] 43) 43 zSt
 obtain ⟨P1,hP1⟩:∃ P1,P1=ApplyOwn w s l:=⟨_,rfl⟩
 rw [← hP1]
 have ck:=scheck_any s (.slice A1 n1 c1) (.slice A2 n2 c2) _ (h.up hb)
 have AC:=Lib.hid (fun (W:World) (hW:Below w.heap.size w W)=>areChanges_any A n c l W (hl.up hW))
 obtain ⟨x0,x1,x2,x3,x4⟩:=blk_cells4 k0
 have hfin:∀ W:World,Below w.heap.size w W→P1 (.returned (.tuple #[stV zeroS (.slice none 0 0) (.slice none 0 0),.int .i64 1])) (upd4 W (w.heap.size+1) (.slice none 0 0) (.int .i64 0) (.int .i64 0) (.slice none 0 0)):=by
  intro W hW
  rw [hP1]
  unfold ApplyOwn
  rw [hap]
  exact ⟨_,_,rfl,ownL_nil _ _,World.ownsRow_nil _ _ _ _,hW.grown (upd4_grown _ _ _ _ _ _) hW.size (fun q hq=>by cases hq;omega)⟩
 have FIN:=Lib.hid hfin;clear hfin hP1 hap
 have HB:=Lib.hid hb;clear hb h hl
 have K0:=Lib.hid k0;clear k0
 have K1:=Lib.hid k1;clear k1
 cases hm:mayS s
 ·rw [hm] at ck
  have CK:=Lib.hid ck;clear ck ha
  go_enter Tryz.func41,Tryz.ntmps41
  go_wp2_with (go_at_call 94;refine (CK.out).mono ?_;rintro e w3 ⟨rfl,hb3⟩;have HB3:=Lib.hid (low_low HB.out hb3);have k3:=K1.out.below hb3 K1.out.lt;obtain ⟨z0,z1,z2,z3,z4⟩:=blk_cells4 k3;obtain ⟨f0,f1,f2,f3⟩:=blk_fz4 k3;clear hb3 k3)
  have HF:=Lib.hid (FIN.out w3 HB3.out)
  refine bodyPost_ret (v:=.tuple #[stV zeroS (.slice none 0 0) (.slice none 0 0),.int .i64 1]) ?_ rfl HF.out
  simp [results,Tryz.results41,go_sem,z0,z1,z2,z3,zeroS]
 ·have hall:l.all mayC=false:=by
   rw [Bool.eq_false_iff]
   exact fun e=>ha ⟨hm,e⟩
  rw [hm] at ck
  have CK:=Lib.hid ck;clear ck ha
  have ac:=AC.out
  rw [hall] at ac
  have AC2:=Lib.hid ac;clear ac AC
  go_enter Tryz.func41,Tryz.ntmps41
  go_wp2_with (first
   | (go_at_call 94;refine (CK.out).mono ?_;rintro e w3 ⟨rfl,hb3⟩;have HB3:=Lib.hid (low_low HB.out hb3);have Q3:=Lib.hid (K1.out.below hb3 K1.out.lt);clear hb3)
   | (go_at_call 95;refine (AC2.out _ HB3.out).mono ?_;rintro e w4 ⟨rfl,hb4⟩;have HB4:=Lib.hid (low_low HB3.out hb4);have k4:=Q3.out.below hb4 Q3.out.lt;obtain ⟨z0,z1,z2,z3,z4⟩:=blk_cells4 k4;obtain ⟨f0,f1,f2,f3⟩:=blk_fz4 k4;clear hb4 k4))
  have HF:=Lib.hid (FIN.out w4 HB4.out)
  refine bodyPost_ret (v:=.tuple #[stV zeroS (.slice none 0 0) (.slice none 0 0),.int .i64 1]) ?_ rfl HF.out
  simp [results,Tryz.results41,go_sem,z0,z1,z2,z3,zeroS]
set_option maxHeartbeats 8000000 in
set_option maxRecDepth 100000 in
theorem apply_do (s:Sta) (dv ev:Value) (A:Option Addr) (n c:Nat) (l:List Ch) (w:World) (h:StM w w.heap.size dv ev s) (hl:Chs w w.heap.size (.slice A n c) l) (hm:mayS s=true) (hall:l.all mayC=true) :
  Calls Tryz.prog 41 #[stV s dv ev,.slice A n c] w (ApplyOwn w s l):=by
 obtain ⟨A1,n1,c1,rfl,_,hr_⟩:=id h.1
 obtain ⟨A2,n2,c2,rfl,_,hs_⟩:=id h.2
 clear hr_ hs_
 obtain ⟨hln,hnc,hcm⟩:=chs_len hl
 unfold maxLen at hcm
 obtain ⟨l64,e64⟩:=mayS_len hm
 have hls:∀ i,i<s.db.length→(s.db.getD i zeroL).ls.length≤1000:=fun i hi=>by
  have:=laOk_iff.1 (dbOk_rise (mayS_iff.1 hm).1 i hi).2
  omega
 have hb:=low2 w (.cells #[.slice A1 n1 c1,.int .i64 s.up,.int .i64 s.bo,.slice A2 n2 c2] 43) (.cells zSt 43)
 have k0:=(Blk.new w 43 #[.slice A1 n1 c1,.int .i64 s.up,.int .i64 s.bo,.slice A2 n2 c2]).alloc (.cells zSt 43)
 have k1:=blk_second w (.cells #[.slice A1 n1 c1,.int .i64 s.up,.int .i64 s.bo,.slice A2 n2 c2] 43) 43 zSt
 obtain ⟨P1,hP1⟩:∃ P1,P1=ApplyOwn w s l:=⟨_,rfl⟩
 rw [← hP1]
 have ck:=scheck_any s (.slice A1 n1 c1) (.slice A2 n2 c2) _ (h.up hb)
 rw [hm] at ck
 have CK:=Lib.hid ck;clear ck
 have ac:=fun (W:World) (hW:Below w.heap.size w W)=>areChanges_any A n c l W (hl.up hW)
 rw [hall] at ac
 have AC:=Lib.hid ac;clear ac
 have CP:=Lib.hid (fun (W:World) (hW:Below w.heap.size w W)=>scopy_any s (.slice A1 n1 c1) (.slice A2 n2 c2) W (h.up hW) (by omega) (by omega) hls)
 have CH:=Lib.hid (fun (W:World) (hW:Below w.heap.size w W)=>hl.up hW)
 have hB2:w.heap.size+2≤((w.alloc (.cells #[.slice A1 n1 c1,.int .i64 s.up,.int .i64 s.bo,.slice A2 n2 c2] 43)).alloc (.cells zSt 43)).heap.size:=by simp
 obtain ⟨x0,x1,x2,x3,x4⟩:=blk_cells4 k0
 have HP1:=Lib.hid hP1;clear hP1
 have HB:=Lib.hid hb;clear hb
 have K0:=Lib.hid k0;clear k0
 have K1:=Lib.hid k1;clear k1
 have HM:=Lib.hid hm;clear hm
 have HALL:=Lib.hid hall;clear hall
 have HLN:=Lib.hid hln;clear hln
 have HB2:=Lib.hid hB2;clear hB2
 clear hls h
 have HC:=Lib.hid hl;clear hl
 go_enter Tryz.func41,Tryz.ntmps41
 go_wp2_with (first
  | (go_at_call 94;refine (CK.out).mono ?_;rintro e w3 ⟨rfl,hb3⟩;have HB3:=Lib.hid (low_low HB.out hb3);have P3:=Lib.hid (K0.out.below hb3 K0.out.lt);have Q3:=Lib.hid (K1.out.below hb3 K1.out.lt);have HS3:=Lib.hid (Nat.le_trans HB2.out hb3.size);clear hb3)
  | (go_at_call 95;refine (AC.out _ HB3.out).mono ?_;rintro e w4 ⟨rfl,hb4⟩;have HB4:=Lib.hid (low_low HB3.out hb4);have p4:=P3.out.below hb4 P3.out.lt;have Q4:=Lib.hid (Q3.out.below hb4 Q3.out.lt);have HS4:=Lib.hid (Nat.le_trans HS3.out hb4.size);obtain ⟨z0,z1,z2,z3,z4⟩:=blk_cells4 p4;have P4:=Lib.hid p4;clear hb4 p4)
  | (go_at_call 55;refine (CP.out _ HB4.out).mono ?_;rintro e w5 ⟨dv5,ev5,rfl,hd5,he5,hb5⟩;obtain ⟨A5,n5,c5,rfl⟩:=ownL_sl hd5;obtain ⟨A6,n6,c6,rfl⟩:=ownE_sl he5;have HB5:=Lib.hid (low_low HB4.out hb5);have p5:=P4.out.below hb5 P4.out.lt;have Q5:=Lib.hid (Q4.out.below hb5 Q4.out.lt);have HS5:=Lib.hid (Nat.le_trans HS4.out hb5.size);have HD5:=Lib.hid hd5;have HE5:=Lib.hid he5;obtain ⟨y0,y1,y2,y3,y4⟩:=blk_cells4 p5;obtain ⟨f0,f1,f2,f3⟩:=blk_fz4 p5;have P5:=Lib.hid p5;clear hb5 p5 hd5 he5))
 obtain ⟨bb,hbb⟩:∃ bb,bb=w.heap.size+2:=⟨_,rfl⟩
 have hbw4:bb≤w4.heap.size:=by have:=HS4.out;omega
 have hst:StAt (upd4 w5 w.heap.size (.slice A5 n5 c5) (.int .i64 s.up) (.int .i64 s.bo) (.slice A6 n6 c6)) bb w.heap.size s:=⟨_,_,upd4_blk P5.out,(HD5.out.more hbw4).blk P5.out (by decide) (by decide) (upd4_grown _ _ _ _ _ _),World.ownsRow.kept (own_mono HE5.out hbw4) (upd4_grown _ _ _ _ _ _) (own_off (own_mono HE5.out hbw4) P5.out (by decide))⟩
 have hq6:Blk (upd4 w5 w.heap.size (.slice A5 n5 c5) (.int .i64 s.up) (.int .i64 s.bo) (.slice A6 n6 c6)) (w.heap.size+1) 43 zSt:=Q5.out.grown (upd4_grown _ _ _ _ _ _) (by simp)
 have hb6:Below w.heap.size w (upd4 w5 w.heap.size (.slice A5 n5 c5) (.int .i64 s.up) (.int .i64 s.bo) (.slice A6 n6 c6)):=HB5.out.grown (upd4_grown _ _ _ _ _ _) HB5.out.size (fun q hq=>by cases hq;exact Nat.le_refl _)
 have hs6:bb≤(upd4 w5 w.heap.size (.slice A5 n5 c5) (.int .i64 s.up) (.int .i64 s.bo) (.slice A6 n6 c6)).heap.size:=by
  have h1:=HS5.out
  have h2:=(upd4_grown w5 w.heap.size (.slice A5 n5 c5) (.int .i64 s.up) (.int .i64 s.bo) (.slice A6 n6 c6)).size
  omega
 have hno:∀ W:World,Below w.heap.size w W→doAll s l=none→P1 (.returned (.tuple #[stV zeroS (.slice none 0 0) (.slice none 0 0),.int .i64 10])) (upd4 W (w.heap.size+1) (.slice none 0 0) (.int .i64 0) (.int .i64 0) (.slice none 0 0)):=by
  intro W hW hd
  have hap:applyS s l=(zeroS,10):=by unfold applyS;rw [if_pos ⟨HM.out,HALL.out⟩,hd]
  rw [HP1.out]
  unfold ApplyOwn
  rw [hap]
  exact ⟨_,_,rfl,ownL_nil _ _,World.ownsRow_nil _ _ _ _,hW.grown (upd4_grown _ _ _ _ _ _) hW.size (fun q hq=>by cases hq;omega)⟩
 have HBB:=Lib.hid hbb
 have hyes:∀ (W:World) (t:Sta) (d e:Value),Below w.heap.size w W→doAll s l=some t→OwnL W bb d t.db→OwnE W bb e t.ep→Blk W (w.heap.size+1) 43 zSt→P1 (.returned (.tuple #[stV t d e,.int .i64 0])) (upd4 W (w.heap.size+1) d (.int .i64 t.up) (.int .i64 t.bo) e):=by
  intro W t d e hW hd h1 h2 hk
  have hap:applyS s l=(t,0):=by unfold applyS;rw [if_pos ⟨HM.out,HALL.out⟩,hd]
  rw [HP1.out]
  unfold ApplyOwn
  rw [hap]
  have h3:=h1.blk hk (by decide) (by decide) (upd4_grown W (w.heap.size+1) d (.int .i64 t.up) (.int .i64 t.bo) e)
  have h4:OwnE _ bb e t.ep:=World.ownsRow.kept h2 (upd4_grown W (w.heap.size+1) d (.int .i64 t.up) (.int .i64 t.bo) e) (own_off h2 hk (by decide))
  exact ⟨_,_,rfl,h3.more (by have:=HBB.out;omega),own_mono h4 (by have:=HBB.out;omega),hW.grown (upd4_grown _ _ _ _ _ _) hW.size (fun q hq=>by cases hq;omega)⟩
 dsimp only [upd4] at hst hq6 hb6 hs6
 have NO:=Lib.hid hno;clear hno
 have YES:=Lib.hid hyes;clear hyes
 have HST:=Lib.hid hst;clear hst
 have HQ6:=Lib.hid hq6;clear hq6
 have HB6:=Lib.hid hb6;clear hb6
 have HS6:=Lib.hid hs6;clear hs6
 clear hbb hbw4
 clear CK CP P3 Q3 HB3 HS3 P4 Q4 HB4 HS4 HB5 Q5 HS5 HD5 HE5 P5 HP1 x0 x1 x2 x3 x4 y0 y1 y2 y3 y4 z0 z1 z2 z3 z4 f0 f1 f2 f3 HB K0 K1 HB2
 generalize hW:(((w5.setCell ⟨w.heap.size,0,none⟩ (.slice A5 n5 c5)).setCell ⟨w.heap.size,1,none⟩ (.int .i64 s.up)).setCell ⟨w.heap.size,2,none⟩ (.int .i64 s.bo)).setCell ⟨w.heap.size,3,none⟩ (.slice A6 n6 c6)=W6 at *
 have HW:=Lib.hid hW;clear hW
 go_loopw [21] (fun i wr=>∃ (k:Nat) (sk:Sta),k≤n∧i=.int .i64 k∧Hid (StAt wr bb w.heap.size sk)∧Hid (mayS sk=true)∧Hid (doAll s l=doAll sk (l.drop k))∧Hid (Blk wr (w.heap.size+1) 43 zSt)∧Hid (Below w.heap.size w wr)∧Hid (bb≤wr.heap.size)) (fun i _=>n - (intOf i).toNat)
 case atStart=>exact ⟨0,s,Nat.zero_le _,rfl,HST,HM,Lib.hid rfl,HQ6,HB6,HS6⟩
 case round =>
  clear HST HM HQ6 HB6 HS6
  obtain ⟨k,sk,hk,rfl,HST,HM,HDA,HQ,HBW,HS⟩:=hrel
  by_cases hlt:k<n
  ·obtain ⟨b,off,rfl,hb,hc⟩:=chs_at (CH.out wr HBW.out) (by omega)
   obtain ⟨u,hr,hk2⟩:=hc k hlt
   have c0:=hr 0 _ rfl
   have c1:=hr 1 _ rfl
   have c2_:=hr 2 _ rfl
   have c3_:=hr 3 _ rfl
   have c4_:=hr 4 _ rfl
   have c5_:=hr 5 _ rfl
   rw [Nat.add_zero] at c0
   have hkl:k<l.length:=by rw [HLN.out];exact hlt
   have hda:=HDA.out
   rw [doAll_step sk l k hkl] at hda
   have hmc:mayC (l.getD k zeroC)=true:=by
    have:=List.all_eq_true.1 HALL.out (l.getD k zeroC) (by simp [List.getD,List.getElem?_eq_getElem hkl])
    exact this
   clear hc hr
   generalize l.getD k zeroC=y at *
   obtain ⟨yk,yo,ys,yl,yn,yf⟩:=y
   obtain ⟨Au,nu,cu,rfl,_,hr_⟩:=id hk2
   clear hr_
   simp only at c0 c1 c2_ c3_ c4_ c5_ hk2
   have hbx:Below wr.heap.size wr (wr.alloc (.cells #[.int .i64 yk,.int .i64 yo,.int .i64 ys,.slice Au nu cu,.int .i64 yn,.int .i64 yf] 82)):=low1 (Below.refl _ _) _
   have hst2:=HST.out.below hbx
   have hq2:=HQ.out.below hbx HQ.out.lt
   have hb2:=low_low HBW.out hbx
   have hs2:=Nat.le_trans HS.out hbx.size
   have DO:=Lib.hid (do_any bb w.heap.size sk ⟨yk,yo,ys,yl,yn,yf⟩ (.slice Au nu cu) _ hst2 hs2 HM.out hmc (hk2.up hbx))
   have HQ2:=Lib.hid hq2;clear hq2
   have HB2:=Lib.hid hb2;clear hb2
   have HS2:=Lib.hid hs2;clear hs2 hst2 hk2 hbx
   have hms:=fun t=>doS_may (t:=t) HM.out hmc
   simp only [chV] at DO
   cases hds:doS sk ⟨yk,yo,ys,yl,yn,yf⟩ with
   | none =>
    rw [hds] at hda
    have HDA2:=Lib.hid hda;clear hda hms
    unfold DoOut at DO
    rw [hds] at DO
    go_wp2_with (go_at_call 96;refine (DO.out).mono ?_;rintro e w7 ⟨rfl,_,hkb⟩;have HB7:=Lib.hid ((HB2.out).trans (hkb.low (Nat.le_refl _) (by have:=HBB.out;omega)));have q7:=hkb.blk HQ2.out (by have:=HBB.out;omega) (by omega);obtain ⟨z0,z1,z2,z3,z4⟩:=blk_cells4 q7;obtain ⟨f0,f1,f2,f3⟩:=blk_fz4 q7;clear hkb q7)
    have HF:=Lib.hid (NO.out w7 HB7.out HDA2.out)
    refine bodyPost_ret (v:=.tuple #[stV zeroS (.slice none 0 0) (.slice none 0 0),.int .i64 10]) ?_ rfl HF.out
    simp [results,Tryz.results41,go_sem,z0,z1,z2,z3,zeroS]
   | some t =>
    rw [hds] at hda
    have HDA2:=Lib.hid hda;clear hda
    have HMT:=Lib.hid (hms t hds);clear hms
    unfold DoOut at DO
    rw [hds] at DO
    go_wp2_with (go_at_call 96;refine (DO.out).mono ?_;rintro e w7 ⟨rfl,hst7,hkb⟩;have HB7:=Lib.hid ((HB2.out).trans (hkb.low (Nat.le_refl _) (by have:=HBB.out;omega)));have Q7:=Lib.hid (hkb.blk HQ2.out (by have:=HBB.out;omega) (by omega));have HS7:=Lib.hid (Nat.le_trans HS2.out hkb.size);have HST7:=Lib.hid hst7;clear hkb hst7)
    go_roundw
    case rel=>exact ⟨k+1,t,by omega,by go_num,HST7,HMT,HDA2,Q7,HB7,HS7⟩
    case measure=>simp [intOf];omega
  ·obtain rfl:k=n:=by omega
   obtain ⟨d,e,hk7,hd7,he7⟩:=HST.out
   obtain ⟨A7,n7,c7,rfl⟩:=ownL_sl hd7
   obtain ⟨A8,n8,c8,rfl⟩:=ownE_sl he7
   have hda:=HDA.out
   rw [List.drop_eq_nil_of_le (by have:=HLN.out;omega)] at hda
   have HF:=Lib.hid (YES.out wr sk _ _ HBW.out hda hd7 he7 HQ.out)
   obtain ⟨y0,y1,y2,y3,y4⟩:=blk_cells4 hk7
   obtain ⟨z0,z1,z2,z3,z4⟩:=blk_cells4 HQ.out
   obtain ⟨f0,f1,f2,f3⟩:=blk_fz4 HQ.out
   clear hda hk7 hd7 he7
   go_wp2
   refine bodyPost_ret (v:=.tuple #[stV sk (.slice A7 n7 c7) (.slice A8 n8 c8),.int .i64 0]) ?_ rfl HF.out
   simp [results,Tryz.results41,go_sem,z0,z1,z2,z3]
theorem apply_own (s:Sta) (dv ev:Value) (A:Option Addr) (n c:Nat) (l:List Ch) (w:World) (h:StM w w.heap.size dv ev s) (hl:Chs w w.heap.size (.slice A n c) l) :
  Calls Tryz.prog 41 #[stV s dv ev,.slice A n c] w (ApplyOwn w s l):=by
 by_cases hc:mayS s=true∧l.all mayC=true
 ·exact apply_do s dv ev A n c l w h hl hc.1 hc.2
 ·exact apply_arg s dv ev A n c l w h hl hc
end Go.Proofs.YtplpmemlaohlaaaGreat.Bas
