/- StoreKeeps: behind a crash at any act, whose tears the check tells, a store opens with what all changes that were answered with OK made, or with that and the refused ones done; nothing is ever less, or older; opened twice it is the same. For every disk's size and every acts. -/
import Derived.Test.YtplpmemlaohlaaaGreatKpStoMid
import Derived.Below
import Derived.ChangeOld
import Derived.Deep.Cut
import Derived.Deep.CutBlock
import Derived.Deep.CutRange
import Derived.Deep.RegionHeld3
import Derived.IntWalk
import Derived.OpenShut
import Derived.ProofKit
import Derived.ShutString
import Derived.WalkKit
namespace Go.Proofs.YtplpmemlaohlaaaGreat.storeKeeps
open Go.RowKit Go.Maps Mem Bas Wl Sto
open Dsk (KeptBut SMap DiskAt kept_of_below kept_of_grown kept_drew TearsAt TearR TearsR)
open Chg (Chs low1 low_low ChR blk_second)
set_option linter.unusedVariables false
set_option linter.unusedSimpArgs false
theorem tmod9 (n:Int) : -9<Int.tmod n 9∧Int.tmod n 9<9:=by
 rcases Int.le_total 0 n with h | h
 ·rw [Int.tmod_eq_emod_of_nonneg h];omega
 ·have:=Int.neg_tmod n 9
  have e:=Int.tmod_eq_emod_of_nonneg (a := -n) (b:=9) (by omega)
  omega
theorem meas {k n:Nat} (h:k<n):n - (intOf (Value.int IntKind.i64 ((k:Int)+1))).toNat<n - (intOf (Value.int IntKind.i64 (k:Int))).toNat:=by
 simp [intOf]
 omega
theorem two_low (w:World) (a b:Obj):Below w.heap.size w ((w.alloc a).alloc b):=low1 (low1 (Below.refl _ _) a) b
theorem kw_made {w wr:World} {g bs bw wb:Nat} {d:Dsk.St} {cs:Array Value} {dv ev:Value} {s:Sta} (hlow:Below w.heap.size w wr) (hd:DiskAt wr g bs bw d) (hb:Boxed w wr wb dv ev s) (hge:∀ y∈[g,bs,bw],w.heap.size≤y) :
  KW w ((wr.alloc (.cells cs 52)).alloc (.cells #[dv,.int .i64 s.up,.int .i64 s.bo,ev] 43)) g bs bw wr.heap.size wb (wr.heap.size+1) d cs dv ev dv ev s s:=by
 have h2:=two_low wr (.cells cs 52) (.cells #[dv,.int .i64 s.up,.int .i64 s.bo,ev] 43)
 have hbb:=hb.up h2
 have hs:=hlow.size
 have hlt:=hb.1.lt
 refine ⟨low_low hlow h2,hd.below h2,(Blk.new wr _ cs).alloc _,hbb,⟨blk_second wr (.cells cs 52) _ _,hbb.2.1,hbb.2.2.1,by omega⟩,fun c hc=>?_,by omega⟩
 have:=hge c
 simp only [List.mem_cons,List.not_mem_nil,or_false] at hc this
 omega
def KFresh (w:World) (g bs bw p:Nat) (e:Ending) (w':World):Prop:=∃ y q x d,e=.returned (.tuple #[ptr y,.int .i64 0])∧Below w.heap.size w w'∧DiskAt w' g bs bw d∧SS w w' y q x g p ⟨1,1,0,false⟩ zeroS∧Says p d 1 1 0 zeroS
theorem fresh_k {w W:World} {g bs bw p:Nat} (hb:Below w.heap.size w W) (hd:DiskAt W g bs bw (Dsk.St.new p)) (hge:∀ b∈[g,bs,bw],w.heap.size≤b) (h6:6≤p) (h29:p≤29):Calls Tryz.prog 10 #[ptr g] W (KFresh w g bs bw p):=by
 obtain ⟨d1,h1,_,h3,h4⟩:=fresh_says p h6
 refine (sopen_yes hd (by show p≤1000;omega) h4 h1).mono ?_
 rintro e w' ⟨y,q,x,rfl,a1,a2,a3,a4,a5,a6⟩
 have hl:=hb.size
 exact ⟨y,q,x,d1,rfl,hb.trans (a6.below hge hl),a5,⟨a4,fun b hb=>by simp only [List.mem_cons,List.not_mem_nil,or_false] at hb;omega⟩,h3⟩
set_option maxRecDepth 20000 in
set_option maxHeartbeats 32000000 in
theorem walk (a0:Int) (a1:Option Addr) (len1 cap1:Nat) (w:World) (w0:(Lit.int .u8 a0).wf=true) (w1:IsRecs w a1 len1 cap1 4 (Act12R w)) :
  Calls Tryz.prog 4 #[.int .u8 a0,.slice a1 len1 cap1] w fun e w'=>e=.returned (.bool true)∧Below w.heap.size w w':=by
 have h:=light12_any a1 len1 cap1 w w1
 have hu:=Go.bounds_u8 w0
 have W1:=Lib.hid w1;clear w1
 have pl:=fun (W:World)=>place12_any a0 W hu.1 (by omega)
 obtain ⟨p6,p29⟩:=place12_le a0
 generalize place12 a0=p at *
 have NW:=Lib.hid (fun (W:World)=>Dsk.new_ok p W (by omega) (by omega))
 have PL:=Lib.hid pl;clear pl
 have H:=Lib.hid h;clear h
 have AW:=Lib.hid (fun (W:World)=>awake12_any W)
 clear w0 hu
 go_enter Tryz.func4,Tryz.ntmps4
 go_wp2_with (go_at_call 6;refine (H.out).mono ?_;rintro e w1 ⟨t,rfl,hb,ht⟩;have HB1:=Lib.hid hb;have HFT:=Lib.hid ht;clear hb ht;cases t)
 ·go_wp2_with (go_at_call 7;refine (AW.out _).mono ?_;rintro e w2 ⟨rfl,hb⟩;have HB2:=Lib.hid (HB1.out.trans (hb.mono HB1.out.size));clear hb)
  go_ret
  exact ⟨rfl,HB2.out⟩
 have hfit:len1≤25∧Fits12 w a1 len1:=by first | exact HFT.out rfl | exact HFT.out trivial
 obtain ⟨hl25,hf12⟩:=hfit
 obtain ⟨l,hA⟩:=acts12_of W1.out hf12
 have HA:=Lib.hid hA;clear hA hf12
 go_wp2_with (first
  | (go_at_call 9;refine (PL.out _).mono ?_;rintro e w' ⟨rfl,rfl⟩)
  | (go_at_call 8;refine (NW.out _).mono ?_;rintro e w2 ⟨g,bs,bw,rfl,hd,hb,hge⟩;have HD2:=Lib.hid hd;have HB2:=Lib.hid (HB1.out.trans (hb.mono HB1.out.size));have HGE:=Lib.hid (show ∀ y∈[g,bs,bw],w.heap.size≤y from (fun y hy=>Nat.le_trans HB1.out.size (hge y hy)));clear hd hb hge)
  | (go_at_call 10;refine (fresh_k HB2.out HD2.out HGE.out p6 p29).mono ?_;rintro e w3 ⟨y0,q0,x0,d0,rfl,hb,hd,hs,hy⟩;have HB3:=Lib.hid hb;have HD3:=Lib.hid hd;have HS3:=Lib.hid hs;have HY3:=Lib.hid hy;clear hb hd hs hy))
 have hba:=low1 (Below.refl w3.heap.size w3) (.cells zSt 43)
 have hk0:HoldsK w (w3.alloc (.cells zSt 43)) g bs bw w3.heap.size p 0 (ptr y0) :=
  ⟨y0,q0,x0,d0,1,1,0,zeroS,_,_,rfl,low1 HB3.out _,HD3.out.below hba,HS3.out.up hba,⟨Blk.new w3 _ _,⟨none,0,0,rfl,rfl,Nat.le_refl _,by unfold maxLen;omega,fun _=>rfl,fun h=>absurd h (by omega)⟩,⟨none,0,0,rfl,rfl,Nat.le_refl _,by unfold maxLen;omega,fun _=>rfl,fun h=>absurd h (by omega)⟩,HB3.out.size⟩,HY3.out,by omega⟩
 have HK0:=Lib.hid hk0;clear hk0 hba
 go_loopw [7,10] (fun z7 i wr=>∃ k:Nat,k≤len1∧i=.int .i64 k∧HoldsK w wr g bs bw w3.heap.size p k z7) (fun _ i _=>len1 - (intOf i).toNat)
 case atStart=>exact ⟨0,Nat.zero_le _,rfl,HK0.out⟩
 case round =>
  clear HK0
  obtain ⟨k,hk,rfl,y,q,x,d,G,mk,e,s,dv,ev,rfl,hlow,hd,hss,hbx,hsy,hmk⟩:=hrel
  generalize w3.heap.size=wb at *
  by_cases hlt:k<len1
  ·obtain ⟨b,off,ac,Al,nl,cl,At,nt,ct,e0,hb,hac,c0,c1,c2,c3,ht,hcl,hn0,hn1⟩:=acts12_at HA.out (Below.refl w.heap.size w) hlt
   subst e0
   replace c0:=(hlow.cell (p:=⟨b,off+k*4,none⟩) hb).trans c0
   replace c1:=(hlow.cell (p:=⟨b,off+k*4+1,none⟩) hb).trans c1
   replace c2:=(hlow.cell (p:=⟨b,off+k*4+2,none⟩) hb).trans c2
   replace c3:=(hlow.cell (p:=⟨b,off+k*4+3,none⟩) hb).trans c3
   have hbz:b<wr.heap.size:=Nat.lt_of_lt_of_le hb hlow.size
   have HTT:=Lib.hid ht;clear ht hac
   have HCL:=Lib.hid hcl;clear hcl
   obtain ⟨wh,nn,L,ts⟩:=ac
   simp only at c0 c1 c2 c3 HTT HCL hn0 hn1
   obtain ⟨Ad,nd,cd,Ae,ne,ce,rfl,rfl⟩:=hbx.form
   obtain ⟨cs,hcs⟩:∃ cs:Array Value,cs=#[.int .i64 wh,.int .i64 nn,.slice Al nl cl,.slice At nt ct]:=⟨_,rfl⟩
   have hkw:=kw_made (cs:=cs) hlow hd hbx HGE.out
   have hsw:=hss.up (two_low wr (.cells cs 52) (.cells #[.slice Ad nd cd,.int .i64 s.up,.int .i64 s.bo,.slice Ae ne ce] 43))
   subst hcs
   obtain ⟨⟨b0,b1,b2,b3,b4⟩,_⟩:=box_cells hbx
   obtain ⟨nn1,nn2⟩:=tmod9 nn
   have hok:=hsy.ok (by omega)
   have HOK:=Lib.hid hok;clear hok
   have HKW:=Lib.hid hkw;clear hkw
   have HSW:=Lib.hid hsw;clear hsw
   have HSY:=Lib.hid hsy;clear hsy
   clear hlow hd hss hbx
   go_upto_block 2 with fail
   go_cut [13,14,15] from 48 to 166 (fun z13 z14 z15 wx=>Mid12 w wx g bs bw wr.heap.size wb (wr.heap.size+1) y p k wh #[.int .i64 wh,.int .i64 nn,.slice Al nl cl,.slice At nt ct])
   case first =>
    obtain ⟨y0_,y1_,y2_,y3_,y4_⟩:=blk_cells4 HKW.out.act
    obtain ⟨⟨b0,b1,b2,b3,b4⟩,g0,g1,g2,g3⟩:=box_cells HKW.out.want
    obtain ⟨⟨t0_,t1_,t2_,t3_,t4_⟩,f0,f1,f2,f3⟩:=box_cells HKW.out.tried
    by_cases w0:wh=0
    ·subst w0
     have ap:=fun (W:World) (hK:KW w W g bs bw wr.heap.size wb (wr.heap.size+1) d #[.int .i64 0,.int .i64 nn,.slice Al nl cl,.slice At nt ct] (.slice Ad nd cd) (.slice Ae ne ce) (.slice Ad nd cd) (.slice Ae ne ce) s s)=>kw_apply hK HCL.out
     have dq:=fun (W:World) (hK:KW w W g bs bw wr.heap.size wb (wr.heap.size+1) d #[.int .i64 0,.int .i64 nn,.slice Al nl cl,.slice At nt ct] (.slice Ad nd cd) (.slice Ae ne ce) (.slice Ad nd cd) (.slice Ae ne ce) s s) (hS:SS w W y q x g p ⟨G,mk,e,false⟩ s)=>kw_do hK hS p6 (by omega) HOK.out HCL.out
     unfold KDone at dq
     simp only [stV] at ap
     rcases do_ready (l:=L) HSY.out (by omega) (by unfold lg;omega) with ⟨er,q1,q2,q3⟩ | ⟨t,d1,G1,e1,q1,q2,q3⟩ | ⟨t,d1,v1,q1,q2,q3,q4,q5⟩
     ·rewrite [q1] at dq
      have h0b:(er == 0)=false:=beq_false_of_ne q2
      have h7b:(er == 7)=false:=beq_false_of_ne q3
      obtain ⟨T,hT⟩:∃ T,T=(applyS s L).1:=⟨_,rfl⟩
      obtain ⟨E0,hE⟩:∃ E0,E0=(applyS s L).2:=⟨_,rfl⟩
      rewrite [← hT,← hE] at ap
      have AP:=Lib.hid ap;clear ap
      have DO:=Lib.hid dq;clear dq q1 q2 q3 hT hE
      go_wp2_with (first
       | (go_at_call 25;refine (AP.out _ HKW.out).mono ?_;rintro e w5 ⟨A1,n1,c1_,A2,n2,c2_,rfl,hb5,hx5⟩;have ha5:=low_low hb5 (low1 (Below.refl w5.heap.size w5) (.cells #[.slice A1 n1 c1_,.int .i64 T.up,.int .i64 T.bo,.slice A2 n2 c2_] 43));have HX5:=Lib.hid hx5;have HK5:=Lib.hid (HKW.out.up ha5);have HS5:=Lib.hid (HSW.out.up ha5);clear hb5 hx5 ha5;clear y0_ y1_ y2_ y3_ y4_ b0 b1 b2 b3 b4 g0 g1 g2 g3 t0_ t1_ t2_ t3_ t4_ f0 f1 f2 f3;obtain ⟨y0_,y1_,y2_,y3_,y4_⟩:=blk_cells4 HK5.out.act;obtain ⟨⟨b0,b1,b2,b3,b4⟩,g0,g1,g2,g3⟩:=box_cells HK5.out.want;obtain ⟨⟨t0_,t1_,t2_,t3_,t4_⟩,f0,f1,f2,f3⟩:=box_cells HK5.out.tried)
       | (go_at_call 14;refine (DO.out _ HK5.out HS5.out).mono ?_;rintro e w7 ⟨rfl,hk7,hs7,hx7⟩;have HK7:=Lib.hid hk7;have HS7:=Lib.hid hs7;have HX7:=Lib.hid (hx7 _ _ _ _ HX5.out);clear hk7 hs7 hx7;clear y0_ y1_ y2_ y3_ y4_ b0 b1 b2 b3 b4 g0 g1 g2 g3 t0_ t1_ t2_ t3_ t4_ f0 f1 f2 f3;obtain ⟨y0_,y1_,y2_,y3_,y4_⟩:=blk_cells4 HK7.out.act;obtain ⟨⟨b0,b1,b2,b3,b4⟩,g0,g1,g2,g3⟩:=box_cells HK7.out.want;obtain ⟨⟨t0_,t1_,t2_,t3_,t4_⟩,f0,f1,f2,f3⟩:=box_cells HK7.out.tried;obtain ⟨⟨z0_,z1_,z2_,z3_,z4_⟩,_⟩:=box_cells HX7.out))
      go_meet
      case rel=>exact ⟨q,x,_,d,s,_,_,_,_,s,s,HK7.out,HS7.out,.inl ⟨G,mk,e,rfl,HSY.out,hmk,rfl,fun _=>rfl⟩⟩
     ·rewrite [q2] at dq
      rewrite [q1] at ap
      simp only at ap
      have HY1:=Lib.hid q3;clear q3
      obtain ⟨T,hT⟩:∃ T,T=t:=⟨_,rfl⟩
      subst hT
      have AP:=Lib.hid ap;clear ap
      have DO:=Lib.hid dq;clear dq q1 q2
      go_wp2_with (first
       | (go_at_call 25;refine (AP.out _ HKW.out).mono ?_;rintro e w5 ⟨A1,n1,c1_,A2,n2,c2_,rfl,hb5,hx5⟩;have ha5:=low_low hb5 (low1 (Below.refl w5.heap.size w5) (.cells #[.slice A1 n1 c1_,.int .i64 T.up,.int .i64 T.bo,.slice A2 n2 c2_] 43));have HX5:=Lib.hid hx5;have HK5:=Lib.hid (HKW.out.up ha5);have HS5:=Lib.hid (HSW.out.up ha5);clear hb5 hx5 ha5;clear y0_ y1_ y2_ y3_ y4_ b0 b1 b2 b3 b4 g0 g1 g2 g3 t0_ t1_ t2_ t3_ t4_ f0 f1 f2 f3;obtain ⟨y0_,y1_,y2_,y3_,y4_⟩:=blk_cells4 HK5.out.act;obtain ⟨⟨b0,b1,b2,b3,b4⟩,g0,g1,g2,g3⟩:=box_cells HK5.out.want;obtain ⟨⟨t0_,t1_,t2_,t3_,t4_⟩,f0,f1,f2,f3⟩:=box_cells HK5.out.tried)
       | (go_at_call 14;refine (DO.out _ HK5.out HS5.out).mono ?_;rintro e w7 ⟨rfl,hk7,hs7,hx7⟩;have HK7:=Lib.hid hk7;have HS7:=Lib.hid hs7;have HX7:=Lib.hid (hx7 _ _ _ _ HX5.out);clear hk7 hs7 hx7;clear y0_ y1_ y2_ y3_ y4_ b0 b1 b2 b3 b4 g0 g1 g2 g3 t0_ t1_ t2_ t3_ t4_ f0 f1 f2 f3;obtain ⟨y0_,y1_,y2_,y3_,y4_⟩:=blk_cells4 HK7.out.act;obtain ⟨⟨b0,b1,b2,b3,b4⟩,g0,g1,g2,g3⟩:=box_cells HK7.out.want;obtain ⟨⟨t0_,t1_,t2_,t3_,t4_⟩,f0,f1,f2,f3⟩:=box_cells HK7.out.tried;obtain ⟨⟨z0_,z1_,z2_,z3_,z4_⟩,_⟩:=box_cells HX7.out))
      go_meet
      case rel=>exact ⟨q,x,⟨G1,mk,e1,false⟩,d1,T,_,_,_,_,T,s,HK7.out.set_want HX7.out,HS7.out.box HK7.out.want _ _ _ _,.inl ⟨G1,mk,e1,rfl,HY1.out,hmk,rfl,fun h=>absurd h (by decide)⟩⟩
     ·rewrite [q2] at dq
      rewrite [q1] at ap
      simp only at ap
      have HQ3:=Lib.hid q3;clear q3
      have HQ4:=Lib.hid q4;clear q4
      have HQ5:=Lib.hid q5;clear q5
      have HWI:=Lib.hid (apply_up q1).1
      obtain ⟨T,hT⟩:∃ T,T=t:=⟨_,rfl⟩
      subst hT
      have AP:=Lib.hid ap;clear ap
      have DO:=Lib.hid dq;clear dq q1 q2
      go_wp2_with (first
       | (go_at_call 25;refine (AP.out _ HKW.out).mono ?_;rintro e w5 ⟨A1,n1,c1_,A2,n2,c2_,rfl,hb5,hx5⟩;have ha5:=low_low hb5 (low1 (Below.refl w5.heap.size w5) (.cells #[.slice A1 n1 c1_,.int .i64 T.up,.int .i64 T.bo,.slice A2 n2 c2_] 43));have HX5:=Lib.hid hx5;have HK5:=Lib.hid (HKW.out.up ha5);have HS5:=Lib.hid (HSW.out.up ha5);clear hb5 hx5 ha5;clear y0_ y1_ y2_ y3_ y4_ b0 b1 b2 b3 b4 g0 g1 g2 g3 t0_ t1_ t2_ t3_ t4_ f0 f1 f2 f3;obtain ⟨y0_,y1_,y2_,y3_,y4_⟩:=blk_cells4 HK5.out.act;obtain ⟨⟨b0,b1,b2,b3,b4⟩,g0,g1,g2,g3⟩:=box_cells HK5.out.want;obtain ⟨⟨t0_,t1_,t2_,t3_,t4_⟩,f0,f1,f2,f3⟩:=box_cells HK5.out.tried)
       | (go_at_call 14;refine (DO.out _ HK5.out HS5.out).mono ?_;rintro e w7 ⟨rfl,hk7,hs7,hx7⟩;have HK7:=Lib.hid hk7;have HS7:=Lib.hid hs7;have HX7:=Lib.hid (hx7 _ _ _ _ HX5.out);clear hk7 hs7 hx7;clear y0_ y1_ y2_ y3_ y4_ b0 b1 b2 b3 b4 g0 g1 g2 g3 t0_ t1_ t2_ t3_ t4_ f0 f1 f2 f3;obtain ⟨y0_,y1_,y2_,y3_,y4_⟩:=blk_cells4 HK7.out.act;obtain ⟨⟨b0,b1,b2,b3,b4⟩,g0,g1,g2,g3⟩:=box_cells HK7.out.want;obtain ⟨⟨t0_,t1_,t2_,t3_,t4_⟩,f0,f1,f2,f3⟩:=box_cells HK7.out.tried;obtain ⟨⟨z0_,z1_,z2_,z3_,z4_⟩,_⟩:=box_cells HX7.out))
      go_meet
      case rel=>exact ⟨q,x,v1,d1,s,_,_,_,_,s,T,HK7.out.set_tried HX7.out,HS7.out.box HK7.out.tried _ _ _ _,.inr ⟨rfl,HQ3.out,HQ4.out,lost_le HQ5.out (by omega),HWI.out⟩⟩
    have b0:(wh == 0)=false:=beq_false_of_ne w0
    by_cases w1:wh=1
    ·subst w1
     have dq:=fun (W:World) (hK:KW w W g bs bw wr.heap.size wb (wr.heap.size+1) d #[.int .i64 1,.int .i64 nn,.slice Al nl cl,.slice At nt ct] (.slice Ad nd cd) (.slice Ae ne ce) (.slice Ad nd cd) (.slice Ae ne ce) s s) (hS:SS w W y q x g p ⟨G,mk,e,false⟩ s)=>kw_turn hK hS p6 (by omega) HOK.out HSY.out.may
     unfold KDone at dq
     rcases turn_ready12 HSY.out (by omega) with ⟨er,q1⟩ | ⟨d1,G1,e1,q1,q2⟩ | ⟨d1,v1,q1,q2,q3,q4⟩
     ·rewrite [q1] at dq
      have DO:=Lib.hid dq;clear dq q1
      go_wp2_with (first
       | (go_at_call 16;refine (DO.out _ HKW.out HSW.out).mono ?_;rintro e w7 ⟨rfl,hk7,hs7,hx7⟩;have HK7:=Lib.hid hk7;have HS7:=Lib.hid hs7;clear hk7 hs7 hx7;clear y0_ y1_ y2_ y3_ y4_ b0 b1 b2 b3 b4 g0 g1 g2 g3 t0_ t1_ t2_ t3_ t4_ f0 f1 f2 f3;obtain ⟨y0_,y1_,y2_,y3_,y4_⟩:=blk_cells4 HK7.out.act;obtain ⟨⟨b0,b1,b2,b3,b4⟩,g0,g1,g2,g3⟩:=box_cells HK7.out.want;obtain ⟨⟨t0_,t1_,t2_,t3_,t4_⟩,f0,f1,f2,f3⟩:=box_cells HK7.out.tried))
      go_meet
      case rel=>exact ⟨q,x,_,d,s,_,_,_,_,s,s,HK7.out,HS7.out,.inl ⟨G,mk,e,rfl,HSY.out,hmk,rfl,fun _=>rfl⟩⟩
     ·rewrite [q1] at dq
      have HY1:=Lib.hid q2;clear q2
      have DO:=Lib.hid dq;clear dq q1
      go_wp2_with (first
       | (go_at_call 16;refine (DO.out _ HKW.out HSW.out).mono ?_;rintro e w7 ⟨rfl,hk7,hs7,hx7⟩;have HK7:=Lib.hid hk7;have HS7:=Lib.hid hs7;clear hk7 hs7 hx7;clear y0_ y1_ y2_ y3_ y4_ b0 b1 b2 b3 b4 g0 g1 g2 g3 t0_ t1_ t2_ t3_ t4_ f0 f1 f2 f3;obtain ⟨y0_,y1_,y2_,y3_,y4_⟩:=blk_cells4 HK7.out.act;obtain ⟨⟨b0,b1,b2,b3,b4⟩,g0,g1,g2,g3⟩:=box_cells HK7.out.want;obtain ⟨⟨t0_,t1_,t2_,t3_,t4_⟩,f0,f1,f2,f3⟩:=box_cells HK7.out.tried))
      go_meet
      case rel=>exact ⟨q,x,⟨G1,mk,e1,false⟩,d1,s,_,_,_,_,s,s,HK7.out,HS7.out,.inl ⟨G1,mk,e1,rfl,HY1.out,hmk,rfl,fun _=>rfl⟩⟩
     ·rewrite [q1] at dq
      have HQ3:=Lib.hid q2;clear q2
      have HQ4:=Lib.hid q3;clear q3
      have HQ5:=Lib.hid q4;clear q4
      have DO:=Lib.hid dq;clear dq q1
      go_wp2_with (first
       | (go_at_call 16;refine (DO.out _ HKW.out HSW.out).mono ?_;rintro e w7 ⟨rfl,hk7,hs7,hx7⟩;have HK7:=Lib.hid hk7;have HS7:=Lib.hid hs7;clear hk7 hs7 hx7;clear y0_ y1_ y2_ y3_ y4_ b0 b1 b2 b3 b4 g0 g1 g2 g3 t0_ t1_ t2_ t3_ t4_ f0 f1 f2 f3;obtain ⟨y0_,y1_,y2_,y3_,y4_⟩:=blk_cells4 HK7.out.act;obtain ⟨⟨b0,b1,b2,b3,b4⟩,g0,g1,g2,g3⟩:=box_cells HK7.out.want;obtain ⟨⟨t0_,t1_,t2_,t3_,t4_⟩,f0,f1,f2,f3⟩:=box_cells HK7.out.tried))
      go_meet
      case rel=>exact ⟨q,x,v1,d1,s,_,_,_,_,s,s,HK7.out,HS7.out,.inr ⟨rfl,HQ3.out,HQ4.out,lost_le HQ5.out (by omega),within_self HSY.out.may⟩⟩
    have b1_:(wh == 1)=false:=beq_false_of_ne w1
    by_cases w2:wh=2
    ·subst w2
     have AR:=Lib.hid (fun (W:World) (hK:KW w W g bs bw wr.heap.size wb (wr.heap.size+1) d #[.int .i64 2,.int .i64 nn,.slice Al nl cl,.slice At nt ct] (.slice Ad nd cd) (.slice Ae ne ce) (.slice Ad nd cd) (.slice Ae ne ce) s s) (hS:SS w W y q x g p ⟨G,mk,e,false⟩ s)=>kw_arm (k:=Int.tmod nn 9) hK hS (by omega) (by omega))
     go_wp2_with (first
      | (go_at_call 17;refine (AR.out _ HKW.out HSW.out).mono ?_;rintro e w7 ⟨rfl,hk7,hs7⟩;have HK7:=Lib.hid hk7;have HS7:=Lib.hid hs7;clear hk7 hs7;clear y0_ y1_ y2_ y3_ y4_ b0 b1 b2 b3 b4 g0 g1 g2 g3 t0_ t1_ t2_ t3_ t4_ f0 f1 f2 f3;obtain ⟨y0_,y1_,y2_,y3_,y4_⟩:=blk_cells4 HK7.out.act;obtain ⟨⟨b0,b1,b2,b3,b4⟩,g0,g1,g2,g3⟩:=box_cells HK7.out.want;obtain ⟨⟨t0_,t1_,t2_,t3_,t4_⟩,f0,f1,f2,f3⟩:=box_cells HK7.out.tried))
     go_meet
     case rel=>exact ⟨q,x,_,_,s,_,_,_,_,s,s,HK7.out,HS7.out,.inl ⟨G,mk,e,rfl,HSY.out.left _,hmk,rfl,fun _=>rfl⟩⟩
    have b2_:(wh == 2)=false:=beq_false_of_ne w2
    go_wp2_with (fail)
    go_meet
    case rel=>exact ⟨q,x,_,d,s,_,_,_,_,s,s,HKW.out,HSW.out,.inl ⟨G,mk,e,rfl,HSY.out,hmk,rfl,fun _=>rfl⟩⟩
   case rest =>
    obtain ⟨q1,x1,v1,d1,s1,dv1,ev1,dv2,ev2,want,tried,hk1,hs1,hleft⟩:=hcut
    clear c0 c1 c2 c3 HKW HSW HSY HOK b0 b1 b2 b3 b4
    obtain ⟨A1,n1,k1,A2,n2,k2,rfl,rfl⟩:=hk1.want.form
    obtain ⟨A3,n3,k3,A4,n4,k4,rfl,rfl⟩:=hk1.tried.form
    have HK:=Lib.hid hk1;clear hk1
    have HS:=Lib.hid hs1;clear hs1
    obtain ⟨y0_,y1_,y2_,y3_,y4_⟩:=blk_cells4 HK.out.act
    obtain ⟨⟨b0,b1,b2,b3,b4⟩,g0,g1,g2,g3⟩:=box_cells HK.out.want
    obtain ⟨⟨t0_,t1_,t2_,t3_,t4_⟩,f0,f1,f2,f3⟩:=box_cells HK.out.tried
    by_cases hgo:(wh == 3)=false∧d1.dead=false
    ·obtain ⟨b3_,hdd⟩:=hgo
     have b3n:(wh != 3)=true:=by simp [bne,b3_]
     obtain ⟨G1,mk1,e1,rfl,hsy1,hmk1,rfl,_⟩:∃ (G:Int) (mk:Int) (e:Nat),v1=⟨G,mk,e,false⟩∧Says p d1 G mk e s1∧mk≤(k:Int)+1∧s1=want∧(wh=3→tried=want):=by
      rcases hleft with h | ⟨_,h,_⟩
      ·exact h
      ·rw [hdd] at h;cases h
     have HSY:=Lib.hid hsy1;clear hsy1
     have DE:=Lib.hid (fun (W:World) (hY:KW w W g bs bw wr.heap.size wb (wr.heap.size+1) d1 #[.int .i64 wh,.int .i64 nn,.slice Al nl cl,.slice At nt ct] (.slice A1 n1 k1) (.slice A2 n2 k2) (.slice A3 n3 k3) (.slice A4 n4 k4) s1 tried)=>by have h:=Dsk.dead_any g bs bw d1 W hY.disk;rewrite [hdd] at h;exact h)
     have st:=fun (W:World) (hK:KW w W g bs bw wr.heap.size wb (wr.heap.size+1) d1 #[.int .i64 wh,.int .i64 nn,.slice Al nl cl,.slice At nt ct] (.slice A1 n1 k1) (.slice A2 n2 k2) (.slice A3 n3 k3) (.slice A4 n4 k4) s1 tried) (hS:SS w W y q1 x1 g p ⟨G1,mk1,e1,false⟩ s1)=>kw_state hK hS HSY.out.may
     have sm:=fun (W:World) (A:Option Addr) (n c:Nat) (A':Option Addr) (n' c':Nat) (h:StM W W.heap.size (.slice A n c) (.slice A' n' c') s1) (hK:KW w W g bs bw wr.heap.size wb (wr.heap.size+1) d1 #[.int .i64 wh,.int .i64 nn,.slice Al nl cl,.slice At nt ct] (.slice A1 n1 k1) (.slice A2 n2 k2) (.slice A3 n3 k3) (.slice A4 n4 k4) s1 tried)=>rsame_st s1 s1 (.slice A n c) (.slice A' n' c') (.slice A1 n1 k1) (.slice A2 n2 k2) W h (hK.want.stm hK.low.size)
     rewrite [sameS_self] at sm
     simp only [stV] at st sm
     have ST:=Lib.hid st;clear st
     have SM:=Lib.hid sm;clear sm
     clear hleft hdd
     go_wp2_with (go_at_call 26;refine (DE.out _ HK.out).mono ?_;rintro e w' ⟨rfl,rfl⟩)
     go_region_held3 (fun W=>W.cell? ⟨wb,0,none⟩=some (.slice A1 n1 k1)∧W.cell? ⟨wb,1,none⟩=some (.int .i64 s1.up)∧W.cell? ⟨wb,2,none⟩=some (.int .i64 s1.bo)∧W.cell? ⟨wb,3,none⟩=some (.slice A2 n2 k2))
      (first | with_reducible exact ⟨b0,b1,b2,b3⟩ | with_reducible exact ⟨m0,m1,m2,m3⟩ | with_reducible exact ⟨l0,l1,l2,l3⟩ | go_keep)
      (first
       | (go_at_call 22;refine (ST.out _ (HK.out.up (Below.refl _ _).drew) (HS.out.up (Below.refl _ _).drew)).mono ?_;rintro e w8 ⟨A8,n8,c8,A9,n9,c9,rfl,hst,hb8⟩;have HK8:=Lib.hid ((HK.out.up (Below.refl _ _).drew).up hb8);have HS8:=Lib.hid ((HS.out.up (Below.refl _ _).drew).up hb8);have HT8:=Lib.hid hst;obtain ⟨⟨m0,m1,m2,m3,_⟩,_⟩:=box_cells HK8.out.want;clear hst hb8)
       | (go_at_call 21;refine (SM.out _ A8 n8 c8 A9 n9 c9 (by first | with_reducible exact HT8.out | exact HT8.out.up (Below.refl _ _).drew) (by first | with_reducible exact HK8.out | exact HK8.out.up (Below.refl _ _).drew)).mono ?_;rintro e w9 ⟨rfl,hb9⟩;have HK9:=Lib.hid (HK8.out.up hb9);have HS9:=Lib.hid (HS8.out.up hb9);obtain ⟨⟨l0,l1,l2,l3,_⟩,_⟩:=box_cells HK9.out.want;clear hb9))
     go_wp2
     go_roundw
     case rel=>exact ⟨k+1,hlt,by go_num,y,q1,x1,d1,G1,mk1,e1,s1,_,_,rfl,HK9.out.low,HK9.out.disk,HS9.out,HK9.out.want,HSY.out,by omega⟩
     case measure=>exact meas hlt
    ·have HLE:=Lib.hid hleft
     by_cases w3:wh=3
     ·subst w3
      go_wp2_with (first
       | (go_at_call 27;refine (kw_told HK.out HTT.out).mono ?_;rintro e w7 ⟨t,rfl,ht,hb⟩;have HK7:=Lib.hid (HK.out.up hb);have HTO:=Lib.hid ht;clear hb ht;clear y0_ y1_ y2_ y3_ y4_ b0 b1 b2 b3 b4 g0 g1 g2 g3 t0_ t1_ t2_ t3_ t4_ f0 f1 f2 f3;obtain ⟨y0_,y1_,y2_,y3_,y4_⟩:=blk_cells4 HK7.out.act;obtain ⟨⟨b0,b1,b2,b3,b4⟩,g0,g1,g2,g3⟩:=box_cells HK7.out.want;obtain ⟨⟨t0_,t1_,t2_,t3_,t4_⟩,f0,f1,f2,f3⟩:=box_cells HK7.out.tried;cases t))
      ·go_wp2_with (go_at_call 7;refine (AW.out _).mono ?_;rintro e wz ⟨rfl,hb⟩;have HBZ:=Lib.hid (low_low HK7.out.low hb);clear hb)
       go_ret
       exact ⟨rfl,HBZ.out⟩
      ·have hc:Crashed d1 (d1.crash ts):=by first | exact HTO.out rfl | exact HTO.out trivial
       obtain ⟨G2,e2,s2,hsy2,hom,hor,hwi⟩:=left_crash HLE.out hc
       have hom2:openMark (d1.crash ts)≤2147483648:=by omega
       have cr:=fun (W:World) (hK:KW w W g bs bw wr.heap.size wb (wr.heap.size+1) d1 #[.int .i64 3,.int .i64 nn,.slice Al nl cl,.slice At nt ct] (.slice A1 n1 k1) (.slice A2 n2 k2) (.slice A3 n3 k3) (.slice A4 n4 k4) want tried)=>kw_crash hK HTT.out
       generalize d1.crash ts=d2 at *
       have op:=fun (W:World) (hK:KW w W g bs bw wr.heap.size wb (wr.heap.size+1) d2 #[.int .i64 3,.int .i64 nn,.slice Al nl cl,.slice At nt ct] (.slice A1 n1 k1) (.slice A2 n2 k2) (.slice A3 n3 k3) (.slice A4 n4 k4) want tried)=>kw_open hK hsy2 p6 (by omega) hom2
       unfold KOpen at op
       have st:=fun (W:World) (y q x:Nat) (hK:KW w W g bs bw wr.heap.size wb (wr.heap.size+1) d2 #[.int .i64 3,.int .i64 nn,.slice Al nl cl,.slice At nt ct] (.slice A1 n1 k1) (.slice A2 n2 k2) (.slice A3 n3 k3) (.slice A4 n4 k4) want tried) (hS:SS w W y q x g p ⟨G2,openMark d2,e2,false⟩ s2)=>kw_state hK hS hsy2.may
       have sq:=fun (W:World) (A:Option Addr) (n c:Nat) (A':Option Addr) (n' c':Nat) (B:Option Addr) (m k:Nat) (B':Option Addr) (m' k':Nat) (h:StM W W.heap.size (.slice A n c) (.slice A' n' c') s2) (h':StM W W.heap.size (.slice B m k) (.slice B' m' k') s2)=>rsame_st s2 s2 (.slice A n c) (.slice A' n' c') (.slice B m k) (.slice B' m' k') W h h'
       rewrite [sameS_self] at sq
       have wi:=fun (W:World) (A:Option Addr) (n c:Nat) (A':Option Addr) (n' c':Nat) (h:StM W W.heap.size (.slice A n c) (.slice A' n' c') s2) (hK:KW w W g bs bw wr.heap.size wb (wr.heap.size+1) d2 #[.int .i64 3,.int .i64 nn,.slice Al nl cl,.slice At nt ct] (.slice A1 n1 k1) (.slice A2 n2 k2) (.slice A3 n3 k3) (.slice A4 n4 k4) want tried)=>rwithin_yes want s2 (.slice A1 n1 k1) (.slice A2 n2 k2) (.slice A n c) (.slice A' n' c') W (hK.want.stm hK.low.size) h hwi
       have sm:=fun (W:World) (A:Option Addr) (n c:Nat) (A':Option Addr) (n' c':Nat) (h:StM W W.heap.size (.slice A n c) (.slice A' n' c') s2) (hK:KW w W g bs bw wr.heap.size wb (wr.heap.size+1) d2 #[.int .i64 3,.int .i64 nn,.slice Al nl cl,.slice At nt ct] (.slice A1 n1 k1) (.slice A2 n2 k2) (.slice A3 n3 k3) (.slice A4 n4 k4) want tried)=>rsame_st s2 want (.slice A n c) (.slice A' n' c') (.slice A1 n1 k1) (.slice A2 n2 k2) W h (hK.want.stm hK.low.size)
       have sn:=fun (W:World) (A:Option Addr) (n c:Nat) (A':Option Addr) (n' c':Nat) (h:StM W W.heap.size (.slice A n c) (.slice A' n' c') s2) (hK:KW w W g bs bw wr.heap.size wb (wr.heap.size+1) d2 #[.int .i64 3,.int .i64 nn,.slice Al nl cl,.slice At nt ct] (.slice A1 n1 k1) (.slice A2 n2 k2) (.slice A3 n3 k3) (.slice A4 n4 k4) want tried)=>rsame_st s2 tried (.slice A n c) (.slice A' n' c') (.slice A3 n3 k3) (.slice A4 n4 k4) W h (hK.tried.stm hK.low.size)
       simp only [stV] at st sq wi sm sn
       have CR:=Lib.hid cr;clear cr
       have OP:=Lib.hid op;clear op
       have ST:=Lib.hid st;clear st
       have SQ:=Lib.hid sq;clear sq
       have WI:=Lib.hid wi;clear wi
       have HSY2:=Lib.hid hsy2;clear hsy2 hwi hc
       have HM0:=Lib.hid (rfl:(0:Nat)=0)
       go_wp2_with (first
        | (go_at_call 18;refine (CR.out _ HK7.out).mono ?_;rintro e w8 ⟨rfl,h⟩;have HK8:=Lib.hid h;clear h;clear y0_ y1_ y2_ y3_ y4_ b0 b1 b2 b3 b4 g0 g1 g2 g3 t0_ t1_ t2_ t3_ t4_ f0 f1 f2 f3;obtain ⟨y0_,y1_,y2_,y3_,y4_⟩:=blk_cells4 HK8.out.act;obtain ⟨⟨b0,b1,b2,b3,b4⟩,g0,g1,g2,g3⟩:=box_cells HK8.out.want;obtain ⟨⟨t0_,t1_,t2_,t3_,t4_⟩,f0,f1,f2,f3⟩:=box_cells HK8.out.tried)
        | (have HMX:=HM0;go_at_call 10;refine (OP.out _ HK8.out).mono ?_;rintro e w9 ⟨y9,q9,x9,rfl,h,hs9,_⟩;have HK9:=Lib.hid h;have HS9:=Lib.hid hs9;clear h hs9 HM0 HMX;clear y0_ y1_ y2_ y3_ y4_ b0 b1 b2 b3 b4 g0 g1 g2 g3 t0_ t1_ t2_ t3_ t4_ f0 f1 f2 f3;obtain ⟨y0_,y1_,y2_,y3_,y4_⟩:=blk_cells4 HK9.out.act;obtain ⟨⟨b0,b1,b2,b3,b4⟩,g0,g1,g2,g3⟩:=box_cells HK9.out.want;obtain ⟨⟨t0_,t1_,t2_,t3_,t4_⟩,f0,f1,f2,f3⟩:=box_cells HK9.out.tried)
        | (go_at_call 10;refine (OP.out _ HK9.out).mono ?_;rintro e w10 ⟨ya,qa,xa,rfl,h,hsa,hkp⟩;have HKA:=Lib.hid h;have HSA:=Lib.hid hsa;have HSB:=Lib.hid (hkp _ _ _ _ _ HS9.out);clear h hsa hkp;clear y0_ y1_ y2_ y3_ y4_ b0 b1 b2 b3 b4 g0 g1 g2 g3 t0_ t1_ t2_ t3_ t4_ f0 f1 f2 f3;obtain ⟨y0_,y1_,y2_,y3_,y4_⟩:=blk_cells4 HKA.out.act;obtain ⟨⟨b0,b1,b2,b3,b4⟩,g0,g1,g2,g3⟩:=box_cells HKA.out.want;obtain ⟨⟨t0_,t1_,t2_,t3_,t4_⟩,f0,f1,f2,f3⟩:=box_cells HKA.out.tried))
       have HM1:=Lib.hid (rfl:(0:Nat)=0)
       go_region_held3 (fun W=>W.cell? ⟨wb,0,none⟩=some (.slice A1 n1 k1)∧W.cell? ⟨wb,1,none⟩=some (.int .i64 want.up)∧W.cell? ⟨wb,2,none⟩=some (.int .i64 want.bo)∧W.cell? ⟨wb,3,none⟩=some (.slice A2 n2 k2))
        (first | with_reducible exact ⟨b0,b1,b2,b3⟩ | go_keep)
        (first
         | (have HMX:=HM1;go_at_call 22;refine (ST.out _ y9 q9 x9 (HKA.out.up (Below.refl _ _).drew) (HSB.out.up (Below.refl _ _).drew)).mono ?_;rintro e v1_ ⟨P1_,p1_,r1_,P2_,p2_,r2_,rfl,hst,hb⟩;have HT1:=Lib.hid hst;have HKB:=Lib.hid ((HKA.out.up (Below.refl _ _).drew).up hb);have HSA1:=Lib.hid ((HSA.out.up (Below.refl _ _).drew).up hb);have HSB1:=Lib.hid ((HSB.out.up (Below.refl _ _).drew).up hb);clear hst hb HM1 HMX b0 b1 b2 b3;have HM2:=Lib.hid (rfl:(0:Nat)=0);obtain ⟨⟨b0,b1,b2,b3,_⟩,_⟩:=box_cells HKB.out.want)
         | (have HMX:=HM2;go_at_call 22;refine (ST.out _ ya qa xa HKB.out HSA1.out).mono ?_;rintro e v2_ ⟨P3_,p3_,r3_,P4_,p4_,r4_,rfl,hst,hb⟩;have HT2:=Lib.hid hst;have HT12:=Lib.hid (HT1.out.up hb);have HKC:=Lib.hid (HKB.out.up hb);have HSA2:=Lib.hid (HSA1.out.up hb);have HSB2:=Lib.hid (HSB1.out.up hb);clear hst hb HM2 HMX b0 b1 b2 b3;have HM3:=Lib.hid (rfl:(0:Nat)=0);obtain ⟨⟨b0,b1,b2,b3,_⟩,_⟩:=box_cells HKC.out.want)
         | (go_at_call 21;refine (SQ.out _ P1_ p1_ r1_ P2_ p2_ r2_ P3_ p3_ r3_ P4_ p4_ r4_ HT12.out HT2.out).mono ?_;rintro e v3_ ⟨rfl,hb⟩;have HKD:=Lib.hid (HKC.out.up hb);have HSA3:=Lib.hid (HSA2.out.up hb);have HSB3:=Lib.hid (HSB2.out.up hb);clear hb b0 b1 b2 b3;obtain ⟨⟨b0,b1,b2,b3,_⟩,_⟩:=box_cells HKD.out.want)
         | (have HMX:=HM3;go_at_call 22;refine (ST.out _ y9 q9 x9 HKD.out HSB3.out).mono ?_;rintro e v4_ ⟨P5_,p5_,r5_,P6_,p6_,r6_,rfl,hst,hb⟩;have HT4:=Lib.hid hst;have HKE:=Lib.hid (HKD.out.up hb);have HSA4:=Lib.hid (HSA3.out.up hb);have HSB4:=Lib.hid (HSB3.out.up hb);clear hst hb HM3 HMX b0 b1 b2 b3;obtain ⟨⟨b0,b1,b2,b3,_⟩,_⟩:=box_cells HKE.out.want)
         | (go_at_call 28;refine (WI.out _ P5_ p5_ r5_ P6_ p6_ r6_ HT4.out HKE.out).mono ?_;rintro e v5_ ⟨rfl,hb⟩;have HKF:=Lib.hid (HKE.out.up hb);have HSA5:=Lib.hid (HSA4.out.up hb);have HSB5:=Lib.hid (HSB4.out.up hb);clear hb b0 b1 b2 b3;obtain ⟨⟨b0,b1,b2,b3,_⟩,_⟩:=box_cells HKF.out.want))
       go_wp2
       by_cases hw:s2=want
       ·have hbt:sameS s2 want=true:=by rw [hw];exact sameS_self _
        rewrite [hbt] at sm
        have SM:=Lib.hid sm;clear sm sn hbt
        have HW:=Lib.hid hw;clear hw
        go_region_held3 (fun W=>W.cell? ⟨wb,0,none⟩=some (.slice A1 n1 k1)∧W.cell? ⟨wb,1,none⟩=some (.int .i64 want.up)∧W.cell? ⟨wb,2,none⟩=some (.int .i64 want.bo)∧W.cell? ⟨wb,3,none⟩=some (.slice A2 n2 k2))
         (first | with_reducible exact ⟨b0,b1,b2,b3⟩ | go_keep)
         (first
          | (go_at_call 22;refine (ST.out _ y9 q9 x9 (HKF.out.up (Below.refl _ _).drew) (HSB5.out.up (Below.refl _ _).drew)).mono ?_;rintro e v6_ ⟨P7_,p7_,r7_,P8_,p8_,r8_,rfl,hst,hb⟩;have HT6:=Lib.hid hst;have HKG:=Lib.hid ((HKF.out.up (Below.refl _ _).drew).up hb);have HSA6:=Lib.hid ((HSA5.out.up (Below.refl _ _).drew).up hb);have HSB6:=Lib.hid ((HSB5.out.up (Below.refl _ _).drew).up hb);clear hst hb b0  b1  b2  b3;obtain ⟨⟨b0,b1,b2,b3,_⟩,_⟩:=box_cells HKG.out.want)
          | (go_at_call 21;refine (SM.out _ P7_ p7_ r7_ P8_ p8_ r8_ HT6.out HKG.out).mono ?_;rintro e v7_ ⟨rfl,hb⟩;have HKH:=Lib.hid (HKG.out.up hb);have HSAHKH:=Lib.hid (HSA6.out.up hb);have HSBHKH:=Lib.hid (HSB6.out.up hb);clear hb b0  b1  b2  b3;obtain ⟨⟨b0,b1,b2,b3,_⟩,_⟩:=box_cells HKH.out.want))
        go_wp2
        go_roundw
        case rel=>exact ⟨k+1,hlt,by go_num,ya,qa,xa,d2,G2,openMark d2,e2,s2,_,_,rfl,HKH.out.low,HKH.out.disk,HSAHKH.out,(by rw [HW.out];exact HKH.out.want),HSY2.out,hom⟩
        case measure=>exact meas hlt
       ·have hs3:s2=tried:=hor.resolve_left hw
        have hbf:sameS s2 want=false:=Bool.eq_false_iff.2 (fun h=>hw (sameS_iff.1 h))
        have hbt:sameS s2 tried=true:=by rw [hs3];exact sameS_self _
        rewrite [hbf] at sm
        rewrite [hbt] at sn
        have SM:=Lib.hid sm;clear sm hbf hw hor
        have SN:=Lib.hid sn;clear sn hbt
        have HW:=Lib.hid hs3;clear hs3
        go_region_held3 (fun W=>W.cell? ⟨wb,0,none⟩=some (.slice A1 n1 k1)∧W.cell? ⟨wb,1,none⟩=some (.int .i64 want.up)∧W.cell? ⟨wb,2,none⟩=some (.int .i64 want.bo)∧W.cell? ⟨wb,3,none⟩=some (.slice A2 n2 k2))
         (first | with_reducible exact ⟨b0,b1,b2,b3⟩ | go_keep)
         (first
          | (go_at_call 22;refine (ST.out _ y9 q9 x9 (HKF.out.up (Below.refl _ _).drew) (HSB5.out.up (Below.refl _ _).drew)).mono ?_;rintro e v6_ ⟨P7_,p7_,r7_,P8_,p8_,r8_,rfl,hst,hb⟩;have HT6:=Lib.hid hst;have HKG:=Lib.hid ((HKF.out.up (Below.refl _ _).drew).up hb);have HSA6:=Lib.hid ((HSA5.out.up (Below.refl _ _).drew).up hb);have HSB6:=Lib.hid ((HSB5.out.up (Below.refl _ _).drew).up hb);clear hst hb b0  b1  b2  b3;obtain ⟨⟨b0,b1,b2,b3,_⟩,_⟩:=box_cells HKG.out.want)
          | (go_at_call 21;refine (SM.out _ P7_ p7_ r7_ P8_ p8_ r8_ HT6.out HKG.out).mono ?_;rintro e v7_ ⟨rfl,hb⟩;have HKH:=Lib.hid (HKG.out.up hb);have HSAHKH:=Lib.hid (HSA6.out.up hb);have HSBHKH:=Lib.hid (HSB6.out.up hb);clear hb b0  b1  b2  b3;obtain ⟨⟨b0,b1,b2,b3,_⟩,_⟩:=box_cells HKH.out.want))
        clear HT6 HKG HSA6 HSB6 t0_ t1_ t2_ t3_
        obtain ⟨⟨t0_,t1_,t2_,t3_,_⟩,_⟩:=box_cells HKH.out.tried
        go_wp2
        go_region_held3 (fun W=>W.cell? ⟨wr.heap.size+1,0,none⟩=some (.slice A3 n3 k3)∧W.cell? ⟨wr.heap.size+1,1,none⟩=some (.int .i64 tried.up)∧W.cell? ⟨wr.heap.size+1,2,none⟩=some (.int .i64 tried.bo)∧W.cell? ⟨wr.heap.size+1,3,none⟩=some (.slice A4 n4 k4))
         (first | with_reducible exact ⟨t0_,t1_,t2_,t3_⟩ | go_keep)
         (first
          | (go_at_call 22;refine (ST.out _ y9 q9 x9 (HKH.out.up (Below.refl _ _).drew) (HSBHKH.out.up (Below.refl _ _).drew)).mono ?_;rintro e v6_ ⟨P7_,p7_,r7_,P8_,p8_,r8_,rfl,hst,hb⟩;have HT6:=Lib.hid hst;have HKG:=Lib.hid ((HKH.out.up (Below.refl _ _).drew).up hb);have HSA6:=Lib.hid ((HSAHKH.out.up (Below.refl _ _).drew).up hb);have HSB6:=Lib.hid ((HSBHKH.out.up (Below.refl _ _).drew).up hb);clear hst hb t0_  t1_  t2_  t3_;obtain ⟨⟨t0_,t1_,t2_,t3_,_⟩,_⟩:=box_cells HKG.out.tried)
          | (go_at_call 21;refine (SN.out _ P7_ p7_ r7_ P8_ p8_ r8_ HT6.out HKG.out).mono ?_;rintro e v7_ ⟨rfl,hb⟩;have HKJ:=Lib.hid (HKG.out.up hb);have HSAHKJ:=Lib.hid (HSA6.out.up hb);have HSBHKJ:=Lib.hid (HSB6.out.up hb);clear hb t0_  t1_  t2_  t3_;obtain ⟨⟨t0_,t1_,t2_,t3_,_⟩,_⟩:=box_cells HKJ.out.tried))
        clear b0 b1 b2 b3 g0 g1 g2 g3 f0 f1 f2 f3
        obtain ⟨⟨b0,b1,b2,b3,b4⟩,g0,g1,g2,g3⟩:=box_cells HKJ.out.want
        go_wp2
        go_roundw
        case rel=>exact ⟨k+1,hlt,by go_num,ya,qa,xa,d2,G2,openMark d2,e2,s2,_,_,rfl,(HKJ.out.set_want HKJ.out.tried).low,(HKJ.out.set_want HKJ.out.tried).disk,HSAHKJ.out.box HKJ.out.want _ _ _ _,(by rw [HW.out];exact (HKJ.out.set_want HKJ.out.tried).want),HSY2.out,hom⟩
        case measure=>exact meas hlt
     ·have b3_:(wh == 3)=false:=beq_false_of_ne w3
      have b3n:(wh != 3)=true:=by simp [bne,b3_]
      have hdd:d1.dead=true:=by cases e9:d1.dead with | true=>rfl | false=>exact absurd ⟨b3_,e9⟩ hgo
      have DE:=Lib.hid (fun (W:World) (hY:KW w W g bs bw wr.heap.size wb (wr.heap.size+1) d1 #[.int .i64 wh,.int .i64 nn,.slice Al nl cl,.slice At nt ct] (.slice A1 n1 k1) (.slice A2 n2 k2) (.slice A3 n3 k3) (.slice A4 n4 k4) want tried)=>by have h:=Dsk.dead_any g bs bw d1 W hY.disk;rewrite [hdd] at h;exact h)
      clear hdd w3 hgo
      go_wp2_with (first
       | (go_at_call 26;refine (DE.out _ HK.out).mono ?_;rintro e w' ⟨rfl,rfl⟩)
       | (go_at_call 27;refine (kw_told HK.out HTT.out).mono ?_;rintro e w7 ⟨t,rfl,ht,hb⟩;have HK7:=Lib.hid (HK.out.up hb);have HTO:=Lib.hid ht;clear hb ht;clear y0_ y1_ y2_ y3_ y4_ b0 b1 b2 b3 b4 g0 g1 g2 g3 t0_ t1_ t2_ t3_ t4_ f0 f1 f2 f3;obtain ⟨y0_,y1_,y2_,y3_,y4_⟩:=blk_cells4 HK7.out.act;obtain ⟨⟨b0,b1,b2,b3,b4⟩,g0,g1,g2,g3⟩:=box_cells HK7.out.want;obtain ⟨⟨t0_,t1_,t2_,t3_,t4_⟩,f0,f1,f2,f3⟩:=box_cells HK7.out.tried;cases t))
      ·go_wp2_with (go_at_call 7;refine (AW.out _).mono ?_;rintro e wz ⟨rfl,hb⟩;have HBZ:=Lib.hid (low_low HK7.out.low hb);clear hb)
       go_ret
       exact ⟨rfl,HBZ.out⟩
      ·have hc:Crashed d1 (d1.crash ts):=by first | exact HTO.out rfl | exact HTO.out trivial
       obtain ⟨G2,e2,s2,hsy2,hom,hor,hwi⟩:=left_crash HLE.out hc
       have hom2:openMark (d1.crash ts)≤2147483648:=by omega
       have cr:=fun (W:World) (hK:KW w W g bs bw wr.heap.size wb (wr.heap.size+1) d1 #[.int .i64 wh,.int .i64 nn,.slice Al nl cl,.slice At nt ct] (.slice A1 n1 k1) (.slice A2 n2 k2) (.slice A3 n3 k3) (.slice A4 n4 k4) want tried)=>kw_crash hK HTT.out
       generalize d1.crash ts=d2 at *
       have op:=fun (W:World) (hK:KW w W g bs bw wr.heap.size wb (wr.heap.size+1) d2 #[.int .i64 wh,.int .i64 nn,.slice Al nl cl,.slice At nt ct] (.slice A1 n1 k1) (.slice A2 n2 k2) (.slice A3 n3 k3) (.slice A4 n4 k4) want tried)=>kw_open hK hsy2 p6 (by omega) hom2
       unfold KOpen at op
       have st:=fun (W:World) (y q x:Nat) (hK:KW w W g bs bw wr.heap.size wb (wr.heap.size+1) d2 #[.int .i64 wh,.int .i64 nn,.slice Al nl cl,.slice At nt ct] (.slice A1 n1 k1) (.slice A2 n2 k2) (.slice A3 n3 k3) (.slice A4 n4 k4) want tried) (hS:SS w W y q x g p ⟨G2,openMark d2,e2,false⟩ s2)=>kw_state hK hS hsy2.may
       have sq:=fun (W:World) (A:Option Addr) (n c:Nat) (A':Option Addr) (n' c':Nat) (B:Option Addr) (m k:Nat) (B':Option Addr) (m' k':Nat) (h:StM W W.heap.size (.slice A n c) (.slice A' n' c') s2) (h':StM W W.heap.size (.slice B m k) (.slice B' m' k') s2)=>rsame_st s2 s2 (.slice A n c) (.slice A' n' c') (.slice B m k) (.slice B' m' k') W h h'
       rewrite [sameS_self] at sq
       have wi:=fun (W:World) (A:Option Addr) (n c:Nat) (A':Option Addr) (n' c':Nat) (h:StM W W.heap.size (.slice A n c) (.slice A' n' c') s2) (hK:KW w W g bs bw wr.heap.size wb (wr.heap.size+1) d2 #[.int .i64 wh,.int .i64 nn,.slice Al nl cl,.slice At nt ct] (.slice A1 n1 k1) (.slice A2 n2 k2) (.slice A3 n3 k3) (.slice A4 n4 k4) want tried)=>rwithin_yes want s2 (.slice A1 n1 k1) (.slice A2 n2 k2) (.slice A n c) (.slice A' n' c') W (hK.want.stm hK.low.size) h hwi
       have sm:=fun (W:World) (A:Option Addr) (n c:Nat) (A':Option Addr) (n' c':Nat) (h:StM W W.heap.size (.slice A n c) (.slice A' n' c') s2) (hK:KW w W g bs bw wr.heap.size wb (wr.heap.size+1) d2 #[.int .i64 wh,.int .i64 nn,.slice Al nl cl,.slice At nt ct] (.slice A1 n1 k1) (.slice A2 n2 k2) (.slice A3 n3 k3) (.slice A4 n4 k4) want tried)=>rsame_st s2 want (.slice A n c) (.slice A' n' c') (.slice A1 n1 k1) (.slice A2 n2 k2) W h (hK.want.stm hK.low.size)
       have sn:=fun (W:World) (A:Option Addr) (n c:Nat) (A':Option Addr) (n' c':Nat) (h:StM W W.heap.size (.slice A n c) (.slice A' n' c') s2) (hK:KW w W g bs bw wr.heap.size wb (wr.heap.size+1) d2 #[.int .i64 wh,.int .i64 nn,.slice Al nl cl,.slice At nt ct] (.slice A1 n1 k1) (.slice A2 n2 k2) (.slice A3 n3 k3) (.slice A4 n4 k4) want tried)=>rsame_st s2 tried (.slice A n c) (.slice A' n' c') (.slice A3 n3 k3) (.slice A4 n4 k4) W h (hK.tried.stm hK.low.size)
       simp only [stV] at st sq wi sm sn
       have CR:=Lib.hid cr;clear cr
       have OP:=Lib.hid op;clear op
       have ST:=Lib.hid st;clear st
       have SQ:=Lib.hid sq;clear sq
       have WI:=Lib.hid wi;clear wi
       have HSY2:=Lib.hid hsy2;clear hsy2 hwi hc
       have HM0:=Lib.hid (rfl:(0:Nat)=0)
       go_wp2_with (first
        | (go_at_call 18;refine (CR.out _ HK7.out).mono ?_;rintro e w8 ⟨rfl,h⟩;have HK8:=Lib.hid h;clear h;clear y0_ y1_ y2_ y3_ y4_ b0 b1 b2 b3 b4 g0 g1 g2 g3 t0_ t1_ t2_ t3_ t4_ f0 f1 f2 f3;obtain ⟨y0_,y1_,y2_,y3_,y4_⟩:=blk_cells4 HK8.out.act;obtain ⟨⟨b0,b1,b2,b3,b4⟩,g0,g1,g2,g3⟩:=box_cells HK8.out.want;obtain ⟨⟨t0_,t1_,t2_,t3_,t4_⟩,f0,f1,f2,f3⟩:=box_cells HK8.out.tried)
        | (have HMX:=HM0;go_at_call 10;refine (OP.out _ HK8.out).mono ?_;rintro e w9 ⟨y9,q9,x9,rfl,h,hs9,_⟩;have HK9:=Lib.hid h;have HS9:=Lib.hid hs9;clear h hs9 HM0 HMX;clear y0_ y1_ y2_ y3_ y4_ b0 b1 b2 b3 b4 g0 g1 g2 g3 t0_ t1_ t2_ t3_ t4_ f0 f1 f2 f3;obtain ⟨y0_,y1_,y2_,y3_,y4_⟩:=blk_cells4 HK9.out.act;obtain ⟨⟨b0,b1,b2,b3,b4⟩,g0,g1,g2,g3⟩:=box_cells HK9.out.want;obtain ⟨⟨t0_,t1_,t2_,t3_,t4_⟩,f0,f1,f2,f3⟩:=box_cells HK9.out.tried)
        | (go_at_call 10;refine (OP.out _ HK9.out).mono ?_;rintro e w10 ⟨ya,qa,xa,rfl,h,hsa,hkp⟩;have HKA:=Lib.hid h;have HSA:=Lib.hid hsa;have HSB:=Lib.hid (hkp _ _ _ _ _ HS9.out);clear h hsa hkp;clear y0_ y1_ y2_ y3_ y4_ b0 b1 b2 b3 b4 g0 g1 g2 g3 t0_ t1_ t2_ t3_ t4_ f0 f1 f2 f3;obtain ⟨y0_,y1_,y2_,y3_,y4_⟩:=blk_cells4 HKA.out.act;obtain ⟨⟨b0,b1,b2,b3,b4⟩,g0,g1,g2,g3⟩:=box_cells HKA.out.want;obtain ⟨⟨t0_,t1_,t2_,t3_,t4_⟩,f0,f1,f2,f3⟩:=box_cells HKA.out.tried))
       have HM1:=Lib.hid (rfl:(0:Nat)=0)
       go_region_held3 (fun W=>W.cell? ⟨wb,0,none⟩=some (.slice A1 n1 k1)∧W.cell? ⟨wb,1,none⟩=some (.int .i64 want.up)∧W.cell? ⟨wb,2,none⟩=some (.int .i64 want.bo)∧W.cell? ⟨wb,3,none⟩=some (.slice A2 n2 k2))
        (first | with_reducible exact ⟨b0,b1,b2,b3⟩ | go_keep)
        (first
         | (have HMX:=HM1;go_at_call 22;refine (ST.out _ y9 q9 x9 (HKA.out.up (Below.refl _ _).drew) (HSB.out.up (Below.refl _ _).drew)).mono ?_;rintro e v1_ ⟨P1_,p1_,r1_,P2_,p2_,r2_,rfl,hst,hb⟩;have HT1:=Lib.hid hst;have HKB:=Lib.hid ((HKA.out.up (Below.refl _ _).drew).up hb);have HSA1:=Lib.hid ((HSA.out.up (Below.refl _ _).drew).up hb);have HSB1:=Lib.hid ((HSB.out.up (Below.refl _ _).drew).up hb);clear hst hb HM1 HMX b0 b1 b2 b3;have HM2:=Lib.hid (rfl:(0:Nat)=0);obtain ⟨⟨b0,b1,b2,b3,_⟩,_⟩:=box_cells HKB.out.want)
         | (have HMX:=HM2;go_at_call 22;refine (ST.out _ ya qa xa HKB.out HSA1.out).mono ?_;rintro e v2_ ⟨P3_,p3_,r3_,P4_,p4_,r4_,rfl,hst,hb⟩;have HT2:=Lib.hid hst;have HT12:=Lib.hid (HT1.out.up hb);have HKC:=Lib.hid (HKB.out.up hb);have HSA2:=Lib.hid (HSA1.out.up hb);have HSB2:=Lib.hid (HSB1.out.up hb);clear hst hb HM2 HMX b0 b1 b2 b3;have HM3:=Lib.hid (rfl:(0:Nat)=0);obtain ⟨⟨b0,b1,b2,b3,_⟩,_⟩:=box_cells HKC.out.want)
         | (go_at_call 21;refine (SQ.out _ P1_ p1_ r1_ P2_ p2_ r2_ P3_ p3_ r3_ P4_ p4_ r4_ HT12.out HT2.out).mono ?_;rintro e v3_ ⟨rfl,hb⟩;have HKD:=Lib.hid (HKC.out.up hb);have HSA3:=Lib.hid (HSA2.out.up hb);have HSB3:=Lib.hid (HSB2.out.up hb);clear hb b0 b1 b2 b3;obtain ⟨⟨b0,b1,b2,b3,_⟩,_⟩:=box_cells HKD.out.want)
         | (have HMX:=HM3;go_at_call 22;refine (ST.out _ y9 q9 x9 HKD.out HSB3.out).mono ?_;rintro e v4_ ⟨P5_,p5_,r5_,P6_,p6_,r6_,rfl,hst,hb⟩;have HT4:=Lib.hid hst;have HKE:=Lib.hid (HKD.out.up hb);have HSA4:=Lib.hid (HSA3.out.up hb);have HSB4:=Lib.hid (HSB3.out.up hb);clear hst hb HM3 HMX b0 b1 b2 b3;obtain ⟨⟨b0,b1,b2,b3,_⟩,_⟩:=box_cells HKE.out.want)
         | (go_at_call 28;refine (WI.out _ P5_ p5_ r5_ P6_ p6_ r6_ HT4.out HKE.out).mono ?_;rintro e v5_ ⟨rfl,hb⟩;have HKF:=Lib.hid (HKE.out.up hb);have HSA5:=Lib.hid (HSA4.out.up hb);have HSB5:=Lib.hid (HSB4.out.up hb);clear hb b0 b1 b2 b3;obtain ⟨⟨b0,b1,b2,b3,_⟩,_⟩:=box_cells HKF.out.want))
       go_wp2
       by_cases hw:s2=want
       ·have hbt:sameS s2 want=true:=by rw [hw];exact sameS_self _
        rewrite [hbt] at sm
        have SM:=Lib.hid sm;clear sm sn hbt
        have HW:=Lib.hid hw;clear hw
        go_region_held3 (fun W=>W.cell? ⟨wb,0,none⟩=some (.slice A1 n1 k1)∧W.cell? ⟨wb,1,none⟩=some (.int .i64 want.up)∧W.cell? ⟨wb,2,none⟩=some (.int .i64 want.bo)∧W.cell? ⟨wb,3,none⟩=some (.slice A2 n2 k2))
         (first | with_reducible exact ⟨b0,b1,b2,b3⟩ | go_keep)
         (first
          | (go_at_call 22;refine (ST.out _ y9 q9 x9 (HKF.out.up (Below.refl _ _).drew) (HSB5.out.up (Below.refl _ _).drew)).mono ?_;rintro e v6_ ⟨P7_,p7_,r7_,P8_,p8_,r8_,rfl,hst,hb⟩;have HT6:=Lib.hid hst;have HKG:=Lib.hid ((HKF.out.up (Below.refl _ _).drew).up hb);have HSA6:=Lib.hid ((HSA5.out.up (Below.refl _ _).drew).up hb);have HSB6:=Lib.hid ((HSB5.out.up (Below.refl _ _).drew).up hb);clear hst hb b0  b1  b2  b3;obtain ⟨⟨b0,b1,b2,b3,_⟩,_⟩:=box_cells HKG.out.want)
          | (go_at_call 21;refine (SM.out _ P7_ p7_ r7_ P8_ p8_ r8_ HT6.out HKG.out).mono ?_;rintro e v7_ ⟨rfl,hb⟩;have HKH:=Lib.hid (HKG.out.up hb);have HSAHKH:=Lib.hid (HSA6.out.up hb);have HSBHKH:=Lib.hid (HSB6.out.up hb);clear hb b0  b1  b2  b3;obtain ⟨⟨b0,b1,b2,b3,_⟩,_⟩:=box_cells HKH.out.want))
        go_wp2
        go_roundw
        case rel=>exact ⟨k+1,hlt,by go_num,ya,qa,xa,d2,G2,openMark d2,e2,s2,_,_,rfl,HKH.out.low,HKH.out.disk,HSAHKH.out,(by rw [HW.out];exact HKH.out.want),HSY2.out,hom⟩
        case measure=>exact meas hlt
       ·have hs3:s2=tried:=hor.resolve_left hw
        have hbf:sameS s2 want=false:=Bool.eq_false_iff.2 (fun h=>hw (sameS_iff.1 h))
        have hbt:sameS s2 tried=true:=by rw [hs3];exact sameS_self _
        rewrite [hbf] at sm
        rewrite [hbt] at sn
        have SM:=Lib.hid sm;clear sm hbf hw hor
        have SN:=Lib.hid sn;clear sn hbt
        have HW:=Lib.hid hs3;clear hs3
        go_region_held3 (fun W=>W.cell? ⟨wb,0,none⟩=some (.slice A1 n1 k1)∧W.cell? ⟨wb,1,none⟩=some (.int .i64 want.up)∧W.cell? ⟨wb,2,none⟩=some (.int .i64 want.bo)∧W.cell? ⟨wb,3,none⟩=some (.slice A2 n2 k2))
         (first | with_reducible exact ⟨b0,b1,b2,b3⟩ | go_keep)
         (first
          | (go_at_call 22;refine (ST.out _ y9 q9 x9 (HKF.out.up (Below.refl _ _).drew) (HSB5.out.up (Below.refl _ _).drew)).mono ?_;rintro e v6_ ⟨P7_,p7_,r7_,P8_,p8_,r8_,rfl,hst,hb⟩;have HT6:=Lib.hid hst;have HKG:=Lib.hid ((HKF.out.up (Below.refl _ _).drew).up hb);have HSA6:=Lib.hid ((HSA5.out.up (Below.refl _ _).drew).up hb);have HSB6:=Lib.hid ((HSB5.out.up (Below.refl _ _).drew).up hb);clear hst hb b0  b1  b2  b3;obtain ⟨⟨b0,b1,b2,b3,_⟩,_⟩:=box_cells HKG.out.want)
          | (go_at_call 21;refine (SM.out _ P7_ p7_ r7_ P8_ p8_ r8_ HT6.out HKG.out).mono ?_;rintro e v7_ ⟨rfl,hb⟩;have HKH:=Lib.hid (HKG.out.up hb);have HSAHKH:=Lib.hid (HSA6.out.up hb);have HSBHKH:=Lib.hid (HSB6.out.up hb);clear hb b0  b1  b2  b3;obtain ⟨⟨b0,b1,b2,b3,_⟩,_⟩:=box_cells HKH.out.want))
        clear HT6 HKG HSA6 HSB6 t0_ t1_ t2_ t3_
        obtain ⟨⟨t0_,t1_,t2_,t3_,_⟩,_⟩:=box_cells HKH.out.tried
        go_wp2
        go_region_held3 (fun W=>W.cell? ⟨wr.heap.size+1,0,none⟩=some (.slice A3 n3 k3)∧W.cell? ⟨wr.heap.size+1,1,none⟩=some (.int .i64 tried.up)∧W.cell? ⟨wr.heap.size+1,2,none⟩=some (.int .i64 tried.bo)∧W.cell? ⟨wr.heap.size+1,3,none⟩=some (.slice A4 n4 k4))
         (first | with_reducible exact ⟨t0_,t1_,t2_,t3_⟩ | go_keep)
         (first
          | (go_at_call 22;refine (ST.out _ y9 q9 x9 (HKH.out.up (Below.refl _ _).drew) (HSBHKH.out.up (Below.refl _ _).drew)).mono ?_;rintro e v6_ ⟨P7_,p7_,r7_,P8_,p8_,r8_,rfl,hst,hb⟩;have HT6:=Lib.hid hst;have HKG:=Lib.hid ((HKH.out.up (Below.refl _ _).drew).up hb);have HSA6:=Lib.hid ((HSAHKH.out.up (Below.refl _ _).drew).up hb);have HSB6:=Lib.hid ((HSBHKH.out.up (Below.refl _ _).drew).up hb);clear hst hb t0_  t1_  t2_  t3_;obtain ⟨⟨t0_,t1_,t2_,t3_,_⟩,_⟩:=box_cells HKG.out.tried)
          | (go_at_call 21;refine (SN.out _ P7_ p7_ r7_ P8_ p8_ r8_ HT6.out HKG.out).mono ?_;rintro e v7_ ⟨rfl,hb⟩;have HKJ:=Lib.hid (HKG.out.up hb);have HSAHKJ:=Lib.hid (HSA6.out.up hb);have HSBHKJ:=Lib.hid (HSB6.out.up hb);clear hb t0_  t1_  t2_  t3_;obtain ⟨⟨t0_,t1_,t2_,t3_,_⟩,_⟩:=box_cells HKJ.out.tried))
        clear b0 b1 b2 b3 g0 g1 g2 g3 f0 f1 f2 f3
        obtain ⟨⟨b0,b1,b2,b3,b4⟩,g0,g1,g2,g3⟩:=box_cells HKJ.out.want
        go_wp2
        go_roundw
        case rel=>exact ⟨k+1,hlt,by go_num,ya,qa,xa,d2,G2,openMark d2,e2,s2,_,_,rfl,(HKJ.out.set_want HKJ.out.tried).low,(HKJ.out.set_want HKJ.out.tried).disk,HSAHKJ.out.box HKJ.out.want _ _ _ _,(by rw [HW.out];exact (HKJ.out.set_want HKJ.out.tried).want),HSY2.out,hom⟩
        case measure=>exact meas hlt
  ·go_wp2_with (go_at_call 7;refine (AW.out _).mono ?_;rintro e wz ⟨rfl,hb⟩;have HBZ:=Lib.hid (low_low hlow hb);clear hb)
   go_ret
   exact ⟨rfl,HBZ.out⟩
open Go.ChangeShapes Go.WideShapes Go.ChangeAt Go.RowKit
theorem own:ownKnob Tryz.prog.godebug=none:=by kernel_rfl
theorem laidOut:laidOutB Tryz.prog=true:=by kernel_rfl
set_option maxRecDepth 100000 in
theorem lifted (os:Os) (started:os.Started) (H:Type) (enc:TypeId × Value→H) :
  ReturnsInHanded {} Tryz.checked os 4 .any (Rows.storeKeepsSpec.pre6 enc Tryz.prog Tryz.f4 Rows.storeKeepsRow.domain false) (Rows.storeKeepsSpec.post enc Tryz.prog Tryz.f4 false true false false):=by
 refine returnsInHanded_of_change (C:=Tryz.checked) own started (by kernel_rfl) Tryz.func4
  (ChangeSpec.witness6 (enc:=enc) (C:=Tryz.checked) false ⟨#[],#[.int .u8 0,.slice none 0 0],[]⟩ 8 (by kernel_rfl) (by kernel_rfl) (by kernel_rfl) (by kernel_rfl)) ?_
 intro W base args ds gs before hval0 hW hcnd _
 have hval:∀ (j:Nat) t v,Tryz.f4.params[j]?=some t→args[j]?=some v→Value.okWide Tryz.prog W .any base t v:=hval0
 have hW':=hW
 obtain ⟨p,q,hA0,hV,rfl,hfz,hnd⟩:=hW
 have hA:DataW.TrodAll enc Tryz.prog W 0 (fun _=>true) true Tryz.f4.params.toList args.toList ds p:=hA0
 rw [Tryz.params4] at hA hval
 obtain ⟨v0,vs0,d0,ds0,p0,q0,hargs,rfl,rfl,h0,r0⟩:=trodAll_cons hA
 obtain ⟨v1,vs1,d1,ds1,p1,q1,rfl,rfl,rfl,h1,r1⟩:=trodAll_cons r0
 obtain ⟨rfl,rfl,rfl⟩:=trodAll_nil r1
 obtain rfl:args=#[v0,v1]:=by cases args;simp_all
 obtain ⟨rfl,rfl⟩:=trodVars_none hV
 obtain ⟨a0,rfl,rfl,rfl,w0⟩:=open_int Tryz.underlying5 (hval 0 5 v0 rfl rfl) h0
 obtain ⟨a1,len1,cap1,rfl⟩:=okWide_slice Tryz.underlying22 (hval 1 22 v1 rfl rfl)
 have k1:=h1
 have lt1:∀ x∈p1,x.block<W.heap.size:=by obtain ⟨m,hm⟩:=k1;exact DataW.trod_lt m _ _ _ hm
 have w1:IsRecs W a1 len1 cap1 4 (Act12R W):=by
  obtain ⟨fuel,hf⟩:=h1
  obtain ⟨A,l,c,e,hr⟩:=open_acts12_at (v:=.slice a1 len1 cap1) hf
  injection e with e1 e2 e3
  subst e1 e2 e3
  exact hr
 clear hA0 hval0
 refine (walk a0 a1 len1 cap1 W w0 w1).mono fun e W' ⟨he,bel⟩=>?_
 subst he
 exact ⟨_,rfl,_,_,_,[],_,[],hW',trodAll_mk1 (shut_bool Tryz.underlying4 _),(trodAll_cons_mk (shut_int Tryz.underlying5 w0) (trodAll_cons_mk (Below.trod laidOut (by kernel_rfl) (of_decide_eq_true (by kernel_rfl)) k1 bel lt1) trodAll_mk0)),rfl,bel.frame _,fun h=>by cases h⟩
theorem over:Rows.storeKeepsRow.holds Tryz.pinned (OpenSpec.ofChange Rows.storeKeepsSpec) :=
 OpenClaim.holds_of_wide 4 Tryz.f4 rfl rfl rfl rfl rfl rfl rfl ⟨rfl,rfl,rfl,rfl,rfl⟩ rfl rfl rfl rfl rfl (by kernel_rfl) Tryz.func4 (by kernel_rfl)
  (of_decide_eq_true (by kernel_rfl)) (by unfold Func.isWrapper;first | (rw [if_pos (by decide +kernel)];kernel_rfl) | (rw [if_neg (by decide +kernel)];exact ⟨rfl,rfl⟩))
  (fun os started H enc _=>lifted os started H enc)
theorem proved:Rows.StoreKeepsSaid:=over
end Go.Proofs.YtplpmemlaohlaaaGreat.storeKeeps
