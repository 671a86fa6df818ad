/- The changes whose bytes they are (layer 10): the contract of change.Get. Condition: at most 200000 bytes. -/
import Derived.Test.YtplpmemlaohlaaaGreatKpChgRead
import Derived.Test.YtplpmemlaohlaaaGreatKpLowAll
import Derived.Test.YtplpmemlaohlaaaGreatKpReaderEnd
namespace Go.Proofs.YtplpmemlaohlaaaGreat.Chg
open Go.RowKit Mem Oct Lsa
set_option linter.unusedVariables false
set_option linter.unusedSimpArgs false
def errT (r:Option (List Ch)):Int:=match r with | some _=>0 | none=>2
def CGetOut (w:World) (r:Option (List Ch)) (e:Ending) (w':World):Prop :=
 ∃ v,e=.returned (.tuple #[v,.int .i64 (errT r)])∧Chs w' w'.heap.size v (r.getD [])∧Below w.heap.size w w'
theorem getC_few {xs:List Nat} (h:¬ (1≤(rnum (xs,true) 1).2∧(rnum (xs,true) 1).2≤40)):getC xs=none:=by rw [getC,if_neg h]
theorem getC_none {xs:List Nat} (k:Nat) (hk:k≤(rnum (xs,true) 1).2) (h:reads (rnum (xs,true) 1).1 k=none):getC xs=none:=by
 unfold getC
 split
 ·rw [reads_none h hk]
 ·rfl
theorem getC_end {xs:List Nat} (t:St) (l:List Ch) (h1:1≤(rnum (xs,true) 1).2) (h2:(rnum (xs,true) 1).2≤40) (h:reads (rnum (xs,true) 1).1 (rnum (xs,true) 1).2=some (t,l)):getC xs=if (t.2 && decide (t.1.length=0))=true then some l else none:=by
 unfold getC
 rw [if_pos ⟨h1,h2⟩,h]
set_option maxRecDepth 20000 in
set_option maxHeartbeats 4000000 in
theorem cget_any (v:Value) (xs:List Nat) (w:World) (h:Sl w w.heap.size v xs) (hxl:xs.length≤200000) :
  Calls Tryz.prog 126 #[v] w (CGetOut w (getC xs)):=by
 obtain ⟨A,n,c,rfl,_⟩:=id h
 have rd:=read_any _ xs w h hxl
 have hx:=h.lt
 have r1:=fun (g:Nat) (W:World) (hW:Rdr W g (xs,true))=>rnum_any g (xs,true) 1 W hW
 have n1:=rnum_lt (st:=(xs,true)) (k:=1) (K:=1) rfl hx
 have hfew:=@getC_few xs
 have hnone:=@getC_none xs
 have hend:=@getC_end xs
 generalize getC xs=R at *
 generalize rnum (xs,true) 1=q at *
 obtain ⟨st1,m⟩:=q
 simp only at r1 n1 hfew hnone hend
 have RD:=Lib.hid rd;clear rd
 have R1:=Lib.hid r1;clear r1 hx h
 have HFEW:=Lib.hid hfew;clear hfew
 have HNONE:=Lib.hid hnone;clear hnone
 have HEND:=Lib.hid hend;clear hend
 obtain ⟨i0,hi,hz0,hz1,hz2⟩:=info_parts infoC
 have HI:=Lib.hid hi;clear hi
 have HZ0:=Lib.hid hz0;clear hz0
 have HZ1:=Lib.hid hz1;clear hz1
 have HZ2:=Lib.hid hz2;clear hz2
 by_cases hm:1≤m∧m≤40
 ·have hwin:win (m:Int) 40=true:=win_iff.2 (by omega)
  have wi:=fun (W:World)=>cwithin_any (m:Int) 40 W
  rw [hwin] at wi
  have WI:=Lib.hid wi;clear wi hwin
  obtain ⟨hm1,hm40⟩:=hm
  go_enter Tryz.func126,Tryz.ntmps126
  go_wp2_with (first
   | (go_at_call 164;refine (RD.out).mono ?_;rintro e w1 ⟨g,rfl,hg,hr1,hb1⟩;have HR1:=Lib.hid hr1;have HB1:=Lib.hid hb1;clear hr1 hb1)
   | (go_at_call 165;refine (R1.out _ _ HR1.out).mono ?_;rintro e w2 ⟨rfl,hr2,hg2⟩;have HR2:=Lib.hid hr2;have HB2:=Lib.hid (HB1.out.grown hg2 HB1.out.size (fun q hq=>by cases hq;exact hg));clear hr2 hg2)
   | (go_at_call 90;refine (WI.out _).mono ?_;rintro e w' ⟨rfl,rfl⟩))
  have hgb:=HR2.out.size
  go_loopw [6,17] (fun z i wr=>∃ (k:Nat) (t:St) (l:List Ch),k≤m∧i=.int .i64 k∧reads st1 k=some (t,l)∧OwnC wr w2.heap.size z l∧Rdr wr g t∧w2.heap.size≤wr.heap.size∧Below w.heap.size w wr) (fun _ i _=>m - (intOf i).toNat)
  case atStart=>exact ⟨0,st1,[],Nat.zero_le _,rfl,rfl,ownC_nil _ _,HR2.out,Nat.le_refl _,HB2.out⟩
  case round =>
   obtain ⟨k,t,l,hk,rfl,hrs,hown,hr,hsz,hbw⟩:=hrel
   have HBW:=Lib.hid hbw;clear hbw
   have hlen:=reads_len hrs
   obtain ⟨A5,c5,e5⟩:=hown.form
   rw [hlen] at e5
   subst e5
   have HOW:=Lib.hid hown;clear hown
   by_cases hlt:k<m
   ·have rc:=cread_any g t wr hr
    have hyes:=reads_yes hrs
    have hno:=reads_no hrs
    obtain ⟨r,hrr⟩:∃ r,r=readC t:=⟨_,rfl⟩
    rw [← hrr] at rc hyes hno
    obtain ⟨t',x⟩:=r
    simp only at hyes hno
    have RC:=Lib.hid rc;clear rc hrr
    cases hmx:mayC x
    ·have hRn:=HNONE.out (k+1) hlt (hno hmx)
     have HRN:=Lib.hid hRn;clear hRn hyes hno hrs hr
     have ck:=fun (u:Value) (W:World) (hL:Lks W W.heap.size u x.ls)=>ccheck_any x u W hL
     rw [hmx,errI_f] at ck
     have CK:=Lib.hid ck;clear ck
     go_wp2_with (first
      | (go_at_call 176;refine (RC.out).mono ?_;rintro e w5 ⟨u5,rfl,⟨n5,ho5⟩,hr5,hg5⟩;obtain ⟨Au,cu,rfl⟩:=own_form ho5;have HL5:=Lib.hid (lks_own ho5);have HB5:=Lib.hid (HBW.out.grown hg5 HBW.out.size (fun q hq=>by cases hq;exact hg));clear ho5 hr5 hg5)
      | (go_at_call 92;refine (CK.out _ _ (HL5.out.up (low1 (Below.refl _ _) _))).mono ?_;rintro e w6 ⟨rfl,hb6⟩;have HB6:=Lib.hid (low_low (low1 HB5.out _) hb6);clear hb6))
     refine bodyPost_ret (v:=.tuple #[.slice none 0 0,.int .i64 2]) ?_ rfl ⟨_,by rw [HRN.out];rfl,by rw [HRN.out];exact chs_nil _ _,HB6.out⟩
     simp [results,Tryz.results126,go_sem]
    ·have HYES:=Lib.hid (hyes hmx);clear hyes hno hrs
     have ck:=fun (u:Value) (W:World) (hL:Lks W W.heap.size u x.ls)=>ccheck_any x u W hL
     rw [hmx,errI_t] at ck
     have CK:=Lib.hid ck;clear ck hr
     go_upto_region 11 with (first
      | (go_at_call 176;refine (RC.out).mono ?_;rintro e w5 ⟨u5,rfl,⟨n5,ho5⟩,hr5,hg5⟩;obtain ⟨Au,cu,rfl⟩:=own_form ho5;have HO5:=Lib.hid ho5;have HC5:=Lib.hid (HOW.out.kept hg5 hgb);have hs5:=hg5.size;have HR5:=Lib.hid hr5;have HB5:=Lib.hid (HBW.out.grown hg5 HBW.out.size (fun q hq=>by cases hq;exact hg));clear ho5 hr5 hg5)
      | (go_at_call 92;refine (CK.out _ _ ((lks_own HO5.out).up (low1 (Below.refl _ _) _))).mono ?_;rintro e w6 ⟨rfl,hb6⟩;have hb56:=low_low (low1 (Below.refl w5.heap.size w5) (.cells #[.int .i64 x.k,.int .i64 x.o,.int .i64 x.s,.slice Au n5 cu,.int .i64 x.n,.int .i64 x.f] 82)) hb6;have HB56:=Lib.hid hb56;have HB6:=Lib.hid (low_low HB5.out hb56);have HC6:=Lib.hid (HC5.out.below hb56);have HO6:=Lib.hid (own_below HO5.out hb56);have HR6:=Lib.hid (HR5.out.below hb56 HR5.out.size);have hs6:=hb56.size;obtain ⟨x0,x1,x2,x3,x4,x5,x6⟩:=blk_cells6 ((Blk.new w5 82 #[.int .i64 x.k,.int .i64 x.o,.int .i64 x.s,.slice Au n5 cu,.int .i64 x.n,.int .i64 x.f]).below hb6 (by simp));clear hb6 hb56))
     obtain ⟨us,hul,hor,hlk⟩:=HC6.out
     have HUL:=Lib.hid hul;clear hul
     have HOR:=Lib.hid hor;clear hor
     have HLK:=Lib.hid hlk;clear hlk
     rewrite [hlen] at HOR
     go_wp2_with (at_builtin;(refine wpList_append_any _ rfl (.tmp 24) (.tmp 26) 49 rfl w2.heap.size 82 i0 (.agg #[.int .i64 0,.int .i64 0,.int .i64 0,.slice none 0 0,.int .i64 0,.int .i64 0]) 6 64 Tryz.underlying49 HI.out HZ0.out HZ1.out HZ2.out rfl (by decide) (.slice A5 k c5) k (flatC l us) (by rfl) (HOR.out.alloc _) (w6.heap.size+1) (some ⟨w6.heap.size,0,none⟩) 1 1 (rowC x (.slice Au n5 cu)) rfl (reads_change w6 x _ _ rfl) (rowC_one _ _ _ _) (by unfold maxLen;omega) (by omega) (by simp;omega) ?_;intro v7 w7 hown7 hg7 hv7))
     have hlk7:LkA (w6.alloc (.cells #[.int .i64 x.k,.int .i64 x.o,.int .i64 x.s,.slice Au n5 cu,.int .i64 x.n,.int .i64 x.f] 82)) w2.heap.size (Value.slice A5 k c5).ownBlock (.slice Au n5 cu) x.ls:=(lkA_new HO6.out (Nat.le_trans (by assumption) (Nat.le_refl _)) (fun q hq=>(HOW.out.ownLt q hq).2)).below (low1 (Below.refl _ _) _)
     have hown9:=ownC_push HUL.out (fun i hi=>(HLK.out i hi).below (low1 (Below.refl w6.heap.size w6) (.cells #[.int .i64 x.k,.int .i64 x.o,.int .i64 x.s,.slice Au n5 cu,.int .i64 x.n,.int .i64 x.f] 82))) hlk7 (by rw [hlen];exact hown7) hg7 hv7
     have hbo:∀ q,(Value.slice A5 k c5).ownBlock=some q→w2.heap.size≤q:=fun q hq=>(HOW.out.ownLt q hq).1
     have HB7:=Lib.hid ((low1 HB6.out (.cells #[.int .i64 x.k,.int .i64 x.o,.int .i64 x.s,.slice Au n5 cu,.int .i64 x.n,.int .i64 x.f] 82)).grown hg7 (low1 HB6.out _).size (fun q hq=>Nat.le_trans HB2.out.size (hbo q hq)))
     have HR7:=Lib.hid ((HR6.out.alloc (.cells #[.int .i64 x.k,.int .i64 x.o,.int .i64 x.s,.slice Au n5 cu,.int .i64 x.n,.int .i64 x.f] 82)).grown hg7 (fun q hq=>Nat.lt_of_lt_of_le hgb (hbo q hq)))
     have hsz7:w2.heap.size≤w7.heap.size:=by
      have h1:=hg7.size
      rw [World.size_alloc] at h1
      omega
     have HO9:=Lib.hid hown9;clear hown9 hown7 hg7 hv7 hlk7 hbo
     go_wp2
     go_roundw
     case rel=>exact ⟨k+1,t',l++[x],by omega,by go_num,HYES.out,HO9.out,HR7.out,hsz7,HB7.out⟩
     case measure=>simp [intOf];omega
   ·obtain rfl:k=m:=by omega
    have hen:=HEND.out t l hm1 hm40 hrs
    have dn:=done_any g t wr hr
    have HCH:=Lib.hid (ownC_chs HOW.out)
    cases hd:(t.2 && decide (t.1.length=0))
    ·rw [hd] at dn hen
     rw [if_neg (by simp)] at hen
     have DN:=Lib.hid dn;clear dn hrs hr
     have HEN:=Lib.hid hen;clear hen
     go_wp2_with (go_at_call 175;refine (DN.out).mono ?_;rintro e w' ⟨rfl,rfl⟩)
     refine bodyPost_ret (v:=.tuple #[.slice none 0 0,.int .i64 2]) ?_ rfl ⟨_,by rw [HEN.out];rfl,by rw [HEN.out];exact chs_nil _ _,HBW.out⟩
     simp [results,Tryz.results126,go_sem]
    ·rw [hd] at dn hen
     rw [if_pos rfl] at hen
     have DN:=Lib.hid dn;clear dn hrs hr
     have HEN:=Lib.hid hen;clear hen
     go_wp2_with (go_at_call 175;refine (DN.out).mono ?_;rintro e w' ⟨rfl,rfl⟩)
     refine bodyPost_ret (v:=.tuple #[.slice A5 k c5,.int .i64 0]) ?_ rfl ⟨_,by rw [HEN.out];rfl,by rw [HEN.out];exact HCH.out,HBW.out⟩
     simp [results,Tryz.results126,go_sem]
 ·have hwin:win (m:Int) 40=false:=by
   cases hq:win (m:Int) 40
   ·rfl
   ·have:=win_iff.1 hq
    exact absurd (show 1≤m∧m≤40 by omega) hm
  have wi:=fun (W:World)=>cwithin_any (m:Int) 40 W
  rw [hwin] at wi
  have WI:=Lib.hid wi;clear wi hwin
  have HEN:=Lib.hid (HFEW.out hm);clear hm
  go_enter Tryz.func126,Tryz.ntmps126
  go_wp2_with (first
   | (go_at_call 164;refine (RD.out).mono ?_;rintro e w1 ⟨g,rfl,hg,hr1,hb1⟩;have HR1:=Lib.hid hr1;have HB1:=Lib.hid hb1;clear hr1 hb1)
   | (go_at_call 165;refine (R1.out _ _ HR1.out).mono ?_;rintro e w2 ⟨rfl,hr2,hg2⟩;have HR2:=Lib.hid hr2;have HB2:=Lib.hid (HB1.out.grown hg2 HB1.out.size (fun q hq=>by cases hq;exact hg));clear hr2 hg2)
   | (go_at_call 90;refine (WI.out _).mono ?_;rintro e w' ⟨rfl,rfl⟩))
  refine bodyPost_ret (v:=.tuple #[.slice none 0 0,.int .i64 2]) ?_ rfl ⟨_,by rw [HEN.out];rfl,by rw [HEN.out];exact chs_nil _ _,HB2.out⟩
  simp [results,Tryz.results126,go_sem]
end Go.Proofs.YtplpmemlaohlaaaGreat.Chg
