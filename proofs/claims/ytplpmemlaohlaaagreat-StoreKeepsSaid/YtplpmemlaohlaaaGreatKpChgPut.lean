/- Changes' bytes (layer 10): the contracts of change.put and change.Put. -/
import Derived.Test.YtplpmemlaohlaaaGreatKpChgCheck
import Derived.Test.YtplpmemlaohlaaaGreatKpLsaPut
namespace Go.Proofs.YtplpmemlaohlaaaGreat.Chg
open Go.RowKit Mem Oct Lsa
set_option linter.unusedVariables false
set_option linter.unusedSimpArgs false
theorem bytesC_1 (o s n f:Int) (ls:List Lk):bytesC ⟨1,o,s,ls,n,f⟩=be 1 1++bytesOf o s ls:=by simp [bytesC,bodyC]
theorem bytesC_2 (o s n f:Int) (ls:List Lk):bytesC ⟨2,o,s,ls,n,f⟩=be 1 2++be 8 n.toNat:=by simp [bytesC,bodyC]
theorem bytesC_3 (o s n f:Int) (ls:List Lk):bytesC ⟨3,o,s,ls,n,f⟩=be 1 3++be 4 n.toNat:=by simp [bytesC,bodyC]
theorem bytesC_4 (o s n f:Int) (ls:List Lk):bytesC ⟨4,o,s,ls,n,f⟩=be 1 4++(be 1 f.toNat++be 4 n.toNat):=by simp [bytesC,bodyC]
theorem sl_cast {w:World} {B:Nat} {v:Value} {xs ys:List Nat} (h:Sl w B v xs) (e:xs=ys):Sl w B v ys:=e ▸ h
set_option maxRecDepth 20000 in
set_option maxHeartbeats 8000000 in
theorem cput_one (c:Ch) (u vb:Value) (xs:List Nat) (w:World) (hb:Sl w w.heap.size vb xs) (hx:xs.length≤40000) (h:Lks w w.heap.size u c.ls) (hm:mayC c=true) :
  Calls Tryz.prog 93 #[vb,chV c u] w fun e w'=>∃ v',e=.returned v'∧Sl w' w'.heap.size v' (xs++bytesC c)∧Below w.heap.size w w':=by
 obtain ⟨k,o,s,ls,n,f⟩:=c
 obtain ⟨A,m,q,rfl,_⟩:=id h
 simp only [chV] at h ⊢
 have hk:=mayC_kind hm
 simp only at hk
 have hbx:=low1 (Below.refl w.heap.size w) (.cells #[.int .i64 k,.int .i64 o,.int .i64 s,.slice A m q,.int .i64 n,.int .i64 f] 82)
 have k0:=Blk.new w 82 #[.int .i64 k,.int .i64 o,.int .i64 s,.slice A m q,.int .i64 n,.int .i64 f]
 have hsb:=sl_up hb hbx
 obtain ⟨A0,n0,c0,rfl,_⟩:=id hb
 rcases hk with rfl | rfl | rfl | rfl
 ·rw [mayC_1] at hm
  simp only [Bool.and_eq_true] at hm
  rw [bytesC_1]
  have p1:=put_num (.slice A0 n0 c0) 1 1 xs _ hsb (by omega) (by omega)
  have hl1:=putNum_length xs 1 1
  rw [putNum_1] at p1 hl1
  have p2:=fun (v:Value) (W:World) (hW:Below w.heap.size w W) (hv:Sl W W.heap.size v (xs++be 1 1))=>lput_yes o s v (xs++be 1 1) A m q ls W hv (by omega) (h.up hW) hm.1
  have HB:=Lib.hid hbx;clear hbx
  have K0:=Lib.hid k0;clear k0
  have P1:=Lib.hid p1;clear p1
  have P2:=Lib.hid p2;clear p2
  clear h hb hsb hl1 hm
  go_enter Tryz.func93,Tryz.ntmps93
  go_wp2_with (first
   | (go_at_call 91;refine (P1.out).mono ?_;rintro e w2 ⟨v2,rfl,hs2,hb2⟩;have HS2:=Lib.hid hs2;have HB2:=Lib.hid (low_low HB.out hb2);obtain ⟨x0,x1,x2,x3,x4,x5,x6⟩:=blk_cells6 (K0.out.below hb2 K0.out.lt);clear hs2 hb2)
   | (go_at_call 142;refine (P2.out _ _ HB2.out HS2.out).mono ?_;rintro e w3 ⟨v3,rfl,hs3,hb3⟩;have HS3:=Lib.hid hs3;have HB3:=Lib.hid (low_low HB2.out hb3);clear hs3 hb3))
  go_ret
  exact ⟨_,rfl,sl_cast HS3.out (by simp),HB3.out⟩
 ·rw [mayC_2] at hm
  simp only [Bool.and_eq_true] at hm
  obtain ⟨hw1,hw2⟩:=win_iff.1 hm.1
  rw [bytesC_2]
  obtain ⟨n',rfl⟩:∃ n':Nat,n=(n':Int):=⟨n.toNat,by omega⟩
  have p1:=put_num (.slice A0 n0 c0) 1 2 xs _ hsb (by omega) (by omega)
  have hl1:=putNum_length xs 1 2
  rw [putNum_1] at p1 hl1
  have p2:=fun (v:Value) (W:World) (hv:Sl W W.heap.size v (xs++be 1 2))=>put_num v 8 n' (xs++be 1 2) W hv (by omega) (by omega)
  rw [putNum_8] at p2
  have HB:=Lib.hid hbx;clear hbx
  have K0:=Lib.hid k0;clear k0
  have P1:=Lib.hid p1;clear p1
  have P2:=Lib.hid p2;clear p2
  clear h hb hsb hl1 hm
  go_enter Tryz.func93,Tryz.ntmps93
  go_wp2_with (first
   | (have HM1:=P1;go_at_call 91;refine (P1.out).mono ?_;rintro e w2 ⟨v2,rfl,hs2,hb2⟩;have HS2:=Lib.hid hs2;have HB2:=Lib.hid (low_low HB.out hb2);obtain ⟨x0,x1,x2,x3,x4,x5,x6⟩:=blk_cells6 (K0.out.below hb2 K0.out.lt);clear hs2 hb2 HM1 P1)
   | (go_at_call 91;refine (P2.out _ _ HS2.out).mono ?_;rintro e w3 ⟨v3,rfl,hs3,hb3⟩;have HS3:=Lib.hid hs3;have HB3:=Lib.hid (low_low HB2.out hb3);clear hs3 hb3))
  go_ret
  exact ⟨_,rfl,sl_cast HS3.out (by simp),HB3.out⟩
 ·rw [mayC_3] at hm
  simp only [Bool.and_eq_true] at hm
  obtain ⟨hw1,hw2⟩:=win_iff.1 hm.1
  rw [bytesC_3]
  obtain ⟨n',rfl⟩:∃ n':Nat,n=(n':Int):=⟨n.toNat,by omega⟩
  have p1:=put_num (.slice A0 n0 c0) 1 3 xs _ hsb (by omega) (by omega)
  have hl1:=putNum_length xs 1 3
  rw [putNum_1] at p1 hl1
  have p2:=fun (v:Value) (W:World) (hv:Sl W W.heap.size v (xs++be 1 3))=>put_num v 4 n' (xs++be 1 3) W hv (by omega) (by omega)
  rw [putNum_4] at p2
  have HB:=Lib.hid hbx;clear hbx
  have K0:=Lib.hid k0;clear k0
  have P1:=Lib.hid p1;clear p1
  have P2:=Lib.hid p2;clear p2
  clear h hb hsb hl1 hm
  go_enter Tryz.func93,Tryz.ntmps93
  go_wp2_with (first
   | (have HM1:=P1;go_at_call 91;refine (P1.out).mono ?_;rintro e w2 ⟨v2,rfl,hs2,hb2⟩;have HS2:=Lib.hid hs2;have HB2:=Lib.hid (low_low HB.out hb2);obtain ⟨x0,x1,x2,x3,x4,x5,x6⟩:=blk_cells6 (K0.out.below hb2 K0.out.lt);clear hs2 hb2 HM1 P1)
   | (go_at_call 91;refine (P2.out _ _ HS2.out).mono ?_;rintro e w3 ⟨v3,rfl,hs3,hb3⟩;have HS3:=Lib.hid hs3;have HB3:=Lib.hid (low_low HB2.out hb3);clear hs3 hb3))
  go_ret
  exact ⟨_,rfl,sl_cast HS3.out (by simp),HB3.out⟩
 ·rw [mayC_4] at hm
  simp only [Bool.and_eq_true] at hm
  obtain ⟨hw1,hw2⟩:=win_iff.1 hm.1
  obtain ⟨hw3,hw4⟩:=win_iff.1 hm.2.1
  rw [bytesC_4]
  obtain ⟨n',rfl⟩:∃ n':Nat,n=(n':Int):=⟨n.toNat,by omega⟩
  obtain ⟨f',rfl⟩:∃ f':Nat,f=(f':Int):=⟨f.toNat,by omega⟩
  have p1:=put_num (.slice A0 n0 c0) 1 4 xs _ hsb (by omega) (by omega)
  have hl1:=putNum_length xs 1 4
  rw [putNum_1] at p1 hl1
  have p2:=fun (v:Value) (W:World) (hv:Sl W W.heap.size v (xs++be 1 4))=>put_num v 1 f' (xs++be 1 4) W hv (by omega) (by omega)
  have hl2:=putNum_length (xs++be 1 4) 1 f'
  rw [putNum_1] at p2 hl2
  have p3:=fun (v:Value) (W:World) (hv:Sl W W.heap.size v (xs++be 1 4++be 1 f'))=>put_num v 4 n' (xs++be 1 4++be 1 f') W hv (by omega) (by omega)
  rw [putNum_4] at p3
  have HB:=Lib.hid hbx;clear hbx
  have K0:=Lib.hid k0;clear k0
  have P1:=Lib.hid p1;clear p1
  have P2:=Lib.hid p2;clear p2
  have P3:=Lib.hid p3;clear p3
  clear h hb hsb hl1 hl2 hm
  go_enter Tryz.func93,Tryz.ntmps93
  go_wp2_with (first
   | (have HM1:=P1;go_at_call 91;refine (P1.out).mono ?_;rintro e w2 ⟨v2,rfl,hs2,hb2⟩;have HS2:=Lib.hid hs2;have HB2:=Lib.hid (low_low HB.out hb2);have K2:=Lib.hid (K0.out.below hb2 K0.out.lt);obtain ⟨x0,x1,x2,x3,x4,x5,x6⟩:=blk_cells6 K2.out;clear hs2 hb2 HM1 P1)
   | (have HM2:=P2;go_at_call 91;refine (P2.out _ _ HS2.out).mono ?_;rintro e w3 ⟨v3,rfl,hs3,hb3⟩;have HS3:=Lib.hid hs3;have HB3:=Lib.hid (low_low HB2.out hb3);obtain ⟨y0,y1,y2,y3,y4,y5,y6⟩:=blk_cells6 (K2.out.below hb3 K2.out.lt);clear hs3 hb3 HM2 P2)
   | (go_at_call 91;refine (P3.out _ _ HS3.out).mono ?_;rintro e w4 ⟨v4,rfl,hs4,hb4⟩;have HS4:=Lib.hid hs4;have HB4:=Lib.hid (low_low HB3.out hb4);clear hs4 hb4))
  go_ret
  exact ⟨_,rfl,sl_cast HS4.out (by simp),HB4.out⟩
theorem okAll_short {l:List Ch} (h:¬ (1≤l.length∧l.length≤40)):okAll l=false:=by
 cases hq:okAll l
 ·rfl
 ·exact absurd (okAll_iff.1 hq).2 h
theorem all_take (l:List Ch) (k:Nat) (h:(l.take k).all mayC=true):(cat (l.take k)).length≤91*k:=by
 have h1:=cat_len h
 have h2:(l.take k).length≤k:=by rw [List.length_take];omega
 exact Nat.le_trans h1 (Nat.mul_le_mul_left _ h2)
theorem all_take_succ (l:List Ch) (k:Nat) (hk:k<l.length):(l.take (k+1)).all mayC=((l.take k).all mayC && mayC (l.getD k zeroC)):=by
 rw [List.take_succ_eq_append_getElem hk,List.all_append]
 simp [List.getD,List.getElem?_eq_getElem hk]
theorem all_false (l:List Ch) (k:Nat) (hk:k<l.length) (h:mayC (l.getD k zeroC)=false):l.all mayC=false:=by
 rw [List.all_eq_false]
 refine ⟨l.getD k zeroC,?_,by rw [h];exact Bool.false_ne_true⟩
 simp only [List.getD,List.getElem?_eq_getElem hk,Option.getD_some]
 exact List.getElem_mem _
theorem okAll_false {l:List Ch} (h:l.all mayC=false):okAll l=false:=by simp [okAll,h]
def PutOut (w:World) (l:List Ch) (e:Ending) (w':World):Prop :=
 ∃ v,e=.returned (.tuple #[v,.int .i64 (errI (okAll l))])∧(okAll l=true→Sl w' w'.heap.size v (putC l))∧(okAll l=false→v=.slice none 0 0)∧Below w.heap.size w w'
set_option maxRecDepth 20000 in
set_option maxHeartbeats 8000000 in
theorem cputs_any (A:Option Addr) (n c:Nat) (l:List Ch) (w:World) (h:Chs w w.heap.size (.slice A n c) l) :
  Calls Tryz.prog 40 #[.slice A n c] w (PutOut w l):=by
 obtain ⟨hl,hnc,hcm⟩:=chs_len h
 unfold maxLen at hcm
 by_cases hn:1≤n∧n≤40
 ·have hwin:win (n:Int) 40=true:=win_iff.2 (by omega)
  have p1:=fun (W:World)=>put_num (.slice none 0 0) 1 n [] W (sl_nil _ _) (by simp) (by omega)
  rw [putNum_1,List.nil_append] at p1
  have hbe:(be 1 n).length=1:=be_length _ _
  have HP:=Lib.hid h;clear h
  have HL:=Lib.hid hl;clear hl
  have P1:=Lib.hid p1;clear p1
  have wi:=fun (W:World)=>cwithin_any (n:Int) 40 W
  rw [hwin] at wi
  have WI:=Lib.hid wi;clear wi hwin
  have HBE:=Lib.hid hbe;clear hbe
  obtain ⟨hn1,hn40⟩:=hn
  go_enter Tryz.func40,Tryz.ntmps40
  go_wp2_with (first
   | (go_at_call 90;refine (WI.out _).mono ?_;rintro e w' ⟨rfl,rfl⟩)
   | (go_at_call 91;refine (P1.out _).mono ?_;rintro e w2 ⟨v2,rfl,hs2,hb2⟩;have HS2:=Lib.hid hs2;have HB2:=Lib.hid hb2;clear hs2 hb2))
  go_loopw [4,17] (fun z i wr=>∃ k:Nat,k≤n∧i=.int .i64 k∧Sl wr wr.heap.size z (be 1 n++cat (l.take k))∧(l.take k).all mayC=true∧Below w.heap.size w wr) (fun _ i _=>n - (intOf i).toNat)
  case atStart=>exact ⟨0,Nat.zero_le _,rfl,sl_cast HS2.out (by simp [cat]),rfl,HB2.out⟩
  case round =>
   obtain ⟨k,hk,rfl,hsl,hall,hbw⟩:=hrel
   obtain ⟨A5,n5,c5,rfl,_⟩:=id hsl
   have HBW:=Lib.hid hbw;clear hbw
   by_cases hlt:k<n
   ·obtain ⟨b,off,rfl,hb,hc⟩:=chs_at HP.out (by omega)
    obtain ⟨u,hr,hlk⟩:=hc k hlt
    have hcl:=all_take l k hall
    have hts:=all_take_succ l k (by have:=HL.out;omega)
    have hct:=cat_take l k (by have:=HL.out;omega)
    have haf:=all_false l k (by have:=HL.out;omega)
    rw [hall,Bool.true_and] at hts
    clear hc
    obtain ⟨x,hx⟩:∃ x,x=l.getD k zeroC:=⟨_,rfl⟩
    rw [← hx] at hr hlk hts hct haf
    have hlb:(be 1 n++cat (l.take k)).length≤4000:=by rw [List.length_append,HBE.out];omega
    have hlk1:=(hlk.below HBW.out (Nat.le_refl _)).more HBW.out.size
    obtain ⟨Au,nu,cu,rfl,_⟩:=id hlk
    have r0:=rangeC_below hr HBW.out hb
    have c0:wr.cell? ⟨b,off+k*6,none⟩=some (.int .i64 x.k):=r0 0 _ rfl
    have c1:wr.cell? ⟨b,off+k*6+1,none⟩=some (.int .i64 x.o):=r0 1 _ rfl
    have c2:wr.cell? ⟨b,off+k*6+2,none⟩=some (.int .i64 x.s):=r0 2 _ rfl
    have c3:wr.cell? ⟨b,off+k*6+3,none⟩=some (.slice Au nu cu):=r0 3 _ rfl
    have c4:wr.cell? ⟨b,off+k*6+4,none⟩=some (.int .i64 x.n):=r0 4 _ rfl
    have c5':wr.cell? ⟨b,off+k*6+5,none⟩=some (.int .i64 x.f):=r0 5 _ rfl
    clear r0 hr
    have hb1:=low1 (Below.refl wr.heap.size wr) (.cells #[.int .i64 x.k,.int .i64 x.o,.int .i64 x.s,.slice Au nu cu,.int .i64 x.n,.int .i64 x.f] 82)
    have k1:=Blk.new wr 82 #[.int .i64 x.k,.int .i64 x.o,.int .i64 x.s,.slice Au nu cu,.int .i64 x.n,.int .i64 x.f]
    have ck:=ccheck_any x (.slice Au nu cu) _ (hlk1.up hb1)
    have HB1:=Lib.hid hb1;clear hb1
    have K1:=Lib.hid k1;clear k1
    cases hm:mayC x
    ·have hof:=okAll_false (haf hm)
     rw [hm,errI_f] at ck
     have CK:=Lib.hid ck;clear ck
     have HOF:=Lib.hid hof;clear hof
     clear hsl hlb hct hts haf hall hcl hlk hlk1 hx
     go_wp2_with (go_at_call 92;refine (CK.out).mono ?_;rintro e w6 ⟨rfl,hb6⟩;have HB6:=Lib.hid (low_low HBW.out (low_low HB1.out hb6));clear hb6)
     refine bodyPost_ret (v:=.tuple #[.slice none 0 0,.int .i64 1]) ?_ rfl ⟨_,by rw [HOF.out];rfl,fun h=>absurd h (by rw [HOF.out];simp),fun _=>rfl,HB6.out⟩
     simp [results,Tryz.results40,go_sem]
    ·rw [hm,errI_t] at ck
     have CK:=Lib.hid ck;clear ck
     have p2:=fun (W:World) (hW:Below wr.heap.size wr W)=>cput_one x (.slice Au nu cu) (.slice A5 n5 c5) _ W (sl_up hsl hW) (by omega) (hlk1.up hW) hm
     have P2:=Lib.hid p2;clear p2
     have HTS:=Lib.hid (hts.trans hm);clear hts
     have HCT:=Lib.hid hct;clear hct
     clear hsl hlb haf hall hcl hlk hlk1 hx hm
     go_wp2_with (first
      | (go_at_call 92;refine (CK.out).mono ?_;rintro e w6 ⟨rfl,hb6⟩;have HB6:=Lib.hid (low_low HB1.out hb6);obtain ⟨x0,x1,x2,x3,x4,x5,x6⟩:=blk_cells6 (K1.out.below hb6 K1.out.lt);clear hb6)
      | (go_at_call 93;refine (P2.out _ HB6.out).mono ?_;rintro e w7 ⟨v7,rfl,hs7,hb7⟩;have HS7:=Lib.hid hs7;have HB7:=Lib.hid (low_low HBW.out (low_low HB6.out hb7));clear hs7 hb7))
     go_roundw
     case rel=>exact ⟨k+1,by omega,by go_num,sl_cast HS7.out (by rw [HCT.out,List.append_assoc]),HTS.out,HB7.out⟩
     case measure=>simp [intOf];omega
   ·obtain rfl:k=n:=by omega
    rw [List.take_of_length_le (by have:=HL.out;omega)] at hsl hall
    have hok:okAll l=true:=okAll_iff.2 ⟨hall,by have:=HL.out;omega,by have:=HL.out;omega⟩
    have hpe:be 1 k++cat l=putC l:=by rw [putC,HL.out]
    rw [hpe] at hsl
    have HOK:=Lib.hid hok;clear hok hall hpe
    have HSL:=Lib.hid hsl;clear hsl
    go_wp2
    refine bodyPost_ret (v:=.tuple #[.slice A5 n5 c5,.int .i64 0]) ?_ rfl ⟨_,by rw [HOK.out];rfl,fun _=>HSL.out,fun h=>absurd h (by rw [HOK.out];simp),HBW.out⟩
    simp [results,Tryz.results40,go_sem]
 ·have hwin:win (n:Int) 40=false:=by
   cases hq:win (n:Int) 40
   ·rfl
   ·have:=win_iff.1 hq
    exact absurd (show 1≤n∧n≤40 by omega) hn
  have hok:=okAll_short (l:=l) (by rw [hl];exact hn)
  have wi:=fun (W:World)=>cwithin_any (n:Int) 40 W
  rw [hwin] at wi
  have WI:=Lib.hid wi;clear wi hwin h hn
  have HOK:=Lib.hid hok;clear hok
  go_enter Tryz.func40,Tryz.ntmps40
  go_wp2_with (go_at_call 90;refine (WI.out _).mono ?_;rintro e w' ⟨rfl,rfl⟩)
  refine bodyPost_ret (v:=.tuple #[.slice none 0 0,.int .i64 1]) ?_ rfl ⟨_,by rw [HOK.out];rfl,fun h=>absurd h (by rw [HOK.out];simp),fun _=>rfl,Below.refl _ _⟩
  simp [results,Tryz.results40,go_sem]
end Go.Proofs.YtplpmemlaohlaaaGreat.Chg
