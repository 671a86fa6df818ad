/- Which states there may be (layer 11): the contracts of base.areLsas, areEpochs, Check, areChanges. -/
import Derived.Test.YtplpmemlaohlaaaGreatKpBasMem
import Derived.Test.YtplpmemlaohlaaaGreatKpChgCheck
import Derived.Test.YtplpmemlaohlaaaGreatKpLsaCheck
namespace Go.Proofs.YtplpmemlaohlaaaGreat.Bas
open Go.RowKit Mem Oct Lsa Chg
set_option linter.unusedVariables false
set_option linter.unusedSimpArgs false
set_option maxRecDepth 20000 in
set_option maxHeartbeats 4000000 in
theorem areLsas_any (A:Option Addr) (n c:Nat) (l:List La) (w:World) (h:Las w w.heap.size (.slice A n c) l) :
  Calls Tryz.prog 143 #[.slice A n c] w fun e w'=>e=.returned (.bool (dbOk 0 l))∧Below w.heap.size w w':=by
 obtain ⟨hl,hnc,hcm,_⟩:=las_len h
 unfold maxLen at hcm
 have HL:=Lib.hid hl;clear hl
 have HS:=Lib.hid h;clear h
 obtain ⟨z,hz⟩:∃ z,z=dbOk 0 l:=⟨_,rfl⟩
 rw [← hz]
 have HZ:=Lib.hid hz;clear hz
 go_enter Tryz.func143,Tryz.ntmps143
 go_wp2
 go_loopw [3,8] (fun s i wr=>∃ (k:Nat) (last:Int),k≤n∧i=.int .i64 k∧s=.int .i64 last∧z=dbOk last (l.drop k)∧Below w.heap.size w wr) (fun _ i _=>n - (intOf i).toNat)
 case atStart=>exact ⟨0,0,Nat.zero_le _,rfl,rfl,HZ.out,Below.refl _ _⟩
 case round =>
  obtain ⟨k,last,hk,rfl,rfl,hz,hbw⟩:=hrel
  have hws:=hbw.size
  have HBW:=Lib.hid hbw;clear hbw
  by_cases hlt:k<n
  ·obtain ⟨b,off,rfl,hb,hc⟩:=las_at HS.out (by omega)
   obtain ⟨u,hr,hk2⟩:=hc k hlt
   have c0:=(HBW.out.cell (p:=⟨b,off+k*3+0,none⟩) hb).trans (hr 0 _ rfl)
   have c1:=(HBW.out.cell (p:=⟨b,off+k*3+1,none⟩) hb).trans (hr 1 _ rfl)
   have c2_:=(HBW.out.cell (p:=⟨b,off+k*3+2,none⟩) hb).trans (hr 2 _ rfl)
   rw [Nat.add_zero] at c0
   rw [dbOk_step last l k (by have:=HL.out;omega)] at hz
   clear hc hr
   generalize l.getD k zeroL=y at *
   obtain ⟨yo,ys,yl⟩:=y
   obtain ⟨Au,nu,cu,rfl,_⟩:=id hk2
   simp only at c0 c1 c2_ hz hk2
   have hb2:=low1 HBW.out (.cells #[.int .i64 yo,.int .i64 ys,.slice Au nu cu] 80)
   have ck:=check_any yo ys Au nu cu yl _ ((hk2.below hb2 (Nat.le_refl _)).more hb2.size)
   have K2:=Lib.hid (Blk.new wr 80 #[.int .i64 yo,.int .i64 ys,.slice Au nu cu])
   have hlo:laOk ⟨yo,ys,yl⟩=may yo ys yl:=rfl
   rw [hlo] at hz
   have HB2:=Lib.hid hb2;clear hb2 hk2 hlo
   cases hm:may yo ys yl
   ·rw [hm] at ck hz
    have CK:=Lib.hid ck;clear ck
    have HZ2:=Lib.hid hz;clear hz
    go_wp2_with (go_at_call 140;refine (CK.out).mono ?_;rintro e w3 ⟨rfl,hb3⟩;have HB3:=Lib.hid (low_low HB2.out hb3);obtain ⟨x0,x1,x2,x3⟩:=blk_cells3 (K2.out.below hb3 K2.out.lt);clear hb3)
    go_ret
    exact ⟨ret_bool (by simp [HZ2.out]),HB3.out⟩
   ·rw [hm] at ck hz
    have CK:=Lib.hid ck;clear ck
    cases hd:decide (last<yo)
    ·rw [hd] at hz
     have HZ2:=Lib.hid hz;clear hz
     have hd2:decide (yo≤last)=true:=by rw [decide_eq_false_iff_not] at hd;simpa using hd
     go_wp2_with (go_at_call 140;refine (CK.out).mono ?_;rintro e w3 ⟨rfl,hb3⟩;have HB3:=Lib.hid (low_low HB2.out hb3);obtain ⟨x0,x1,x2,x3⟩:=blk_cells3 (K2.out.below hb3 K2.out.lt);clear hb3)
     go_ret
     exact ⟨ret_bool (by simp [HZ2.out]),HB3.out⟩
    ·rw [hd,Bool.true_and,Bool.true_and] at hz
     have HZ2:=Lib.hid hz;clear hz
     have hd2:decide (yo≤last)=false:=by rw [decide_eq_true_iff] at hd;simpa using hd
     go_wp2_with (go_at_call 140;refine (CK.out).mono ?_;rintro e w3 ⟨rfl,hb3⟩;have HB3:=Lib.hid (low_low HB2.out hb3);obtain ⟨x0,x1,x2,x3⟩:=blk_cells3 (K2.out.below hb3 K2.out.lt);clear hb3)
     go_roundw
     case rel=>exact ⟨k+1,yo,by omega,by go_num,rfl,HZ2.out,HB3.out⟩
     case measure=>simp [intOf];omega
  ·obtain rfl:k=n:=by omega
   rw [List.drop_eq_nil_of_le (by have:=HL.out;omega)] at hz
   have HZ2:=Lib.hid hz;clear hz
   go_wp2
   go_ret
   exact ⟨ret_bool (by simp [HZ2.out,dbOk]),HBW.out⟩
def badE (last a b:Int):Bool:=decide (a≤last) || (decide (64<a) || (decide (b<1) || decide (1073741824<b)))
theorem bad_ep {last a b:Int} (h:0≤last):epOne last (a,b)=!badE last a b:=by
 have:epOne last (a,b)=(win a 64 && (win b 1073741824 && decide (last<a))):=rfl
 rw [Bool.eq_iff_iff,this]
 simp [badE,win]
 omega
set_option maxRecDepth 20000 in
set_option maxHeartbeats 4000000 in
theorem areEpochs_any (A:Option Addr) (n c:Nat) (l:List (Int × Int)) (w:World) (h:Lks w w.heap.size (.slice A n c) l) :
  Calls Tryz.prog 144 #[.slice A n c] w fun e w'=>e=.returned (.bool (epOk 0 l))∧Below w.heap.size w w':=by
 obtain ⟨hl,hnc,hcm,_⟩:=lks_len h
 unfold maxLen at hcm
 have HL:=Lib.hid hl;clear hl
 have HS:=Lib.hid h;clear h
 obtain ⟨z,hz⟩:∃ z,z=epOk 0 l:=⟨_,rfl⟩
 rw [← hz]
 have HZ:=Lib.hid hz;clear hz
 go_enter Tryz.func144,Tryz.ntmps144
 go_wp2
 go_loopw [3,8] (fun s i wr=>∃ (k:Nat) (last:Int),k≤n∧0≤last∧i=.int .i64 k∧s=.int .i64 last∧z=epOk last (l.drop k)∧Below w.heap.size w wr) (fun _ i _=>n - (intOf i).toNat)
 case atStart=>exact ⟨0,0,Nat.zero_le _,Int.le_refl _,rfl,rfl,HZ.out,Below.refl _ _⟩
 case round =>
  obtain ⟨k,last,hk,h0,rfl,rfl,hz,hbw⟩:=hrel
  have hws:=hbw.size
  have HBW:=Lib.hid hbw;clear hbw
  by_cases hlt:k<n
  ·obtain ⟨b,off,rfl,hb,hc⟩:=lks_at HS.out (by omega)
   obtain ⟨d0,d1⟩:=hc k hlt
   have c0:=(HBW.out.cell (p:=⟨b,off+k*2,none⟩) hb).trans d0
   have c1:=(HBW.out.cell (p:=⟨b,off+k*2+1,none⟩) hb).trans d1
   rw [epOk_step last l k (by have:=HL.out;omega)] at hz
   clear hc d0 d1
   generalize l.getD k (0,0)=y at *
   obtain ⟨a,b⟩:=y
   rw [bad_ep h0] at hz
   simp only at c0 c1 hz
   have HB2:=Lib.hid (low1 HBW.out (.cells #[.int .i64 a,.int .i64 b] 118))
   unfold badE at hz
   cases h1:decide (a≤last)
   ·cases h2:decide (64<a)
    ·cases h3:decide (b<1)
     ·cases h4:decide (1073741824<b)
      ·rw [h1,h2,h3,h4] at hz
       have HZ2:=Lib.hid hz;clear hz
       have hla:0≤a:=by rw [decide_eq_false_iff_not] at h1;omega
       go_wp2
       go_roundw
       case rel=>exact ⟨k+1,a,by omega,hla,by go_num,rfl,by simpa using HZ2.out,HB2.out⟩
       case measure=>simp [intOf];omega
      ·rw [h1,h2,h3,h4] at hz
       have HZ2:=Lib.hid hz;clear hz
       go_wp2
       go_ret
       exact ⟨ret_bool (by simp [HZ2.out]),HB2.out⟩
     ·rw [h1,h2,h3] at hz
      have HZ2:=Lib.hid hz;clear hz
      go_wp2
      go_ret
      exact ⟨ret_bool (by simp [HZ2.out]),HB2.out⟩
    ·rw [h1,h2] at hz
     have HZ2:=Lib.hid hz;clear hz
     go_wp2
     go_ret
     exact ⟨ret_bool (by simp [HZ2.out]),HB2.out⟩
   ·rw [h1] at hz
    have HZ2:=Lib.hid hz;clear hz
    go_wp2
    go_ret
    exact ⟨ret_bool (by simp [HZ2.out]),HB2.out⟩
  ·obtain rfl:k=n:=by omega
   rw [List.drop_eq_nil_of_le (by have:=HL.out;omega)] at hz
   have HZ2:=Lib.hid hz;clear hz
   go_wp2
   go_ret
   exact ⟨ret_bool (by simp [HZ2.out,epOk]),HBW.out⟩
theorem mayS_no1 {db:List La} {up bo:Int} {ep:List (Int × Int)} (h:up<0∨4611686018427387904<up∨bo<0∨1073741824<bo):mayS ⟨db,up,bo,ep⟩=false:=by
 rw [Bool.eq_false_iff]
 intro hh
 have:=mayS_iff.1 hh
 simp only at this
 omega
theorem mayS_nums {db:List La} {up bo:Int} {ep:List (Int × Int)} (h1:0≤up) (h2:up≤4611686018427387904) (h3:0≤bo) (h4:bo≤1073741824):mayS ⟨db,up,bo,ep⟩=(dbOk 0 db && epOk 0 ep):=by
 simp [mayS,h1,h2,h3,h4]
set_option maxRecDepth 20000 in
set_option maxHeartbeats 4000000 in
theorem scheck_any (s:Sta) (dv ev:Value) (w:World) (h:StM w w.heap.size dv ev s) :
  Calls Tryz.prog 94 #[stV s dv ev] w fun e w'=>e=.returned (.int .i64 (errI (mayS s)))∧Below w.heap.size w w':=by
 obtain ⟨db,up,bo,ep⟩:=s
 obtain ⟨h1,h2⟩:=h
 obtain ⟨A,n,c,rfl,_⟩:=id h1
 obtain ⟨A',n',c',rfl,_⟩:=id h2
 simp only [stV] at *
 have hb:=low1 (Below.refl w.heap.size w) (.cells #[.slice A n c,.int .i64 up,.int .i64 bo,.slice A' n' c'] 43)
 have k0:=Blk.new w 43 #[.slice A n c,.int .i64 up,.int .i64 bo,.slice A' n' c']
 have al:=areLsas_any A n c db _ (h1.up hb)
 have ae:=fun (W:World) (hW:Below w.heap.size w W)=>areEpochs_any A' n' c' ep W (h2.up hW)
 obtain ⟨x0,x1,x2,x3,x4⟩:=blk_cells4 k0
 have HB:=Lib.hid hb;clear hb h1 h2
 have K0:=Lib.hid k0;clear k0
 by_cases g1:up<0
 ·have d1:decide (up<0)=true:=decide_eq_true g1
  rw [mayS_no1 (.inl g1)]
  clear al ae
  go_enter Tryz.func94,Tryz.ntmps94
  go_wp2
  go_ret
  exact ⟨rfl,HB.out⟩
 have d1:decide (up<0)=false:=decide_eq_false g1
 by_cases g2:4611686018427387904<up
 ·have d2:decide (4611686018427387904<up)=true:=decide_eq_true g2
  rw [mayS_no1 (.inr (.inl g2))]
  clear al ae
  go_enter Tryz.func94,Tryz.ntmps94
  go_wp2
  go_ret
  exact ⟨rfl,HB.out⟩
 have d2:decide (4611686018427387904<up)=false:=decide_eq_false g2
 by_cases g3:bo<0
 ·have d3:decide (bo<0)=true:=decide_eq_true g3
  rw [mayS_no1 (.inr (.inr (.inl g3)))]
  clear al ae
  go_enter Tryz.func94,Tryz.ntmps94
  go_wp2
  go_ret
  exact ⟨rfl,HB.out⟩
 have d3:decide (bo<0)=false:=decide_eq_false g3
 by_cases g4:1073741824<bo
 ·have d4:decide (1073741824<bo)=true:=decide_eq_true g4
  rw [mayS_no1 (.inr (.inr (.inr g4)))]
  clear al ae
  go_enter Tryz.func94,Tryz.ntmps94
  go_wp2
  go_ret
  exact ⟨rfl,HB.out⟩
 have d4:decide (1073741824<bo)=false:=decide_eq_false g4
 rw [mayS_nums (by omega) (by omega) (by omega) (by omega)]
 clear g1 g2 g3 g4
 cases hd:dbOk 0 db
 ·rw [hd] at al
  have AL:=Lib.hid al;clear al ae
  go_enter Tryz.func94,Tryz.ntmps94
  go_wp2_with (go_at_call 143;refine (AL.out).mono ?_;rintro e w3 ⟨rfl,hb3⟩;have HB3:=Lib.hid (low_low HB.out hb3);obtain ⟨y0,y1,y2,y3,y4⟩:=blk_cells4 (K0.out.below hb3 K0.out.lt);clear hb3)
  go_ret
  exact ⟨rfl,HB3.out⟩
 rw [hd] at al
 have AL:=Lib.hid al;clear al
 rw [Bool.true_and]
 cases he:epOk 0 ep
 ·rw [he] at ae
  have AE:=Lib.hid ae;clear ae
  go_enter Tryz.func94,Tryz.ntmps94
  go_wp2_with (first
   | (go_at_call 143;refine (AL.out).mono ?_;rintro e w3 ⟨rfl,hb3⟩;have HB3:=Lib.hid (low_low HB.out hb3);obtain ⟨y0,y1,y2,y3,y4⟩:=blk_cells4 (K0.out.below hb3 K0.out.lt);clear hb3)
   | (go_at_call 144;refine (AE.out _ HB3.out).mono ?_;rintro e w4 ⟨rfl,hb4⟩;have HB4:=Lib.hid (low_low HB3.out hb4);clear hb4))
  go_ret
  exact ⟨rfl,HB4.out⟩
 rw [he] at ae
 have AE:=Lib.hid ae;clear ae
 go_enter Tryz.func94,Tryz.ntmps94
 go_wp2_with (first
  | (go_at_call 143;refine (AL.out).mono ?_;rintro e w3 ⟨rfl,hb3⟩;have HB3:=Lib.hid (low_low HB.out hb3);obtain ⟨y0,y1,y2,y3,y4⟩:=blk_cells4 (K0.out.below hb3 K0.out.lt);clear hb3)
  | (go_at_call 144;refine (AE.out _ HB3.out).mono ?_;rintro e w4 ⟨rfl,hb4⟩;have HB4:=Lib.hid (low_low HB3.out hb4);clear hb4))
 go_ret
 exact ⟨rfl,HB4.out⟩
theorem allC_step (l:List Ch) (k:Nat) (h:k<l.length):(l.drop k).all mayC=(mayC (l.getD k zeroC) && (l.drop (k+1)).all mayC):=all_step l k h
set_option maxRecDepth 20000 in
set_option maxHeartbeats 4000000 in
theorem areChanges_any (A:Option Addr) (n c:Nat) (l:List Ch) (w:World) (h:Chs w w.heap.size (.slice A n c) l) :
  Calls Tryz.prog 95 #[.slice A n c] w fun e w'=>e=.returned (.bool (l.all mayC))∧Below w.heap.size w w':=by
 obtain ⟨hl,hnc,hcm⟩:=chs_len h
 unfold maxLen at hcm
 have HL:=Lib.hid hl;clear hl
 have HS:=Lib.hid h;clear h
 obtain ⟨z,hz⟩:∃ z,z=l.all mayC:=⟨_,rfl⟩
 rw [← hz]
 have HZ:=Lib.hid hz;clear hz
 go_enter Tryz.func95,Tryz.ntmps95
 go_wp2
 go_loopw [7] (fun i wr=>∃ k:Nat,k≤n∧i=.int .i64 k∧z=(l.drop k).all mayC∧Below w.heap.size w wr) (fun i _=>n - (intOf i).toNat)
 case atStart=>exact ⟨0,Nat.zero_le _,rfl,HZ.out,Below.refl _ _⟩
 case round =>
  obtain ⟨k,hk,rfl,hz,hbw⟩:=hrel
  have hws:=hbw.size
  have HBW:=Lib.hid hbw;clear hbw
  by_cases hlt:k<n
  ·obtain ⟨b,off,rfl,hb,hc⟩:=chs_at HS.out (by omega)
   obtain ⟨u,hr,hk2⟩:=hc k hlt
   have c0:=(HBW.out.cell (p:=⟨b,off+k*6+0,none⟩) hb).trans (hr 0 _ rfl)
   have c1:=(HBW.out.cell (p:=⟨b,off+k*6+1,none⟩) hb).trans (hr 1 _ rfl)
   have c2_:=(HBW.out.cell (p:=⟨b,off+k*6+2,none⟩) hb).trans (hr 2 _ rfl)
   have c3_:=(HBW.out.cell (p:=⟨b,off+k*6+3,none⟩) hb).trans (hr 3 _ rfl)
   have c4_:=(HBW.out.cell (p:=⟨b,off+k*6+4,none⟩) hb).trans (hr 4 _ rfl)
   have c5_:=(HBW.out.cell (p:=⟨b,off+k*6+5,none⟩) hb).trans (hr 5 _ rfl)
   rw [Nat.add_zero] at c0
   rw [allC_step l k (by have:=HL.out;omega)] at hz
   clear hc hr
   generalize l.getD k zeroC=y at *
   obtain ⟨yk,yo,ys,yl,yn,yf⟩:=y
   obtain ⟨Au,nu,cu,rfl,_⟩:=id hk2
   simp only at c0 c1 c2_ c3_ c4_ c5_ hz hk2
   have hb2:=low1 HBW.out (.cells #[.int .i64 yk,.int .i64 yo,.int .i64 ys,.slice Au nu cu,.int .i64 yn,.int .i64 yf] 82)
   have ck:=ccheck_any ⟨yk,yo,ys,yl,yn,yf⟩ (.slice Au nu cu) _ ((hk2.below hb2 (Nat.le_refl _)).more hb2.size)
   have HB2:=Lib.hid hb2;clear hb2 hk2
   simp only [chV] at ck
   cases hm:mayC ⟨yk,yo,ys,yl,yn,yf⟩
   ·rw [hm] at ck hz
    have CK:=Lib.hid ck;clear ck
    have HZ2:=Lib.hid hz;clear hz
    go_wp2_with (go_at_call 92;refine (CK.out).mono ?_;rintro e w3 ⟨rfl,hb3⟩;have HB3:=Lib.hid (low_low HB2.out hb3);clear hb3)
    go_ret
    exact ⟨ret_bool (by simp [HZ2.out]),HB3.out⟩
   ·rw [hm] at ck hz
    have CK:=Lib.hid ck;clear ck
    rw [Bool.true_and] at hz
    have HZ2:=Lib.hid hz;clear hz
    go_wp2_with (go_at_call 92;refine (CK.out).mono ?_;rintro e w3 ⟨rfl,hb3⟩;have HB3:=Lib.hid (low_low HB2.out hb3);clear hb3)
    go_roundw
    case rel=>exact ⟨k+1,by omega,by go_num,HZ2.out,HB3.out⟩
    case measure=>simp [intOf];omega
  ·obtain rfl:k=n:=by omega
   rw [List.drop_eq_nil_of_le (by have:=HL.out;omega)] at hz
   have HZ2:=Lib.hid hz;clear hz
   go_wp2
   go_ret
   exact ⟨ret_bool (by simp [HZ2.out]),HBW.out⟩
end Go.Proofs.YtplpmemlaohlaaaGreat.Bas
