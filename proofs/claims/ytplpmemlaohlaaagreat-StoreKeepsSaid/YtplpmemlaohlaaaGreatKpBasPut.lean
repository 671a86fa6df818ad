/- A state's bytes (layer 11): the contract of base.Put. -/
import Derived.Test.YtplpmemlaohlaaaGreatKpBasCheck
import Derived.Test.YtplpmemlaohlaaaGreatKpBaseP
import Derived.Test.YtplpmemlaohlaaaGreatKpChgPut
namespace Go.Proofs.YtplpmemlaohlaaaGreat.Bas
open Go.RowKit Mem Oct Lsa Chg
set_option linter.unusedVariables false
set_option linter.unusedSimpArgs false
theorem laBytes_len (a:La) (h:laOk a=true):(laBytes a).length≤90:=by
 obtain ⟨_,_,h3,_⟩:=laOk_iff.1 h
 unfold laBytes bytesOf headBytes
 have:=linkBytes_length a.ls
 simp only [List.length_append,be_length]
 omega
theorem dbBytes_len:∀ (db:List La),(∀ a∈db,laOk a=true)→(dbBytes db).length≤90*db.length
 | [],_=>by simp [dbBytes]
 | a::r,h=>by
  have h1:=laBytes_len a (h a (List.mem_cons_self ..))
  have h2:=dbBytes_len r (fun z hz=>h z (List.mem_cons_of_mem _ hz))
  unfold dbBytes at h2 ⊢
  rw [List.flatMap_cons,List.length_append,List.length_cons]
  omega
theorem dbBytes_take (db:List La) (k:Nat) (h:∀ a∈db,laOk a=true):(dbBytes (db.take k)).length≤90*k:=by
 have h1:=dbBytes_len (db.take k) (fun a ha=>h a (List.mem_of_mem_take ha))
 have h2:(db.take k).length≤k:=by rw [List.length_take];omega
 exact Nat.le_trans h1 (Nat.mul_le_mul_left _ h2)
theorem linkBytes_succ (l:List Lk) (k:Nat) (h:k<l.length):linkBytes (l.take (k+1))=linkBytes (l.take k)++(be 1 (l.getD k (0,0)).1.toNat++be 4 (l.getD k (0,0)).2.toNat):=by
 have e:l.take (k+1)=l.take k++[l.getD k (0,0)]:=by
  rw [List.take_succ_eq_append_getElem h]
  simp [List.getD,List.getElem?_eq_getElem h]
 rw [e]
 unfold linkBytes
 rw [List.flatMap_append,List.flatMap_cons,List.flatMap_nil,List.append_nil]
 rfl
def SPutOut (w:World) (s:Sta) (e:Ending) (w':World):Prop :=
 ∃ v,e=.returned (.tuple #[v,.int .i64 (errI (mayS s))])∧(mayS s=true→Sl w' w'.heap.size v (bytesS s))∧(mayS s=false→v=.slice none 0 0)∧Below w.heap.size w w'
set_option maxRecDepth 20000 in
set_option maxHeartbeats 8000000 in
theorem sput_any (s:Sta) (dv ev:Value) (w:World) (h:StM w w.heap.size dv ev s) :
  Calls Tryz.prog 102 #[stV s dv ev] w (SPutOut w s):=by
 obtain ⟨db,up,bo,ep⟩:=s
 simp only [stV]
 obtain ⟨A1,n1,c1,rfl,hq1_⟩:=id h.1
 obtain ⟨A2,n2,c2,rfl,hq2_⟩:=id h.2
 clear hq1_ hq2_
 have h1:Las w w.heap.size (.slice A1 n1 c1) db:=h.1
 have h2:Lks w w.heap.size (.slice A2 n2 c2) ep:=h.2
 obtain ⟨hl1,hnc1,hcm1,_⟩:=las_len h1
 obtain ⟨hl2,hnc2,hcm2,_⟩:=lks_len h2
 have hb:=low1 (Below.refl w.heap.size w) (.cells #[.slice A1 n1 c1,.int .i64 up,.int .i64 bo,.slice A2 n2 c2] 43)
 have k0:=Blk.new w 43 #[.slice A1 n1 c1,.int .i64 up,.int .i64 bo,.slice A2 n2 c2]
 have ck:=scheck_any ⟨db,up,bo,ep⟩ (.slice A1 n1 c1) (.slice A2 n2 c2) _ (h.up hb)
 have DB:=Lib.hid (fun (W:World) (hW:Below w.heap.size w W)=>h1.keep hW)
 have EP:=Lib.hid (fun (W:World) (hW:Below w.heap.size w W)=>h2.below hW (Nat.le_refl _))
 obtain ⟨x0,x1,x2,x3,x4⟩:=blk_cells4 k0
 cases hm:mayS ⟨db,up,bo,ep⟩
 ·rw [hm] at ck
  have CK:=Lib.hid ck;clear ck
  have HB:=Lib.hid hb;clear hb
  have HM:=Lib.hid hm;clear hm
  clear h h1 h2 k0 DB EP
  go_enter Tryz.func102,Tryz.ntmps102
  go_wp2_with (go_at_call 94;refine (CK.out).mono ?_;rintro e w3 ⟨rfl,hb3⟩;have HB3:=Lib.hid (low_low HB.out hb3);clear hb3)
  refine bodyPost_ret (v:=.tuple #[.slice none 0 0,.int .i64 1]) ?_ rfl ⟨_,by rw [HM.out];rfl,fun h=>absurd h (by rw [HM.out];simp),fun _=>rfl,HB3.out⟩
  simp [results,Tryz.results102,go_sem]
 ·rw [hm] at ck
  have CK:=Lib.hid ck;clear ck
  obtain ⟨m1,m2,m3,m4⟩:=mayS_iff.1 hm
  obtain ⟨l64,e64⟩:=mayS_len hm
  simp only at m1 m2 m3 m4 l64 e64
  obtain ⟨up,rfl⟩:∃ up':Nat,up=(up':Int):=⟨up.toNat,by omega⟩
  obtain ⟨bo,rfl⟩:∃ bo':Nat,bo=(bo':Int):=⟨bo.toNat,by omega⟩
  have hall:=dbOk_all m1
  have eall:=ep_all m2 (Int.le_refl 0)
  have hbs:bytesS ⟨db,(up:Int),(bo:Int),ep⟩=be 8 up++(be 4 bo++(be 1 n1++(dbBytes db++(be 1 n2++linkBytes ep)))):=by
   unfold bytesS headS
   simp only [hl1,hl2,List.append_assoc,Int.toNat_natCast]
  have p1:=fun (W:World)=>put_num (.slice none 0 0) 8 up [] W (sl_nil _ _) (by simp) (by omega)
  rw [putNum_8,List.nil_append] at p1
  have p2:=fun (v:Value) (W:World) (hv:Sl W W.heap.size v (be 8 up))=>put_num v 4 bo (be 8 up) W hv (by simp [be_length]) (by omega)
  rw [putNum_4] at p2
  have p3:=fun (v:Value) (W:World) (hv:Sl W W.heap.size v (be 8 up++be 4 bo))=>put_num v 1 n1 (be 8 up++be 4 bo) W hv (by simp [be_length]) (by omega)
  rw [putNum_1] at p3
  have hH:(be 8 up++be 4 bo++be 1 n1).length=13:=by simp [be_length]
  have HBS:=Lib.hid hbs;clear hbs
  have HB:=Lib.hid hb;clear hb
  have K0:=Lib.hid k0;clear k0
  have P1:=Lib.hid p1;clear p1
  have P2:=Lib.hid p2;clear p2
  have P3:=Lib.hid p3;clear p3
  have HM:=Lib.hid hm;clear hm
  have HALL:=Lib.hid hall;clear hall
  have EALL:=Lib.hid eall;clear eall
  have HL1:=Lib.hid hl1;clear hl1
  have HL2:=Lib.hid hl2;clear hl2
  have hn1:n1≤64:=by have:=HL1.out;omega
  have hn2:n2≤64:=by have:=HL2.out;omega
  have hup:up≤4611686018427387904:=by omega
  have hbo:bo≤1073741824:=by omega
  clear h h1 h2 m1 m2 m3 m4 l64 e64 hnc1 hcm1 hnc2 hcm2
  obtain ⟨H,hHd⟩:∃ H,H=be 8 up++be 4 bo++be 1 n1:=⟨_,rfl⟩
  have HHD:=Lib.hid hHd
  rw [← hHd] at hH
  have hs3:∀ (v:Value) (W:World),Sl W W.heap.size v (be 8 up++be 4 bo++be 1 n1)→Sl W W.heap.size v (H++dbBytes (db.take 0)):=fun v W h=>sl_cast h (by rw [hHd];simp [dbBytes])
  have HS3F:=Lib.hid hs3;clear hs3
  have HHL:=Lib.hid hH;clear hH hHd
  go_enter Tryz.func102,Tryz.ntmps102
  go_wp2_with (first
   | (go_at_call 94;refine (CK.out).mono ?_;rintro e w3 ⟨rfl,hb3⟩;have HB3:=Lib.hid (low_low HB.out hb3);have K3:=Lib.hid (K0.out.below hb3 K0.out.lt);obtain ⟨y0,y1,y2,y3,y4⟩:=blk_cells4 K3.out;clear hb3)
   | (have HM1:=P1;go_at_call 91;refine (P1.out _).mono ?_;rintro e w4 ⟨v4,rfl,hs4,hb4⟩;have HS4:=Lib.hid hs4;have HB4:=Lib.hid (low_low HB3.out hb4);have K4:=Lib.hid (K3.out.below hb4 K3.out.lt);obtain ⟨z0,z1,z2,z3,z4⟩:=blk_cells4 K4.out;clear hs4 hb4 HM1 P1)
   | (have HM2:=P2;go_at_call 91;refine (P2.out _ _ HS4.out).mono ?_;rintro e w5 ⟨v5,rfl,hs5,hb5⟩;have HS5:=Lib.hid hs5;have HB5:=Lib.hid (low_low HB4.out hb5);have K5:=Lib.hid (K4.out.below hb5 K4.out.lt);obtain ⟨a0,a1,a2,a3,a4⟩:=blk_cells4 K5.out;clear hs5 hb5 HM2 P2)
   | (have HM3:=P3;go_at_call 91;refine (P3.out _ _ HS5.out).mono ?_;rintro e w6 ⟨v6,rfl,hs6,hb6⟩;have HS6:=Lib.hid (HS3F.out _ _ hs6);have HB6:=Lib.hid (low_low HB5.out hb6);have K6:=Lib.hid (K5.out.below hb6 K5.out.lt);obtain ⟨b0,b1,b2,b3,b4⟩:=blk_cells4 K6.out;clear hs6 hb6 HM3 P3))
  clear HS3F K3 K4 K5 y0 y1 y2 y3 y4 z0 z1 z2 z3 z4 a0 a1 a2 a3 a4 b0 b1 b2 b3 b4 HS4 HS5 HB3 HB4 HB5 K0 x0 x1 x2 x3 x4 CK HB
  go_loopw [4,30] (fun z i wr=>∃ k:Nat,k≤n1∧i=.int .i64 k∧Sl wr wr.heap.size z (H++dbBytes (db.take k))∧Below w.heap.size w wr∧Blk wr w.heap.size 43 #[.slice A1 n1 c1,.int .i64 (up:Int),.int .i64 (bo:Int),.slice A2 n2 c2]) (fun _ i _=>n1 - (intOf i).toNat)
  case atStart=>exact ⟨0,Nat.zero_le _,rfl,HS6.out,HB6.out,K6.out⟩
  case round =>
   clear HS6 HB6 K6
   obtain ⟨k,hk,rfl,hsl,hbw,hkw⟩:=hrel
   obtain ⟨A5,n5,c5,rfl,_⟩:=id hsl
   by_cases hlt:k<n1
   ·obtain ⟨b,off,rfl,hb,hc⟩:=las_at (DB.out wr hbw) (by omega)
    obtain ⟨u,hr,hlk⟩:=hc k hlt
    have c0:=hr 0 _ rfl
    have c1_:=hr 1 _ rfl
    have c2_:=hr 2 _ rfl
    rw [Nat.add_zero] at c0
    have hkl:k<db.length:=by rw [HL1.out];exact hlt
    have hma:may (db.getD k zeroL).o (db.getD k zeroL).s (db.getD k zeroL).ls=true:=HALL.out (db.getD k zeroL) (by simp [List.getD,List.getElem?_eq_getElem hkl])
    have hsu:=dbBytes_succ db k hkl
    have hlen:(H++dbBytes (db.take k)).length≤6000:=by
     have:=dbBytes_take db k HALL.out
     rw [List.length_append,HHL.out]
     omega
    clear hc hr
    generalize db.getD k zeroL=x at *
    obtain ⟨Au,nu,cu,rfl,_,hr_⟩:=id hlk
    clear hr_
    have hlk1:=hlk.more hbw.size
    have p4:=fun (W:World) (hW:Below wr.heap.size wr W)=>lput_yes x.o x.s (.slice A5 n5 c5) _ Au nu cu x.ls W (sl_up hsl hW) (by omega) (hlk1.up hW) hma
    have P4:=Lib.hid p4;clear p4
    have HSU:=Lib.hid hsu;clear hsu
    have hb1:=low1 (Below.refl wr.heap.size wr) (.cells #[.int .i64 x.o,.int .i64 x.s,.slice Au nu cu] 80)
    have HB1:=Lib.hid hb1;clear hb1
    have HBW:=Lib.hid hbw;clear hbw
    have HKW:=Lib.hid hkw;clear hkw
    clear hlk hlk1 hma hlen hsl
    go_wp2_with (go_at_call 142;refine (P4.out _ HB1.out).mono ?_;rintro e w7 ⟨v7,rfl,hs7,hb7⟩;have hb8:=low_low HB1.out hb7;have HS7:=Lib.hid hs7;have HB7:=Lib.hid (low_low HBW.out hb8);have HK7:=Lib.hid (HKW.out.below hb8 HKW.out.lt);clear hs7 hb7 hb8)
    go_roundw
    case rel=>exact ⟨k+1,by omega,by go_num,sl_cast HS7.out (by rw [HSU.out,List.append_assoc];rfl),HB7.out,HK7.out⟩
    case measure=>simp [intOf];omega
   ·obtain rfl:n1=k:=by omega
    rw [List.take_of_length_le (by have:=HL1.out;omega)] at hsl
    have hlen:(H++dbBytes db).length≤6000:=by
     have h1:=dbBytes_len db HALL.out
     have:=HL1.out
     rw [List.length_append,HHL.out]
     omega
    obtain ⟨y0,y1,y2,y3,y4⟩:=blk_cells4 hkw
    have p4:=put_num (.slice A5 n5 c5) 1 n2 _ wr hsl (by omega) (by omega)
    rw [putNum_1] at p4
    have P4:=Lib.hid p4;clear p4
    have HBW:=Lib.hid hbw;clear hbw
    have HKW:=Lib.hid hkw;clear hkw
    obtain ⟨G,hG⟩:∃ G,G=H++dbBytes db++be 1 n2:=⟨_,rfl⟩
    have hlG:G.length≤6001:=by rw [hG,List.length_append,be_length];omega
    rw [← hG] at P4
    have HG:=Lib.hid hG;clear hG
    have HLG:=Lib.hid hlG;clear hlG hlen hsl
    go_wp2_with (go_at_call 91;refine (P4.out).mono ?_;rintro e w7 ⟨v7,rfl,hs7,hb7⟩;have HS7:=Lib.hid (sl_cast (ys:=G++linkBytes (ep.take 0)) hs7 (by simp [linkBytes]));have HB7:=Lib.hid (low_low HBW.out hb7);have HK7:=Lib.hid (HKW.out.below hb7 HKW.out.lt);obtain ⟨z0,z1,z2,z3,z4⟩:=blk_cells4 HK7.out;clear hs7 hb7)
    clear y0 y1 y2 y3 y4 z0 z1 z2 z3 z4 HBW HKW
    go_loopw [4,47] (fun z i wr=>∃ k:Nat,k≤n2∧i=.int .i64 k∧Sl wr wr.heap.size z (G++linkBytes (ep.take k))∧Below w.heap.size w wr∧Blk wr w.heap.size 43 #[.slice A1 n1 c1,.int .i64 (up:Int),.int .i64 (bo:Int),.slice A2 n2 c2]) (fun _ i _=>n2 - (intOf i).toNat)
    case atStart=>exact ⟨0,Nat.zero_le _,rfl,HS7.out,HB7.out,HK7.out⟩
    case round =>
     clear HS7 HB7 HK7
     obtain ⟨j,hj,rfl,hsl,hbw,hkw⟩:=hrel
     obtain ⟨A5,n5,c5,rfl,_⟩:=id hsl
     by_cases hlt:j<n2
     ·obtain ⟨b,off,rfl,hb,hc⟩:=lks_at (EP.out wr hbw) (by omega)
      obtain ⟨c0,c1_⟩:=hc j hlt
      have hjl:j<ep.length:=by rw [HL2.out];exact hlt
      obtain ⟨⟨e1,e2⟩,e3,e4⟩:=EALL.out (ep.getD j (0,0)) (by simp [List.getD,List.getElem?_eq_getElem hjl])
      have hsu:=linkBytes_succ ep j hjl
      have hlen:(G++linkBytes (ep.take j)).length≤8000:=by
       have:=linkBytes_length (ep.take j)
       have h2:(ep.take j).length≤j:=by rw [List.length_take];omega
       have:=HLG.out
       rw [List.length_append]
       omega
      clear hc
      generalize ep.getD j (0,0)=x at *
      obtain ⟨xo,xn⟩:=x
      simp only at c0 c1_ e1 e2 e3 e4 hsu
      obtain ⟨xo,rfl⟩:∃ q:Nat,xo=(q:Int):=⟨xo.toNat,by omega⟩
      obtain ⟨xn,rfl⟩:∃ q:Nat,xn=(q:Int):=⟨xn.toNat,by omega⟩
      simp only [Int.toNat_natCast] at hsu
      have p5:=fun (W:World) (hW:Below wr.heap.size wr W)=>put_num (.slice A5 n5 c5) 1 xo _ W (sl_up hsl hW) (by omega) (by omega)
      rw [putNum_1] at p5
      have p6:=fun (v:Value) (W:World) (hv:Sl W W.heap.size v (G++linkBytes (ep.take j)++be 1 xo))=>put_num v 4 xn _ W hv (by rw [List.length_append,be_length];omega) (by omega)
      rw [putNum_4] at p6
      have P5:=Lib.hid p5;clear p5
      have P6:=Lib.hid p6;clear p6
      have HSU:=Lib.hid hsu;clear hsu
      have hb1:=low1 (Below.refl wr.heap.size wr) (.cells #[.int .i64 (xo:Int),.int .i64 (xn:Int)] 118)
      have k1:=Blk.new wr 118 #[.int .i64 (xo:Int),.int .i64 (xn:Int)]
      have HB1:=Lib.hid hb1;clear hb1
      have K1:=Lib.hid k1;clear k1
      have HBW:=Lib.hid hbw;clear hbw
      have HKW:=Lib.hid hkw;clear hkw
      clear hlen hsl
      go_wp2_with (first
       | (have HM5:=P5;go_at_call 91;refine (P5.out _ HB1.out).mono ?_;rintro e w8 ⟨v8,rfl,hs8,hb8⟩;have HS8:=Lib.hid hs8;have HB8:=Lib.hid (low_low HB1.out hb8);have q1:=blk_c1 (K1.out.below hb8 K1.out.lt);clear hs8 hb8 HM5 P5)
       | (go_at_call 91;refine (P6.out _ _ HS8.out).mono ?_;rintro e w9 ⟨v9,rfl,hs9,hb9⟩;have hb10:=low_low HB8.out hb9;have HS9:=Lib.hid hs9;have HB9:=Lib.hid (low_low HBW.out hb10);have HK9:=Lib.hid (HKW.out.below hb10 HKW.out.lt);clear hs9 hb9 hb10))
      go_roundw
      case rel=>exact ⟨j+1,by omega,by go_num,sl_cast HS9.out (by rw [HSU.out];simp only [List.append_assoc]),HB9.out,HK9.out⟩
      case measure=>simp [intOf];omega
     ·obtain rfl:n2=j:=by omega
      rw [List.take_of_length_le (by have:=HL2.out;omega)] at hsl
      have hfin:Sl wr wr.heap.size (.slice A5 n5 c5) (bytesS ⟨db,(up:Int),(bo:Int),ep⟩):=sl_cast hsl (by rw [HBS.out,HG.out,HHD.out];simp only [List.append_assoc])
      have HF:=Lib.hid hfin;clear hfin hsl
      have HBW:=Lib.hid hbw;clear hbw
      go_wp2
      refine bodyPost_ret (v:=.tuple #[.slice A5 n5 c5,.int .i64 0]) ?_ rfl ⟨_,by rw [HM.out];rfl,fun _=>HF.out,fun h=>absurd h (by rw [HM.out];simp),HBW.out⟩
      simp [results,Tryz.results102,go_sem]
end Go.Proofs.YtplpmemlaohlaaaGreat.Bas
