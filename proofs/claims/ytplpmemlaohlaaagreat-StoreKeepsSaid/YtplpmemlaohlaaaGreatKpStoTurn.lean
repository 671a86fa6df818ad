/- A store is turned (layer 12): the contracts of kept.turn and Store.Turn. -/
import Derived.Test.YtplpmemlaohlaaaGreatKpStoAt
import Derived.Test.YtplpmemlaohlaaaGreatKpWalAllB
import Derived.BigQuiet
import Derived.Deep.RegionHeld3
namespace Go.Proofs.YtplpmemlaohlaaaGreat.Sto
open Go.RowKit Mem Oct Lsa Chg Bas Wl
open Dsk (KeptBut SMap DiskAt kept_of_below kept_of_grown kept_drew)
open Plt (sl)
set_option linter.unusedVariables false
set_option linter.unusedSimpArgs false
def ActS (w:World) (x g bs bw k:Nat) (r:Dsk.St × Wn × Int) (e:Ending) (w':World):Prop:=e=.returned (.int .i64 r.2.2)∧WalAt w' x g k r.2.1∧DiskAt w' g bs bw r.1∧KeptBut w w' [x,g,bs,bw]
section
variable (y q x g bs bw k:Nat) (v:Wn) (s:Sta) (d:Dsk.St) (w:World)
set_option maxRecDepth 20000 in
set_option maxHeartbeats 4000000 in
theorem kturn_any (dv ev:Value) (t:Sta) (hw:WalAt w x g k v) (hq:w.cell? ⟨q,0,none⟩=some (ptr x)) (hql:q<w.heap.size) (hd:DiskAt w g bs bw d) (hk1:6≤k) (hk2:k≤1000) (hv:WnOk k v) (hs:StM w w.heap.size dv ev t) (ht:mayS t=true) :
  Calls Tryz.prog 43 #[ptr q,stV t dv ev] w (ActS w x g bs bw k (turnTo k d v t)):=by
 obtain ⟨A1,n1,c1,rfl,hq1_⟩:=id hs.1
 obtain ⟨A2,n2,c2,rfl,hq2_⟩:=id hs.2
 clear hq1_ hq2_
 have hb:=low1 (Below.refl w.heap.size w) (.cells #[.slice A1 n1 c1,.int .i64 t.up,.int .i64 t.bo,.slice A2 n2 c2] 43)
 have k0:=Blk.new w 43 #[.slice A1 n1 c1,.int .i64 t.up,.int .i64 t.bo,.slice A2 n2 c2]
 have PT:=Lib.hid (sput_any t (.slice A1 n1 c1) (.slice A2 n2 c2) _ (hs.up hb))
 have hlen:=bytesS_len ht
 unfold SPutOut at PT
 rw [ht] at PT
 have TN:=Lib.hid (fun (A:Option Addr) (n c:Nat) (W:World) (hW:Below w.heap.size w W) (hS:Sl W W.heap.size (.slice A n c) (bytesS t))=>turn_any x g bs bw k d v A n c (bytesS t) W (hw.up hW) (hd.below hW) hk1 hk2 hv hS (sl_n hS) (by have:=sl_n hS;omega))
 unfold ActOut at TN
 obtain ⟨P1,hP1⟩:∃ P1,P1=ActS w x g bs bw k (turnTo k d v t):=⟨_,rfl⟩
 rw [← hP1]
 have hfin:∀ (W W':World),Below w.heap.size w W→WalAt W' x g k (turnP k d v (bytesS t)).2.1→DiskAt W' g bs bw (turnP k d v (bytesS t)).1→KeptBut W W' [x,g,bs,bw]→P1 (.returned (.int .i64 (full5 (turnP k d v (bytesS t)).2.2))) W':=by
  intro W W' hW h1 h2 h3
  rw [hP1]
  exact ⟨rfl,h1,h2,(kept_of_below hW (Nat.le_refl _)).trans h3⟩
 have FIN:=Lib.hid hfin;clear hfin hP1
 have HB:=Lib.hid hb;clear hb
 generalize turnP k d v (bytesS t)=r at *
 obtain ⟨d1,v1,er⟩:=r
 simp only at TN FIN
 obtain ⟨x0,x1,x2,x3,x4⟩:=blk_cells4 k0
 have HQ:=Lib.hid (fun (W:World) (hW:Below w.heap.size w W)=>(hW.cell (p:=⟨q,0,none⟩) hql).trans hq)
 have HQL:=Lib.hid hql
 clear hs hw hd hv hq hlen k0 ht
 by_cases h5:er=5
 ·subst h5
  rw [show full5 5=4 from rfl] at FIN
  go_enter Tryz.func43,Tryz.ntmps43
  go_wp2_with (first
   | (go_at_call 102;refine (PT.out).mono ?_;rintro e w3 ⟨v3,rfl,hsl,_,hb3⟩;have hs3:=hsl rfl;obtain ⟨A3,n3,c3,rfl,_⟩:=id hs3;have HS3:=Lib.hid hs3;have HB3:=Lib.hid (low_low HB.out hb3);have q0:=HQ.out w3 HB3.out;have q1:=Nat.lt_of_lt_of_le HQL.out HB3.out.size;clear hsl hb3 hs3)
   | (go_at_call 103;refine (TN.out A3 n3 c3 _ HB3.out HS3.out).mono ?_;rintro e w4 ⟨rfl,h1,h2,h3⟩;have HF:=Lib.hid (FIN.out _ _ HB3.out h1 h2 h3);clear h1 h2 h3))
  exact HF.out
 ·have b5:(er == 5)=false:=beq_false_of_ne h5
  have hf5:full5 er=er:=by unfold full5;rw [if_neg h5]
  rw [hf5] at FIN
  clear hf5
  go_enter Tryz.func43,Tryz.ntmps43
  go_wp2_with (first
   | (go_at_call 102;refine (PT.out).mono ?_;rintro e w3 ⟨v3,rfl,hsl,_,hb3⟩;have hs3:=hsl rfl;obtain ⟨A3,n3,c3,rfl,_⟩:=id hs3;have HS3:=Lib.hid hs3;have HB3:=Lib.hid (low_low HB.out hb3);have q0:=HQ.out w3 HB3.out;have q1:=Nat.lt_of_lt_of_le HQL.out HB3.out.size;clear hsl hb3 hs3)
   | (go_at_call 103;refine (TN.out A3 n3 c3 _ HB3.out HS3.out).mono ?_;rintro e w4 ⟨rfl,h1,h2,h3⟩;have HF:=Lib.hid (FIN.out _ _ HB3.out h1 h2 h3);clear h1 h2 h3))
  exact HF.out
def DoneOut (w:World) (y q x g bs bw k:Nat) (r:Done) (e:Ending) (w':World):Prop:=e=.returned (.int .i64 r.e)∧StoreAt w' y q x g k r.v r.s∧DiskAt w' g bs bw r.d∧KeptBut w w' [q,x,g,bs,bw]
set_option maxRecDepth 20000 in
set_option maxHeartbeats 4000000 in
theorem sturn_any (h:StoreAt w y q x g k v s) (hd:DiskAt w g bs bw d) (hk1:6≤k) (hk2:k≤1000) (hv:WnOk k v) (hm:mayS s=true) :
  Calls Tryz.prog 16 #[ptr y] w (DoneOut w y q x g bs bw k (turnS k d v s)):=by
 have C:=Lib.hid (sBroken_any y q x g k v s w h)
 obtain ⟨c0,c1⟩:=h.c0
 obtain ⟨q0,q1⟩:=h.2.c0
 cases hbr:v.br with
 | true =>
  have e0:turnS k d v s=⟨d,v,s,6⟩:=by unfold turnS;rw [if_pos hbr]
  rw [e0]
  rw [hbr] at C
  have HF:=Lib.hid (show DoneOut w y q x g bs bw k ⟨d,v,s,6⟩ (.returned (.int .i64 6)) w from ⟨rfl,h,hd,KeptBut.refl _ _⟩)
  clear h hd hv hm hbr e0
  go_enter Tryz.func16,Tryz.ntmps16
  go_wp2_with (go_at_call 24;refine (C.out).mono ?_;rintro e w' ⟨rfl,rfl⟩)
  go_ret
  exact HF.out
 | false =>
  have e0:turnS k d v s=⟨(turnTo k d v s).1,(turnTo k d v s).2.1,s,(turnTo k d v s).2.2⟩:=by unfold turnS;rw [if_neg (by rw [hbr];simp)]
  rw [hbr] at C
  obtain ⟨⟨dv,ev,a1,a2,a3⟩,a4⟩:=id h.2
  obtain ⟨Ad,nd,cd,rfl⟩:=ownL_sl a2
  obtain ⟨Ae,ne,ce,rfl⟩:=ownE_sl a3
  obtain ⟨d0,d1,d2,d3,d4,d5⟩:=blk_cells5 a1
  have KT:=Lib.hid (fun (W:World) (hW:Below w.heap.size w W)=>kturn_any q x g bs bw k v d W (.slice Ad nd cd) (.slice Ae ne ce) s (a4.up hW) ((hW.cell (p:=⟨q,0,none⟩) q1).trans q0) (Nat.lt_of_lt_of_le q1 hW.size) (hd.below hW) hk1 hk2 hv (StM.up ⟨a2.las,ownE_lks a3⟩ hW) hm)
  unfold ActS at KT
  have hfin:∀ (W W':World),Below w.heap.size w W→WalAt W' x g k (turnTo k d v s).2.1→DiskAt W' g bs bw (turnTo k d v s).1→KeptBut W W' [x,g,bs,bw]→DoneOut w y q x g bs bw k (turnS k d v s) (.returned (.int .i64 (turnTo k d v s).2.2)) W':=by
   intro W W' hW h1 h2 h3
   rw [e0]
   exact ⟨rfl,(h.up hW).acted (d':=(turnTo k d v s).1) (hd.below hW) h3 h1,h2,(kept_of_below hW (Nat.le_refl _)).trans (h3.more (by intro b hb;simp only [List.mem_cons,List.not_mem_nil,or_false] at hb ⊢;omega))⟩
  have FIN:=Lib.hid hfin;clear hfin e0
  have hny:y ∉ [x,g,bs,bw]:=by
   have n1:=Blk.ne_ h.1 h.2.2 (by decide)
   have n2:=Blk.ne_ h.1 hd.1 (by decide)
   have n3:=Dsk.smap_ne_blk hd.2.1 h.1
   have n4:=Dsk.smap_ne_blk hd.2.2.1 h.1
   simp only [List.mem_cons,List.not_mem_nil,or_false]
   omega
  have hnq:q ∉ [x,g,bs,bw]:=by
   have n1:=Blk.ne_ a1 a4 (by decide)
   have n2:=Blk.ne_ a1 hd.1 (by decide)
   have n3:=Dsk.smap_ne_blk hd.2.1 a1
   have n4:=Dsk.smap_ne_blk hd.2.2.1 a1
   simp only [List.mem_cons,List.not_mem_nil,or_false]
   omega
  have HNY:=Lib.hid hny;clear hny
  have HNQ:=Lib.hid hnq;clear hnq
  generalize turnTo k d v s=r at *
  obtain ⟨d1_,v1_,er⟩:=r
  simp only at KT FIN
  generalize turnS k d v s=r0 at *
  clear h hd hv hm hbr a1 a2 a3 a4
  go_enter Tryz.func16,Tryz.ntmps16
  go_wp2_with (go_at_call 24;refine (C.out).mono ?_;rintro e w' ⟨rfl,rfl⟩)
  go_region_held3 (fun W=>W.cell? ⟨y,0,none⟩=some (ptr q)∧W.cell? ⟨q,0,none⟩=some (ptr x)∧W.cell? ⟨q,1,none⟩=some (.slice Ad nd cd)∧W.cell? ⟨q,2,none⟩=some (.int .i64 s.up)∧W.cell? ⟨q,3,none⟩=some (.int .i64 s.bo)∧W.cell? ⟨q,4,none⟩=some (.slice Ae ne ce))
   (first | with_reducible exact ⟨c0,q0,d1,d2,d3,d4⟩ | with_reducible exact ⟨m0,m1,m2,m3,m4,m5⟩ | go_keep)
   (first | (go_at_call 43;refine (KT.out _ (Below.refl _ _).drew).mono ?_;rintro e w4 ⟨rfl,h1,h2,h3⟩;have HF:=Lib.hid (FIN.out _ _ (Below.refl _ _).drew h1 h2 h3);have m0:=(h3.cell (p:=⟨y,0,none⟩) c1 HNY.out).trans c0;have m1:=(h3.cell (p:=⟨q,0,none⟩) q1 HNQ.out).trans q0;have m2:=(h3.cell (p:=⟨q,1,none⟩) q1 HNQ.out).trans d1;have m3:=(h3.cell (p:=⟨q,2,none⟩) q1 HNQ.out).trans d2;have m4:=(h3.cell (p:=⟨q,3,none⟩) q1 HNQ.out).trans d3;have m5:=(h3.cell (p:=⟨q,4,none⟩) q1 HNQ.out).trans d4;clear h1 h2 h3))
  go_wp2
  go_ret
  exact HF.out
end
end Go.Proofs.YtplpmemlaohlaaaGreat.Sto
