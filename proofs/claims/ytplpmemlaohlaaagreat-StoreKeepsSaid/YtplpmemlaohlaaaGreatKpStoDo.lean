/- Changes done by a store (layer 12): the contract of Store.Do. -/
import Derived.Test.YtplpmemlaohlaaaGreatKpChgPut
import Derived.Test.YtplpmemlaohlaaaGreatKpStoTurn
import Derived.Test.YtplpmemlaohlaaaGreatKpWalAllB
namespace Go.Proofs.YtplpmemlaohlaaaGreat.Sto
open Go.RowKit Mem Oct Lsa Chg Bas Wl
open Dsk (KeptBut SMap DiskAt kept_of_below kept_of_grown kept_drew)
open Plt (sl)
set_option linter.unusedVariables false
set_option linter.unusedSimpArgs false
theorem writes_e {l:List (List Nat)} {s:Dsk.St} {i:Nat}:(writes s i l).2≠4:=by
 have hf:∀ t:Dsk.St,t.flush.2≠4:=fun t=>by
  unfold Dsk.St.flush Dsk.St.act
  split
  ·simp
  ·split <;> (split <;> simp_all)
 have hw:∀ (t:Dsk.St) (j:Int) (x:List Nat),(t.write j x).2≠4:=fun t j x=>by
  unfold Dsk.St.write Dsk.St.act
  split
  ·simp
  ·split
   ·split <;> (split <;> simp_all)
   ·simp
 induction l generalizing s i with
 | nil=>exact hf s
 | cons x r ih =>
  rw [writes]
  split
  ·exact ih
  ·exact hw s _ x
theorem commit_four {k:Nat} {d:Dsk.St} {v:Wn} {b:List Nat} (h:(commitP k d v b).2.2=4):(commitP k d v b).1=d∧(commitP k d v b).2.1=v:=by
 unfold commitP at *
 split
 ·exact ⟨rfl,rfl⟩
 ·next h1 =>
  rw [if_neg h1] at h
  split
  ·exact ⟨rfl,rfl⟩
  ·next h2 =>
   rw [if_neg h2] at h
   exact absurd h writes_e
theorem doS12_br {k:Nat} {d:Dsk.St} {v:Wn} {s:Sta} {l:List Ch} (h:v.br=true):doS12 k d v s l=⟨d,v,s,6⟩:=by unfold doS12;rw [if_pos h]
theorem doS12_arg {k:Nat} {d:Dsk.St} {v:Wn} {s:Sta} {l:List Ch} (h:v.br=false) (h1:okAll l=false):doS12 k d v s l=⟨d,v,s,1⟩:=by unfold doS12;rw [if_neg (by rw [h];simp),if_pos h1]
theorem doS12_old {k:Nat} {d:Dsk.St} {v:Wn} {s:Sta} {l:List Ch} (h:v.br=false) (h1:okAll l=true) (h2:(applyS s l).2≠0):doS12 k d v s l=⟨d,v,s,(applyS s l).2⟩:=by
 unfold doS12;rw [if_neg (by rw [h];simp),if_neg (by rw [h1];simp),if_neg h2]
theorem doS12_do {k:Nat} {d:Dsk.St} {v:Wn} {s t:Sta} {l:List Ch} (h:v.br=false) (h1:okAll l=true) (h2:applyS s l=(t,0)):doS12 k d v s l=⟨(keepS k d v t l).1,(keepS k d v t l).2.1,if (keepS k d v t l).2.2=0 then t else s,(keepS k d v t l).2.2⟩:=by
 unfold doS12;rw [if_neg (by rw [h];simp),if_neg (by rw [h1];simp),h2,if_pos rfl]
theorem keep_set {w:World} {q x g bs bw k:Nat} {v:Wn} {s t:Sta} {d:Dsk.St} {dv ev:Value} (h:KeepAt w q x g k v s) (hd:DiskAt w g bs bw d) (h1:OwnL w 0 dv t.db) (h2:OwnE w 0 ev t.ep) :
  KeepAt ((((w.setCell ⟨q,1,none⟩ dv).setCell ⟨q,2,none⟩ (.int .i64 t.up)).setCell ⟨q,3,none⟩ (.int .i64 t.bo)).setCell ⟨q,4,none⟩ ev) q x g k v t∧DiskAt ((((w.setCell ⟨q,1,none⟩ dv).setCell ⟨q,2,none⟩ (.int .i64 t.up)).setCell ⟨q,3,none⟩ (.int .i64 t.bo)).setCell ⟨q,4,none⟩ ev) g bs bw d∧KeptBut w ((((w.setCell ⟨q,1,none⟩ dv).setCell ⟨q,2,none⟩ (.int .i64 t.up)).setCell ⟨q,3,none⟩ (.int .i64 t.bo)).setCell ⟨q,4,none⟩ ev) [q]:=by
 obtain ⟨⟨d0,e0,a1,a2,a3⟩,a4⟩:=h
 have hg:w.grownBy ((((w.setCell ⟨q,1,none⟩ dv).setCell ⟨q,2,none⟩ (.int .i64 t.up)).setCell ⟨q,3,none⟩ (.int .i64 t.bo)).setCell ⟨q,4,none⟩ ev) (some q):=grown_trans (grown_trans (grown_trans (grown_set w ⟨q,1,none⟩ dv) (grown_set _ ⟨q,2,none⟩ _)) (grown_set _ ⟨q,3,none⟩ _)) (grown_set _ ⟨q,4,none⟩ ev)
 have hk:KeptBut w _ [q]:=kept_of_grown hg (by simp)
 have ht:=typ_blk a1 (by decide)
 have n1:=Blk.ne_ a1 a4 (by decide)
 have n2:=Blk.ne_ a1 hd.1 (by decide)
 have n3:=Dsk.smap_ne_blk hd.2.1 a1
 have n4:=Dsk.smap_ne_blk hd.2.2.1 a1
 exact ⟨⟨⟨dv,ev,(((a1.set_ 1 dv).set_ 2 (.int .i64 t.up)).set_ 3 (.int .i64 t.bo)).set_ 4 ev,ownL_kept h1 hk ht,ownE_kept h2 hk ht⟩,a4.kept hk (by simpa using Ne.symm n1)⟩,hd.kept hk (by simpa using Ne.symm n2) (by simpa using Ne.symm n3) (by simpa using Ne.symm n4),hk⟩
theorem updq_cell {w:World} {q b i:Nat} {x u1 u2 u3 u4:Value} (hne:b≠q) (h:w.cell? ⟨b,i,none⟩=some x):((((w.setCell ⟨q,1,none⟩ u1).setCell ⟨q,2,none⟩ u2).setCell ⟨q,3,none⟩ u3).setCell ⟨q,4,none⟩ u4).drew.cell? ⟨b,i,none⟩=some x:=by
 show ((((w.setCell ⟨q,1,none⟩ u1).setCell ⟨q,2,none⟩ u2).setCell ⟨q,3,none⟩ u3).setCell ⟨q,4,none⟩ u4).cell? ⟨b,i,none⟩=some x
 have hg:w.grownBy ((((w.setCell ⟨q,1,none⟩ u1).setCell ⟨q,2,none⟩ u2).setCell ⟨q,3,none⟩ u3).setCell ⟨q,4,none⟩ u4) (some q):=grown_trans (grown_trans (grown_trans (grown_set w ⟨q,1,none⟩ u1) (grown_set _ ⟨q,2,none⟩ u2)) (grown_set _ ⟨q,3,none⟩ u3)) (grown_set _ ⟨q,4,none⟩ u4)
 rw [← h]
 exact World.cell?_of_block (hg.block b (block_lt_of_cell h) (by simpa using hne))
def DoAt (w wi:World) (y q x g bs bw k:Nat) (v:Wn) (s:Sta) (d:Dsk.St) (bx:Nat) (dv ev:Value) (t:Sta):Prop :=
 StoreAt wi y q x g k v s∧DiskAt wi g bs bw d∧KeptBut w wi [q,x,g,bs,bw]∧Blk wi bx 43 #[dv,.int .i64 t.up,.int .i64 t.bo,ev]∧OwnL wi 0 dv t.db∧OwnE wi 0 ev t.ep
section
variable {w wi wj:World} {y q x g bs bw k bx:Nat} {v v':Wn} {s t:Sta} {d d':Dsk.St} {dv ev:Value}
theorem DoAt.far (h:DoAt w wi y q x g bs bw k v s d bx dv ev t):(y ∉ [x,g,bs,bw]∧q ∉ [x,g,bs,bw])∧bx ∉ [x,g,bs,bw]∧y≠q∧bx≠q:=by
 obtain ⟨h1,h2,h3,h4,h5,h6⟩:=h
 obtain ⟨a1,⟨d0,e0,a2,_⟩,a4⟩:=h1
 have n1:=Blk.ne_ a1 a4 (by decide)
 have n2:=Blk.ne_ a1 h2.1 (by decide)
 have n3:=Dsk.smap_ne_blk h2.2.1 a1
 have n4:=Dsk.smap_ne_blk h2.2.2.1 a1
 have m1:=Blk.ne_ a2 a4 (by decide)
 have m2:=Blk.ne_ a2 h2.1 (by decide)
 have m3:=Dsk.smap_ne_blk h2.2.1 a2
 have m4:=Dsk.smap_ne_blk h2.2.2.1 a2
 have p1:=Blk.ne_ h4 a4 (by decide)
 have p2:=Blk.ne_ h4 h2.1 (by decide)
 have p3:=Dsk.smap_ne_blk h2.2.1 h4
 have p4:=Dsk.smap_ne_blk h2.2.2.1 h4
 have r1:=Blk.ne_ a1 a2 (by decide)
 have r2:=Blk.ne_ h4 a2 (by decide)
 simp only [List.mem_cons,List.not_mem_nil,or_false]
 omega
theorem DoAt.acted (h:DoAt w wi y q x g bs bw k v s d bx dv ev t) (hk:KeptBut wi wj [x,g,bs,bw]) (hw:WalAt wj x g k v') (hd:DiskAt wj g bs bw d'):DoAt w wj y q x g bs bw k v' s d' bx dv ev t:=by
 have hf:=h.far
 obtain ⟨h1,h2,h3,h4,h5,h6⟩:=h
 have ht:=typ_both h1.2.2 h2
 exact ⟨h1.acted (d':=d') h2 hk hw,hd,h3.trans (hk.more (by intro b hb;simp only [List.mem_cons,List.not_mem_nil,or_false] at hb ⊢;omega)),hk.blk h4 hf.2.1,ownL_kept h5 hk ht,ownE_kept h6 hk ht⟩
theorem DoAt.cells (h:DoAt w wi y q x g bs bw k v s d bx dv ev t):(wi.cell? ⟨y,0,none⟩=some (ptr q)∧y<wi.heap.size)∧(wi.cell? ⟨q,0,none⟩=some (ptr x)∧q<wi.heap.size) ∧
  wi.cell? ⟨bx,0,none⟩=some dv∧wi.cell? ⟨bx,1,none⟩=some (.int .i64 t.up)∧wi.cell? ⟨bx,2,none⟩=some (.int .i64 t.bo)∧wi.cell? ⟨bx,3,none⟩=some ev∧bx<wi.heap.size:=⟨h.1.c0,h.1.2.c0,blk_cells4 h.2.2.2.1⟩
theorem DoAt.olds (h:DoAt w wi y q x g bs bw k v s d bx dv ev t):∃ a b c e:Value,wi.cell? ⟨q,1,none⟩=some a∧wi.cell? ⟨q,2,none⟩=some b∧wi.cell? ⟨q,3,none⟩=some c∧wi.cell? ⟨q,4,none⟩=some e ∧
  wi.frozen? ⟨q,1,none⟩=false∧wi.frozen? ⟨q,2,none⟩=false∧wi.frozen? ⟨q,3,none⟩=false∧wi.frozen? ⟨q,4,none⟩=false:=by
 obtain ⟨d0,e0,a2,_⟩:=h.1.2.1
 obtain ⟨_,b1,b2,b3,b4,_⟩:=blk_cells5 a2
 exact ⟨_,_,_,_,b1,b2,b3,b4,a2.frozen 1,a2.frozen 2,a2.frozen 3,a2.frozen 4⟩
theorem DoAt.set (h:DoAt w wi y q x g bs bw k v s d bx dv ev t):DoneOut w y q x g bs bw k ⟨d,v,t,0⟩ (.returned (.int .i64 0)) ((((wi.setCell ⟨q,1,none⟩ dv).setCell ⟨q,2,none⟩ (.int .i64 t.up)).setCell ⟨q,3,none⟩ (.int .i64 t.bo)).setCell ⟨q,4,none⟩ ev):=by
 have hf:=h.far
 obtain ⟨h1,h2,h3,h4,h5,h6⟩:=h
 obtain ⟨k1,k2,k3⟩:=keep_set h1.2 h2 h5 h6
 exact ⟨rfl,⟨k3.blk h1.1 (by simpa using hf.2.2.1),k1⟩,k2,h3.trans (k3.more (by simp))⟩
theorem DoneOut.drew {r:Done} {e:Ending} (h:DoneOut w y q x g bs bw k r e wi):DoneOut w y q x g bs bw k r e wi.drew:=⟨h.1,h.2.1.up (Below.refl _ _).drew,h.2.2.1.drew,h.2.2.2.trans kept_drew⟩
theorem DoAt.drew (h:DoAt w wi y q x g bs bw k v s d bx dv ev t):DoAt w wi.drew y q x g bs bw k v s d bx dv ev t:=⟨h.1.up (Below.refl _ _).drew,h.2.1.drew,h.2.2.1.trans kept_drew,h.2.2.2.1,ownL_kept h.2.2.2.2.1 (S:=[]) kept_drew (by intro b hb;simp at hb),ownE_kept h.2.2.2.2.2 (S:=[]) kept_drew (by intro b hb;simp at hb)⟩
theorem DoAt.end_ (h:DoAt w wi y q x g bs bw k v s d bx dv ev t) (er:Int):DoneOut w y q x g bs bw k ⟨d,v,s,er⟩ (.returned (.int .i64 er)) wi:=⟨rfl,h.1,h.2.1,h.2.2.1⟩
end
section
variable (y q x g bs bw k:Nat) (v:Wn) (s:Sta) (d:Dsk.St) (A:Option Addr) (n c:Nat) (l:List Ch) (w:World)
set_option maxRecDepth 20000 in
set_option maxHeartbeats 8000000 in
theorem sdo_no (h:StoreAt w y q x g k v s) (hd:DiskAt w g bs bw d) (hl:Chs w w.heap.size (.slice A n c) l) (hno:v.br=true∨okAll l=false∨(applyS s l).2≠0) :
  Calls Tryz.prog 14 #[ptr y,.slice A n c] w (DoneOut w y q x g bs bw k (doS12 k d v s l)):=by
 have C:=Lib.hid (sBroken_any y q x g k v s w h)
 cases hbr:v.br with
 | true =>
  rw [doS12_br hbr]
  rw [hbr] at C
  have HF:=Lib.hid (show DoneOut w y q x g bs bw k ⟨d,v,s,6⟩ (.returned (.int .i64 6)) w from ⟨rfl,h,hd,KeptBut.refl _ _⟩)
  clear h hd hbr hl hno
  go_enter Tryz.func14,Tryz.ntmps14
  go_wp2_with (go_at_call 24;refine (C.out).mono ?_;rintro e w' ⟨rfl,rfl⟩)
  go_ret
  exact HF.out
 | false =>
  rw [hbr] at C
  have PT:=Lib.hid (cputs_any A n c l w hl)
  unfold Chg.PutOut at PT
  have hfin:∀ (W:World) (er:Int),Below w.heap.size w W→DoneOut w y q x g bs bw k ⟨d,v,s,er⟩ (.returned (.int .i64 er)) W:=fun W er hW=>⟨rfl,h.up hW,hd.below hW,kept_of_below hW (Nat.le_refl _)⟩
  have FIN:=Lib.hid hfin;clear hfin
  cases hok:okAll l with
  | false =>
   rw [doS12_arg hbr hok]
   rw [hok] at PT
   have HF:=Lib.hid (fun W hW=>FIN.out W 1 hW)
   clear h hd hbr hl hno FIN
   go_enter Tryz.func14,Tryz.ntmps14
   go_wp2_with (first
    | (go_at_call 24;refine (C.out).mono ?_;rintro e w' ⟨rfl,rfl⟩)
    | (go_at_call 40;refine (PT.out).mono ?_;rintro e w3 ⟨v3,rfl,_,hv3,hb3⟩;obtain rfl:=hv3 (by first | rfl | trivial);have HF3:=Lib.hid (HF.out w3 hb3);clear hb3 hv3))
   go_ret
   exact HF3.out
  | true =>
   have her:(applyS s l).2≠0:=by
    rcases hno with e | e | e
    ·rw [hbr] at e;cases e
    ·rw [hok] at e;cases e
    ·exact e
   rw [doS12_old hbr hok her]
   rw [hok] at PT
   obtain ⟨⟨dv,ev,a1,a2,a3⟩,a4⟩:=id h.2
   obtain ⟨Ad,nd,cd,rfl⟩:=ownL_sl a2
   obtain ⟨Ae,ne,ce,rfl⟩:=ownE_sl a3
   have CELL:=Lib.hid (fun (W:World) (hW:Below w.heap.size w W)=>blk_cells5 (a1.below hW a1.lt))
   have CY:=Lib.hid (fun (W:World) (hW:Below w.heap.size w W)=>(h.up hW).c0)
   have AP:=Lib.hid (fun (W:World) (hW:Below w.heap.size w W)=>apply_own s (.slice Ad nd cd) (.slice Ae ne ce) A n c l W (StM.up ⟨a2.las,ownE_lks a3⟩ hW) (hl.up hW))
   unfold ApplyOwn at AP
   have HF:=Lib.hid (fun W hW=>FIN.out W (applyS s l).2 hW)
   clear FIN
   generalize (applyS s l).1=t at *
   generalize (applyS s l).2=er at *
   have b0:(er == 0)=false:=beq_false_of_ne her
   clear h hd hbr hl hno a1 a2 a3 a4 her hok
   go_enter Tryz.func14,Tryz.ntmps14
   go_wp2_with (first
    | (go_at_call 24;refine (C.out).mono ?_;rintro e w' ⟨rfl,rfl⟩)
    | (go_at_call 40;refine (PT.out).mono ?_;rintro e w3 ⟨v3,rfl,hs3,_,hb3⟩;obtain ⟨A3,n3,c3,rfl,_⟩:=id (hs3 (by first | rfl | trivial));have HB3:=Lib.hid hb3;obtain ⟨p0,p1,p2,p3,p4,p5⟩:=CELL.out w3 hb3;obtain ⟨y0,y1⟩:=CY.out w3 hb3;clear hb3 hs3)
    | (go_at_call 41;refine (AP.out w3 HB3.out).mono ?_;rintro e w4 ⟨dv,ev,rfl,hd4,he4,hb4⟩;obtain ⟨A4,n4,c4,rfl⟩:=ownL_sl hd4;obtain ⟨A5,n5,c5,rfl⟩:=ownE_sl he4;have HB4:=Lib.hid (low1 (low_low HB3.out hb4) (.cells #[.slice A4 n4 c4,.int .i64 t.up,.int .i64 t.bo,.slice A5 n5 c5] 43));clear hb4 hd4 he4))
   go_ret
   exact HF.out _ HB4.out
set_option maxRecDepth 20000 in
set_option maxHeartbeats 8000000 in
theorem sdo_do (t:Sta) (h:StoreAt w y q x g k v s) (hd:DiskAt w g bs bw d) (hk1:6≤k) (hk2:k≤1000) (hv:WnOk k v) (hl:Chs w w.heap.size (.slice A n c) l) (hbr:v.br=false) (hok:okAll l=true) (hap:applyS s l=(t,0)) :
  Calls Tryz.prog 14 #[ptr y,.slice A n c] w (DoneOut w y q x g bs bw k (doS12 k d v s l)):=by
 have C:=Lib.hid (sBroken_any y q x g k v s w h)
 rw [hbr] at C
 have PT:=Lib.hid (cputs_any A n c l w hl)
 unfold Chg.PutOut at PT
 rw [hok] at PT
 have hmt:=(apply_up hap).2
 obtain ⟨⟨dv,ev,a1,a2,a3⟩,a4⟩:=id h.2
 obtain ⟨Ad,nd,cd,rfl⟩:=ownL_sl a2
 obtain ⟨Ae,ne,ce,rfl⟩:=ownE_sl a3
 have CELL:=Lib.hid (fun (W:World) (hW:Below w.heap.size w W)=>blk_cells5 (a1.below hW a1.lt))
 have CY:=Lib.hid (fun (W:World) (hW:Below w.heap.size w W)=>(h.up hW).c0)
 have AP:=Lib.hid (fun (W:World) (hW:Below w.heap.size w W)=>apply_own s (.slice Ad nd cd) (.slice Ae ne ce) A n c l W (StM.up ⟨a2.las,ownE_lks a3⟩ hW) (hl.up hW))
 unfold ApplyOwn at AP
 rw [hap] at AP
 simp only at AP
 have hplen:=putC_len hok
 have hmk:∀ (W:World) (dv ev:Value) (B:Nat),Below w.heap.size w W→OwnL W B dv t.db→OwnE W B ev t.ep→DoAt w (W.alloc (.cells #[dv,.int .i64 t.up,.int .i64 t.bo,ev] 43)) y q x g bs bw k v s d W.heap.size dv ev t:=by
  intro W dv ev B hW h1 h2
  have hb:=low1 hW (.cells #[dv,.int .i64 t.up,.int .i64 t.bo,ev] 43)
  have hb2:=low1 (Below.refl W.heap.size W) (.cells #[dv,.int .i64 t.up,.int .i64 t.bo,ev] 43)
  exact ⟨h.up hb,hd.below hb,kept_of_below hb (Nat.le_refl _),Blk.new W _ _,ownL_more (h1.below hb2) (Nat.zero_le _),own_mono (own_below h2 hb2) (Nat.zero_le _)⟩
 have MK:=Lib.hid hmk;clear hmk
 have CM:=Lib.hid (fun (W:World) (bx:Nat) (dv ev:Value) (A:Option Addr) (n c:Nat) (hW:DoAt w W y q x g bs bw k v s d bx dv ev t) (hS:Sl W W.heap.size (.slice A n c) (putC l))=>(commit_any x g bs bw k d v A n c (putC l) W hW.1.2.2 hW.2.1 hk1 hk2 hv hS (sl_n hS) (by have:=sl_n hS;omega)).mono (fun e w' (hx:ActOut W x g bs bw k (commitP k d v (putC l)) e w')=>(⟨hx.1,hW.acted hx.2.2.2 hx.2.1 hx.2.2.1⟩:e=.returned (.int .i64 (commitP k d v (putC l)).2.2)∧DoAt w w' y q x g bs bw k (commitP k d v (putC l)).2.1 s (commitP k d v (putC l)).1 bx dv ev t)))
 have e0:=doS12_do (k:=k) (d:=d) hbr hok hap
 by_cases h4:(commitP k d v (putC l)).2.2=4
 ·have ek:keepS k d v t l=turnTo k d v t:=by unfold keepS;rw [if_pos h4]
  rw [ek] at e0
  rw [e0]
  clear e0 ek
  have hc4:(commitP k d v (putC l)).1=d∧(commitP k d v (putC l)).2.1=v:=commit_four h4
  rw [h4,hc4.1,hc4.2] at CM
  have KT:=Lib.hid (fun (W:World) (bx:Nat) (A1:Option Addr) (n1 c1:Nat) (A2:Option Addr) (n2 c2:Nat) (hW:DoAt w W y q x g bs bw k v s d bx (.slice A1 n1 c1) (.slice A2 n2 c2) t)=>(kturn_any q x g bs bw k v d W (.slice A1 n1 c1) (.slice A2 n2 c2) t hW.1.2.2 hW.1.2.c0.1 hW.1.2.c0.2 hW.2.1 hk1 hk2 hv ⟨hW.2.2.2.2.1.las,ownE_lks hW.2.2.2.2.2⟩ hmt).mono (fun e w' (hx:ActS W x g bs bw k (turnTo k d v t) e w')=>(⟨hx.1,hW.acted hx.2.2.2 hx.2.1 hx.2.2.1⟩:e=.returned (.int .i64 (turnTo k d v t).2.2)∧DoAt w w' y q x g bs bw k (turnTo k d v t).2.1 s (turnTo k d v t).1 bx (.slice A1 n1 c1) (.slice A2 n2 c2) t)))
  generalize turnTo k d v t=r at *
  obtain ⟨d1,v1,er⟩:=r
  simp only at KT ⊢
  clear hc4
  by_cases h0:er=0
  ·subst h0
   rw [if_pos rfl]
   clear h hd hv hl hbr hok hap hmt a1 a2 a3 a4 hplen h4
   go_enter Tryz.func14,Tryz.ntmps14
   go_wp2_with (first
    | (go_at_call 24;refine (C.out).mono ?_;rintro e w' ⟨rfl,rfl⟩)
    | (go_at_call 40;refine (PT.out).mono ?_;rintro e w3 ⟨v3,rfl,hs3,_,hb3⟩;obtain ⟨A3,n3,c3,rfl,_⟩:=id (hs3 (by first | rfl | trivial));have HS3:=Lib.hid (hs3 (by first | rfl | trivial));have HB3:=Lib.hid hb3;obtain ⟨p0,p1,p2,p3,p4,p5⟩:=CELL.out w3 hb3;obtain ⟨y0,y1⟩:=CY.out w3 hb3;clear hb3 hs3)
    | (go_at_call 41;refine (AP.out w3 HB3.out).mono ?_;rintro e w4 ⟨dv,ev,rfl,hd4,he4,hb4⟩;obtain ⟨A4,n4,c4,rfl⟩:=ownL_sl hd4;obtain ⟨A5,n5,c5,rfl⟩:=ownE_sl he4;have HW5:=Lib.hid (MK.out w4 _ _ _ (low_low HB3.out hb4) hd4 he4);have HS5:=Lib.hid (sl_up HS3.out (low1 hb4 (.cells #[.slice A4 n4 c4,.int .i64 t.up,.int .i64 t.bo,.slice A5 n5 c5] 43)));clear p0 p1 p2 p3 p4 p5 y0 y1 hb4 hd4 he4;obtain ⟨⟨y0,y1⟩,⟨q0,q1⟩,b0,b1,b2,b3,b4⟩:=HW5.out.cells)
    | (go_at_call 42;refine (CM.out _ _ _ _ A3 n3 c3 HW5.out HS5.out).mono ?_;rintro e w6 ⟨rfl,h6⟩;have HW6:=Lib.hid h6;clear h6;clear y0 y1 q0 q1 b0 b1 b2 b3 b4;obtain ⟨⟨y0,y1⟩,⟨q0,q1⟩,b0,b1,b2,b3,b4⟩:=HW6.out.cells;obtain ⟨o1,o2,o3,o4,p1,p2,p3,p4,f1,f2,f3,f4⟩:=HW6.out.olds;obtain ⟨_,_,n1,n2⟩:=HW6.out.far))
   go_region_held3 (fun W=>W.cell? ⟨y,0,none⟩=some (ptr q)∧W.cell? ⟨w4.heap.size,0,none⟩=some (.slice A4 n4 c4)∧W.cell? ⟨w4.heap.size,1,none⟩=some (.int .i64 t.up)∧W.cell? ⟨w4.heap.size,2,none⟩=some (.int .i64 t.bo)∧W.cell? ⟨w4.heap.size,3,none⟩=some (.slice A5 n5 c5))
    (first | with_reducible exact ⟨y0,b0,b1,b2,b3⟩ | go_keep)
    (first
    | (go_at_call 43;refine (KT.out _ _ _ _ _ _ _ _ HW6.out.drew).mono ?_;rintro e w7 ⟨rfl,h7⟩;have HW7:=Lib.hid h7;clear h7;clear y0 y1 q0 q1 b0 b1 b2 b3 b4 o1 o2 o3 o4 p1 p2 p3 p4 f1 f2 f3 f4 n1 n2;obtain ⟨⟨y0,y1⟩,⟨q0,q1⟩,b0,b1,b2,b3,b4⟩:=HW7.out.cells;obtain ⟨o1,o2,o3,o4,p1,p2,p3,p4,f1,f2,f3,f4⟩:=HW7.out.olds;obtain ⟨_,_,n1,n2⟩:=HW7.out.far))
   go_wp2_with (fail)
   go_region_held3 (fun W=>W.cell? ⟨y,0,none⟩=some (ptr q)∧W.cell? ⟨w4.heap.size,0,none⟩=some (.slice A4 n4 c4)∧W.cell? ⟨w4.heap.size,1,none⟩=some (.int .i64 t.up)∧W.cell? ⟨w4.heap.size,2,none⟩=some (.int .i64 t.bo)∧W.cell? ⟨w4.heap.size,3,none⟩=some (.slice A5 n5 c5))
    (first | with_reducible exact ⟨y0,b0,b1,b2,b3⟩ | with_reducible exact ⟨updq_cell n1 y0,updq_cell n2 b0,updq_cell n2 b1,updq_cell n2 b2,updq_cell n2 b3⟩ | go_keep) (first | fail)
   have HF:=Lib.hid (HW7.out.set.drew)
   go_wp2
   go_ret
   exact HF.out
  ·rw [if_neg h0]
   have h0b:(er == 0)=false:=beq_false_of_ne h0
   clear h hd hv hl hbr hok hap hmt a1 a2 a3 a4 hplen h4 h0
   go_enter Tryz.func14,Tryz.ntmps14
   go_wp2_with (first
    | (go_at_call 24;refine (C.out).mono ?_;rintro e w' ⟨rfl,rfl⟩)
    | (go_at_call 40;refine (PT.out).mono ?_;rintro e w3 ⟨v3,rfl,hs3,_,hb3⟩;obtain ⟨A3,n3,c3,rfl,_⟩:=id (hs3 (by first | rfl | trivial));have HS3:=Lib.hid (hs3 (by first | rfl | trivial));have HB3:=Lib.hid hb3;obtain ⟨p0,p1,p2,p3,p4,p5⟩:=CELL.out w3 hb3;obtain ⟨y0,y1⟩:=CY.out w3 hb3;clear hb3 hs3)
    | (go_at_call 41;refine (AP.out w3 HB3.out).mono ?_;rintro e w4 ⟨dv,ev,rfl,hd4,he4,hb4⟩;obtain ⟨A4,n4,c4,rfl⟩:=ownL_sl hd4;obtain ⟨A5,n5,c5,rfl⟩:=ownE_sl he4;have HW5:=Lib.hid (MK.out w4 _ _ _ (low_low HB3.out hb4) hd4 he4);have HS5:=Lib.hid (sl_up HS3.out (low1 hb4 (.cells #[.slice A4 n4 c4,.int .i64 t.up,.int .i64 t.bo,.slice A5 n5 c5] 43)));clear p0 p1 p2 p3 p4 p5 y0 y1 hb4 hd4 he4;obtain ⟨⟨y0,y1⟩,⟨q0,q1⟩,b0,b1,b2,b3,b4⟩:=HW5.out.cells)
    | (go_at_call 42;refine (CM.out _ _ _ _ A3 n3 c3 HW5.out HS5.out).mono ?_;rintro e w6 ⟨rfl,h6⟩;have HW6:=Lib.hid h6;clear h6;clear y0 y1 q0 q1 b0 b1 b2 b3 b4;obtain ⟨⟨y0,y1⟩,⟨q0,q1⟩,b0,b1,b2,b3,b4⟩:=HW6.out.cells;obtain ⟨o1,o2,o3,o4,p1,p2,p3,p4,f1,f2,f3,f4⟩:=HW6.out.olds;obtain ⟨_,_,n1,n2⟩:=HW6.out.far))
   go_region_held3 (fun W=>W.cell? ⟨y,0,none⟩=some (ptr q)∧W.cell? ⟨w4.heap.size,0,none⟩=some (.slice A4 n4 c4)∧W.cell? ⟨w4.heap.size,1,none⟩=some (.int .i64 t.up)∧W.cell? ⟨w4.heap.size,2,none⟩=some (.int .i64 t.bo)∧W.cell? ⟨w4.heap.size,3,none⟩=some (.slice A5 n5 c5))
    (first | with_reducible exact ⟨y0,b0,b1,b2,b3⟩ | go_keep)
    (first
    | (go_at_call 43;refine (KT.out _ _ _ _ _ _ _ _ HW6.out.drew).mono ?_;rintro e w7 ⟨rfl,h7⟩;have HW7:=Lib.hid h7;clear h7;clear y0 y1 q0 q1 b0 b1 b2 b3 b4 o1 o2 o3 o4 p1 p2 p3 p4 f1 f2 f3 f4 n1 n2;obtain ⟨⟨y0,y1⟩,⟨q0,q1⟩,b0,b1,b2,b3,b4⟩:=HW7.out.cells;obtain ⟨o1,o2,o3,o4,p1,p2,p3,p4,f1,f2,f3,f4⟩:=HW7.out.olds;obtain ⟨_,_,n1,n2⟩:=HW7.out.far))
   go_wp2_with (fail)
   go_ret
   exact HW7.out.end_ er
 ·have ek:keepS k d v t l=commitP k d v (putC l):=by unfold keepS;rw [if_neg h4]
  rw [ek] at e0
  rw [e0]
  clear e0 ek
  have h4b:((commitP k d v (putC l)).2.2 == 4)=false:=beq_false_of_ne h4
  generalize commitP k d v (putC l)=r at *
  obtain ⟨d1,v1,er⟩:=r
  simp only at CM h4 h4b ⊢
  by_cases h0:er=0
  ·subst h0
   rw [if_pos rfl]
   clear h hd hv hl hbr hok hap hmt a1 a2 a3 a4 hplen h4
   go_enter Tryz.func14,Tryz.ntmps14
   go_wp2_with (first
    | (go_at_call 24;refine (C.out).mono ?_;rintro e w' ⟨rfl,rfl⟩)
    | (go_at_call 40;refine (PT.out).mono ?_;rintro e w3 ⟨v3,rfl,hs3,_,hb3⟩;obtain ⟨A3,n3,c3,rfl,_⟩:=id (hs3 (by first | rfl | trivial));have HS3:=Lib.hid (hs3 (by first | rfl | trivial));have HB3:=Lib.hid hb3;obtain ⟨p0,p1,p2,p3,p4,p5⟩:=CELL.out w3 hb3;obtain ⟨y0,y1⟩:=CY.out w3 hb3;clear hb3 hs3)
    | (go_at_call 41;refine (AP.out w3 HB3.out).mono ?_;rintro e w4 ⟨dv,ev,rfl,hd4,he4,hb4⟩;obtain ⟨A4,n4,c4,rfl⟩:=ownL_sl hd4;obtain ⟨A5,n5,c5,rfl⟩:=ownE_sl he4;have HW5:=Lib.hid (MK.out w4 _ _ _ (low_low HB3.out hb4) hd4 he4);have HS5:=Lib.hid (sl_up HS3.out (low1 hb4 (.cells #[.slice A4 n4 c4,.int .i64 t.up,.int .i64 t.bo,.slice A5 n5 c5] 43)));clear p0 p1 p2 p3 p4 p5 y0 y1 hb4 hd4 he4;obtain ⟨⟨y0,y1⟩,⟨q0,q1⟩,b0,b1,b2,b3,b4⟩:=HW5.out.cells)
    | (go_at_call 42;refine (CM.out _ _ _ _ A3 n3 c3 HW5.out HS5.out).mono ?_;rintro e w6 ⟨rfl,h6⟩;have HW6:=Lib.hid h6;clear h6;clear y0 y1 q0 q1 b0 b1 b2 b3 b4;obtain ⟨⟨y0,y1⟩,⟨q0,q1⟩,b0,b1,b2,b3,b4⟩:=HW6.out.cells;obtain ⟨o1,o2,o3,o4,p1,p2,p3,p4,f1,f2,f3,f4⟩:=HW6.out.olds;obtain ⟨_,_,n1,n2⟩:=HW6.out.far))
   go_region_held3 (fun W=>W.cell? ⟨y,0,none⟩=some (ptr q)∧W.cell? ⟨w4.heap.size,0,none⟩=some (.slice A4 n4 c4)∧W.cell? ⟨w4.heap.size,1,none⟩=some (.int .i64 t.up)∧W.cell? ⟨w4.heap.size,2,none⟩=some (.int .i64 t.bo)∧W.cell? ⟨w4.heap.size,3,none⟩=some (.slice A5 n5 c5))
    (first | with_reducible exact ⟨y0,b0,b1,b2,b3⟩ | with_reducible exact ⟨updq_cell n1 y0,updq_cell n2 b0,updq_cell n2 b1,updq_cell n2 b2,updq_cell n2 b3⟩ | go_keep) (first | fail)
   have HF:=Lib.hid (HW6.out.set.drew)
   go_wp2
   go_ret
   exact HF.out
  ·rw [if_neg h0]
   have h0b:(er == 0)=false:=beq_false_of_ne h0
   clear h hd hv hl hbr hok hap hmt a1 a2 a3 a4 hplen h4 h0
   go_enter Tryz.func14,Tryz.ntmps14
   go_wp2_with (first
    | (go_at_call 24;refine (C.out).mono ?_;rintro e w' ⟨rfl,rfl⟩)
    | (go_at_call 40;refine (PT.out).mono ?_;rintro e w3 ⟨v3,rfl,hs3,_,hb3⟩;obtain ⟨A3,n3,c3,rfl,_⟩:=id (hs3 (by first | rfl | trivial));have HS3:=Lib.hid (hs3 (by first | rfl | trivial));have HB3:=Lib.hid hb3;obtain ⟨p0,p1,p2,p3,p4,p5⟩:=CELL.out w3 hb3;obtain ⟨y0,y1⟩:=CY.out w3 hb3;clear hb3 hs3)
    | (go_at_call 41;refine (AP.out w3 HB3.out).mono ?_;rintro e w4 ⟨dv,ev,rfl,hd4,he4,hb4⟩;obtain ⟨A4,n4,c4,rfl⟩:=ownL_sl hd4;obtain ⟨A5,n5,c5,rfl⟩:=ownE_sl he4;have HW5:=Lib.hid (MK.out w4 _ _ _ (low_low HB3.out hb4) hd4 he4);have HS5:=Lib.hid (sl_up HS3.out (low1 hb4 (.cells #[.slice A4 n4 c4,.int .i64 t.up,.int .i64 t.bo,.slice A5 n5 c5] 43)));clear p0 p1 p2 p3 p4 p5 y0 y1 hb4 hd4 he4;obtain ⟨⟨y0,y1⟩,⟨q0,q1⟩,b0,b1,b2,b3,b4⟩:=HW5.out.cells)
    | (go_at_call 42;refine (CM.out _ _ _ _ A3 n3 c3 HW5.out HS5.out).mono ?_;rintro e w6 ⟨rfl,h6⟩;have HW6:=Lib.hid h6;clear h6;clear y0 y1 q0 q1 b0 b1 b2 b3 b4;obtain ⟨⟨y0,y1⟩,⟨q0,q1⟩,b0,b1,b2,b3,b4⟩:=HW6.out.cells;obtain ⟨o1,o2,o3,o4,p1,p2,p3,p4,f1,f2,f3,f4⟩:=HW6.out.olds;obtain ⟨_,_,n1,n2⟩:=HW6.out.far))
   go_ret
   exact HW6.out.end_ er
theorem sdo_any (h:StoreAt w y q x g k v s) (hd:DiskAt w g bs bw d) (hk1:6≤k) (hk2:k≤1000) (hv:WnOk k v) (hl:Chs w w.heap.size (.slice A n c) l) :
  Calls Tryz.prog 14 #[ptr y,.slice A n c] w (DoneOut w y q x g bs bw k (doS12 k d v s l)):=by
 by_cases hno:v.br=true∨okAll l=false∨(applyS s l).2≠0
 ·exact sdo_no y q x g bs bw k v s d A n c l w h hd hl hno
 ·have h1:v.br=false:=by cases e:v.br with | true=>exact absurd (.inl e) hno | false=>rfl
  have h2:okAll l=true:=by cases e:okAll l with | false=>exact absurd (.inr (.inl e)) hno | true=>rfl
  have h3:(applyS s l).2=0:=Decidable.byContradiction fun e=>hno (.inr (.inr e))
  exact sdo_do y q x g bs bw k v s d A n c l w (applyS s l).1 h hd hk1 hk2 hv hl h1 h2 (Prod.ext rfl h3)
end
end Go.Proofs.YtplpmemlaohlaaaGreat.Sto
