/- A store is opened (layer 12): the contract of store.Open. -/
import Derived.Test.YtplpmemlaohlaaaGreatKpStoAt
namespace Go.Proofs.YtplpmemlaohlaaaGreat.Sto
open Go.RowKit Mem Oct Lsa Chg Bas Wl
open Dsk (KeptBut SMap DiskAt kept_of_below kept_of_grown kept_drew NoneAt)
open Plt (sl)
set_option linter.unusedVariables false
set_option linter.unusedSimpArgs false
structure OpenedS where
 d:Dsk.St
 ok:Option (Wn × Sta)
 e:Int
def openS (d:Dsk.St):OpenedS:=match (openP d).ok with
 | none=>⟨(openP d).st,none,(openP d).e⟩
 | some v=>match saidC (openP d).b (openP d).recs with
  | none=>⟨(openP d).st,none,8⟩
  | some s=>⟨(openP d).st,some (v,s),0⟩
theorem openP_err {d:Dsk.St}:((openP d).ok=none→(openP d).e≠0)∧(∀ v,(openP d).ok=some v→(openP d).e=0):=by
 unfold openP
 split
 ·exact ⟨fun _=>by simp,fun v h=>by cases h⟩
 split
 ·exact ⟨fun _=>by simp,fun v h=>by cases h⟩
 split
 ·exact ⟨fun _=>by simp,fun v h=>by cases h⟩
 split
 ·exact ⟨fun h=>(by cases h),fun v h=>rfl⟩
 split
 ·split
  ·exact ⟨fun h=>(by cases h),fun v h=>rfl⟩
  ·next h0=>exact ⟨fun _=>h0,fun v h=>by cases h⟩
 ·exact ⟨fun _=>by simp,fun v h=>by cases h⟩
def SOpenOut (w:World) (g bs bw:Nat) (d:Dsk.St) (e:Ending) (w':World):Prop:=∃ vy:Value,e=.returned (.tuple #[vy,.int .i64 (openS d).e])∧DiskAt w' g bs bw (openS d).d∧KeptBut w w' [g,bs,bw] ∧
 ((openS d).ok=none→vy=.pointer none)∧∀ v s,(openS d).ok=some (v,s)→∃ y q x,vy=ptr y∧w.heap.size≤y∧w.heap.size≤q∧w.heap.size≤x∧StoreAt w' y q x g d.n v s
set_option maxRecDepth 20000 in
set_option maxHeartbeats 8000000 in
theorem sopen_any (g bs bw:Nat) (d:Dsk.St) (w:World) (h:DiskAt w g bs bw d) (hn:d.n≤1000) (hbl:(openP d).b.length≤200000) (hrl:∀ r∈(openP d).recs,r.length≤200000) :
  Calls Tryz.prog 10 #[ptr g] w (SOpenOut w g bs bw d):=by
 have OP:=Lib.hid (open_any g bs bw d w h hn)
 unfold OpenOut at OP
 obtain ⟨hno,hyes⟩:=openP_err (d:=d)
 cases hok:(openP d).ok with
 | none =>
  have he:=hno hok
  have e0:openS d=⟨(openP d).st,none,(openP d).e⟩:=by unfold openS;rw [hok]
  have hfin:∀ (W:World),DiskAt W g bs bw (openP d).st→KeptBut w W [g,bs,bw]→SOpenOut w g bs bw d (.returned (.tuple #[.pointer none,.int .i64 (openP d).e])) W:=by
   intro W h1 h2
   unfold SOpenOut
   rw [e0]
   exact ⟨_,rfl,h1,h2,fun _=>rfl,fun v s h=>by cases h⟩
  have FIN:=Lib.hid hfin;clear hfin e0 hno hyes hok hbl hrl h
  have b0:((openP d).e == 0)=false:=beq_false_of_ne he
  clear he
  generalize SOpenOut w g bs bw d=P1 at *
  generalize (openP d).e=er at *
  generalize openP d=o at *
  go_enter Tryz.func10,Tryz.ntmps10
  go_wp2_with (go_at_call 31;refine (OP.out).mono ?_;rintro e w1 ⟨vw,A,n,c,vr,rfl,h2,h3,h4,h5,h6,h7⟩;obtain ⟨A2,n2,c2,rfl,_⟩:=id h5;have HF:=Lib.hid (FIN.out w1 h2 h3);clear h2 h3 h4 h5 h7)
  exact HF.out
 | some v =>
  have he:=hyes v hok
  have hok':=hok
  rw [hok,he] at OP
  obtain ⟨r,hr⟩:∃ r,r=saidC (openP d).b (openP d).recs:=⟨_,rfl⟩
  have hno2:r=none→openS d=⟨(openP d).st,none,8⟩:=fun e=>by unfold openS;rw [hok,← hr,e]
  have hyes2:∀ s,r=some s→openS d=⟨(openP d).st,some (v,s),0⟩:=fun s e=>by unfold openS;rw [hok,← hr,e]
  have SD:=Lib.hid (fun (A:Option Addr) (n c:Nat) (v2:Value) (W:World) (h1:Sl W W.heap.size v2 (openP d).b) (h2:Sls W W.heap.size (.slice A n c) (openP d).recs)=>said_any A n c v2 (openP d).b (openP d).recs W h1 h2 hbl hrl)
  rw [← hr] at SD
  unfold OptOut at SD
  obtain ⟨P1,hP1⟩:∃ P1,P1=SOpenOut w g bs bw d:=⟨_,rfl⟩
  rw [← hP1]
  have hfin0:r=none→∀ (W W':World),DiskAt W g bs bw (openP d).st→KeptBut w W [g,bs,bw]→Below W.heap.size W W'→P1 (.returned (.tuple #[.pointer none,.int .i64 8])) W':=by
   intro e W W' h1 h2 h3
   rw [hP1]
   unfold SOpenOut
   rw [hno2 e]
   exact ⟨_,rfl,h1.below h3,h2.trans (kept_of_below h3 (Nat.le_refl _)),fun _=>rfl,fun v s h=>by cases h⟩
  have hfin1:∀ s,r=some s→∀ (W W':World) (x y q:Nat) (dv ev:Value),DiskAt W g bs bw (openP d).st→KeptBut w W [g,bs,bw]→w.heap.size≤x→WalAt W x g d.n v→Below W.heap.size W W'→OwnL W' W.heap.size dv s.db→OwnE W' W.heap.size ev s.ep→w.heap.size≤q→w.heap.size≤y→Blk W' q 92 #[ptr x,dv,.int .i64 s.up,.int .i64 s.bo,ev]→Blk W' y 70 #[ptr q]→P1 (.returned (.tuple #[ptr y,.int .i64 0])) W':=by
   intro s e W W' x y q dv ev h1 h2 hx h3 h4 h5 h6 hq hy h7 h8
   rw [hP1]
   unfold SOpenOut
   rw [hyes2 s e]
   exact ⟨_,rfl,h1.below h4,h2.trans (kept_of_below h4 (Nat.le_refl _)),fun h=>(by cases h),fun v' s' h=>by cases h;exact ⟨y,q,x,rfl,hy,hq,hx,h8,⟨dv,ev,h7,ownL_more h5 (Nat.zero_le _),own_mono h6 (Nat.zero_le _)⟩,h3.up h4⟩⟩
  have FIN0:=Lib.hid hfin0;clear hfin0
  have FIN1:=Lib.hid hfin1;clear hfin1 hP1 hno hyes hno2 hyes2 hok hok' hbl hrl h he hr
  generalize openP d=o at *
  cases r with
  | none =>
   have FINN:=Lib.hid (FIN0.out rfl)
   clear FIN0 FIN1
   go_enter Tryz.func10,Tryz.ntmps10
   go_wp2_with (first
    | (go_at_call 31;refine (OP.out).mono ?_;rintro e w1 ⟨vw,A,n,c,vr,rfl,h2,h3,h4,h5,h6,h7⟩;obtain ⟨A2,n2,c2,rfl,_⟩:=id h5;obtain ⟨x,rfl,hx,hw⟩:=h7 v rfl;have HS1:=Lib.hid h4.sl;have HL1:=Lib.hid h5;have HD1:=Lib.hid h2;have HK1:=Lib.hid h3;clear h2 h3 h4 h5 h6 h7 hx hw)
    | (go_at_call 32;refine (SD.out A2 n2 c2 _ w1 HS1.out HL1.out).mono ?_;rintro e w2 ⟨dv,ev,rfl,hd2,he2,hb2⟩;obtain ⟨Ad,nd,cd,rfl⟩:=ownL_sl hd2;obtain ⟨Ae,ne,ce,rfl⟩:=ownE_sl he2;have HF:=Lib.hid (fun (W:World) (hW:Below w1.heap.size w1 W)=>FINN.out w1 W HD1.out HK1.out hW);have HB2:=Lib.hid (low1 hb2 (.cells #[.slice Ad nd cd,.int .i64 zeroS.up,.int .i64 zeroS.bo,.slice Ae ne ce] 43));clear hd2 he2 hb2))
   exact HF.out _ HB2.out
  | some s =>
   have FINS:=Lib.hid (FIN1.out s rfl)
   clear FIN0 FIN1
   go_enter Tryz.func10,Tryz.ntmps10
   go_wp2_with (first
    | (go_at_call 31;refine (OP.out).mono ?_;rintro e w1 ⟨vw,A,n,c,vr,rfl,h2,h3,h4,h5,h6,h7⟩;obtain ⟨A2,n2,c2,rfl,_⟩:=id h5;obtain ⟨x,rfl,hx,hw⟩:=h7 v rfl;have HS1:=Lib.hid h4.sl;have HL1:=Lib.hid h5;have HD1:=Lib.hid h2;have HK1:=Lib.hid h3;have HX1:=Lib.hid hx;have HW1:=Lib.hid hw;clear h2 h3 h4 h5 h6 h7 hx hw)
    | (go_at_call 32;refine (SD.out A2 n2 c2 _ w1 HS1.out HL1.out).mono ?_;rintro e w2 ⟨dv,ev,rfl,hd2,he2,hb2⟩;obtain ⟨Ad,nd,cd,rfl⟩:=ownL_sl hd2;obtain ⟨Ae,ne,ce,rfl⟩:=ownE_sl he2;have HD2:=Lib.hid hd2;have HE2:=Lib.hid he2;have HB2:=Lib.hid hb2;clear hd2 he2 hb2))
   obtain ⟨_,b2,b3,b4,_⟩:=box3 w2 #[.slice Ad nd cd,.int .i64 s.up,.int .i64 s.bo,.slice Ae ne ce] #[ptr x,.slice Ad nd cd,.int .i64 s.up,.int .i64 s.bo,.slice Ae ne ce] #[ptr (w2.heap.size+1)] 43 92 70
   have hsz:=HB2.out.size
   have hw1:=HK1.out.size
   exact FINS.out w1 _ x (w2.heap.size+1+1) (w2.heap.size+1) _ _ HD1.out HK1.out HX1.out HW1.out (low_low HB2.out b4) (HD2.out.below b4) (own_below HE2.out b4) (by omega) (by omega) b2 b3
end Go.Proofs.YtplpmemlaohlaaaGreat.Sto
