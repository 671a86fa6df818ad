/- What a store says (layer 12), in memory: the contracts of store.begun, done and said. -/
import Derived.Test.YtplpmemlaohlaaaGreatKpBasApply
import Derived.Test.YtplpmemlaohlaaaGreatKpBasGet
import Derived.Test.YtplpmemlaohlaaaGreatKpChgGet
import Derived.Test.YtplpmemlaohlaaaGreatKpSlotAll
import Derived.Test.YtplpmemlaohlaaaGreatKpStoPure
namespace Go.Proofs.YtplpmemlaohlaaaGreat.Sto
open Go.RowKit Mem Oct Lsa Chg Bas
set_option linter.unusedVariables false
set_option linter.unusedSimpArgs false
def baseC (b:List Nat):Option Sta:=if b=[] then some zeroS else getS b
def addAllC:Sta→List (List Nat)→Option Sta
 | s,[]=>some s
 | s,r::rs=>(addRecC s r).bind fun t=>addAllC t rs
def saidC (b:List Nat) (rs:List (List Nat)):Option Sta:=(baseC b).bind fun s=>addAllC s rs
theorem addAllC_eq:∀ {rs:List (List Nat)} {s:Sta},(∀ r∈rs,∀ x∈r,x<256)→addAllC s rs=addAll s rs
 | [],s,_=>rfl
 | r::rs,s,h=>by
  unfold addAllC addAll
  rw [addRecC_eq (h r (by simp))]
  cases addRec s r with
  | none=>rfl
  | some t=>exact addAllC_eq (fun q hq=>h q (by simp [hq]))
theorem saidC_eq {b:List Nat} {rs:List (List Nat)} (hb:∀ x∈b,x<256) (h:∀ r∈rs,∀ x∈r,x<256):saidC b rs=says b rs:=by
 unfold saidC says
 rw [show baseC b=baseS b from (baseS_code hb).symm]
 cases baseS b with
 | none=>rfl
 | some s=>exact addAllC_eq h
theorem addAllC_step (s:Sta) (rs:List (List Nat)) (k:Nat) (h:k<rs.length):addAllC s (rs.drop k)=(addRecC s (rs.getD k [])).bind fun t=>addAllC t (rs.drop (k+1)):=by
 rw [drop_at rs [] k h,addAllC]
theorem sl_n {w:World} {B n c:Nat} {A:Option Addr} {xs:List Nat} (h:Sl w B (.slice A n c) xs):xs.length=n:=by
 obtain ⟨A',n',c',e,hb,_⟩:=h
 cases e
 exact hb.1
def OptOut (w:World) (r:Option Sta) (e:Ending) (w':World):Prop :=
 ∃ dv ev,e=.returned (.tuple #[stV (r.getD zeroS) dv ev,.bool r.isSome])∧OwnL w' w.heap.size dv (r.getD zeroS).db∧OwnE w' w.heap.size ev (r.getD zeroS).ep∧Below w.heap.size w w'
theorem applyS_no {s:Sta} {l:List Ch} (h:(applyS s l).2≠0):(applyS s l).1=zeroS:=by
 unfold applyS at *
 split
 ·cases hd:doAll s l with
  | none=>rfl
  | some t =>
   rw [if_pos (by assumption),hd] at h
   exact absurd rfl h
 ·rfl
set_option maxRecDepth 100000 in
set_option maxHeartbeats 8000000 in
theorem begun_any (v:Value) (xs:List Nat) (w:World) (h:Sl w w.heap.size v xs) (hxl:xs.length≤200000) :
  Calls Tryz.prog 73 #[v] w (OptOut w (baseC xs)):=by
 obtain ⟨A,n,c,rfl,_⟩:=id h
 have hn:xs.length=n:=sl_n h
 have hb:=low1 (Below.refl w.heap.size w) (.cells zSt 43)
 have k0:=Blk.new w 43 zSt
 obtain ⟨P1,hP1⟩:∃ P1,P1=OptOut w (baseC xs):=⟨_,rfl⟩
 rw [← hP1]
 by_cases h0:n=0
 ·subst h0
  have hx:xs=[]:=List.eq_nil_of_length_eq_zero hn
  have hfin:P1 (.returned (.tuple #[stV zeroS (.slice none 0 0) (.slice none 0 0),.bool true])) (w.alloc (.cells zSt 43)):=by
   rw [hP1,show baseC xs=some zeroS by rw [hx];rfl]
   exact ⟨_,_,rfl,ownL_nil _ _,World.ownsRow_nil _ _ _ _,hb⟩
  have FIN:=Lib.hid hfin;clear hfin hP1 h hb hx hn k0
  go_enter Tryz.func73,Tryz.ntmps73
  go_wp2
  refine bodyPost_ret (v:=.tuple #[stV zeroS (.slice none 0 0) (.slice none 0 0),.bool true]) ?_ rfl FIN.out
  simp [results,Tryz.results73,go_sem,zeroS]
 ·have hx:xs≠[]:=by intro e;rw [e] at hn;simp at hn;omega
  have hbc:baseC xs=getS xs:=by unfold baseC;rw [if_neg hx]
  have GT:=Lib.hid (sget_own (.slice A n c) xs _ (sl_up h hb) hxl)
  have hfin:∀ (W:World) (dv ev:Value) (u0 u1 u2 u3:Value),Below w.heap.size w W→OwnL W (w.heap.size+1) dv ((getS xs).getD zeroS).db→OwnE W (w.heap.size+1) ev ((getS xs).getD zeroS).ep→Blk W w.heap.size 43 #[u0,u1,u2,u3] →
    P1 (.returned (.tuple #[stV ((getS xs).getD zeroS) dv ev,.bool (getS xs).isSome])) (upd4 W w.heap.size dv (.int .i64 ((getS xs).getD zeroS).up) (.int .i64 ((getS xs).getD zeroS).bo) ev):=by
   intro W dv ev u0 u1 u2 u3 hW hd he hk
   have hg:=upd4_grown W w.heap.size dv (.int .i64 ((getS xs).getD zeroS).up) (.int .i64 ((getS xs).getD zeroS).bo) ev
   rw [hP1,hbc]
   exact ⟨_,_,rfl,ownL_more (hd.gr hg (by omega)) (by omega),own_mono (own_gr he hg (by omega)) (by omega),hW.grown hg hW.size (fun q hq=>by cases hq;exact Nat.le_refl _)⟩
  have FIN:=Lib.hid hfin;clear hfin hP1 h hx hn hbc
  have HB:=Lib.hid hb;clear hb
  have K0:=Lib.hid k0;clear k0
  have hdn:decide ((n:Int)=0)=false:=by simp;omega
  have herr:(errG (getS xs) == 0)=(getS xs).isSome:=by cases getS xs <;> rfl
  unfold GetOwnS at GT
  generalize (getS xs).getD zeroS=t at *
  generalize errG (getS xs)=er at *
  generalize (getS xs).isSome=bk at *
  subst herr
  go_enter Tryz.func73,Tryz.ntmps73
  go_wp2_with (go_at_call 125;refine (GT.out).mono ?_;rintro e w3 ⟨dv,ev,rfl,hd,he,hb3⟩;obtain ⟨Ad,nd,cd,rfl⟩:=ownL_sl hd;obtain ⟨Ae,ne,ce,rfl⟩:=ownE_sl he;have hba:=low1 (Below.refl w3.heap.size w3) (.cells #[.slice Ad nd cd,.int .i64 t.up,.int .i64 t.bo,.slice Ae ne ce] 43);have HB3:=Lib.hid (low_low (low_low HB.out hb3) hba);have HD3:=Lib.hid (hd.below hba);have HE3:=Lib.hid (own_below he hba);have k3:=(K0.out.below hb3 K0.out.lt).below hba (K0.out.below hb3 K0.out.lt).lt;have K3:=Lib.hid k3;obtain ⟨z0,z1,z2,z3,z4⟩:=blk_cells4 k3;obtain ⟨f0,f1,f2,f3⟩:=blk_fz4 k3;clear hb3 hd he hba k3)
  have hf:=FIN.out _ _ _ _ _ _ _ HB3.out (ownL_more HD3.out (by simp)) (own_mono HE3.out (by simp)) K3.out
  refine bodyPost_ret (v:=.tuple #[stV t (.slice Ad nd cd) (.slice Ae ne ce),.bool (er == 0)]) ?_ rfl hf
  simp [results,Tryz.results73,go_sem,z0,z1,z2,z3]
theorem addRecC_no {s:Sta} {r:List Nat} (h:getC r=none):addRecC s r=none:=by unfold addRecC;rw [h]
theorem addRecC_yes {s:Sta} {r:List Nat} {l:List Ch} (h:getC r=some l):addRecC s r=if (applyS s l).2=0 then some (applyS s l).1 else none:=by unfold addRecC;rw [h]
set_option maxRecDepth 100000 in
set_option maxHeartbeats 8000000 in
theorem done_any (s:Sta) (dv ev v:Value) (xs:List Nat) (w:World) (hs:StM w w.heap.size dv ev s) (h:Sl w w.heap.size v xs) (hxl:xs.length≤200000) :
  Calls Tryz.prog 74 #[stV s dv ev,v] w (OptOut w (addRecC s xs)):=by
 obtain ⟨A,n,c,rfl,_⟩:=id h
 obtain ⟨A1,n1,c1,rfl,hq1_⟩:=id hs.1
 obtain ⟨A2,n2,c2,rfl,hq2_⟩:=id hs.2
 clear hq1_ hq2_
 have hb:=low2 w (.cells #[.slice A1 n1 c1,.int .i64 s.up,.int .i64 s.bo,.slice A2 n2 c2] 43) (.cells zSt 43)
 have k0:=(Blk.new w 43 #[.slice A1 n1 c1,.int .i64 s.up,.int .i64 s.bo,.slice A2 n2 c2]).alloc (.cells zSt 43)
 have k1:=blk_second w (.cells #[.slice A1 n1 c1,.int .i64 s.up,.int .i64 s.bo,.slice A2 n2 c2] 43) 43 zSt
 obtain ⟨P1,hP1⟩:∃ P1,P1=OptOut w (addRecC s xs):=⟨_,rfl⟩
 rw [← hP1]
 have GT:=Lib.hid (cget_any (.slice A n c) xs _ (sl_up h hb) hxl)
 have ST:=Lib.hid (fun (W:World) (hW:Below w.heap.size w W)=>hs.up hW)
 unfold CGetOut at GT
 have HB:=Lib.hid hb;clear hb h hs
 have K0:=Lib.hid k0;clear k0
 have K1:=Lib.hid k1;clear k1
 cases hg:getC xs with
 | none =>
  rw [hg] at GT
  simp only [Option.getD_none,errT] at GT
  have hfin:∀ (W:World),Below w.heap.size w W→P1 (.returned (.tuple #[stV zeroS (.slice none 0 0) (.slice none 0 0),.bool false])) (upd4 W (w.heap.size+1) (.slice none 0 0) (.int .i64 0) (.int .i64 0) (.slice none 0 0)):=by
   intro W hW
   rw [hP1,addRecC_no hg]
   exact ⟨_,_,rfl,ownL_nil _ _,World.ownsRow_nil _ _ _ _,hW.grown (upd4_grown _ _ _ _ _ _) hW.size (fun q hq=>by cases hq;omega)⟩
  have FIN:=Lib.hid hfin;clear hfin hP1 hg
  go_enter Tryz.func74,Tryz.ntmps74
  go_wp2_with (go_at_call 126;refine (GT.out).mono ?_;rintro e w3 ⟨v3,rfl,hc,hb3⟩;have HB3:=Lib.hid (low_low HB.out hb3);have k3:=K1.out.below hb3 K1.out.lt;obtain ⟨z0,z1,z2,z3,z4⟩:=blk_cells4 k3;obtain ⟨f0,f1,f2,f3⟩:=blk_fz4 k3;clear hb3 hc k3)
  refine bodyPost_ret (v:=.tuple #[stV zeroS (.slice none 0 0) (.slice none 0 0),.bool false]) ?_ rfl (FIN.out _ HB3.out)
  simp [results,Tryz.results74,go_sem,z0,z1,z2,z3,zeroS]
 | some l =>
  rw [hg] at GT
  simp only [Option.getD_some,errT] at GT
  have hr:=addRecC_yes (s:=s) hg
  have hno:=applyS_no (s:=s) (l:=l)
  have hget:(addRecC s xs).getD zeroS=(applyS s l).1:=by
   rw [hr]
   split
   ·rfl
   ·next h=>exact (hno h).symm
  have his:(addRecC s xs).isSome=((applyS s l).2 == 0):=by
   rw [hr]
   split
   ·next h=>rw [h];rfl
   ·next h=>simp [h]
  have AP:=Lib.hid (fun (A:Option Addr) (n c:Nat) (W:World) (hW:Below w.heap.size w W) (hl:Chs W W.heap.size (.slice A n c) l)=>apply_own s (.slice A1 n1 c1) (.slice A2 n2 c2) A n c l W (ST.out W hW) hl)
  unfold ApplyOwn at AP
  have hfin:∀ (W:World) (dv ev:Value),Below w.heap.size w W→OwnL W w.heap.size dv (applyS s l).1.db→OwnE W w.heap.size ev (applyS s l).1.ep→P1 (.returned (.tuple #[stV (applyS s l).1 dv ev,.bool ((applyS s l).2 == 0)])) W:=by
   intro W dv ev hW hd he
   rw [hP1]
   unfold OptOut
   rw [hget,his]
   exact ⟨_,_,rfl,hd,he,hW⟩
  have FIN:=Lib.hid hfin;clear hfin hP1 hg hr hno hget his
  generalize (applyS s l).1=t at *
  generalize (applyS s l).2=er at *
  obtain ⟨x0,x1,x2,x3,x4⟩:=blk_cells4 K0.out
  go_enter Tryz.func74,Tryz.ntmps74
  go_wp2_with (first
   | (go_at_call 126;refine (GT.out).mono ?_;rintro e w3 ⟨v3,rfl,hc,hb3⟩;obtain ⟨A3,n3,c3,rfl,_⟩:=id hc;have HC3:=Lib.hid hc;have HB3:=Lib.hid (low_low HB.out hb3);have K13:=Lib.hid (K1.out.below hb3 K1.out.lt);have K03:=Lib.hid (K0.out.below hb3 K0.out.lt);clear x0 x1 x2 x3 x4 hb3 hc;obtain ⟨x0,x1,x2,x3,x4⟩:=blk_cells4 K03.out)
   | (go_at_call 41;refine (AP.out A3 n3 c3 _ HB3.out HC3.out).mono ?_;rintro e w4 ⟨dv,ev,rfl,hd,he,hb4⟩;obtain ⟨Ad,nd,cd,rfl⟩:=ownL_sl hd;obtain ⟨Ae,ne,ce,rfl⟩:=ownE_sl he;have HB4:=Lib.hid (low_low HB3.out hb4);have HD4:=Lib.hid hd;have HE4:=Lib.hid he;have K14:=Lib.hid (K13.out.below hb4 K13.out.lt);have K04:=Lib.hid (K03.out.below hb4 K03.out.lt);clear x0 x1 x2 x3 x4 hb4 hd he;obtain ⟨x0,x1,x2,x3,x4⟩:=blk_cells4 K04.out;obtain ⟨g0,g1,g2,g3⟩:=blk_fz4 K04.out;obtain ⟨z0,z1,z2,z3,z4⟩:=blk_cells4 K14.out;obtain ⟨f0,f1,f2,f3⟩:=blk_fz4 K14.out))
  have hk1:=K13.out.lt
  have hg1:=upd4_grown w4 w.heap.size (.slice Ad nd cd) (.int .i64 t.up) (.int .i64 t.bo) (.slice Ae ne ce)
  have hg2:=upd4_grown (upd4 w4 w.heap.size (.slice Ad nd cd) (.int .i64 t.up) (.int .i64 t.bo) (.slice Ae ne ce)) (w.heap.size+1) (.slice Ad nd cd) (.int .i64 t.up) (.int .i64 t.bo) (.slice Ae ne ce)
  have hw2:=(HB4.out.grown hg1 HB4.out.size (fun q hq=>by cases hq;exact Nat.le_refl _)).grown hg2 (Nat.le_trans HB4.out.size hg1.size) (fun q hq=>by cases hq;omega)
  have hf:=FIN.out _ _ _ hw2 (ownL_more ((HD4.out.gr hg1 (by omega)).gr hg2 (by omega)) (by omega)) (own_mono (own_gr (own_gr HE4.out hg1 (by omega)) hg2 (by omega)) (by omega))
  refine bodyPost_ret (v:=.tuple #[stV t (.slice Ad nd cd) (.slice Ae ne ce),.bool (er == 0)]) ?_ rfl hf
  simp [results,Tryz.results74,go_sem,z0,z1,z2,z3]
structure SA (w wr:World) (gx:Nat) (s:Sta):Prop where
 x:∃ dv ev:Value,Blk wr gx 43 #[dv,.int .i64 s.up,.int .i64 s.bo,ev]∧OwnL wr w.heap.size dv s.db∧OwnE wr w.heap.size ev s.ep
 res:Blk wr w.heap.size 43 zSt
 low:Below w.heap.size w wr
 o:w.heap.size<gx
theorem SA.next {w wr w4:World} {gx:Nat} {s t:Sta} {dv ev:Value} (h:SA w wr gx s) (hb:Below wr.heap.size wr w4) (hd:OwnL w4 wr.heap.size dv t.db) (he:OwnE w4 wr.heap.size ev t.ep):SA w (upd4 w4 gx dv (.int .i64 t.up) (.int .i64 t.bo) ev) gx t:=by
 obtain ⟨⟨d0,e0,hk,_,_⟩,h2,h3,h4⟩:=h
 have hg:=upd4_grown w4 gx dv (.int .i64 t.up) (.int .i64 t.bo) ev
 have hlt:=hk.lt
 have hlow:=h3.trans (hb.mono h3.size)
 exact ⟨⟨dv,ev,upd4_blk (hk.below hb hlt),ownL_more (hd.gr hg hlt) h3.size,own_mono (own_gr he hg hlt) h3.size⟩,(h2.below hb h2.lt).grown hg (by simp;omega),hlow.grown hg hlow.size (fun q hq=>by cases hq;omega),h4⟩
theorem Slt_at {w:World} {B n c:Nat} {A:Option Addr} {ss:List (List Nat)} (h:Sls w B (.slice A n c) ss) (hn:0<n) :
  ∃ b off,A=some ⟨b,off,none⟩∧b<B∧∀ i,i<n→∃ u,w.cell? ⟨b,off+i,none⟩=some u∧Sl w B u (ss.getD i []):=sls_at h hn
set_option maxRecDepth 100000 in
set_option maxHeartbeats 8000000 in
theorem said_any (A:Option Addr) (n c:Nat) (v2:Value) (b:List Nat) (rs:List (List Nat)) (w:World) (h:Sl w w.heap.size v2 b) (h2:Sls w w.heap.size (.slice A n c) rs) (hb2:b.length≤200000) (hr:∀ r∈rs,r.length≤200000) :
  Calls Tryz.prog 32 #[v2,.slice A n c] w (OptOut w (saidC b rs)):=by
 obtain ⟨A2,n2,c2,rfl,_⟩:=id h
 obtain ⟨hln,hnc,hcm⟩:rs.length=n∧n≤c∧c≤maxLen:=by
  obtain ⟨A',n',c',e,q1,q2,q3,_⟩:=id h2
  cases e
  exact ⟨q1,q2,q3⟩
 unfold maxLen at hcm
 have hb:=low1 (Below.refl w.heap.size w) (.cells zSt 43)
 have k0:=Blk.new w 43 zSt
 have BG:=Lib.hid (begun_any (.slice A2 n2 c2) b _ (sl_up h hb) hb2)
 unfold OptOut at BG
 obtain ⟨P1,hP1⟩:∃ P1,P1=OptOut w (saidC b rs):=⟨_,rfl⟩
 rw [← hP1]
 have hfin:∀ (W:World) (dv ev:Value) (gx:Nat) (s:Sta) (ok:Bool),SA w W gx s→OwnL W w.heap.size dv s.db→OwnE W w.heap.size ev s.ep→(ok=true→saidC b rs=some s)→(ok=false→saidC b rs=none∧s=zeroS)→P1 (.returned (.tuple #[stV s dv ev,.bool ok])) (upd4 W w.heap.size dv (.int .i64 s.up) (.int .i64 s.bo) ev):=by
  intro W dv ev gx s ok hW hd he h1 h0
  have hg:=upd4_grown W w.heap.size dv (.int .i64 s.up) (.int .i64 s.bo) ev
  have hlow:=hW.low.grown hg hW.low.size (fun q hq=>by cases hq;exact Nat.le_refl _)
  have hd':OwnL (upd4 W w.heap.size dv (.int .i64 s.up) (.int .i64 s.bo) ev) w.heap.size dv s.db:=hd.blk hW.res (by decide) (by decide) hg
  have he':OwnE (upd4 W w.heap.size dv (.int .i64 s.up) (.int .i64 s.bo) ev) w.heap.size ev s.ep:=World.ownsRow.kept he hg (own_off he hW.res (by decide))
  rw [hP1]
  unfold OptOut
  cases ok with
  | true =>
   rw [h1 rfl]
   exact ⟨_,_,rfl,hd',he',hlow⟩
  | false =>
   obtain ⟨q1,rfl⟩:=h0 rfl
   rw [q1]
   exact ⟨_,_,rfl,hd',he',hlow⟩
 have FIN:=Lib.hid hfin;clear hfin hP1
 have HB:=Lib.hid hb;clear hb
 have K0:=Lib.hid k0;clear k0
 have RS:=Lib.hid h2;clear h2
 have HR:=Lib.hid hr;clear hr
 have HLN:=Lib.hid hln;clear hln
 have hsd:saidC b rs=(baseC b).bind fun s=>addAllC s rs:=rfl
 have HSD:=Lib.hid hsd;clear hsd h
 go_enter Tryz.func32,Tryz.ntmps32
 go_wp2_with (go_at_call 73;refine (BG.out).mono ?_;rintro e w1 ⟨dv,ev,rfl,hd,he,hb1⟩;obtain ⟨Ad,nd,cd,rfl⟩:=ownL_sl hd;obtain ⟨Ae,ne,ce,rfl⟩:=ownE_sl he;have HB1:=Lib.hid (low_low HB.out hb1);have HD1:=Lib.hid hd;have HE1:=Lib.hid he;have K1:=Lib.hid (K0.out.below hb1 K0.out.lt);clear hb1 hd he)
 obtain ⟨s0,hs0⟩:∃ s0,s0=(baseC b).getD zeroS:=⟨_,rfl⟩
 obtain ⟨ok0,hok0⟩:∃ ok0,ok0=(baseC b).isSome:=⟨_,rfl⟩
 have h1ok:ok0=true→saidC b rs=addAllC s0 rs:=fun e=>by
  rw [HSD.out,hs0]
  cases hbc:baseC b with
  | none=>rw [hok0,hbc] at e;cases e
  | some t=>rfl
 have h0ok:ok0=false→saidC b rs=none∧s0=zeroS:=fun e=>by
  rw [HSD.out,hs0]
  cases hbc:baseC b with
  | none=>exact ⟨rfl,rfl⟩
  | some t=>rw [hok0,hbc] at e;cases e
 rw [← hs0] at HD1 HE1 ⊢
 rw [← hok0]
 have H1:=Lib.hid h1ok;clear h1ok
 have H0:=Lib.hid h0ok;clear h0ok
 clear hs0 hok0 BG HSD
 have hba:=low1 (Below.refl w1.heap.size w1) (.cells #[.slice Ad nd cd,.int .i64 s0.up,.int .i64 s0.bo,.slice Ae ne ce] 43)
 have SA1:Hid (SA w (w1.alloc (.cells #[.slice Ad nd cd,.int .i64 s0.up,.int .i64 s0.bo,.slice Ae ne ce] 43)) w1.heap.size s0):=Lib.hid ⟨⟨_,_,Blk.new w1 _ _,ownL_more (HD1.out.below hba) (by simp),own_mono (own_below HE1.out hba) (by simp)⟩,K1.out.below hba K1.out.lt,low_low HB1.out hba,K1.out.lt⟩
 clear hba HD1 HE1 K1 K0
 have HEN:=Lib.hid (enters_of Tryz.func74 (by kernel_rfl) rfl)
 go_loopw [7,8] (fun okv i wr=>∃ (k:Nat) (ok:Bool) (sk:Sta),k≤n∧i=.int .i64 k∧okv=.bool ok∧Hid (ok=true→saidC b rs=addAllC sk (rs.drop k))∧Hid (ok=false→saidC b rs=none∧sk=zeroS)∧Hid (SA w wr w1.heap.size sk)) (fun _ i _=>n - (intOf i).toNat)
 case atStart=>exact ⟨0,ok0,s0,Nat.zero_le _,rfl,rfl,H1,H0,SA1⟩
 case round =>
  clear SA1 H1 H0
  obtain ⟨k,ok,sk,hk,rfl,rfl,H1,H0,HS⟩:=hrel
  obtain ⟨dk,ek,hkx,hkd,hke⟩:=HS.out.x
  obtain ⟨Ad2,nd2,cd2,rfl⟩:=ownL_sl hkd
  obtain ⟨Ae2,ne2,ce2,rfl⟩:=ownE_sl hke
  obtain ⟨x0,x1,x2,x3,x4⟩:=blk_cells4 hkx
  have HKD:=Lib.hid hkd;clear hkd
  have HKE:=Lib.hid hke;clear hke
  have HKX:=Lib.hid hkx;clear hkx
  by_cases hgo:ok=true∧k<n
  ·obtain ⟨rfl,hlt⟩:=hgo
   obtain ⟨b0,off,rfl,hbl,hc⟩:=Slt_at (RS.out.keep HS.out.low) (by omega)
   obtain ⟨u,hcu,hsu⟩:=hc k hlt
   obtain ⟨Au,nu,cu,rfl,_⟩:=id hsu
   have hlow:=HS.out.low
   have hrl:=HR.out (rs.getD k []) (by rw [show rs.getD k []=rs[k]'(by rw [HLN.out];exact hlt) by simp [List.getD,List.getElem?_eq_getElem (show k<rs.length by rw [HLN.out];exact hlt)]];exact List.getElem_mem _)
   have hst:=addAllC_step sk rs k (by rw [HLN.out];exact hlt)
   have hd1:=H1.out rfl
   rw [hst] at hd1
   have DO:=Lib.hid (fun (W:World) (hW:Below wr.heap.size wr W)=>done_any sk (.slice Ad2 nd2 cd2) (.slice Ae2 ne2 ce2) (.slice Au nu cu) (rs.getD k []) W (StM.up ⟨HKD.out.las,ownE_lks HKE.out⟩ hW) (sl_up (hsu.more hlow.size) hW) hrl)
   unfold OptOut at DO
   have hbz:b0<wr.heap.size:=Nat.lt_of_lt_of_le hbl hlow.size
   have HSU:=Lib.hid hsu;clear hsu hc hrl hst
   obtain ⟨t,ht⟩:∃ t,t=(addRecC sk (rs.getD k [])).getD zeroS:=⟨_,rfl⟩
   obtain ⟨ok,hok⟩:∃ ok,ok=(addRecC sk (rs.getD k [])).isSome:=⟨_,rfl⟩
   have h1n:ok=true→saidC b rs=addAllC t (rs.drop (k+1)):=fun e=>by
    rw [hd1,ht]
    cases hbc:addRecC sk (rs.getD k []) with
    | none=>rw [hok,hbc] at e;cases e
    | some t=>rfl
   have h0n:ok=false→saidC b rs=none∧t=zeroS:=fun e=>by
    rw [hd1,ht]
    cases hbc:addRecC sk (rs.getD k []) with
    | none=>exact ⟨rfl,rfl⟩
    | some t=>rw [hok,hbc] at e;cases e
   rw [← ht,← hok] at DO
   clear hd1 ht hok H1 H0
   have H1:=Lib.hid h1n;clear h1n
   have H0:=Lib.hid h0n;clear h0n
   go_wp2_with (fail)
   go_region_law (refine step_calls rfl 74 _ _ rfl #[.agg #[.slice Ad2 nd2 cd2,.int .i64 sk.up,.int .i64 sk.bo,.slice Ae2 ne2 ce2],.slice Au nu cu] (by simp [Act.eval]) HEN.out (by exact DO.out wr.drew (by exact (Below.refl wr.heap.size wr).drew)) ?_;rintro e w4 ⟨dv,ev,rfl,hd,he,hb4⟩;refine ⟨_,rfl,?_⟩;obtain ⟨Ad,nd,cd,rfl⟩:=ownL_sl hd;obtain ⟨Ae,ne,ce,rfl⟩:=ownE_sl he;have hb5:Below wr.heap.size wr w4:=low_low (Below.refl wr.heap.size wr).drew hb4;have k4:=HKX.out.below hb5 HKX.out.lt;obtain ⟨m0,m1,m2,m3,m4⟩:=blk_cells4 k4;obtain ⟨f0,f1,f2,f3⟩:=blk_fz4 k4;have HB5:=Lib.hid hb5;have HD5:=Lib.hid hd;have HE5:=Lib.hid he;clear hb4 hb5 hd he k4)
   all_goals
    (have HSN:=Lib.hid (HS.out.next HB5.out HD5.out HE5.out)
     clear HS HD5 HE5 HB5 x0 x1 x2 x3 x4
     go_wp2
     go_roundw
     case rel=>exact ⟨k+1,ok,t,by omega,by go_num,rfl,H1,H0,HSN⟩
     case measure=>simp [intOf];omega)
  ·have hfin1:ok=true→saidC b rs=some sk:=fun e=>by
    rw [H1.out e,List.drop_eq_nil_of_le (by rw [HLN.out];have:¬ k<n:=fun hh=>hgo ⟨e,hh⟩;omega)]
    rfl
   have HF:=Lib.hid (FIN.out wr _ _ _ sk ok HS.out HKD.out HKE.out hfin1 H0.out)
   obtain ⟨z0,z1,z2,z3,z4⟩:=blk_cells4 HS.out.res
   obtain ⟨f0,f1,f2,f3⟩:=blk_fz4 HS.out.res
   clear hfin1 H1 H0 HKD HKE HKX
   cases ok with
   | false =>
    go_wp2_with (fail)
    refine bodyPost_ret (v:=.tuple #[stV sk (.slice Ad2 nd2 cd2) (.slice Ae2 ne2 ce2),.bool false]) ?_ rfl HF.out
    simp [results,Tryz.results32,go_sem,z0,z1,z2,z3]
   | true =>
    obtain rfl:k=n:=by
     have:¬ k<n:=fun hh=>hgo ⟨rfl,hh⟩
     omega
    go_wp2_with (fail)
    refine bodyPost_ret (v:=.tuple #[stV sk (.slice Ad2 nd2 cd2) (.slice Ae2 ne2 ce2),.bool true]) ?_ rfl HF.out
    simp [results,Tryz.results32,go_sem,z0,z1,z2,z3]
end Go.Proofs.YtplpmemlaohlaaaGreat.Sto
