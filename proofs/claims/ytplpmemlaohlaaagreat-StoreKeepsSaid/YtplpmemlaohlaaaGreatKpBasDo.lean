/- A change done (layer 11): the contract of base.do: a state behind a pointer, its rows of the call's own. -/
import Derived.Test.YtplpmemlaohlaaaGreatKpChgCheck
import Derived.Test.YtplpmemlaohlaaaGreatKpStandEp
import Derived.BigRegion
import Derived.Deep.AppendLies
import Derived.Shelf.Abstract
namespace Go.Proofs.YtplpmemlaohlaaaGreat.Bas
open Go.RowKit Go.Shelf Mem Oct Lsa Chg
set_option linter.unusedVariables false
set_option linter.unusedSimpArgs false
theorem step_calls {P:Program} {ops:Array Oper} {o:Oper} {a:Act} {w:World} {K:Act→World→Prop} {Q:Exit→Act→World→Prop} {E:Prop} (hgd:o.guard=none) (f:FuncId) (args:Array Operand) (tys:Array TypeId)
  (ho:o.op=.call { callee:=.value (.func f),args:=args,argTypes:=tys }) (vs:Array Value) (hv:args.map a.eval=vs) (hen:∀ (args:Array Value) (w:World),(callFunc f args).run P w=.ok (.enter f args) w)
  {R:Ending→World→Prop} (hc:Calls P f vs w R) (h:∀ e w',R e w'→∃ v,e=.returned v∧K (a.put o.dst v) w'):if Region.wanted o (yielded ops a.tmps)=true then Oper.wp P o a w K Q else E:=by
 have hw:Region.wanted o (yielded ops a.tmps)=true:=by simp [Region.wanted,hgd]
 rw [if_pos hw]
 have hrun:(execOp a.eval o).run P w=.ok (.enter f vs) w:=by
  unfold execOp
  simp [ho,resolve,invoke,Act.eval,Deferred.ofValue,Result.andThen]
  have hv':Array.map (fun x=>a.eval x) args=vs:=hv
  rw [hv']
  exact hen vs w
 unfold Oper.wp
 rw [hrun]
 show Calls P f vs w _
 refine hc.mono fun e w' hr=>?_
 obtain ⟨v,rfl,hk⟩:=h e w' hr
 exact hk
def StAt (w:World) (base g:Nat) (s:Sta):Prop:=∃ dv ev:Value,Blk w g 43 #[dv,.int .i64 s.up,.int .i64 s.bo,ev]∧OwnL w base dv s.db∧OwnE w base ev s.ep
theorem ownL_sl {w:World} {base:Nat} {v:Value} {l:List La} (h:OwnL w base v l):∃ A n c,v=.slice A n c:=by
 obtain ⟨A,c,e⟩:=h.form
 exact ⟨A,_,c,e⟩
theorem ownE_sl {w:World} {base:Nat} {v:Value} {l:List (Int × Int)} (h:OwnE w base v l):∃ A n c,v=.slice A n c:=by
 obtain ⟨A,c,e⟩:=ownE_form h
 exact ⟨A,_,c,e⟩
theorem stAt_store {w:World} {base g:Nat} {s:Sta} {a b c d:Value} {dv ev x:Value} {i:Nat} (hk:Blk w g 43 #[a,b,c,d]) (hd:OwnL w base dv s.db) (he:OwnE w base ev s.ep) (hx:(#[a,b,c,d]:Array Value).setIfInBounds i x=#[dv,.int .i64 s.up,.int .i64 s.bo,ev]):StAt (w.setCell ⟨g,i,none⟩ x) base g s :=
 ⟨dv,ev,hx ▸ hk.set_ i x,hd.blk hk (by decide) (by decide) (grown_set w ⟨g,i,none⟩ x),World.ownsRow.kept he (grown_set w ⟨g,i,none⟩ x) (own_off he hk (by decide))⟩
theorem below_set {B:Nat} {w w':World} {g i:Nat} {u:Value} (h:Below B w w') (hg:B≤g):Below B w (w'.setCell ⟨g,i,none⟩ u):=h.setCell (by exact hg) _
structure KB (B g:Nat) (w w':World):Prop where
 os:w'.os=w.os
 tape:w'.tape=w.tape
 output:w'.output=w.output
 size:w.heap.size≤w'.heap.size
 block:∀ k,k<B→k≠g→w'.heap[k]?=w.heap[k]?
theorem KB.drew {B g:Nat} {w w':World} (h:KB B g w w'):KB B g w w'.drew:=⟨h.os,h.tape,h.output,h.size,h.block⟩
theorem kb_set {B g i:Nat} {u:Value} {w w':World} (h:Below B w w'):KB B g w (w'.setCell ⟨g,i,none⟩ u) :=
 ⟨h.os,h.tape,h.output,by have:=h.size;simpa [World.setCell] using this,fun k hk hne=>(Below.heap_setCell w' ⟨g,i,none⟩ u k hne).trans (h.block k hk)⟩
theorem KB.blk {B g b:Nat} {t:TypeId} {cs:Array Value} {w w':World} (h:KB B g w w') (hb:Blk w b t cs) (hB:b<B) (hne:b≠g):Blk w' b t cs:=(h.block b hB hne).trans hb
theorem KB.low {B C g:Nat} {w w':World} (h:KB B g w w') (hg:C≤g) (hC:C≤B):Below C w w':=⟨h.os,h.tape,h.output,h.size,fun k hk=>h.block k (by omega) (by omega)⟩
def DoOut (w:World) (base g:Nat) (s:Sta) (c:Ch) (e:Ending) (w':World):Prop:=e=.returned (.bool (doS s c).isSome)∧StAt w' base g ((doS s c).getD s)∧KB base g w w'
theorem below_low {B:Nat} {w w':World} (h:Below w.heap.size w w') (hB:B≤w.heap.size):Below B w w':=h.mono hB
set_option maxHeartbeats 4000000 in
set_option maxRecDepth 100000 in
theorem do_upto (base g:Nat) (s:Sta) (o q n f:Int) (ls:List Lk) (A:Option Addr) (m cc:Nat) (w:World) (h:StAt w base g s) (hbase:base≤w.heap.size) :
  Calls Tryz.prog 96 #[ptr g,chV ⟨2,o,q,ls,n,f⟩ (.slice A m cc)] w (DoOut w base g s ⟨2,o,q,ls,n,f⟩):=by
 obtain ⟨dv,ev,hk,hd,he⟩:=h
 have hgl:=hk.lt
 obtain ⟨db,up,bo,ep⟩:=s
 simp only [chV] at *
 have hb1:=low1 (Below.refl w.heap.size w) (.cells #[.int .i64 2,.int .i64 o,.int .i64 q,.slice A m cc,.int .i64 n,.int .i64 f] 82)
 have k0:=Blk.new w 82 #[.int .i64 2,.int .i64 o,.int .i64 q,.slice A m cc,.int .i64 n,.int .i64 f]
 have k1:=hk.below hb1 hgl
 have hd1:=hd.below hb1
 have he1:OwnE (w.alloc (.cells #[.int .i64 2,.int .i64 o,.int .i64 q,.slice A m cc,.int .i64 n,.int .i64 f] 82)) base ev ep:=own_below he hb1
 have hB1:Below base w (w.alloc (.cells #[.int .i64 2,.int .i64 o,.int .i64 q,.slice A m cc,.int .i64 n,.int .i64 f] 82)):=below_low hb1 (by omega)
 obtain ⟨x0,x1,x2,x3,x4,x5,x6⟩:=blk_cells6 k0
 obtain ⟨y0,y1,y2,y3,y4⟩:=blk_cells4 k1
 obtain ⟨f0,f1,f2,f3⟩:=blk_fz4 k1
 obtain ⟨P1,hP1⟩:∃ P1,P1=DoOut w base g ⟨db,up,bo,ep⟩ ⟨2,o,q,ls,n,f⟩:=⟨_,rfl⟩
 rw [← hP1]
 by_cases hc:up<n
 ·have hfin:P1 (.returned (.bool true)) (((w.alloc (.cells #[.int .i64 2,.int .i64 o,.int .i64 q,.slice A m cc,.int .i64 n,.int .i64 f] 82)).setCell ⟨g,1,none⟩ (.int .i64 n)).drew):=by
   rw [hP1]
   have e:doS ⟨db,up,bo,ep⟩ ⟨2,o,q,ls,n,f⟩=some ⟨db,n,bo,ep⟩:=by simp [doS];exact hc
   unfold DoOut
   rw [e]
   exact ⟨rfl,stAt_store (s:=⟨db,n,bo,ep⟩) (dv:=dv) (ev:=ev) k1 hd1 he1 rfl,(kb_set hB1).drew⟩
  have hdd:decide (up<n)=true:=decide_eq_true hc
  have FIN:=Lib.hid hfin
  have HMX:=Lib.hid (show max up n=n by omega)
  clear hfin hP1 hd1 he1 hB1 k1 k0 hb1 hk hd he
  go_enter Tryz.func96,Tryz.ntmps96
  go_wp2_with (fail)
  generalize (w.alloc (.cells #[.int .i64 2,.int .i64 o,.int .i64 q,.slice A m cc,.int .i64 n,.int .i64 f] 82))=W1 at *
  go_region
  go_wp2
  first | exact FIN.out | (rewrite [HMX.out];exact FIN.out)
 ·have hfin:P1 (.returned (.bool false)) (((w.alloc (.cells #[.int .i64 2,.int .i64 o,.int .i64 q,.slice A m cc,.int .i64 n,.int .i64 f] 82)).setCell ⟨g,1,none⟩ (.int .i64 up)).drew):=by
   rw [hP1]
   have e:doS ⟨db,up,bo,ep⟩ ⟨2,o,q,ls,n,f⟩=none:=by simp [doS];omega
   unfold DoOut
   rw [e]
   exact ⟨rfl,stAt_store (s:=⟨db,up,bo,ep⟩) (dv:=dv) (ev:=ev) k1 hd1 he1 rfl,(kb_set hB1).drew⟩
  have hdd:decide (up<n)=false:=decide_eq_false hc
  have FIN:=Lib.hid hfin
  have HMX:=Lib.hid (show max up n=up by omega)
  clear hfin hP1 hd1 he1 hB1 k1 k0 hb1 hk hd he
  go_enter Tryz.func96,Tryz.ntmps96
  go_wp2_with (fail)
  generalize (w.alloc (.cells #[.int .i64 2,.int .i64 o,.int .i64 q,.slice A m cc,.int .i64 n,.int .i64 f] 82))=W1 at *
  go_region
  go_wp2
  first | exact FIN.out | (rewrite [HMX.out];exact FIN.out)
set_option maxHeartbeats 4000000 in
set_option maxRecDepth 100000 in
theorem do_boot (base g:Nat) (s:Sta) (o q n f:Int) (ls:List Lk) (A:Option Addr) (m cc:Nat) (w:World) (h:StAt w base g s) (hbase:base≤w.heap.size) :
  Calls Tryz.prog 96 #[ptr g,chV ⟨3,o,q,ls,n,f⟩ (.slice A m cc)] w (DoOut w base g s ⟨3,o,q,ls,n,f⟩):=by
 obtain ⟨dv,ev,hk,hd,he⟩:=h
 have hgl:=hk.lt
 obtain ⟨db,up,bo,ep⟩:=s
 simp only [chV] at *
 have hb1:=low1 (Below.refl w.heap.size w) (.cells #[.int .i64 3,.int .i64 o,.int .i64 q,.slice A m cc,.int .i64 n,.int .i64 f] 82)
 have k0:=Blk.new w 82 #[.int .i64 3,.int .i64 o,.int .i64 q,.slice A m cc,.int .i64 n,.int .i64 f]
 have k1:=hk.below hb1 hgl
 have hd1:=hd.below hb1
 have he1:OwnE (w.alloc (.cells #[.int .i64 3,.int .i64 o,.int .i64 q,.slice A m cc,.int .i64 n,.int .i64 f] 82)) base ev ep:=own_below he hb1
 have hB1:Below base w (w.alloc (.cells #[.int .i64 3,.int .i64 o,.int .i64 q,.slice A m cc,.int .i64 n,.int .i64 f] 82)):=below_low hb1 (by omega)
 obtain ⟨x0,x1,x2,x3,x4,x5,x6⟩:=blk_cells6 k0
 obtain ⟨y0,y1,y2,y3,y4⟩:=blk_cells4 k1
 obtain ⟨f0,f1,f2,f3⟩:=blk_fz4 k1
 obtain ⟨P1,hP1⟩:∃ P1,P1=DoOut w base g ⟨db,up,bo,ep⟩ ⟨3,o,q,ls,n,f⟩:=⟨_,rfl⟩
 rw [← hP1]
 by_cases hc:bo<n
 ·have hfin:P1 (.returned (.bool true)) (((w.alloc (.cells #[.int .i64 3,.int .i64 o,.int .i64 q,.slice A m cc,.int .i64 n,.int .i64 f] 82)).setCell ⟨g,2,none⟩ (.int .i64 n)).drew):=by
   rw [hP1]
   have e:doS ⟨db,up,bo,ep⟩ ⟨3,o,q,ls,n,f⟩=some ⟨db,up,n,ep⟩:=by simp [doS];exact hc
   unfold DoOut
   rw [e]
   exact ⟨rfl,stAt_store (s:=⟨db,up,n,ep⟩) (dv:=dv) (ev:=ev) k1 hd1 he1 rfl,(kb_set hB1).drew⟩
  have hdd:decide (bo<n)=true:=decide_eq_true hc
  have FIN:=Lib.hid hfin
  have HMX:=Lib.hid (show max bo n=n by omega)
  clear hfin hP1 hd1 he1 hB1 k1 k0 hb1 hk hd he
  go_enter Tryz.func96,Tryz.ntmps96
  go_wp2_with (fail)
  generalize (w.alloc (.cells #[.int .i64 3,.int .i64 o,.int .i64 q,.slice A m cc,.int .i64 n,.int .i64 f] 82))=W1 at *
  go_region
  go_wp2
  first | exact FIN.out | (rewrite [HMX.out];exact FIN.out)
 ·have hfin:P1 (.returned (.bool false)) (((w.alloc (.cells #[.int .i64 3,.int .i64 o,.int .i64 q,.slice A m cc,.int .i64 n,.int .i64 f] 82)).setCell ⟨g,2,none⟩ (.int .i64 bo)).drew):=by
   rw [hP1]
   have e:doS ⟨db,up,bo,ep⟩ ⟨3,o,q,ls,n,f⟩=none:=by simp [doS];omega
   unfold DoOut
   rw [e]
   exact ⟨rfl,stAt_store (s:=⟨db,up,bo,ep⟩) (dv:=dv) (ev:=ev) k1 hd1 he1 rfl,(kb_set hB1).drew⟩
  have hdd:decide (bo<n)=false:=decide_eq_false hc
  have FIN:=Lib.hid hfin
  have HMX:=Lib.hid (show max bo n=bo by omega)
  clear hfin hP1 hd1 he1 hB1 k1 k0 hb1 hk hd he
  go_enter Tryz.func96,Tryz.ntmps96
  go_wp2_with (fail)
  generalize (w.alloc (.cells #[.int .i64 3,.int .i64 o,.int .i64 q,.slice A m cc,.int .i64 n,.int .i64 f] 82))=W1 at *
  go_region
  go_wp2
  first | exact FIN.out | (rewrite [HMX.out];exact FIN.out)
theorem rowUp_below {w w':World} {base b e sz n:Nat} {v v':Value} {xs:List Value} (h:RowUp w w' v v') (hv:w.ownsRow b e sz v n xs) (hb:base≤b) (hB:base≤w.heap.size) {w0:World} (h0:Below base w0 w):Below base w0 w':=h0.grown h.1 hB (fun k hk=>Nat.le_trans hb (hv.lt k hk).1)
set_option maxHeartbeats 8000000 in
set_option maxRecDepth 100000 in
theorem do_lsa (base g:Nat) (s:Sta) (o q n f:Int) (ls:List Lk) (A:Option Addr) (m cc:Nat) (w:World) (h:StAt w base g s) (hbase:base≤w.heap.size) (hl:Lks w w.heap.size (.slice A m cc) ls) (hn:ls.length≤1000) (hs:dbOk 0 s.db=true) (h1:0≤o) (h2:o≤64) (h3:1≤q) (hlen:s.db.length≤64) :
  Calls Tryz.prog 96 #[ptr g,chV ⟨1,o,q,ls,n,f⟩ (.slice A m cc)] w (DoOut w base g s ⟨1,o,q,ls,n,f⟩):=by
 obtain ⟨dv,ev,hk,hd,he⟩:=h
 have hgl:=hk.lt
 obtain ⟨db,up,bo,ep⟩:=s
 simp only [chV] at *
 have hb1:=low1 (Below.refl w.heap.size w) (.cells #[.int .i64 1,.int .i64 o,.int .i64 q,.slice A m cc,.int .i64 n,.int .i64 f] 82)
 have k0:=Blk.new w 82 #[.int .i64 1,.int .i64 o,.int .i64 q,.slice A m cc,.int .i64 n,.int .i64 f]
 have k1:=hk.below hb1 hgl
 have hd1:=hd.below hb1
 have he1:OwnE (w.alloc (.cells #[.int .i64 1,.int .i64 o,.int .i64 q,.slice A m cc,.int .i64 n,.int .i64 f] 82)) base ev ep:=own_below he hb1
 have hB1:Below base w (w.alloc (.cells #[.int .i64 1,.int .i64 o,.int .i64 q,.slice A m cc,.int .i64 n,.int .i64 f] 82)):=below_low hb1 (by omega)
 obtain ⟨x0,x1,x2,x3,x4,x5,x6⟩:=blk_cells6 k0
 obtain ⟨y0,y1,y2,y3,y4⟩:=blk_cells4 k1
 obtain ⟨f0,f1,f2,f3⟩:=blk_fz4 k1
 have hl1:=hl.up hb1
 have HEN:=Lib.hid (enters_of Tryz.func108 (by kernel_rfl) rfl)
 have HEN2:=Lib.hid (enters_of Tryz.func145 (by kernel_rfl) rfl)
 have CP:=Lib.hid (copy_own o q (.slice A m cc) ls (w.alloc (.cells #[.int .i64 1,.int .i64 o,.int .i64 q,.slice A m cc,.int .i64 n,.int .i64 f] 82)).drew (by omega) hl1)
 have ST:=Lib.hid (fun (W:World) (u:Value) (hW:OwnL W base dv db) (hu:LkT W base u ls) (hb:base≤W.heap.size)=>stand_lsa base dv u db ⟨o,q,ls⟩ W hW (by have:db.length≤64:=hlen;omega) hu hb (fun j hj=>kL_win hs j hj) (dbOk_mono hs) h1 h2 h3)
 obtain ⟨P1,hP1⟩:∃ P1,P1=DoOut w base g ⟨db,up,bo,ep⟩ ⟨1,o,q,ls,n,f⟩:=⟨_,rfl⟩
 rw [← hP1]
 have hfin:∀ (v5:Value) (w5:World),OwnL w5 base v5 (if seqOf db o<q then putOf db ⟨o,q,ls⟩ else db)→OwnE w5 base ev ep→Blk w5 g 43 #[dv,.int .i64 up,.int .i64 bo,ev]→Below base w w5→P1 (.returned (.bool (decide (seqOf db o<q)))) (w5.setCell ⟨g,0,none⟩ v5):=by
  intro v5 w5 hd5 he5 hk5 hb5
  rw [hP1]
  unfold DoOut
  by_cases hc:seqOf db o<q
  ·have e:doS ⟨db,up,bo,ep⟩ ⟨1,o,q,ls,n,f⟩=some ⟨putOf db ⟨o,q,ls⟩,up,bo,ep⟩:=by simp [doS];exact hc
   rw [if_pos hc] at hd5
   rw [e,decide_eq_true hc]
   exact ⟨rfl,stAt_store (s:=⟨putOf db ⟨o,q,ls⟩,up,bo,ep⟩) (dv:=v5) (ev:=ev) hk5 hd5 he5 rfl,kb_set hb5⟩
  ·have e:doS ⟨db,up,bo,ep⟩ ⟨1,o,q,ls,n,f⟩=none:=by simp [doS];omega
   rw [if_neg hc] at hd5
   rw [e,decide_eq_false hc]
   exact ⟨rfl,stAt_store (s:=⟨db,up,bo,ep⟩) (dv:=v5) (ev:=ev) hk5 hd5 he5 rfl,kb_set hb5⟩
 have FIN:=Lib.hid hfin;clear hfin hP1
 have HBW:=Lib.hid (show base≤(w.alloc (.cells #[.int .i64 1,.int .i64 o,.int .i64 q,.slice A m cc,.int .i64 n,.int .i64 f] 82)).heap.size by have:=hB1.size;have:=hb1.size;omega)
 have HD1:=Lib.hid hd1;clear hd1
 have HE1:=Lib.hid he1;clear he1
 have HB1:=Lib.hid hB1;clear hB1
 have K1:=Lib.hid k1;clear k1
 have K0:=Lib.hid k0;clear k0
 clear hl1 hb1 hl hs hk hd he
 go_enter Tryz.func96,Tryz.ntmps96
 go_wp2_with (fail)
 generalize (w.alloc (.cells #[.int .i64 1,.int .i64 o,.int .i64 q,.slice A m cc,.int .i64 n,.int .i64 f] 82))=W1 at *
 go_region_law (first
  | (refine step_calls rfl 108 _ _ rfl #[.agg #[.int .i64 o,.int .i64 q,.slice A m cc]] (by simp [Act.eval]) HEN.out (by exact CP.out) ?_;rintro e w3 ⟨v3,rfl,ho3,hb3⟩;refine ⟨_,rfl,?_⟩;have hb3:Below W1.heap.size W1 w3:=⟨hb3.os,hb3.tape,hb3.output,hb3.size,hb3.block⟩;have ho4:LkT w3 base v3 ls:=LkT.more ho3 HBW.out;have HO3:=Lib.hid ho4;have HB3:=Lib.hid (HB1.out.trans (below_low hb3 HBW.out));have HD3:=Lib.hid (HD1.out.below hb3);have HE3:Hid (OwnE w3 base ev ep):=Lib.hid (own_below HE1.out hb3);have K3:=Lib.hid (K1.out.below hb3 K1.out.lt);have hs3:=hb3.size;obtain ⟨z0,z1,z2,z3,z4⟩:=blk_cells4 K3.out;clear ho3 ho4 hb3)
  | (refine step_calls rfl 145 _ _ rfl #[dv,.agg #[.int .i64 o,.int .i64 q,v3],.func (.func 146) #[] #[],.func (.func 147) #[] #[]] (by simp [Act.eval,Act.put]) HEN2.out (by exact ST.out w3 v3 HD3.out HO3.out (by have:=HBW.out;omega)) ?_;rintro e w5 ⟨v5,rfl,hd5,hr5⟩;refine ⟨_,rfl,?_⟩;obtain ⟨A5,n5,c5,rfl⟩:=ownL_sl hd5;obtain ⟨us3,_,how3,_⟩:=HD3.out;have k5:=K3.out.grown hr5.1 (fun e=>own_blk_ne how3 K3.out (by decide) e.symm);obtain ⟨f50,f51,f52,f53⟩:=blk_fz4 k5;obtain ⟨z50,z51,z52,z53,z54⟩:=blk_cells4 k5;have HF5:=Lib.hid (FIN.out (.slice A5 n5 c5) w5 hd5 (World.ownsRow.kept HE3.out hr5.1 (own_apart HE3.out how3 (by decide))) k5 (rowUp_below hr5 how3 (Nat.le_refl _) (by have:=HBW.out;omega) HB3.out));clear hd5 hr5 k5 how3))
 all_goals
  go_wp2
  exact HF5.out
set_option maxHeartbeats 8000000 in
set_option maxRecDepth 100000 in
theorem do_ep (base g:Nat) (s:Sta) (o q n f:Int) (ls:List Lk) (A:Option Addr) (m cc:Nat) (w:World) (h:StAt w base g s) (hbase:base≤w.heap.size) (hs:epOk 0 s.ep=true) (h1:0≤f) (h2:f≤64) (h3:1≤n) (hlen:s.ep.length≤64) :
  Calls Tryz.prog 96 #[ptr g,chV ⟨4,o,q,ls,n,f⟩ (.slice A m cc)] w (DoOut w base g s ⟨4,o,q,ls,n,f⟩):=by
 obtain ⟨dv,ev,hk,hd,he⟩:=h
 have hgl:=hk.lt
 obtain ⟨db,up,bo,ep⟩:=s
 simp only [chV] at *
 have hb1:=low1 (Below.refl w.heap.size w) (.cells #[.int .i64 4,.int .i64 o,.int .i64 q,.slice A m cc,.int .i64 n,.int .i64 f] 82)
 have k0:=Blk.new w 82 #[.int .i64 4,.int .i64 o,.int .i64 q,.slice A m cc,.int .i64 n,.int .i64 f]
 have k1:=hk.below hb1 hgl
 have hd1:=hd.below hb1
 have he1:OwnE (w.alloc (.cells #[.int .i64 4,.int .i64 o,.int .i64 q,.slice A m cc,.int .i64 n,.int .i64 f] 82)) base ev ep:=own_below he hb1
 have hB1:Below base w (w.alloc (.cells #[.int .i64 4,.int .i64 o,.int .i64 q,.slice A m cc,.int .i64 n,.int .i64 f] 82)):=below_low hb1 (by omega)
 obtain ⟨x0,x1,x2,x3,x4,x5,x6⟩:=blk_cells6 k0
 obtain ⟨y0,y1,y2,y3,y4⟩:=blk_cells4 k1
 obtain ⟨f0,f1,f2,f3⟩:=blk_fz4 k1
 have HEN2:=Lib.hid (enters_of Tryz.func148 (by kernel_rfl) rfl)
 have hbw:base≤(w.alloc (.cells #[.int .i64 4,.int .i64 o,.int .i64 q,.slice A m cc,.int .i64 n,.int .i64 f] 82)).heap.size:=by have:=hb1.size;omega
 have ST:=Lib.hid (stand_ep base ev ep (f,n) (w.alloc (.cells #[.int .i64 4,.int .i64 o,.int .i64 q,.slice A m cc,.int .i64 n,.int .i64 f] 82)).drew he1 (by have:ep.length≤64:=hlen;omega) hbw (fun j hj=>by have:=epOk_rise hs j hj;omega) (epOk_mono hs) h1 h2 h3)
 obtain ⟨P1,hP1⟩:∃ P1,P1=DoOut w base g ⟨db,up,bo,ep⟩ ⟨4,o,q,ls,n,f⟩:=⟨_,rfl⟩
 rw [← hP1]
 have hfin:∀ (v5:Value) (w5:World),OwnE w5 base v5 (if epoch ep f<n then putEp ep (f,n) else ep)→OwnL w5 base dv db→Blk w5 g 43 #[dv,.int .i64 up,.int .i64 bo,ev]→Below base w w5→P1 (.returned (.bool (decide (epoch ep f<n)))) (w5.setCell ⟨g,3,none⟩ v5):=by
  intro v5 w5 he5 hd5 hk5 hb5
  rw [hP1]
  unfold DoOut
  by_cases hc:epoch ep f<n
  ·have e:doS ⟨db,up,bo,ep⟩ ⟨4,o,q,ls,n,f⟩=some ⟨db,up,bo,putEp ep (f,n)⟩:=by simp [doS];exact hc
   rw [if_pos hc] at he5
   rw [e,decide_eq_true hc]
   exact ⟨rfl,stAt_store (s:=⟨db,up,bo,putEp ep (f,n)⟩) (dv:=dv) (ev:=v5) hk5 hd5 he5 rfl,kb_set hb5⟩
  ·have e:doS ⟨db,up,bo,ep⟩ ⟨4,o,q,ls,n,f⟩=none:=by simp [doS];omega
   rw [if_neg hc] at he5
   rw [e,decide_eq_false hc]
   exact ⟨rfl,stAt_store (s:=⟨db,up,bo,ep⟩) (dv:=dv) (ev:=v5) hk5 hd5 he5 rfl,kb_set hb5⟩
 have FIN:=Lib.hid hfin;clear hfin hP1
 have HBW:=Lib.hid hbw;clear hbw
 have HD1:=Lib.hid hd1;clear hd1
 have HE1:Hid (OwnE (w.alloc (.cells #[.int .i64 4,.int .i64 o,.int .i64 q,.slice A m cc,.int .i64 n,.int .i64 f] 82)) base ev ep):=Lib.hid he1;clear he1
 have HB1:=Lib.hid hB1;clear hB1
 have K1:=Lib.hid k1;clear k1
 have K0:=Lib.hid k0;clear k0
 clear hb1 hs hk hd he
 go_enter Tryz.func96,Tryz.ntmps96
 go_wp2_with (fail)
 generalize (w.alloc (.cells #[.int .i64 4,.int .i64 o,.int .i64 q,.slice A m cc,.int .i64 n,.int .i64 f] 82))=W1 at *
 go_region_law (first
  | (refine step_calls rfl 148 _ _ rfl #[ev,.agg #[.int .i64 f,.int .i64 n],.func (.func 149) #[] #[],.func (.func 150) #[] #[]] (by simp [Act.eval,Act.put]) HEN2.out (by exact ST.out) ?_;rintro e w5 ⟨v5,rfl,he5,hr5⟩;refine ⟨_,rfl,?_⟩;obtain ⟨A5,n5,c5,rfl⟩:=ownE_sl he5;have hg5:W1.grownBy w5 ev.ownBlock:=⟨hr5.1.os,hr5.1.tape,hr5.1.output,hr5.1.size,hr5.1.block⟩;have hr5:RowUp W1 w5 ev (.slice A5 n5 c5):=⟨hg5,hr5.2⟩;have k5:=K1.out.grown hr5.1 (fun e=>own_blk_ne HE1.out K1.out (by decide) e.symm);obtain ⟨f50,f51,f52,f53⟩:=blk_fz4 k5;obtain ⟨z50,z51,z52,z53,z54⟩:=blk_cells4 k5;have HF5:=Lib.hid (FIN.out (.slice A5 n5 c5) w5 he5 (HD1.out.row HE1.out (by decide) (by decide) hr5.1) k5 (rowUp_below hr5 HE1.out (Nat.le_refl _) HBW.out HB1.out));clear he5 hr5 hg5 k5))
 all_goals
  go_wp2
  exact HF5.out
theorem do_any (base g:Nat) (s:Sta) (c:Ch) (u:Value) (w:World) (h:StAt w base g s) (hbase:base≤w.heap.size) (hs:mayS s=true) (hc:mayC c=true) (hu:Lks w w.heap.size u c.ls) :
  Calls Tryz.prog 96 #[ptr g,chV c u] w (DoOut w base g s c):=by
 obtain ⟨k,o,q,ls,n,f⟩:=c
 obtain ⟨A,m,cc,rfl,_⟩:=id hu
 obtain ⟨hdb,hep,_⟩:=mayS_iff.1 hs
 obtain ⟨l1,l2⟩:=mayS_len hs
 rcases mayC_kind hc with h1 | h1 | h1 | h1 <;> simp only at h1 <;> subst h1
 ·rw [mayC_1] at hc
  simp only [Bool.and_eq_true] at hc
  have hm:=may_iff.1 hc.1
  exact do_lsa base g s o q n f ls A m cc w h hbase hu (by have:=hm.2.2.1;omega) hdb (by omega) (by omega) (by omega) l1
 ·exact do_upto base g s o q n f ls A m cc w h hbase
 ·exact do_boot base g s o q n f ls A m cc w h hbase
 ·rw [mayC_4] at hc
  simp only [Bool.and_eq_true] at hc
  have hw1:=win_iff.1 hc.1
  have hw2:=win_iff.1 hc.2.1
  exact do_ep base g s o q n f ls A m cc w h hbase hep (by omega) (by omega) (by omega) l2
end Go.Proofs.YtplpmemlaohlaaaGreat.Bas
