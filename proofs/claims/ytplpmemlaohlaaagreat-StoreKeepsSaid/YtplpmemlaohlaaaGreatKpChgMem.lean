/- Changes in memory (layer 10): a change by value, a slice of changes wherever it lies, a row of changes of the call's own that grows by append, changes that came in. -/
import Derived.Test.YtplpmemlaohlaaaGreatKpChgPure
import Derived.Test.YtplpmemlaohlaaaGreatKpLsaMem
import Derived.Deep.MidRow
import Derived.Lib.SmallJoins
namespace Go.Proofs.YtplpmemlaohlaaaGreat.Chg
open Go.RowKit Mem Oct Lsa
set_option linter.unusedVariables false
set_option linter.unusedSimpArgs false
abbrev chV (c:Ch) (v:Value):Value:=.agg #[.int .i64 c.k,.int .i64 c.o,.int .i64 c.s,v,.int .i64 c.n,.int .i64 c.f]
def rowC (c:Ch) (v:Value):List Value:=[.int .i64 c.k,.int .i64 c.o,.int .i64 c.s,v,.int .i64 c.n,.int .i64 c.f]
theorem rowC_length (c:Ch) (v:Value):(rowC c v).length=6:=rfl
theorem infoC:(Tryz.prog.info? 82).map (fun i=>(i.zero,i.size,i.bytes))=some (some (.agg #[.int .i64 0,.int .i64 0,.int .i64 0,.slice none 0 0,.int .i64 0,.int .i64 0]),6,64):=by kernel_rfl
theorem rangeC_below {w w':World} {B b o:Nat} {cs:List Value} (h:w.rangeAt b o cs) (hb:Below B w w') (hlt:b<B):w'.rangeAt b o cs:=fun j v hv=>(hb.cell (p:=⟨b,o+j,none⟩) hlt).trans (h j v hv)
def Chs (w:World) (B:Nat) (v:Value) (cs:List Ch):Prop :=
 ∃ (A:Option Addr) (n c:Nat),v=.slice A n c∧cs.length=n∧n≤c∧c≤maxLen ∧
  (0<n→∃ b off,A=some ⟨b,off,none⟩∧b<B∧∀ i,i<n→∃ u,w.rangeAt b (off+i*6) (rowC (cs.getD i zeroC) u)∧Lks w B u (cs.getD i zeroC).ls)
section
variable {w w':World} {B B':Nat} {v:Value} {cs:List Ch}
theorem Chs.keep (h:Chs w B v cs) (hb:Below B w w'):Chs w' B v cs:=by
 obtain ⟨A,n,c,e,h1,h2,h3,h4⟩:=h
 refine ⟨A,n,c,e,h1,h2,h3,fun hn=>?_⟩
 obtain ⟨b,off,e1,hlt,h5⟩:=h4 hn
 refine ⟨b,off,e1,hlt,fun i hi=>?_⟩
 obtain ⟨u,h6,h7⟩:=h5 i hi
 exact ⟨u,rangeC_below h6 hb hlt,h7.below hb (Nat.le_refl _)⟩
theorem Chs.more (h:Chs w B v cs) (hB:B≤B'):Chs w B' v cs:=by
 obtain ⟨A,n,c,e,h1,h2,h3,h4⟩:=h
 refine ⟨A,n,c,e,h1,h2,h3,fun hn=>?_⟩
 obtain ⟨b,off,e1,hlt,h5⟩:=h4 hn
 refine ⟨b,off,e1,by omega,fun i hi=>?_⟩
 obtain ⟨u,h6,h7⟩:=h5 i hi
 exact ⟨u,h6,h7.more hB⟩
theorem Chs.up (h:Chs w w.heap.size v cs) (hb:Below w.heap.size w w'):Chs w' w'.heap.size v cs:=(h.keep hb).more hb.size
theorem chs_nil (w:World) (B:Nat):Chs w B (.slice none 0 0) []:=⟨none,0,0,rfl,rfl,Nat.le_refl _,by unfold maxLen;omega,fun h=>absurd h (by omega)⟩
theorem chs_len {A:Option Addr} {n c:Nat} (h:Chs w B (.slice A n c) cs):cs.length=n∧n≤c∧c≤maxLen:=by
 obtain ⟨A',n',c',e,h1,h2,h3,h4⟩:=h
 injection e with e1 e2 e3
 subst e1 e2 e3
 exact ⟨h1,h2,h3⟩
theorem chs_at {A:Option Addr} {n c:Nat} (h:Chs w B (.slice A n c) cs) (hn:0<n) :
  ∃ b off,A=some ⟨b,off,none⟩∧b<B∧∀ i,i<n→∃ u,w.rangeAt b (off+i*6) (rowC (cs.getD i zeroC) u)∧Lks w B u (cs.getD i zeroC).ls:=by
 obtain ⟨A',n',c',e,h1,h2,h3,h4⟩:=h
 injection e with e1 e2 e3
 subst e1 e2 e3
 exact h4 hn
end
def flatC:List Ch→List Value→List Value
 | c::cs,u::us=>rowC c u++flatC cs us
 | _,_=>[]
theorem flatC_app:∀ (cs ds:List Ch) (us vs:List Value),us.length=cs.length→flatC (cs++ds) (us++vs)=flatC cs us++flatC ds vs
 | [],ds,[],vs,_=>rfl
 | c::cs,ds,u::us,vs,h=>by
  rw [List.cons_append,List.cons_append,flatC,flatC,flatC_app cs ds us vs (by simpa using h),List.append_assoc]
theorem flatC_get:∀ (cs:List Ch) (us:List Value) (i j:Nat),us.length=cs.length→i<cs.length→j<6→(flatC cs us)[i*6+j]?=(rowC (cs.getD i zeroC) (us.getD i undef))[j]?
 | [],_,i,j,_,hi,_=>absurd hi (by simp)
 | c::cs,u::us,0,j,h,hi,hj=>by
  rw [flatC,Nat.zero_mul,Nat.zero_add,List.getElem?_append_left (by rw [rowC_length];exact hj)]
  rfl
 | c::cs,u::us,i+1,j,h,hi,hj=>by
  rw [flatC,List.getElem?_append_right (by rw [rowC_length];omega),rowC_length,show (i+1)*6+j - 6=i*6+j by omega,flatC_get cs us i j (by simpa using h) (by simpa using hi) hj]
  rfl
theorem flatC_one (c:Ch) (u:Value):flatC [c] [u]=rowC c u:=by simp [flatC]
theorem rowC_one (c:Ch) (A:Option Addr) (n k:Nat):∀ u∈rowC c (.slice A n k),u.oneCell'=true:=by
 intro u hu
 simp only [rowC,List.mem_cons,List.not_mem_nil,or_false] at hu
 rcases hu with rfl | rfl | rfl | rfl | rfl | rfl <;> rfl
def LkA (w:World) (lo:Nat) (g:Option Nat) (u:Value) (ls:List Lk):Prop:=Lks w w.heap.size u ls∧∀ A n c,u=.slice A n c→0<n→∀ ad,A=some ad→lo≤ad.block∧some ad.block≠g
theorem LkA.below {w w':World} {lo:Nat} {g:Option Nat} {u:Value} {ls:List Lk} (h:LkA w lo g u ls) (hb:Below w.heap.size w w'):LkA w' lo g u ls:=⟨h.1.up hb,h.2⟩
theorem LkA.kept {w w':World} {lo q:Nat} {g:Option Nat} {u:Value} {ls:List Lk} (h:LkA w lo g u ls) (hg:w.grownBy w' (some q)) (hq:q<lo):LkA w' lo g u ls:=by
 obtain ⟨⟨A,n,c,rfl,h1,h2,h3,h4,h5⟩,h6⟩:=h
 refine ⟨⟨A,n,c,rfl,h1,h2,h3,h4,fun h0=>?_⟩,h6⟩
 obtain ⟨b,off,rfl,hb,hc⟩:=h5 h0
 have hl:=(h6 _ _ _ rfl h0 _ rfl).1
 have hne:some b≠some q:=fun e=>by cases e;simp only at hl;omega
 refine ⟨b,off,rfl,Nat.lt_of_lt_of_le hb hg.size,fun i hi=>⟨?_,?_⟩⟩
 ·rw [← (hc i hi).1];exact World.cell?_of_block (hg.block b hb hne)
 ·rw [← (hc i hi).2];exact World.cell?_of_block (hg.block b hb hne)
theorem LkA.grown {w w':World} {lo:Nat} {g g':Option Nat} {u:Value} {ls:List Lk} (h:LkA w lo g u ls) (hg:w.grownBy w' g) (hn:g'=g∨g'=some w.heap.size):LkA w' lo g' u ls:=by
 obtain ⟨⟨A,n,c,rfl,h1,h2,h3,h4,h5⟩,h6⟩:=h
 refine ⟨⟨A,n,c,rfl,h1,h2,h3,h4,fun h0=>?_⟩,fun A' n' c' e h0 ad had=>?_⟩
 ·obtain ⟨b,off,rfl,hb,hc⟩:=h5 h0
  have hne:=(h6 _ _ _ rfl h0 _ rfl).2
  refine ⟨b,off,rfl,Nat.lt_of_lt_of_le hb hg.size,fun i hi=>⟨?_,?_⟩⟩
  ·rw [← (hc i hi).1];exact World.cell?_of_block (hg.block b hb hne)
  ·rw [← (hc i hi).2];exact World.cell?_of_block (hg.block b hb hne)
 ·injection e with e1 e2 e3
  subst e1 e2 e3
  obtain ⟨b,off,e2,hb,hc⟩:=h5 h0
  refine ⟨(h6 _ _ _ rfl h0 ad had).1,?_⟩
  rcases hn with rfl | rfl
  ·exact (h6 _ _ _ rfl h0 ad had).2
  ·rw [e2] at had
   cases had
   intro e
   have:=Option.some.inj e
   simp only at this
   omega
theorem lkA_new {w:World} {lo base n:Nat} {g:Option Nat} {u:Value} {ls:List Lk} (h:w.ownsRow base 195 2 u n (lkCells ls)) (hlo:lo≤base) (hg:∀ k,g=some k→k<base):LkA w lo g u ls:=by
 refine ⟨lks_own h,fun A n' c e h0 ad had=>?_⟩
 subst e
 rcases h.2 with ⟨e,_⟩ | ⟨q,cap,cur,e,hq,_⟩
 ·injection e with e1 e2 e3
  omega
 ·injection e with e1 e3 e4
  rw [e1] at had
  cases had
  refine ⟨Nat.le_trans hlo hq,fun e2=>?_⟩
  have:=hg _ e2.symm
  simp only at this
  omega
def OwnC (w:World) (base:Nat) (v:Value) (cs:List Ch):Prop :=
 ∃ us:List Value,us.length=cs.length∧w.ownsRow base 82 6 v cs.length (flatC cs us)∧∀ i,i<cs.length→LkA w base v.ownBlock (us.getD i undef) (cs.getD i zeroC).ls
theorem OwnC.below {w w':World} {base:Nat} {v:Value} {cs:List Ch} (h:OwnC w base v cs) (hb:Below w.heap.size w w'):OwnC w' base v cs:=by
 obtain ⟨us,h1,h2,h3⟩:=h
 exact ⟨us,h1,own_below h2 hb,fun i hi=>(h3 i hi).below hb⟩
theorem OwnC.kept {w w':World} {base q:Nat} {v:Value} {cs:List Ch} (h:OwnC w base v cs) (hg:w.grownBy w' (some q)) (hq:q<base):OwnC w' base v cs:=by
 obtain ⟨us,h1,h2,h3⟩:=h
 exact ⟨us,h1,own_grown h2 hg hq,fun i hi=>(h3 i hi).kept hg hq⟩
theorem OwnC.ownLt {w:World} {base:Nat} {v:Value} {cs:List Ch} (h:OwnC w base v cs):∀ k,v.ownBlock=some k→base≤k∧k<w.heap.size:=by
 obtain ⟨us,h1,h2,h3⟩:=h
 exact fun k hk=>h2.lt k hk
theorem OwnC.form {w:World} {base:Nat} {v:Value} {cs:List Ch} (h:OwnC w base v cs):∃ A c,v=.slice A cs.length c:=by
 obtain ⟨us,h1,h2,h3⟩:=h
 rcases h2.2 with ⟨rfl,h0⟩ | ⟨g,cap,cur,rfl,_⟩
 ·rw [h0];exact ⟨none,0,rfl⟩
 ·exact ⟨_,_,rfl⟩
theorem ownC_nil (w:World) (base:Nat):OwnC w base (.slice none 0 0) []:=⟨[],rfl,World.ownsRow_nil _ _ _ _,fun i hi=>absurd hi (by simp)⟩
theorem getD_app_l {α:Type} (a b:List α) (i:Nat) (d:α) (h:i<a.length):(a++b).getD i d=a.getD i d:=by simp [List.getD,List.getElem?_append_left h]
theorem getD_app_r {α:Type} (a b:List α) (i:Nat) (d:α) (h:a.length≤i):(a++b).getD i d=b.getD (i - a.length) d:=by simp [List.getD,List.getElem?_append_right h]
theorem ownC_push {w w':World} {base:Nat} {v v' u:Value} {cs:List Ch} {us:List Value} {c:Ch} (hl:us.length=cs.length) (h:∀ i,i<cs.length→LkA w base v.ownBlock (us.getD i undef) (cs.getD i zeroC).ls) (hu:LkA w base v.ownBlock u c.ls)
  (hown:w'.ownsRow base 82 6 v' (cs.length+1) (flatC cs us++rowC c u)) (hg:w.grownBy w' v.ownBlock) (hv:v'.ownBlock=v.ownBlock∨v'.ownBlock=some w.heap.size):OwnC w' base v' (cs++[c]):=by
 refine ⟨us++[u],by simp [hl],?_,fun i hi=>?_⟩
 ·rw [List.length_append,flatC_app cs [c] us [u] hl,flatC_one]
  exact hown
 ·by_cases hc:i<cs.length
  ·rw [getD_app_l _ _ _ _ hc,getD_app_l _ _ _ _ (by omega)]
   exact (h i hc).grown hg hv
  ·have hi':i=cs.length:=by rw [List.length_append,List.length_singleton] at hi;omega
   subst hi'
   rw [getD_app_r _ _ _ _ (by omega),getD_app_r _ _ _ _ (by omega),hl,Nat.sub_self]
   exact hu.grown hg hv
theorem ownC_chs {w:World} {base:Nat} {v:Value} {cs:List Ch} (h:OwnC w base v cs):Chs w w.heap.size v cs:=by
 obtain ⟨us,hl,hown,hs⟩:=h
 by_cases h0:cs.length=0
 ·have:cs=[]:=List.eq_nil_of_length_eq_zero h0
  subst this
  rcases hown.2 with ⟨rfl,_⟩ | ⟨g,cap,cur,rfl,_,_,h3,h4,_⟩
  ·exact chs_nil _ _
  ·exact ⟨_,_,_,rfl,rfl,h3,h4,fun h=>absurd h (by simp)⟩
 ·rcases hown.2 with ⟨_,h⟩ | ⟨g,cap,cur,rfl,_,hg,h3,h4,h5,h6⟩
  ·exact absurd h h0
  ·refine ⟨_,_,_,rfl,rfl,h3,h4,fun _=>⟨g,0,rfl,(hown.lt g rfl).2,fun i hi=>⟨us.getD i undef,fun j u hu=>?_,(hs i hi).1⟩⟩⟩
   have hj:j<6:=(List.getElem?_eq_some_iff.1 hu).1
   rw [Nat.zero_add,hown.cellAt (i*6+j) (by have:=Nat.mul_le_mul_right 6 (Nat.succ_le_of_lt hi);rw [Nat.succ_mul] at this;omega),flatC_get cs us i j hl hi hj]
   exact hu
theorem reads_change (w:World) (c:Ch) (u:Value) (g:Nat) (hg:g=w.heap.size):Reads (w.alloc (.cells #[.int .i64 c.k,.int .i64 c.o,.int .i64 c.s,u,.int .i64 c.n,.int .i64 c.f] 82)) (w.heap.size+1) 6 (some ⟨g,0,none⟩) 1 (rowC c u):=by
 subst hg
 refine ⟨rfl,fun _=>⟨_,rfl,Nat.lt_succ_self _,fun j v hu=>?_⟩⟩
 have hk:=Blk.new w 82 #[.int .i64 c.k,.int .i64 c.o,.int .i64 c.s,u,.int .i64 c.n,.int .i64 c.f]
 rw [add_plain,Nat.zero_add,hk.cell]
 simpa [rowC] using hu
section
open Go.ChangeShapes Go.WideShapes Go.Deep Go.Joins
variable {H:Type} {enc:TypeId × Value→H} {P:Program} {w:World} {base:Nat} {spare:Nat→Bool} {held:Bool}
theorem list6 {α:Type} {cs:List α} (h:cs.length=6):∃ c0 c1 c2 c3 c4 c5,cs=[c0,c1,c2,c3,c4,c5]:=by
 match cs,h with
 | [c0,c1,c2,c3,c4,c5],_=>exact ⟨c0,c1,c2,c3,c4,c5,rfl⟩
theorem trod_nest {t:TypeId} {f0 f1 f2 f3 g0 g1 g2:Field} {fuel:Nat} {cs:List Value} {x:DataW H × List MemPlace} (hs:P.underlying t=some (.struct #[f0,f1,f2,f3])) (hl:P.underlying f1.type=some (.struct #[g0,g1,g2]))
  (ho:f0.offset=0∧f1.offset=1∧f2.offset=4∧f3.offset=5) (hk:P.cellsOf f0.type=1∧P.cellsOf f1.type=3∧P.cellsOf f2.type=1∧P.cellsOf f3.type=1) (hone:oneCellFields P #[g0,g1,g2]=true) (hC:P.cellsOf t=6)
  (h:DataW.trod enc P w base spare held fuel t cs=some x) :
  ∃ (c0 c1 c2 c3 c4 c5:Value) (n m:Nat) (y0 y1 y2 y3 y4 y5:DataW H × List MemPlace),cs=[c0,c1,c2,c3,c4,c5]∧DataW.trod enc P w base spare held n f0.type [c0]=some y0∧DataW.trod enc P w base spare held m g0.type [c1]=some y1∧DataW.trod enc P w base spare held m g1.type [c2]=some y2∧DataW.trod enc P w base spare held m g2.type [c3]=some y3∧DataW.trod enc P w base spare held n f2.type [c4]=some y4∧DataW.trod enc P w base spare held n f3.type [c5]=some y5:=by
 obtain ⟨xs,n,_,_,hlen,hxl,hf⟩:=DataW.trod_struct hs h
 obtain ⟨c0,c1,c2,c3,c4,c5,rfl⟩:=list6 (hlen.trans hC)
 obtain ⟨o0,o1,o2,o3⟩:=ho
 obtain ⟨k0,k1,k2,k3⟩:=hk
 match xs,hxl with
 | [y0,y1,y2,y3],_ =>
  have q0:=hf 0 f0 rfl
  have q1:=hf 1 f1 rfl
  have q2:=hf 2 f2 rfl
  have q3:=hf 3 f3 rfl
  rw [o0,k0] at q0
  rw [o1,k1] at q1
  rw [o2,k2] at q2
  rw [o3,k3] at q3
  simp only [List.drop_zero,List.drop_succ_cons,List.take_succ_cons,List.take_zero] at q0 q1 q2 q3
  obtain ⟨ys,m,_,_,hlen',hyl,hg⟩:=DataW.trod_struct hl q1
  match ys,hyl with
  | [z0,z1,z2],_ =>
   obtain ⟨p0,j0⟩:=hone_of hone 0 g0 rfl
   obtain ⟨p1,j1⟩:=hone_of hone 1 g1 rfl
   obtain ⟨p2,j2⟩:=hone_of hone 2 g2 rfl
   have r0:=hg 0 g0 rfl
   have r1:=hg 1 g1 rfl
   have r2:=hg 2 g2 rfl
   rw [p0,j0] at r0
   rw [p1,j1] at r1
   rw [p2,j2] at r2
   exact ⟨c0,c1,c2,c3,c4,c5,n,m,y0,z0,z1,z2,y2,y3,rfl,q0,r0,r1,r2,q2,q3⟩
end
def LkR (w:World) (v:Value):Prop:=∃ A l c,v=.slice A l c∧IsRecs w A l c 2 (fun _ v=>NumOf .i64 v)
def ChR (w:World) (j:Nat) (v:Value):Prop:=if j=3 then LkR w v else NumOf .i64 v
section
open Go.ChangeShapes Go.WideShapes Go.Deep Go.Joins
variable {H:Type} {enc:TypeId × Value→H} {W:World} {base:Nat} {held:Bool}
theorem open_links_at {fuel:Nat} {v:Value} {y:DataW H × List MemPlace} (h:DataW.trod enc Tryz.prog W base (fun _=>true) held fuel 78 [v]=some y):LkR W v:=by
 rcases open_slice_fields Tryz.underlying78 Tryz.underlying195 (by kernel_rfl) (by kernel_rfl) h with ⟨hcs,_⟩ | ⟨x,l,c,m,D,Pl,hcs,_,hl,hm,hmm,_,hh⟩
 ·injection hcs with hcs _
  exact ⟨none,0,0,hcs,.inl ⟨rfl,rfl,rfl⟩⟩
 ·injection hcs with hcs _
  refine ⟨some x,l,c,hcs,.inr ⟨_,rfl,hl,hm,fun i hi j hj=>?_⟩⟩
  obtain ⟨ys,n,_,_,_,hg⟩:=hh i (by rw [hmm,if_pos rfl];exact hi)
  match j,hj with
  | 0,_ =>
   obtain ⟨v,y,hc,_,ht⟩:=hg 0 _ rfl
   exact ⟨v,hc,open_num_at Tryz.underlying3 ht⟩
  | 1,_ =>
   obtain ⟨v,y,hc,_,ht⟩:=hg 1 _ rfl
   exact ⟨v,hc,open_num_at Tryz.underlying3 ht⟩
set_option maxRecDepth 20000 in
theorem open_change_cells {fuel:Nat} {cs:List Value} {y:DataW H × List MemPlace} (h:DataW.trod enc Tryz.prog W base (fun _=>true) held fuel 82 cs=some y):cs.length=6∧∀ j v,cs[j]?=some v→ChR W j v:=by
 obtain ⟨c0,c1,c2,c3,c4,c5,n,m,y0,y1,y2,y3,y4,y5,rfl,t0,t1,t2,t3,t4,t5⟩:=trod_nest Tryz.underlying82 Tryz.underlying80 ⟨rfl,rfl,rfl,rfl⟩ ⟨by kernel_rfl,by kernel_rfl,by kernel_rfl,by kernel_rfl⟩ (by kernel_rfl) (by kernel_rfl) h
 refine ⟨rfl,fun j v hj=>?_⟩
 match j,hj with
 | 0,hj=>cases hj;exact open_num_at Tryz.underlying3 t0
 | 1,hj=>cases hj;exact open_num_at Tryz.underlying3 t1
 | 2,hj=>cases hj;exact open_num_at Tryz.underlying3 t2
 | 3,hj=>cases hj;exact open_links_at t3
 | 4,hj=>cases hj;exact open_num_at Tryz.underlying3 t4
 | 5,hj=>cases hj;exact open_num_at Tryz.underlying3 t5
 | j+6,hj=>cases hj
set_option maxRecDepth 20000 in
theorem open_changes_at {fuel:Nat} {v:Value} {y:DataW H × List MemPlace} (h:DataW.trod enc Tryz.prog W base (fun _=>true) held fuel 49 [v]=some y):∃ A l c,v=.slice A l c∧IsRecs W A l c 6 (ChR W):=by
 have hC:Tryz.prog.cellsOf 82=6:=by kernel_rfl
 rcases open_slice Tryz.underlying49 h with ⟨hcs,_⟩ | ⟨x,l,c,m,n,D,Pl,hcs,_,hl,hm,hmm,_,hh⟩
 ·injection hcs with hcs _
  exact ⟨none,0,0,hcs,.inl ⟨rfl,rfl,rfl⟩⟩
 ·injection hcs with hcs _
  refine ⟨some x,l,c,hcs,.inr ⟨_,rfl,hl,hm,fun i hi j hj=>?_⟩⟩
  obtain ⟨cs',hc,ht⟩:=hh i (by rw [hmm,if_pos rfl];exact hi)
  obtain ⟨hl6,hr⟩:=open_change_cells ht
  rw [hC] at hc
  obtain ⟨_,hcl,hat⟩:=World.cells?_some hc
  have hj':cs'[j]?=some (cs'[j]'(by omega)):=List.getElem?_eq_getElem (by omega)
  refine ⟨_,?_,hr j _ hj'⟩
  have:=hat j hj
  rw [← Go.Deep.add_add,this,hj']
end
theorem chs_in {w:World} {A:Option Addr} {n c:Nat} (h:IsRecs w A n c 6 (ChR w)):∃ cs,Chs w w.heap.size (.slice A n c) cs:=by
 have hnc:n≤c∧c≤maxLen:=by
  rcases h with ⟨rfl,rfl,rfl⟩ | ⟨x,rfl,h1,h2,_⟩
  ·exact ⟨Nat.le_refl _,by unfold maxLen;omega⟩
  ·exact ⟨h1,h2⟩
 by_cases h0:n=0
 ·subst h0
  exact ⟨[],⟨A,0,c,rfl,rfl,hnc.1,hnc.2,fun h=>absurd h (by omega)⟩⟩
 ·obtain ⟨b,off,rfl,hb,hc⟩:=rec_at h (by omega) (by omega)
  have hch:∀ i,i<n→∃ (q:Ch) (u:Value),w.rangeAt b (off+i*6) (rowC q u)∧Lks w w.heap.size u q.ls:=fun i hi=>by
   obtain ⟨v0,e0,z0,rfl,_⟩:=hc i hi 0 (by omega)
   obtain ⟨v1,e1,z1,rfl,_⟩:=hc i hi 1 (by omega)
   obtain ⟨v2,e2,z2,rfl,_⟩:=hc i hi 2 (by omega)
   obtain ⟨v3,e3,A3,l3,c3,rfl,hr⟩:=hc i hi 3 (by omega)
   obtain ⟨v4,e4,z4,rfl,_⟩:=hc i hi 4 (by omega)
   obtain ⟨v5,e5,z5,rfl,_⟩:=hc i hi 5 (by omega)
   obtain ⟨ls,hls⟩:=lks_in hr
   refine ⟨⟨z0,z1,z2,ls,z4,z5⟩,.slice A3 l3 c3,fun j v hv=>?_,hls⟩
   rw [Nat.add_assoc]
   match j,hv with
   | 0,hv=>simp [rowC] at hv;subst hv;exact e0
   | 1,hv=>simp [rowC] at hv;subst hv;exact e1
   | 2,hv=>simp [rowC] at hv;subst hv;exact e2
   | 3,hv=>simp [rowC] at hv;subst hv;exact e3
   | 4,hv=>simp [rowC] at hv;subst hv;exact e4
   | 5,hv=>simp [rowC] at hv;subst hv;exact e5
   | j+6,hv=>simp [rowC] at hv
  obtain ⟨f,hf⟩:∃ f:Nat→Ch,∀ i,i<n→∃ u,w.rangeAt b (off+i*6) (rowC (f i) u)∧Lks w w.heap.size u (f i).ls :=
   ⟨fun i=>if h:i<n then Classical.choose (hch i h) else zeroC,fun i hi=>by simp only [hi,dif_pos];exact Classical.choose_spec (hch i hi)⟩
  have hg:∀ i,i<n→((List.range n).map f).getD i zeroC=f i:=fun i hi=>by simp [List.getD,hi]
  refine ⟨(List.range n).map f,⟨_,n,c,rfl,by simp,hnc.1,hnc.2,fun _=>⟨b,off,rfl,hb,fun i hi=>?_⟩⟩⟩
  rw [hg i hi]
  exact hf i hi
end Go.Proofs.YtplpmemlaohlaaaGreat.Chg
