/- RefBas: the texts BasRef, BasRefPut, BasRefEp, BasRefDo, BasRefMay, BasRefApply, BasRefSame, BasRefWithin in one. (Printed by tools/mergeall.py.) -/
import Derived.Test.YtplpmemlaohlaaaGreatKpBasApply
import Derived.Test.YtplpmemlaohlaaaGreatKpBasDo
import Derived.Test.YtplpmemlaohlaaaGreatKpBasMem
import Derived.Test.YtplpmemlaohlaaaGreatKpBaseP
import Derived.Test.YtplpmemlaohlaaaGreatKpChgRefMay
import Derived.Test.YtplpmemlaohlaaaGreatKpLsaSame
import Derived.Deep.Cut
import Derived.Deep.RegionHeld3
import Derived.IntWalk
namespace Go.Proofs.YtplpmemlaohlaaaGreat.Bas
open Go.RowKit Mem Oct Lsa Chg
set_option linter.unusedVariables false
set_option linter.unusedSimpArgs false
set_option maxRecDepth 20000 in
set_option maxHeartbeats 4000000 in
theorem rseq_any (A:Option Addr) (n c B:Nat) (db:List La) (o:Int) (w:World) (h:Las w B (.slice A n c) db) :
  Calls Tryz.prog 112 #[.slice A n c,.int .i64 o] w fun e w'=>e=.returned (.int .i64 (seqOf db o))∧∃ m,w'=w.drewN m:=by
 obtain ⟨hl,hnc,hcm,_⟩:=las_len h
 unfold maxLen at hcm
 have HL:=Lib.hid hl;clear hl
 have HS:=Lib.hid h;clear h
 obtain ⟨z,hz⟩:∃ z,z=seqOf db o:=⟨_,rfl⟩
 rw [← hz]
 have HZ:=Lib.hid hz;clear hz
 go_enter Tryz.func112,Tryz.ntmps112
 go_wp2
 go_loopw [5] (fun i wr=>(∃ k:Nat,k≤n∧i=.int .i64 k∧z=seqOf (db.drop k) o)∧∃ m,wr=w.drewN m) (fun i _=>n - (intOf i).toNat)
 case atStart=>exact ⟨⟨0,Nat.zero_le _,rfl,HZ.out⟩,0,rfl⟩
 case round =>
  obtain ⟨⟨k,hk,rfl,hz⟩,m,rfl⟩:=hrel
  by_cases hlt:k<n
  ·obtain ⟨b,off,rfl,hb,hc⟩:=las_at HS.out (by omega)
   obtain ⟨u,hr,_⟩:=hc k hlt
   have c0:=hr 0 _ rfl
   have c1:=hr 1 _ rfl
   rw [Nat.add_zero] at c0
   rw [seq_step db o k (by have:=HL.out;omega)] at hz
   clear hc hr
   generalize db.getD k zeroL=y at *
   obtain ⟨yo,ys,yl⟩:=y
   simp only at c0 c1 hz
   by_cases e:yo=o
   ·subst e
    rw [if_pos rfl] at hz
    have HZ2:=Lib.hid hz;clear hz
    go_wp2
    go_ret
    exact ⟨ret_int HZ2.out.symm,_,rfl⟩
   ·rw [if_neg e] at hz
    have HZ2:=Lib.hid hz;clear hz
    have hb0:(yo == o)=false:=beq_false_of_ne e
    go_wp2
    go_roundw
    case rel=>exact ⟨⟨k+1,by omega,by go_num,HZ2.out⟩,_,rfl⟩
    case measure=>simp [intOf];omega
  ·obtain rfl:k=n:=by omega
   rw [List.drop_eq_nil_of_le (by have:=HL.out;omega)] at hz
   have HZ2:=Lib.hid hz;clear hz
   go_wp2
   go_ret
   exact ⟨ret_int HZ2.out.symm,m,rfl⟩
set_option maxRecDepth 20000 in
set_option maxHeartbeats 4000000 in
theorem repoch_any (A:Option Addr) (n c B:Nat) (l:List (Int × Int)) (o:Int) (w:World) (h:Lks w B (.slice A n c) l) :
  Calls Tryz.prog 65 #[.slice A n c,.int .i64 o] w fun e w'=>e=.returned (.int .i64 (epoch l o))∧∃ m,w'=w.drewN m:=by
 obtain ⟨hl,hnc,hcm,_⟩:=lks_len h
 unfold maxLen at hcm
 have HL:=Lib.hid hl;clear hl
 have HS:=Lib.hid h;clear h
 obtain ⟨z,hz⟩:∃ z,z=epoch l o:=⟨_,rfl⟩
 rw [← hz]
 have HZ:=Lib.hid hz;clear hz
 go_enter Tryz.func65,Tryz.ntmps65
 go_wp2
 go_loopw [5] (fun i wr=>(∃ k:Nat,k≤n∧i=.int .i64 k∧z=epoch (l.drop k) o)∧∃ m,wr=w.drewN m) (fun i _=>n - (intOf i).toNat)
 case atStart=>exact ⟨⟨0,Nat.zero_le _,rfl,HZ.out⟩,0,rfl⟩
 case round =>
  obtain ⟨⟨k,hk,rfl,hz⟩,m,rfl⟩:=hrel
  by_cases hlt:k<n
  ·obtain ⟨b,off,rfl,hb,hc⟩:=lks_at HS.out (by omega)
   obtain ⟨c0,c1⟩:=hc k hlt
   rw [epoch_step l o k (by have:=HL.out;omega)] at hz
   clear hc
   generalize l.getD k (0,0)=y at *
   obtain ⟨yo,ys⟩:=y
   simp only at c0 c1 hz
   by_cases e:yo=o
   ·subst e
    rw [if_pos rfl] at hz
    have HZ2:=Lib.hid hz;clear hz
    go_wp2
    go_ret
    exact ⟨ret_int HZ2.out.symm,_,rfl⟩
   ·rw [if_neg e] at hz
    have HZ2:=Lib.hid hz;clear hz
    have hb0:(yo == o)=false:=beq_false_of_ne e
    go_wp2
    go_roundw
    case rel=>exact ⟨⟨k+1,by omega,by go_num,HZ2.out⟩,_,rfl⟩
    case measure=>simp [intOf];omega
  ·obtain rfl:k=n:=by omega
   rw [List.drop_eq_nil_of_le (by have:=HL.out;omega)] at hz
   have HZ2:=Lib.hid hz;clear hz
   go_wp2
   go_ret
   exact ⟨ret_int HZ2.out.symm,m,rfl⟩
theorem sameL_eq (a b:La):sameL a b=sameB a.o a.s a.ls b.o b.s b.ls:=rfl
set_option maxRecDepth 20000 in
set_option maxHeartbeats 8000000 in
theorem rall_db (A A':Option Addr) (n n' c c':Nat) (d e:List La) (w:World) (h:Las w w.heap.size (.slice A n c) d) (h':Las w w.heap.size (.slice A' n' c') e) :
  Calls Tryz.prog 53 #[.slice A n c,.slice A' n' c'] w fun e_ w'=>e_=.returned (.bool (sameDb d e))∧Below w.heap.size w w':=by
 obtain ⟨hl,hnc,hcm,_⟩:=las_len h
 obtain ⟨hl',hnc',hcm',_⟩:=las_len h'
 unfold maxLen at hcm hcm'
 by_cases hn:n=n'
 ·subst hn
  have HL:=Lib.hid hl;clear hl
  have HL':=Lib.hid hl';clear hl'
  have HS:=Lib.hid h;clear h
  have HS':=Lib.hid h';clear h'
  obtain ⟨z,hz⟩:∃ z,z=sameDb d e:=⟨_,rfl⟩
  rw [← hz]
  have HZ:=Lib.hid hz;clear hz
  have hbn:((n:Int) != (n:Int))=false:=by simp
  go_enter Tryz.func53,Tryz.ntmps53
  go_wp2
  go_loopw [5] (fun i wr=>∃ k:Nat,k≤n∧i=.int .i64 k∧Hid (z=sameDb (d.drop k) (e.drop k))∧Hid (Below w.heap.size w wr)) (fun i _=>n - (intOf i).toNat)
  case atStart=>exact ⟨0,Nat.zero_le _,rfl,HZ,Lib.hid (Below.refl _ _)⟩
  case round =>
   obtain ⟨k,hk,rfl,HZ2,HBW⟩:=hrel
   by_cases hlt:k<n
   ·obtain ⟨b,off,rfl,hb,hc⟩:=las_at HS.out (by omega)
    obtain ⟨b',off',rfl,hb',hc'⟩:=las_at HS'.out (by omega)
    obtain ⟨u,hr,hk2⟩:=hc k hlt
    obtain ⟨u',hr',hk2'⟩:=hc' k hlt
    have c0:=(HBW.out.cell (p:=⟨b,off+k*3+0,none⟩) hb).trans (hr 0 _ rfl)
    have c1:=(HBW.out.cell (p:=⟨b,off+k*3+1,none⟩) hb).trans (hr 1 _ rfl)
    have c2_:=(HBW.out.cell (p:=⟨b,off+k*3+2,none⟩) hb).trans (hr 2 _ rfl)
    have d0:=(HBW.out.cell (p:=⟨b',off'+k*3+0,none⟩) hb').trans (hr' 0 _ rfl)
    have d1:=(HBW.out.cell (p:=⟨b',off'+k*3+1,none⟩) hb').trans (hr' 1 _ rfl)
    have d2:=(HBW.out.cell (p:=⟨b',off'+k*3+2,none⟩) hb').trans (hr' 2 _ rfl)
    rw [Nat.add_zero] at c0 d0
    have hz:=HZ2.out
    rw [sameDb_step d e k (by have:=HL.out;omega) (by have:=HL'.out;omega),sameL_eq] at hz
    clear hc hr hc' hr'
    generalize d.getD k zeroL=x at *
    generalize e.getD k zeroL=y at *
    obtain ⟨xo,xs,xl⟩:=x
    obtain ⟨yo,ys,yl⟩:=y
    simp only at c0 c1 c2_ d0 d1 d2 hz hk2 hk2'
    have hws:=HBW.out.size
    have sm:=rsame_lsa xo xs yo ys u u' xl yl wr.drew (hk2.below HBW.out (Nat.le_refl _) |>.more hws) (hk2'.below HBW.out (Nat.le_refl _) |>.more hws)
    have hbb:b<wr.heap.size:=by omega
    have hbb':b'<wr.heap.size:=by omega
    clear hk2 hk2'
    cases hsb:sameB xo xs xl yo ys yl
    all_goals
     rw [hsb] at hz sm
     have SM:=Lib.hid sm;clear sm
     have HZ3:=Lib.hid hz;clear hz
     go_wp2_with (fail)
     go_region_held3 (fun W=>W.cell? ⟨b,off+k*3,none⟩=some (.int .i64 xo)∧W.cell? ⟨b,off+k*3+1,none⟩=some (.int .i64 xs)∧W.cell? ⟨b,off+k*3+2,none⟩=some u∧W.cell? ⟨b',off'+k*3,none⟩=some (.int .i64 yo)∧W.cell? ⟨b',off'+k*3+1,none⟩=some (.int .i64 ys)∧W.cell? ⟨b',off'+k*3+2,none⟩=some u')
      (first
       | with_reducible exact ⟨c0,c1,c2_,d0,d1,d2⟩
       | with_reducible exact ⟨e0,e1,e2,f0,f1,f2⟩
       | go_keep)
      (first | (go_at_call 64;refine (SM.out).mono ?_;rintro e w6 ⟨rfl,hb6⟩;have hb6:Below wr.heap.size wr w6:=⟨hb6.os,hb6.tape,hb6.output,hb6.size,hb6.block⟩;have e0:=(hb6.cell (p:=⟨b,off+k*3,none⟩) hbb).trans c0;have e1:=(hb6.cell (p:=⟨b,off+k*3+1,none⟩) hbb).trans c1;have e2:=(hb6.cell (p:=⟨b,off+k*3+2,none⟩) hbb).trans c2_;have f0:=(hb6.cell (p:=⟨b',off'+k*3,none⟩) hbb').trans d0;have f1:=(hb6.cell (p:=⟨b',off'+k*3+1,none⟩) hbb').trans d1;have f2:=(hb6.cell (p:=⟨b',off'+k*3+2,none⟩) hbb').trans d2;have HB6:=Lib.hid (low_low HBW.out hb6);clear hb6))
    ·go_wp2
     go_ret
     exact ⟨ret_bool (by simp [HZ3.out]),HB6.out⟩
    ·go_wp2
     go_roundw
     case rel=>exact ⟨k+1,by omega,by go_num,Lib.hid (by have:=HZ3.out;rwa [Bool.true_and] at this),HB6⟩
     case measure=>simp [intOf];omega
   ·obtain rfl:k=n:=by omega
    have hz:=HZ2.out
    rw [List.drop_eq_nil_of_le (by have:=HL.out;omega),List.drop_eq_nil_of_le (by have:=HL'.out;omega)] at hz
    have HZ3:=Lib.hid hz;clear hz
    go_wp2
    go_ret
    exact ⟨ret_bool (by simp [HZ3.out,sameDb]),HBW.out⟩
 ·have hb:((n:Int) != (n':Int))=true:=by rw [bne_iff_ne];omega
  have hd:sameDb d e=false:=by
   rw [Bool.eq_false_iff]
   intro hh
   have:=sameDb_iff.1 hh
   exact hn (by rw [← hl,← hl',this])
  rw [hd]
  go_enter Tryz.func53,Tryz.ntmps53
  go_wp2
  go_ret
  exact ⟨rfl,Below.refl _ _⟩
end Go.Proofs.YtplpmemlaohlaaaGreat.Bas
namespace Go.Proofs.YtplpmemlaohlaaaGreat.Bas
open Go.RowKit Mem Oct Lsa Chg
set_option linter.unusedVariables false
set_option linter.unusedSimpArgs false
def LkS (w:World) (B0:Nat) (v:Value) (l:List Lk):Prop :=
 ∃ (A:Option Addr) (n c:Nat),v=.slice A n c∧l.length=n∧n≤c∧c≤maxLen∧(A=none→c=0) ∧
  (0<n→∃ b off,A=some ⟨b,off,none⟩∧(b<B0∨∃ cs,Blk w b 195 cs)∧b<w.heap.size∧∀ i,i<n→w.cell? ⟨b,off+i*2,none⟩=some (.int .i64 (l.getD i (0,0)).1)∧w.cell? ⟨b,off+i*2+1,none⟩=some (.int .i64 (l.getD i (0,0)).2))
section
variable {w w':World} {B0:Nat} {v:Value} {l:List Lk}
theorem LkS.more (h:LkS w B0 v l) (_:B0≤w.heap.size):Lks w w.heap.size v l:=by
 obtain ⟨A,n,c,e,h1,h2,h3,h4,h5⟩:=h
 refine ⟨A,n,c,e,h1,h2,h3,h4,fun h0=>?_⟩
 obtain ⟨b,off,e,_,hb,hc⟩:=h5 h0
 exact ⟨b,off,e,hb,hc⟩
theorem lkS_in (h:Lks w B0 v l) (hB:B0≤w.heap.size):LkS w B0 v l:=by
 obtain ⟨A,n,c,e,h1,h2,h3,h4,h5⟩:=h
 refine ⟨A,n,c,e,h1,h2,h3,h4,fun h0=>?_⟩
 obtain ⟨b,off,e,hb,hc⟩:=h5 h0
 exact ⟨b,off,e,.inl hb,by omega,hc⟩
theorem LkS.below (h:LkS w B0 v l) (hb:Below w.heap.size w w') (_:B0≤w.heap.size):LkS w' B0 v l:=by
 obtain ⟨A,n,c,e,h1,h2,h3,h4,h5⟩:=h
 refine ⟨A,n,c,e,h1,h2,h3,h4,fun h0=>?_⟩
 obtain ⟨b,off,e,hs,hbw,hc⟩:=h5 h0
 exact ⟨b,off,e,hs.elim .inl (fun ⟨cs,hk⟩=>.inr ⟨cs,hk.below hb hbw⟩),Nat.lt_of_lt_of_le hbw hb.size,fun i hi=>⟨(hb.cell (p:=⟨b,off+i*2,none⟩) hbw).trans (hc i hi).1,(hb.cell (p:=⟨b,off+i*2+1,none⟩) hbw).trans (hc i hi).2⟩⟩
theorem LkS.drewN (h:LkS w B0 v l) (n:Nat):LkS (w.drewN n) B0 v l:=h
theorem LkS.gr {q:Option Nat} (h:LkS w B0 v l) (hg:w.grownBy w' q) (hq:∀ g,q=some g→B0≤g∧∀ cs,¬ Blk w g 195 cs):LkS w' B0 v l:=by
 obtain ⟨A,n,c,e,h1,h2,h3,h4,h5⟩:=h
 refine ⟨A,n,c,e,h1,h2,h3,h4,fun h0=>?_⟩
 obtain ⟨b,off,e,hs,hbw,hc⟩:=h5 h0
 have hbg:q≠some b:=by
  intro hqb
  obtain ⟨a1,a2⟩:=hq b hqb
  rcases hs with h | ⟨cs',hk⟩
  ·omega
  ·exact a2 _ hk
 refine ⟨b,off,e,hs.elim .inl (fun ⟨cs,hk⟩=>.inr ⟨cs,hk.grown hg (fun e=>hbg e.symm)⟩),Nat.lt_of_lt_of_le hbw hg.size,fun i hi=>⟨?_,?_⟩⟩
 ·rw [← (hc i hi).1];exact World.cell?_of_block (hg.block b hbw (fun e=>hbg e.symm))
 ·rw [← (hc i hi).2];exact World.cell?_of_block (hg.block b hbw (fun e=>hbg e.symm))
theorem LkS.blk {g t:Nat} {cs:Array Value} (h:LkS w B0 v l) (hv:Blk w g t cs) (hne:195≠t) (hg0:B0≤g) (hg:w.grownBy w' (some g)):LkS w' B0 v l :=
 h.gr hg (fun g' hg'=>by cases hg';exact ⟨hg0,fun cs' hk=>Blk.ne_ hk hv hne rfl⟩)
theorem LkS.row {base n sz:Nat} {e:TypeId} {z:Value} {xs:List Value} (h:LkS w B0 v l) (hv:w.ownsRow base e sz z n xs) (hne:195≠e) (hg0:∀ q,z.ownBlock=some q→B0≤q) (hg:w.grownBy w' z.ownBlock):LkS w' B0 v l :=
 h.gr hg (fun g hq=>⟨hg0 g hq,fun cs hk=>own_blk_ne hv hk (Ne.symm hne) hq⟩)
end
def OwnR (w:World) (B0 base:Nat) (v:Value) (l:List La):Prop :=
 ∃ us:List Value,us.length=l.length∧w.ownsRow base 80 3 v l.length (flatL l us)∧∀ i,i<l.length→LkS w B0 (us.getD i undef) (l.getD i zeroL).ls
def SafeL (w:World) (B0:Nat) (v:Value) (l:List La):Prop :=
 ∃ (A:Option Addr) (n c:Nat),v=.slice A n c∧l.length=n∧n≤c∧c≤maxLen∧(A=none→c=0) ∧
  (0<n→∃ b off,A=some ⟨b,off,none⟩∧(b<B0∨∃ cs,Blk w b 80 cs)∧b<w.heap.size∧∀ i,i<n→∃ u,w.rangeAt b (off+i*3) (rowL (l.getD i zeroL) u)∧LkS w B0 u (l.getD i zeroL).ls)
theorem safeL_at {w:World} {B0 n c:Nat} {A:Option Addr} {l:List La} (h:SafeL w B0 (.slice A n c) l) (h0:0<n):∃ b off,A=some ⟨b,off,none⟩∧b<w.heap.size∧∀ i,i<n→∃ u,w.rangeAt b (off+i*3) (rowL (l.getD i zeroL) u)∧LkS w B0 u (l.getD i zeroL).ls:=by
 obtain ⟨A',n',c',e,h1,h2,h3,h4,h5⟩:=h
 injection e with e1 e2 e3
 subst e1 e2 e3
 obtain ⟨b,off,e,_,hb,hc⟩:=h5 h0
 exact ⟨b,off,e,hb,hc⟩
theorem safeL_len {w:World} {B0 n c:Nat} {A:Option Addr} {l:List La} (h:SafeL w B0 (.slice A n c) l):l.length=n∧n≤c∧c≤maxLen∧(A=none→c=0):=by
 obtain ⟨A',n',c',e,h1,h2,h3,h4,h5⟩:=h
 injection e with e1 e2 e3
 subst e1 e2 e3
 exact ⟨h1,h2,h3,h4⟩
theorem SafeL.form {w:World} {B0:Nat} {v:Value} {l:List La} (h:SafeL w B0 v l):∃ A n c,v=.slice A n c:=by
 obtain ⟨A,n,c,e,_⟩:=h
 exact ⟨A,n,c,e⟩
theorem SafeL.las {w:World} {B0:Nat} {v:Value} {l:List La} (h:SafeL w B0 v l) (hB:B0≤w.heap.size):Las w w.heap.size v l:=by
 obtain ⟨A,n,c,e,h1,h2,h3,h4,h5⟩:=h
 refine ⟨A,n,c,e,h1,h2,h3,h4,fun h0=>?_⟩
 obtain ⟨b,off,e,_,hb,hc⟩:=h5 h0
 refine ⟨b,off,e,hb,fun i hi=>?_⟩
 obtain ⟨u,hr,hk⟩:=hc i hi
 exact ⟨u,hr,hk.more hB⟩
theorem SafeL.up {w w':World} {B0:Nat} {v:Value} {l:List La} (h:SafeL w B0 v l) (hB:B0≤w.heap.size) (hb:Below w.heap.size w w'):SafeL w' B0 v l:=by
 obtain ⟨A,n,c,e,h1,h2,h3,h4,h5⟩:=h
 refine ⟨A,n,c,e,h1,h2,h3,h4,fun h0=>?_⟩
 obtain ⟨b,off,e,hs,hbw,hc⟩:=h5 h0
 refine ⟨b,off,e,hs.elim .inl (fun ⟨cs,hk⟩=>.inr ⟨cs,hk.below hb hbw⟩),Nat.lt_of_lt_of_le hbw hb.size,fun i hi=>?_⟩
 obtain ⟨u,hr,hk⟩:=hc i hi
 exact ⟨u,rangeC_below hr hb hbw,hk.below hb hB⟩
theorem SafeL.blk {w w':World} {B0 g t:Nat} {v:Value} {cs:Array Value} {l:List La} (h:SafeL w B0 v l) (hB:B0≤w.heap.size) (hv:Blk w g t cs) (hne:80≠t∧195≠t) (hg0:B0≤g) (hg:w.grownBy w' (some g)):SafeL w' B0 v l:=by
 obtain ⟨A,n,c,e,h1,h2,h3,h4,h5⟩:=h
 refine ⟨A,n,c,e,h1,h2,h3,h4,fun h0=>?_⟩
 obtain ⟨b,off,e,hs,hbw,hc⟩:=h5 h0
 have hbg:b≠g:=by
  rcases hs with h | ⟨cs',hk⟩
  ·omega
  ·exact Blk.ne_ hk hv hne.1
 refine ⟨b,off,e,hs.elim .inl (fun ⟨cs,hk⟩=>.inr ⟨cs,hk.grown hg (by simpa using hbg)⟩),Nat.lt_of_lt_of_le hbw hg.size,fun i hi=>?_⟩
 obtain ⟨u,hr,hk⟩:=hc i hi
 refine ⟨u,fun j x hx=>?_,hk.blk hv hne.2 hg0 hg⟩
 rw [← hr j x hx]
 exact World.cell?_of_block (hg.block b hbw (by simpa using hbg))
theorem safeL_own {w:World} {B0 base:Nat} {v:Value} {l:List La} (h:OwnR w B0 base v l):SafeL w B0 v l:=by
 obtain ⟨us,hl,hown,hs⟩:=h
 by_cases h0:l.length=0
 ·have:l=[]:=List.eq_nil_of_length_eq_zero h0
  subst this
  rcases hown.2 with ⟨rfl,_⟩ | ⟨g,cap,cur,rfl,_,_,h3,h4,_⟩
  ·exact ⟨none,0,0,rfl,rfl,Nat.le_refl _,by unfold maxLen;omega,fun _=>rfl,fun h=>absurd h (by omega)⟩
  ·exact ⟨_,_,_,rfl,rfl,h3,h4,(fun e=>by cases e),fun h=>absurd h (by simp)⟩
 ·rcases hown.2 with ⟨_,h⟩ | ⟨g,cap,cur,rfl,_,hg,h3,h4,h5,h6⟩
  ·exact absurd h h0
  ·refine ⟨_,_,_,rfl,rfl,h3,h4,(fun e=>by cases e),fun _=>⟨g,0,rfl,.inr ⟨cur,hg⟩,(hown.lt g rfl).2,fun i hi=>⟨us.getD i undef,fun j u hu=>?_,hs i hi⟩⟩⟩
   have hj:j<3:=(List.getElem?_eq_some_iff.1 hu).1
   rw [Nat.zero_add,hown.cellAt (i*3+j) (by have:=Nat.mul_le_mul_right 3 (Nat.succ_le_of_lt hi);rw [Nat.succ_mul] at this;omega),flatL_get l us i j hl hi hj]
   exact hu
theorem reads_lsa (w:World) (a:La) (u:Value) (g:Nat) (hg:g=w.heap.size):Reads (w.alloc (.cells #[.int .i64 a.o,.int .i64 a.s,u] 80)) (w.heap.size+1) 3 (some ⟨g,0,none⟩) 1 (rowL a u):=by
 subst hg
 refine ⟨rfl,fun _=>⟨_,rfl,Nat.lt_succ_self _,fun j v hu=>?_⟩⟩
 have hk:=Blk.new w 80 #[.int .i64 a.o,.int .i64 a.s,u]
 rw [add_plain,Nat.zero_add,hk.cell]
 simpa [rowL] using hu
theorem ownR_push {w w':World} {B0 base:Nat} {v v' u:Value} {l:List La} {us:List Value} {a:La} (hl:us.length=l.length) (h:∀ i,i<l.length→LkS w B0 (us.getD i undef) (l.getD i zeroL).ls) (hu:LkS w B0 u a.ls)
  (hown:w'.ownsRow base 80 3 v' (l.length+1) (flatL l us++rowL a u)) (hg:w.grownBy w' v.ownBlock) (hrow:∀ q,v.ownBlock=some q→B0≤q) (hv0:w.ownsRow base 80 3 v l.length (flatL l us)):OwnR w' B0 base v' (l++[a]):=by
 refine ⟨us++[u],by simp [hl],?_,fun i hi=>?_⟩
 ·rw [List.length_append,flatL_app l [a] us [u] hl,flatL_one]
  exact hown
 ·by_cases hc:i<l.length
  ·rw [getD_app_l _ _ _ _ hc,getD_app_l _ _ _ _ (by omega)]
   exact (h i hc).row hv0 (by decide) hrow hg
  ·have hi':i=l.length:=by rw [List.length_append,List.length_singleton] at hi;omega
   subst hi'
   rw [getD_app_r _ _ _ _ (by omega),getD_app_r _ _ _ _ (by omega),hl,Nat.sub_self]
   exact hu.row hv0 (by decide) hrow hg
structure PutAt (w:World) (B0:Nat) (wr:World) (l:La) (u v:Value) (acc:List La):Prop where
 old:B0≤w.heap.size
 row:OwnR wr B0 (w.heap.size+1) v acc
 box:Blk wr w.heap.size 80 #[.int .i64 l.o,.int .i64 l.s,u]
 low:Below w.heap.size w wr
 size:w.heap.size+1≤wr.heap.size
theorem PutAt.form {w wr:World} {B0:Nat} {l:La} {u v:Value} {acc:List La} (h:PutAt w B0 wr l u v acc):∃ A c,v=.slice A acc.length c:=by
 obtain ⟨us,_,ho,_⟩:=h.row
 exact own_form ho
theorem PutAt.drewN {w wr:World} {B0:Nat} {l:La} {u v:Value} {acc:List La} (h:PutAt w B0 wr l u v acc) (n:Nat):PutAt w B0 (wr.drewN n) l u v acc:=⟨h.old,h.row,h.box,below_drewN h.low n,h.size⟩
theorem PutAt.push {w wr w2:World} {B0:Nat} {l a:La} {u v v2 ua:Value} {acc:List La} {us:List Value} (h:PutAt w B0 wr l u v acc) (hus:us.length=acc.length) (hlk:∀ i,i<acc.length→LkS wr B0 (us.getD i undef) (acc.getD i zeroL).ls)
  (ho:wr.ownsRow (w.heap.size+1) 80 3 v acc.length (flatL acc us)) (hu:LkS w B0 ua a.ls) {o:Obj}
  (hown:w2.ownsRow (w.heap.size+1) 80 3 v2 (acc.length+1) (flatL acc us++rowL a ua)) (hg:(wr.alloc o).grownBy w2 v.ownBlock):PutAt w B0 w2 l u v2 (acc++[a]):=by
 have hold:=h.old
 have hsz:=h.size
 have hb1:Below wr.heap.size wr (wr.alloc o):=low1 (Below.refl _ _) o
 have hg2:wr.grownBy w2 v.ownBlock:=grown_trans (World.grownBy_alloc wr o _) hg
 have hrow:=fun q (hq:v.ownBlock=some q)=>(ho.lt q hq).1
 refine ⟨h.old,ownR_push hus (fun i hi=>(hlk i hi).below hb1 (by omega)) (hu.below (low_low h.low hb1) h.old) hown hg (fun q hq=>by have:=hrow q hq;omega) (own_below ho hb1),h.box.grown hg2 (fun e=>?_),h.low.grown hg2 h.low.size (fun q hq=>by have:=hrow q hq;omega),Nat.le_trans h.size hg2.size⟩
 have:=hrow _ e.symm
 omega
def PutOut (w:World) (B0:Nat) (db:List La) (l:La) (e:Ending) (w':World):Prop:=∃ v,e=.returned v∧OwnR w' B0 (w.heap.size+1) v (refPut l false db)∧Below w.heap.size w w'
set_option maxRecDepth 100000 in
set_option maxHeartbeats 8000000 in
theorem rput_db (A:Option Addr) (n c:Nat) (db:List La) (l:La) (u:Value) (w:World) (B0:Nat) (hB0:B0≤w.heap.size) (h:SafeL w B0 (.slice A n c) db) (hn:n≤1000) (hu:LkS w B0 u l.ls) :
  Calls Tryz.prog 113 #[.slice A n c,lsaV l.o l.s u] w (PutOut w B0 db l):=by
 obtain ⟨i0,hi,hz0,hz1,hz2⟩:=info_parts infoL
 obtain ⟨hl,hnc,hcm,_⟩:=safeL_len h
 unfold maxLen at hcm
 obtain ⟨lo,lsq,lls⟩:=l
 obtain ⟨Al,nl,cl,rfl,hq_⟩:=id hu
 clear hq_
 simp only at hu
 have HL:=Lib.hid hl;clear hl
 have HS:=Lib.hid h;clear h
 have HI:=Lib.hid hi;clear hi
 have HZ0:=Lib.hid hz0;clear hz0
 have HZ1:=Lib.hid hz1;clear hz1
 have HZ2:=Lib.hid hz2;clear hz2
 have HU:=Lib.hid hu;clear hu
 obtain ⟨P1,hP1⟩:∃ P1,P1=PutOut w B0 db ⟨lo,lsq,lls⟩:=⟨_,rfl⟩
 rw [← hP1]
 have HPP:=Lib.hid hP1;clear hP1
 have hbx:=low1 (Below.refl w.heap.size w) (.cells #[.int .i64 lo,.int .i64 lsq,.slice Al nl cl] 80)
 have hp0:PutAt w B0 ((w.alloc (.cells #[.int .i64 lo,.int .i64 lsq,.slice Al nl cl] 80)).alloc (.cells #[] 80)) ⟨lo,lsq,lls⟩ (.slice Al nl cl) (.slice (some ⟨w.heap.size+1,0,none⟩) 0 0) []:=by
  refine ⟨hB0,⟨[],rfl,?_,fun i hi=>absurd hi (by simp)⟩,(Blk.new w _ _).alloc _,low1 hbx _,by simp⟩
  have:=World.ownsRow_lit (base:=w.heap.size+1) (e:=80) (size:=3) (w.alloc (.cells #[.int .i64 lo,.int .i64 lsq,.slice Al nl cl] 80)) #[] 0 (by simp) (by unfold maxLen;omega) rfl
  simpa [flatL] using this
 have HP0:=Lib.hid hp0;clear hp0 hbx
 go_enter Tryz.func113,Tryz.ntmps113
 go_wp2
 go_loopw [5,6,7] (fun v d i wr=>∃ (k:Nat) (b:Bool) (acc:List La),k≤n∧acc.length≤2*k∧i=.int .i64 k∧d=.bool b∧Hid (acc++refPut ⟨lo,lsq,lls⟩ b (db.drop k)=refPut ⟨lo,lsq,lls⟩ false db)∧Hid (PutAt w B0 wr ⟨lo,lsq,lls⟩ (.slice Al nl cl) v acc)) (fun _ _ i _=>n - (intOf i).toNat)
 case atStart=>exact ⟨0,false,[],Nat.zero_le _,by simp,rfl,rfl,Lib.hid (by simp),HP0⟩
 case round =>
  clear HP0
  obtain ⟨k,b,acc,hk,hal,rfl,rfl,HA,HP1⟩:=hrel
  obtain ⟨W,hW⟩:∃ W:World,W=wr:=⟨_,rfl⟩
  rw [← hW] at HP1 ⊢
  clear hW
  obtain ⟨Av,cv,rfl⟩:=HP1.out.form
  obtain ⟨us,hus,ho,hlk⟩:=HP1.out.row
  obtain ⟨x0,x1,x2,x3⟩:=blk_cells3 HP1.out.box
  have hps:=HP1.out.size
  have HO1:=Lib.hid ho;clear ho
  have HU1:=Lib.hid hus;clear hus
  have HK1:=Lib.hid hlk;clear hlk
  by_cases hlt:k<n
  ·obtain ⟨bb,off,rfl,hb,hc⟩:=safeL_at HS.out (by omega)
   obtain ⟨u,hr,hk2⟩:=hc k hlt
   have hc0_:=hr 0 _ rfl
   have hc1_:=hr 1 _ rfl
   have hc2_:=hr 2 _ rfl
   rw [Nat.add_zero] at hc0_
   have c0:=(HP1.out.low.cell (p:=⟨bb,off+k*3+0,none⟩) hb).trans (hr 0 _ rfl)
   have c1:=(HP1.out.low.cell (p:=⟨bb,off+k*3+1,none⟩) hb).trans (hr 1 _ rfl)
   have c2_:=(HP1.out.low.cell (p:=⟨bb,off+k*3+2,none⟩) hb).trans (hr 2 _ rfl)
   rw [Nat.add_zero] at c0
   have ha:=HA.out
   rw [refPut_step _ b db k (by have:=HL.out;omega)] at ha
   clear hc hr HA
   generalize db.getD k zeroL=y at *
   obtain ⟨yo,ys,yl⟩:=y
   obtain ⟨Au,nu,cu,rfl,hq_⟩:=id hk2
   clear hq_
   simp only at c0 c1 c2_ ha hk2 hc0_ hc1_ hc2_
   have HC0:=Lib.hid hc0_;clear hc0_
   have HC1:=Lib.hid hc1_;clear hc1_
   have HC2:=Lib.hid hc2_;clear hc2_
   have HK2_:=Lib.hid hk2;clear hk2
   have hbr:bb<w.heap.size:=hb
   cases b
   ·by_cases e1:lo≤yo
    ·obtain ⟨acc4,hac⟩:∃ a4,a4=acc++[(⟨lo,lsq,lls⟩:La)]:=⟨_,rfl⟩
     have hl4:acc4.length≤2*k+1:=by rw [hac];simp;omega
     have HAC:=Lib.hid hac;clear hac
     have hd1:decide (lo≤yo)=true:=by rw [decide_eq_true_iff];exact e1
     rw [if_pos ⟨rfl,e1⟩,hd1,Bool.or_true] at ha
     by_cases e2:yo=lo
     ·rw [if_pos e2,List.nil_append] at ha
      have HA2:=Lib.hid (show acc4++refPut ⟨lo,lsq,lls⟩ true (db.drop (k+1))=refPut ⟨lo,lsq,lls⟩ false db by rw [HAC.out,List.append_assoc];exact ha);clear ha
      have hb2:(yo != lo)=false:=by simp [e2]
      go_wp2
      go_quiet (fail)
      have HP2:=Lib.hid (HP1.out.drewN nq)
      have HO2:=Lib.hid (own_drewN HO1.out nq)
      have HK2:Hid (∀ i,i<acc.length→LkS (W.drewN nq) B0 (us.getD i undef) (acc.getD i zeroL).ls):=Lib.hid (fun i hi=>(HK1.out i hi).drewN nq)
      clear HP1 HO1 HK1 x0 x1 x2 x3 c0 c1 c2_
      have c0:=(HP2.out.low.cell (p:=⟨bb,off+k*3,none⟩) hbr).trans HC0.out
      have c1:=(HP2.out.low.cell (p:=⟨bb,off+k*3+1,none⟩) hbr).trans HC1.out
      have c2_:=(HP2.out.low.cell (p:=⟨bb,off+k*3+2,none⟩) hbr).trans HC2.out
      obtain ⟨x0,x1,x2,x3⟩:=blk_cells3 HP2.out.box
      have hps2:=HP2.out.size
      generalize W.drewN nq=W2 at *
      go_wp2_with (at_builtin;(refine wpList_append_any _ rfl (.tmp 27) (.tmp 29) 40 rfl (w.heap.size+1) 80 i0 (.agg #[.int .i64 0,.int .i64 0,.slice none 0 0]) 3 40 Tryz.underlying40 HI.out HZ0.out HZ1.out HZ2.out rfl (by decide) (.slice Av acc.length cv) acc.length (flatL acc us) rfl (own_below HO2.out (low1 (Below.refl _ _) _)) _ (some ⟨_,0,none⟩) 1 1 (rowL ⟨lo,lsq,lls⟩ (.slice Al nl cl)) rfl (reads_lsa _ ⟨lo,lsq,lls⟩ (.slice Al nl cl) _ rfl) (rowL_one _ _ rfl) (by unfold maxLen;omega) (by omega) (by have:=HP2.out.size;simp;omega) ?_;intro v4 w4 hown4 hg4 _;have hp4:=HP2.out.push HU1.out HK2.out HO2.out HU.out hown4 hg4;rewrite [← HAC.out] at hp4;obtain ⟨A4,c4,rfl⟩:=hp4.form;obtain ⟨us4,hu4,ho4,hk4⟩:=hp4.row;have HP4:=Lib.hid hp4;have HO4:=Lib.hid ho4;have HU4:=Lib.hid hu4;have HK4:=Lib.hid hk4;clear hown4 hg4 hp4 ho4 hu4 hk4 c0 c1 c2_ x0 x1 x2 x3;obtain ⟨x0,x1,x2,x3⟩:=blk_cells3 HP4.out.box;have hps4:=HP4.out.size;have c0:=(HP4.out.low.cell (p:=⟨bb,off+k*3,none⟩) hbr).trans HC0.out;have c1:=(HP4.out.low.cell (p:=⟨bb,off+k*3+1,none⟩) hbr).trans HC1.out;have c2_:=(HP4.out.low.cell (p:=⟨bb,off+k*3+2,none⟩) hbr).trans HC2.out))
      go_quiet (fail)
      have HP5:=Lib.hid (HP4.out.drewN nq)
      go_wp2
      go_roundw
      case rel=>exact ⟨k+1,true,acc4,by omega,by omega,by go_num,rfl,HA2,HP5⟩
      case measure=>simp [intOf];omega
     ·rw [if_neg e2] at ha
      have HA2:=Lib.hid (show (acc4++[(⟨yo,ys,yl⟩:La)])++refPut ⟨lo,lsq,lls⟩ true (db.drop (k+1))=refPut ⟨lo,lsq,lls⟩ false db by rw [HAC.out,List.append_assoc,List.append_assoc];exact ha);clear ha
      have hb2:(yo != lo)=true:=by rw [bne_iff_ne];exact e2
      go_wp2
      go_quiet (fail)
      have HP2:=Lib.hid (HP1.out.drewN nq)
      have HO2:=Lib.hid (own_drewN HO1.out nq)
      have HK2:Hid (∀ i,i<acc.length→LkS (W.drewN nq) B0 (us.getD i undef) (acc.getD i zeroL).ls):=Lib.hid (fun i hi=>(HK1.out i hi).drewN nq)
      clear HP1 HO1 HK1 x0 x1 x2 x3 c0 c1 c2_
      have c0:=(HP2.out.low.cell (p:=⟨bb,off+k*3,none⟩) hbr).trans HC0.out
      have c1:=(HP2.out.low.cell (p:=⟨bb,off+k*3+1,none⟩) hbr).trans HC1.out
      have c2_:=(HP2.out.low.cell (p:=⟨bb,off+k*3+2,none⟩) hbr).trans HC2.out
      obtain ⟨x0,x1,x2,x3⟩:=blk_cells3 HP2.out.box
      have hps2:=HP2.out.size
      generalize W.drewN nq=W2 at *
      go_wp2_with (at_builtin;(refine wpList_append_any _ rfl (.tmp 27) (.tmp 29) 40 rfl (w.heap.size+1) 80 i0 (.agg #[.int .i64 0,.int .i64 0,.slice none 0 0]) 3 40 Tryz.underlying40 HI.out HZ0.out HZ1.out HZ2.out rfl (by decide) (.slice Av acc.length cv) acc.length (flatL acc us) rfl (own_below HO2.out (low1 (Below.refl _ _) _)) _ (some ⟨_,0,none⟩) 1 1 (rowL ⟨lo,lsq,lls⟩ (.slice Al nl cl)) rfl (reads_lsa _ ⟨lo,lsq,lls⟩ (.slice Al nl cl) _ rfl) (rowL_one _ _ rfl) (by unfold maxLen;omega) (by omega) (by have:=HP2.out.size;simp;omega) ?_;intro v4 w4 hown4 hg4 _;have hp4:=HP2.out.push HU1.out HK2.out HO2.out HU.out hown4 hg4;rewrite [← HAC.out] at hp4;obtain ⟨A4,c4,rfl⟩:=hp4.form;obtain ⟨us4,hu4,ho4,hk4⟩:=hp4.row;have HP4:=Lib.hid hp4;have HO4:=Lib.hid ho4;have HU4:=Lib.hid hu4;have HK4:=Lib.hid hk4;clear hown4 hg4 hp4 ho4 hu4 hk4 c0 c1 c2_ x0 x1 x2 x3;obtain ⟨x0,x1,x2,x3⟩:=blk_cells3 HP4.out.box;have hps4:=HP4.out.size;have c0:=(HP4.out.low.cell (p:=⟨bb,off+k*3,none⟩) hbr).trans HC0.out;have c1:=(HP4.out.low.cell (p:=⟨bb,off+k*3+1,none⟩) hbr).trans HC1.out;have c2_:=(HP4.out.low.cell (p:=⟨bb,off+k*3+2,none⟩) hbr).trans HC2.out))
      go_wp2
      go_quiet (fail)
      have HP5:=Lib.hid (HP4.out.drewN nq)
      have HO5:=Lib.hid (own_drewN HO4.out nq)
      have HK5:Hid (∀ i,i<acc4.length→LkS (w4.drewN nq) B0 (us4.getD i undef) (acc4.getD i zeroL).ls):=Lib.hid (fun i hi=>(HK4.out i hi).drewN nq)
      clear HP4 HO4 HK4 x0 x1 x2 x3 c0 c1 c2_
      have c0:=(HP5.out.low.cell (p:=⟨bb,off+k*3,none⟩) hbr).trans HC0.out
      have c1:=(HP5.out.low.cell (p:=⟨bb,off+k*3+1,none⟩) hbr).trans HC1.out
      have c2_:=(HP5.out.low.cell (p:=⟨bb,off+k*3+2,none⟩) hbr).trans HC2.out
      obtain ⟨x0,x1,x2,x3⟩:=blk_cells3 HP5.out.box
      have hps5:=HP5.out.size
      generalize w4.drewN nq=W5 at *
      go_wp2_with (at_builtin;(refine wpList_append_any _ rfl (.tmp 39) (.tmp 44) 40 rfl (w.heap.size+1) 80 i0 (.agg #[.int .i64 0,.int .i64 0,.slice none 0 0]) 3 40 Tryz.underlying40 HI.out HZ0.out HZ1.out HZ2.out rfl (by decide) (.slice A4 acc4.length c4) acc4.length (flatL acc4 us4) rfl (own_below HO5.out (low1 (Below.refl _ _) _)) _ (some ⟨_,0,none⟩) 1 1 (rowL ⟨yo,ys,yl⟩ (.slice Au nu cu)) rfl (reads_lsa _ ⟨yo,ys,yl⟩ (.slice Au nu cu) _ rfl) (rowL_one _ _ rfl) (by unfold maxLen;omega) (by omega) (by have:=HP5.out.size;simp;omega) ?_;intro v6 w6 hown6 hg6 _;have HP6:=Lib.hid (HP5.out.push HU4.out HK5.out HO5.out HK2_.out hown6 hg6);clear hown6 hg6))
      go_roundw
      case rel=>exact ⟨k+1,true,acc4++[⟨yo,ys,yl⟩],by omega,by simp;omega,by go_num,rfl,HA2,HP6⟩
      case measure=>simp [intOf];omega
    ·have e2:¬ yo=lo:=by omega
     have hd1:decide (lo≤yo)=false:=by rw [decide_eq_false_iff_not];exact e1
     rw [if_neg (by simp;omega),if_neg e2,List.nil_append,hd1,Bool.or_false] at ha
     have HA2:=Lib.hid (show (acc++[(⟨yo,ys,yl⟩:La)])++refPut ⟨lo,lsq,lls⟩ false (db.drop (k+1))=refPut ⟨lo,lsq,lls⟩ false db by rw [List.append_assoc];exact ha);clear ha
     have hb2:(yo != lo)=true:=by rw [bne_iff_ne];exact e2
     go_wp2
     go_quiet (fail)
     have HP2:=Lib.hid (HP1.out.drewN nq)
     have HO2:=Lib.hid (own_drewN HO1.out nq)
     have HK2:Hid (∀ i,i<acc.length→LkS (W.drewN nq) B0 (us.getD i undef) (acc.getD i zeroL).ls):=Lib.hid (fun i hi=>(HK1.out i hi).drewN nq)
     clear HP1 HO1 HK1 x0 x1 x2 x3 c0 c1 c2_
     have c0:=(HP2.out.low.cell (p:=⟨bb,off+k*3,none⟩) hbr).trans HC0.out
     have c1:=(HP2.out.low.cell (p:=⟨bb,off+k*3+1,none⟩) hbr).trans HC1.out
     have c2_:=(HP2.out.low.cell (p:=⟨bb,off+k*3+2,none⟩) hbr).trans HC2.out
     obtain ⟨x0,x1,x2,x3⟩:=blk_cells3 HP2.out.box
     have hps2:=HP2.out.size
     generalize W.drewN nq=W2 at *
     go_wp2
     go_quiet (fail)
     have HP3:=Lib.hid (HP2.out.drewN nq)
     have HO3:=Lib.hid (own_drewN HO2.out nq)
     have HK3:Hid (∀ i,i<acc.length→LkS (W2.drewN nq) B0 (us.getD i undef) (acc.getD i zeroL).ls):=Lib.hid (fun i hi=>(HK2.out i hi).drewN nq)
     clear HP2 HO2 HK2 x0 x1 x2 x3 c0 c1 c2_
     have c0:=(HP3.out.low.cell (p:=⟨bb,off+k*3,none⟩) hbr).trans HC0.out
     have c1:=(HP3.out.low.cell (p:=⟨bb,off+k*3+1,none⟩) hbr).trans HC1.out
     have c2_:=(HP3.out.low.cell (p:=⟨bb,off+k*3+2,none⟩) hbr).trans HC2.out
     obtain ⟨x0,x1,x2,x3⟩:=blk_cells3 HP3.out.box
     have hps3:=HP3.out.size
     generalize W2.drewN nq=W3 at *
     go_wp2_with (at_builtin;(refine wpList_append_any _ rfl (.tmp 39) (.tmp 44) 40 rfl (w.heap.size+1) 80 i0 (.agg #[.int .i64 0,.int .i64 0,.slice none 0 0]) 3 40 Tryz.underlying40 HI.out HZ0.out HZ1.out HZ2.out rfl (by decide) (.slice Av acc.length cv) acc.length (flatL acc us) rfl (own_below HO3.out (low1 (Below.refl _ _) _)) _ (some ⟨_,0,none⟩) 1 1 (rowL ⟨yo,ys,yl⟩ (.slice Au nu cu)) rfl (reads_lsa _ ⟨yo,ys,yl⟩ (.slice Au nu cu) _ rfl) (rowL_one _ _ rfl) (by unfold maxLen;omega) (by omega) (by have:=HP3.out.size;simp;omega) ?_;intro v4 w4 hown4 hg4 _;have HP4:=Lib.hid (HP3.out.push HU1.out HK3.out HO3.out HK2_.out hown4 hg4);clear hown4 hg4))
     go_roundw
     case rel=>exact ⟨k+1,false,acc++[⟨yo,ys,yl⟩],by omega,by simp;omega,by go_num,rfl,HA2,HP4⟩
     case measure=>simp [intOf];omega
   ·by_cases e2:yo=lo
    ·rw [if_neg (by simp),if_pos e2,List.nil_append,List.nil_append,Bool.true_or] at ha
     have HA2:=Lib.hid ha;clear ha
     have hb2:(yo != lo)=false:=by simp [e2]
     go_wp2
     go_quiet (fail)
     have HP2:=Lib.hid (HP1.out.drewN nq)
     have HO2:=Lib.hid (own_drewN HO1.out nq)
     have HK2:Hid (∀ i,i<acc.length→LkS (W.drewN nq) B0 (us.getD i undef) (acc.getD i zeroL).ls):=Lib.hid (fun i hi=>(HK1.out i hi).drewN nq)
     clear HP1 HO1 HK1 x0 x1 x2 x3 c0 c1 c2_
     have c0:=(HP2.out.low.cell (p:=⟨bb,off+k*3,none⟩) hbr).trans HC0.out
     have c1:=(HP2.out.low.cell (p:=⟨bb,off+k*3+1,none⟩) hbr).trans HC1.out
     have c2_:=(HP2.out.low.cell (p:=⟨bb,off+k*3+2,none⟩) hbr).trans HC2.out
     obtain ⟨x0,x1,x2,x3⟩:=blk_cells3 HP2.out.box
     have hps2:=HP2.out.size
     generalize W.drewN nq=W2 at *
     go_wp2
     go_quiet (fail)
     have HP3:=Lib.hid (HP2.out.drewN nq)
     have HO3:=Lib.hid (own_drewN HO2.out nq)
     have HK3:Hid (∀ i,i<acc.length→LkS (W2.drewN nq) B0 (us.getD i undef) (acc.getD i zeroL).ls):=Lib.hid (fun i hi=>(HK2.out i hi).drewN nq)
     clear HP2 HO2 HK2 x0 x1 x2 x3 c0 c1 c2_
     have c0:=(HP3.out.low.cell (p:=⟨bb,off+k*3,none⟩) hbr).trans HC0.out
     have c1:=(HP3.out.low.cell (p:=⟨bb,off+k*3+1,none⟩) hbr).trans HC1.out
     have c2_:=(HP3.out.low.cell (p:=⟨bb,off+k*3+2,none⟩) hbr).trans HC2.out
     obtain ⟨x0,x1,x2,x3⟩:=blk_cells3 HP3.out.box
     have hps3:=HP3.out.size
     generalize W2.drewN nq=W3 at *
     go_wp2
     go_roundw
     case rel=>exact ⟨k+1,true,acc,by omega,by omega,by go_num,rfl,HA2,HP3⟩
     case measure=>simp [intOf];omega
    ·rw [if_neg (by simp),if_neg e2,List.nil_append,Bool.true_or] at ha
     have HA2:=Lib.hid (show (acc++[(⟨yo,ys,yl⟩:La)])++refPut ⟨lo,lsq,lls⟩ true (db.drop (k+1))=refPut ⟨lo,lsq,lls⟩ false db by rw [List.append_assoc];exact ha);clear ha
     have hb2:(yo != lo)=true:=by rw [bne_iff_ne];exact e2
     go_wp2
     go_quiet (fail)
     have HP2:=Lib.hid (HP1.out.drewN nq)
     have HO2:=Lib.hid (own_drewN HO1.out nq)
     have HK2:Hid (∀ i,i<acc.length→LkS (W.drewN nq) B0 (us.getD i undef) (acc.getD i zeroL).ls):=Lib.hid (fun i hi=>(HK1.out i hi).drewN nq)
     clear HP1 HO1 HK1 x0 x1 x2 x3 c0 c1 c2_
     have c0:=(HP2.out.low.cell (p:=⟨bb,off+k*3,none⟩) hbr).trans HC0.out
     have c1:=(HP2.out.low.cell (p:=⟨bb,off+k*3+1,none⟩) hbr).trans HC1.out
     have c2_:=(HP2.out.low.cell (p:=⟨bb,off+k*3+2,none⟩) hbr).trans HC2.out
     obtain ⟨x0,x1,x2,x3⟩:=blk_cells3 HP2.out.box
     have hps2:=HP2.out.size
     generalize W.drewN nq=W2 at *
     go_wp2
     go_quiet (fail)
     have HP3:=Lib.hid (HP2.out.drewN nq)
     have HO3:=Lib.hid (own_drewN HO2.out nq)
     have HK3:Hid (∀ i,i<acc.length→LkS (W2.drewN nq) B0 (us.getD i undef) (acc.getD i zeroL).ls):=Lib.hid (fun i hi=>(HK2.out i hi).drewN nq)
     clear HP2 HO2 HK2 x0 x1 x2 x3 c0 c1 c2_
     have c0:=(HP3.out.low.cell (p:=⟨bb,off+k*3,none⟩) hbr).trans HC0.out
     have c1:=(HP3.out.low.cell (p:=⟨bb,off+k*3+1,none⟩) hbr).trans HC1.out
     have c2_:=(HP3.out.low.cell (p:=⟨bb,off+k*3+2,none⟩) hbr).trans HC2.out
     obtain ⟨x0,x1,x2,x3⟩:=blk_cells3 HP3.out.box
     have hps3:=HP3.out.size
     generalize W2.drewN nq=W3 at *
     go_wp2_with (at_builtin;(refine wpList_append_any _ rfl (.tmp 39) (.tmp 44) 40 rfl (w.heap.size+1) 80 i0 (.agg #[.int .i64 0,.int .i64 0,.slice none 0 0]) 3 40 Tryz.underlying40 HI.out HZ0.out HZ1.out HZ2.out rfl (by decide) (.slice Av acc.length cv) acc.length (flatL acc us) rfl (own_below HO3.out (low1 (Below.refl _ _) _)) _ (some ⟨_,0,none⟩) 1 1 (rowL ⟨yo,ys,yl⟩ (.slice Au nu cu)) rfl (reads_lsa _ ⟨yo,ys,yl⟩ (.slice Au nu cu) _ rfl) (rowL_one _ _ rfl) (by unfold maxLen;omega) (by omega) (by have:=HP3.out.size;simp;omega) ?_;intro v4 w4 hown4 hg4 _;have HP4:=Lib.hid (HP3.out.push HU1.out HK3.out HO3.out HK2_.out hown4 hg4);clear hown4 hg4))
     go_roundw
     case rel=>exact ⟨k+1,true,acc++[⟨yo,ys,yl⟩],by omega,by simp;omega,by go_num,rfl,HA2,HP4⟩
     case measure=>simp [intOf];omega
  ·obtain rfl:n=k:=by omega
   have ha:=HA.out
   rw [List.drop_eq_nil_of_le (by have:=HL.out;omega)] at ha
   cases b
   ·have ha2:acc++[(⟨lo,lsq,lls⟩:La)]=refPut ⟨lo,lsq,lls⟩ false db:=ha
    have HA2:=Lib.hid ha2;clear ha ha2 HA
    have hfin:∀ (v4:Value) (w4:World),PutAt w B0 w4 ⟨lo,lsq,lls⟩ (.slice Al nl cl) v4 (acc++[(⟨lo,lsq,lls⟩:La)])→P1 (.returned v4) w4:=by
     intro v4 w4 hp
     rw [HPP.out]
     exact ⟨v4,rfl,by rw [← HA2.out];exact hp.row,hp.low⟩
    have FIN:=Lib.hid hfin;clear hfin
    go_wp2_with (at_builtin;(refine wpList_append_any _ rfl (.tmp 48) (.tmp 50) 40 rfl (w.heap.size+1) 80 i0 (.agg #[.int .i64 0,.int .i64 0,.slice none 0 0]) 3 40 Tryz.underlying40 HI.out HZ0.out HZ1.out HZ2.out rfl (by decide) (.slice Av acc.length cv) acc.length (flatL acc us) rfl (own_below HO1.out (low1 (Below.refl _ _) _)) _ (some ⟨_,0,none⟩) 1 1 (rowL ⟨lo,lsq,lls⟩ (.slice Al nl cl)) rfl (reads_lsa _ ⟨lo,lsq,lls⟩ (.slice Al nl cl) _ rfl) (rowL_one _ _ rfl) (by unfold maxLen;omega) (by omega) (by have:=HP1.out.size;simp;omega) ?_;intro v4 w4 hown4 hg4 _;have HP4:=Lib.hid (HP1.out.push HU1.out HK1.out HO1.out HU.out hown4 hg4);have HF4:=Lib.hid (FIN.out v4 w4 HP4.out);clear hown4 hg4))
    exact HF4.out
   ·have ha2:acc++[]=refPut ⟨lo,lsq,lls⟩ false db:=ha
    rw [List.append_nil] at ha2
    have hfin:P1 (.returned (.slice Av acc.length cv)) W:=by
     rw [HPP.out]
     exact ⟨_,rfl,by rw [← ha2];exact HP1.out.row,HP1.out.low⟩
    have FIN:=Lib.hid hfin;clear hfin ha ha2 HA
    go_wp2
    exact FIN.out
end Go.Proofs.YtplpmemlaohlaaaGreat.Bas
namespace Go.Proofs.YtplpmemlaohlaaaGreat.Bas
open Go.RowKit Mem Oct Lsa Chg
set_option linter.unusedVariables false
set_option linter.unusedSimpArgs false
theorem reads_ep (w:World) (a b:Int) (g:Nat) (hg:g=w.heap.size):Reads (w.alloc (.cells #[.int .i64 a,.int .i64 b] 118)) (w.heap.size+1) 2 (some ⟨g,0,none⟩) 1 (lkCells [(a,b)]):=by
 subst hg
 refine ⟨rfl,fun _=>⟨_,rfl,Nat.lt_succ_self _,fun j u hu=>?_⟩⟩
 have hk:=Blk.new w 118 #[.int .i64 a,.int .i64 b]
 rw [add_plain,Nat.zero_add,hk.cell]
 simpa [lkCells] using hu
structure EpAt (w wr:World) (e:Int × Int) (v:Value) (acc:List (Int × Int)):Prop where
 row:wr.ownsRow (w.heap.size+1) 118 2 v acc.length (lkCells acc)
 box:Blk wr w.heap.size 118 #[.int .i64 e.1,.int .i64 e.2]
 low:Below w.heap.size w wr
 size:w.heap.size+1≤wr.heap.size
theorem EpAt.form {w wr:World} {e:Int × Int} {v:Value} {acc:List (Int × Int)} (h:EpAt w wr e v acc):∃ A c,v=.slice A acc.length c:=own_form h.row
theorem EpAt.drewN {w wr:World} {e:Int × Int} {v:Value} {acc:List (Int × Int)} (h:EpAt w wr e v acc) (n:Nat):EpAt w (wr.drewN n) e v acc:=⟨h.row,h.box,below_drewN h.low n,h.size⟩
theorem epAt_push {w wr w2:World} {e a:Int × Int} {v v2:Value} {acc:List (Int × Int)} {o:Obj} (h:EpAt w wr e v acc) (hown:w2.ownsRow (w.heap.size+1) 118 2 v2 (acc.length+1) (lkCells (acc++[a]))) (hg:(wr.alloc o).grownBy w2 v.ownBlock):EpAt w w2 e v2 (acc++[a]):=by
 have hg2:wr.grownBy w2 v.ownBlock:=grown_trans (World.grownBy_alloc wr o _) hg
 have hrow:=fun q (hq:v.ownBlock=some q)=>(h.row.lt q hq).1
 refine ⟨by rw [List.length_append];exact hown,h.box.grown hg2 (fun e=>?_),h.low.grown hg2 h.low.size (fun q hq=>by have:=hrow q hq;omega),Nat.le_trans h.size hg2.size⟩
 have:=hrow _ e.symm
 omega
def SafeE (w:World) (B0:Nat) (v:Value) (l:List (Int × Int)):Prop :=
 ∃ (A:Option Addr) (n c:Nat),v=.slice A n c∧l.length=n∧n≤c∧c≤maxLen∧(A=none→c=0) ∧
  (0<n→∃ b off,A=some ⟨b,off,none⟩∧(b<B0∨∃ cs,Blk w b 118 cs)∧b<w.heap.size∧∀ i,i<n→w.cell? ⟨b,off+i*2,none⟩=some (.int .i64 (l.getD i (0,0)).1)∧w.cell? ⟨b,off+i*2+1,none⟩=some (.int .i64 (l.getD i (0,0)).2))
theorem SafeE.form {w:World} {B0:Nat} {v:Value} {l:List (Int × Int)} (h:SafeE w B0 v l):∃ A n c,v=.slice A n c:=by
 obtain ⟨A,n,c,e,_⟩:=h
 exact ⟨A,n,c,e⟩
theorem SafeE.lks {w:World} {B0:Nat} {v:Value} {l:List (Int × Int)} (h:SafeE w B0 v l):Lks w w.heap.size v l:=by
 obtain ⟨A,n,c,e,h1,h2,h3,h4,h5⟩:=h
 refine ⟨A,n,c,e,h1,h2,h3,h4,fun h0=>?_⟩
 obtain ⟨b,off,e,_,hb,hc⟩:=h5 h0
 exact ⟨b,off,e,hb,hc⟩
theorem SafeE.up {w w':World} {B0:Nat} {v:Value} {l:List (Int × Int)} (h:SafeE w B0 v l) (hb:Below w.heap.size w w'):SafeE w' B0 v l:=by
 obtain ⟨A,n,c,e,h1,h2,h3,h4,h5⟩:=h
 refine ⟨A,n,c,e,h1,h2,h3,h4,fun h0=>?_⟩
 obtain ⟨b,off,e,hs,hbw,hc⟩:=h5 h0
 exact ⟨b,off,e,hs.elim .inl (fun ⟨cs,hk⟩=>.inr ⟨cs,hk.below hb hbw⟩),Nat.lt_of_lt_of_le hbw hb.size,fun i hi=>⟨(hb.cell (p:=⟨b,off+i*2,none⟩) hbw).trans (hc i hi).1,(hb.cell (p:=⟨b,off+i*2+1,none⟩) hbw).trans (hc i hi).2⟩⟩
theorem SafeE.blk {w w':World} {B0 g t:Nat} {v:Value} {cs:Array Value} {l:List (Int × Int)} (h:SafeE w B0 v l) (hv:Blk w g t cs) (hne:118≠t) (hg0:B0≤g) (hg:w.grownBy w' (some g)):SafeE w' B0 v l:=by
 obtain ⟨A,n,c,e,h1,h2,h3,h4,h5⟩:=h
 refine ⟨A,n,c,e,h1,h2,h3,h4,fun h0=>?_⟩
 obtain ⟨b,off,e,hs,hbw,hc⟩:=h5 h0
 have hbg:b≠g:=by
  rcases hs with h | ⟨cs',hk⟩
  ·omega
  ·exact Blk.ne_ hk hv hne
 refine ⟨b,off,e,hs.elim .inl (fun ⟨cs,hk⟩=>.inr ⟨cs,hk.grown hg (by simpa using hbg)⟩),Nat.lt_of_lt_of_le hbw hg.size,fun i hi=>⟨?_,?_⟩⟩
 ·rw [← (hc i hi).1];exact World.cell?_of_block (hg.block b hbw (by simpa using hbg))
 ·rw [← (hc i hi).2];exact World.cell?_of_block (hg.block b hbw (by simpa using hbg))
theorem safeE_own {w:World} {B0 base:Nat} {v:Value} {l:List (Int × Int)} (h:OwnE w base v l):SafeE w B0 v l:=by
 have hk:=ownE_lks h
 unfold OwnE at h
 rcases h.2 with ⟨rfl,h0⟩ | ⟨g,cap,cur,rfl,hg,hh,hnc,hm,hs,ht⟩
 ·have:l=[]:=List.eq_nil_of_length_eq_zero h0
  subst this
  exact ⟨none,0,0,rfl,rfl,Nat.le_refl _,by unfold maxLen;omega,fun _=>rfl,fun h=>absurd h (by omega)⟩
 ·refine ⟨_,_,_,rfl,rfl,hnc,hm,(fun e=>by cases e),fun h0=>⟨g,0,rfl,.inr ⟨cur,hh⟩,(h.lt g rfl).2,fun i hi=>?_⟩⟩
  obtain ⟨b,off,e,_,hc⟩:=lks_at hk h0
  injection e with e
  injection e with e1 e2
  subst e1 e2
  exact hc i hi
def EpsOut (w:World) (l:List (Int × Int)) (e:Int × Int) (e_:Ending) (w':World):Prop:=∃ v,e_=.returned v∧OwnE w' (w.heap.size+1) v (refEp l e)∧Below w.heap.size w w'
theorem pick_yes {g:Int→Int} {o:Int} (h:0<g o):pick g o=[(o,g o)]:=if_pos h
theorem pick_no {g:Int→Int} {o:Int} (h:¬ 0<g o):pick g o=[]:=if_neg h
set_option maxRecDepth 100000 in
set_option maxHeartbeats 8000000 in
theorem reps_any (A:Option Addr) (n c:Nat) (l:List (Int × Int)) (e1 e2:Int) (w:World) (h:Lks w w.heap.size (.slice A n c) l) :
  Calls Tryz.prog 114 #[.slice A n c,.agg #[.int .i64 e1,.int .i64 e2]] w (EpsOut w l (e1,e2)):=by
 obtain ⟨i0,hi,hz0,hz1,hz2⟩:=info_parts infoE
 have HI:=Lib.hid hi;clear hi
 have HZ0:=Lib.hid hz0;clear hz0
 have HZ1:=Lib.hid hz1;clear hz1
 have HZ2:=Lib.hid hz2;clear hz2
 have EP:=Lib.hid (fun (o:Int) (W:World) (hW:Below w.heap.size w W)=>repoch_any A n c _ l o W (h.below hW (Nat.le_refl _)))
 obtain ⟨P1,hP1⟩:∃ P1,P1=EpsOut w l (e1,e2):=⟨_,rfl⟩
 rw [← hP1]
 have HPP:=Lib.hid hP1;clear hP1
 have hbx:=low1 (Below.refl w.heap.size w) (.cells #[.int .i64 e1,.int .i64 e2] 118)
 have hp0:EpAt w ((w.alloc (.cells #[.int .i64 e1,.int .i64 e2] 118)).alloc (.cells #[] 118)) (e1,e2) (.slice (some ⟨w.heap.size+1,0,none⟩) 0 0) []:=by
  refine ⟨?_,(Blk.new w _ _).alloc _,low1 hbx _,by simp⟩
  have:=World.ownsRow_lit (base:=w.heap.size+1) (e:=118) (size:=2) (w.alloc (.cells #[.int .i64 e1,.int .i64 e2] 118)) #[] 0 (by simp) (by unfold maxLen;omega) rfl
  simpa [lkCells] using this
 obtain ⟨gf,hgf⟩:∃ gf:Int→Int,gf=fun o=>if o=e1 then e2 else epoch l o:=⟨_,rfl⟩
 have hre:refEp l (e1,e2)=told gf 0 64:=by rw [hgf];rfl
 have hgo:∀ o,gf o=if o=e1 then e2 else epoch l o:=fun o=>by rw [hgf]
 have HGO:=Lib.hid hgo;clear hgo hgf
 have HRE:=Lib.hid hre;clear hre
 have HP0:=Lib.hid hp0;clear hp0 hbx h
 go_enter Tryz.func114,Tryz.ntmps114
 go_wp2
 go_loopw [5,6] (fun v i wr=>∃ (k:Nat) (acc:List (Int × Int)),k≤64∧acc.length≤k∧i=.int .i64 ((k:Int)+1)∧Hid (acc++told gf k (64 - k)=told gf 0 64)∧Hid (EpAt w wr (e1,e2) v acc)) (fun _ i _=>65 - (intOf i).toNat)
 case atStart=>exact ⟨0,[],Nat.zero_le _,by simp,rfl,Lib.hid rfl,HP0⟩
 case round =>
  clear HP0
  obtain ⟨k,acc,hk,hal,rfl,HA,HP1⟩:=hrel
  obtain ⟨W,hW⟩:∃ W:World,W=wr:=⟨_,rfl⟩
  rw [← hW] at HP1 ⊢
  clear hW
  obtain ⟨Av,cv,rfl⟩:=HP1.out.form
  by_cases hlt:k<64
  ·have hd0:decide ((k:Int)+1≤64)=true:=by rw [decide_eq_true_iff];omega
   have ha:=HA.out
   rw [show 64 - k=(64 - (k+1))+1 by omega,told_step] at ha
   have hgk:=HGO.out ((k:Int)+1)
   clear HA
   by_cases q1:(k:Int)+1=e1
   ·have hq:((k:Int)+1 == e1)=true:=by simpa using q1
    rw [if_pos q1] at hgk
    by_cases q2:0<e2
    ·rw [pick_yes (by rw [hgk];exact q2),hgk] at ha
     have hq2:decide (0<e2)=true:=decide_eq_true q2
     have HA2:=Lib.hid (show (acc++[((k:Int)+1,e2)])++told gf ((k+1:Nat):Int) (64 - (k+1))=told gf 0 64 by rw [List.append_assoc];exact ha);clear ha hgk q1
     go_wp2_with (fail)
     refine (EP.out ((k:Int)+1) W HP1.out.low).mono ?_
     rintro e w3 ⟨rfl,nq,rfl⟩
     have HP3:=Lib.hid (HP1.out.drewN nq)
     have HO3:=Lib.hid HP3.out.row
     have HS3:=Lib.hid HP3.out.size
     obtain ⟨x0,x1,x2⟩:=blk_cells2 HP3.out.box
     generalize W.drewN nq=W3 at *
     go_wp2_with (at_builtin;(refine wpList_append_any _ rfl (.tmp 24) (.tmp 28) 41 rfl (w.heap.size+1) 118 i0 (.agg #[.int .i64 0,.int .i64 0]) 2 16 Tryz.underlying41 HI.out HZ0.out HZ1.out HZ2.out rfl (by decide) (.slice Av acc.length cv) acc.length (lkCells acc) rfl (own_below HO3.out (low1 (Below.refl _ _) _)) _ (some ⟨_,0,none⟩) 1 1 (lkCells [((k:Int)+1,e2)]) rfl (reads_ep _ _ _ _ rfl) (lkCells_one' _) (by unfold maxLen;omega) (by omega) (by have:=HS3.out;simp;omega) ?_;intro v4 w4 hown4 hg4 _;rewrite [← lkCells_app] at hown4;have HP4:=Lib.hid (epAt_push HP3.out hown4 hg4);clear hown4 hg4))
     go_roundw
     case rel=>exact ⟨k+1,acc++[((k:Int)+1,e2)],by omega,by simp;omega,by go_num,HA2,HP4⟩
     case measure=>simp [intOf];omega
    ·rw [pick_no (by rw [hgk];exact q2),List.nil_append] at ha
     have hq2:decide (0<e2)=false:=decide_eq_false q2
     have HA2:=Lib.hid (show acc++told gf ((k+1:Nat):Int) (64 - (k+1))=told gf 0 64 from ha);clear ha hgk q1
     go_wp2_with (fail)
     refine (EP.out ((k:Int)+1) W HP1.out.low).mono ?_
     rintro e w3 ⟨rfl,nq,rfl⟩
     have HP3:=Lib.hid (HP1.out.drewN nq)
     have HO3:=Lib.hid HP3.out.row
     have HS3:=Lib.hid HP3.out.size
     obtain ⟨x0,x1,x2⟩:=blk_cells2 HP3.out.box
     generalize W.drewN nq=W3 at *
     go_wp2
     go_roundw
     case rel=>exact ⟨k+1,acc,by omega,by omega,by go_num,HA2,HP3⟩
     case measure=>simp [intOf];omega
   ·have hq:((k:Int)+1 == e1)=false:=beq_false_of_ne q1
    rw [if_neg q1] at hgk
    obtain ⟨en,hen⟩:∃ en,en=epoch l ((k:Int)+1):=⟨_,rfl⟩
    rw [← hen] at hgk
    have HEN:=Lib.hid hen;clear hen
    by_cases q2:0<en
    ·rw [pick_yes (by rw [hgk];exact q2),hgk] at ha
     have hq2:decide (0<en)=true:=decide_eq_true q2
     have HA2:=Lib.hid (show (acc++[((k:Int)+1,en)])++told gf ((k+1:Nat):Int) (64 - (k+1))=told gf 0 64 by rw [List.append_assoc];exact ha);clear ha hgk q1
     go_wp2_with (fail)
     refine (EP.out ((k:Int)+1) W HP1.out.low).mono ?_
     rintro e w3 ⟨rfl,nq,rfl⟩
     rewrite [← HEN.out]
     have HP3:=Lib.hid (HP1.out.drewN nq)
     have HO3:=Lib.hid HP3.out.row
     have HS3:=Lib.hid HP3.out.size
     obtain ⟨x0,x1,x2⟩:=blk_cells2 HP3.out.box
     generalize W.drewN nq=W3 at *
     go_wp2_with (at_builtin;(refine wpList_append_any _ rfl (.tmp 24) (.tmp 28) 41 rfl (w.heap.size+1) 118 i0 (.agg #[.int .i64 0,.int .i64 0]) 2 16 Tryz.underlying41 HI.out HZ0.out HZ1.out HZ2.out rfl (by decide) (.slice Av acc.length cv) acc.length (lkCells acc) rfl (own_below HO3.out (low1 (Below.refl _ _) _)) _ (some ⟨_,0,none⟩) 1 1 (lkCells [((k:Int)+1,en)]) rfl (reads_ep _ _ _ _ rfl) (lkCells_one' _) (by unfold maxLen;omega) (by omega) (by have:=HS3.out;simp;omega) ?_;intro v4 w4 hown4 hg4 _;rewrite [← lkCells_app] at hown4;have HP4:=Lib.hid (epAt_push HP3.out hown4 hg4);clear hown4 hg4))
     go_roundw
     case rel=>exact ⟨k+1,acc++[((k:Int)+1,en)],by omega,by simp;omega,by go_num,HA2,HP4⟩
     case measure=>simp [intOf];omega
    ·rw [pick_no (by rw [hgk];exact q2),List.nil_append] at ha
     have hq2:decide (0<en)=false:=decide_eq_false q2
     have HA2:=Lib.hid (show acc++told gf ((k+1:Nat):Int) (64 - (k+1))=told gf 0 64 from ha);clear ha hgk q1
     go_wp2_with (fail)
     refine (EP.out ((k:Int)+1) W HP1.out.low).mono ?_
     rintro e w3 ⟨rfl,nq,rfl⟩
     rewrite [← HEN.out]
     have HP3:=Lib.hid (HP1.out.drewN nq)
     have HO3:=Lib.hid HP3.out.row
     have HS3:=Lib.hid HP3.out.size
     obtain ⟨x0,x1,x2⟩:=blk_cells2 HP3.out.box
     generalize W.drewN nq=W3 at *
     go_wp2
     go_roundw
     case rel=>exact ⟨k+1,acc,by omega,by omega,by go_num,HA2,HP3⟩
     case measure=>simp [intOf];omega
  ·obtain rfl:k=64:=by omega
   have ha:=HA.out
   have ha2:acc++[]=told gf 0 64:=ha
   rw [List.append_nil] at ha2
   have hfin:P1 (.returned (.slice Av acc.length cv)) W:=by
    rw [HPP.out]
    exact ⟨_,rfl,by rw [HRE.out,← ha2];exact HP1.out.row,HP1.out.low⟩
   have FIN:=Lib.hid hfin;clear hfin ha ha2 HA
   go_wp2
   exact FIN.out
end Go.Proofs.YtplpmemlaohlaaaGreat.Bas
namespace Go.Proofs.YtplpmemlaohlaaaGreat.Bas
open Go.RowKit Mem Oct Lsa Chg
set_option linter.unusedVariables false
set_option linter.unusedSimpArgs false
def RDoOut (w:World) (B0:Nat) (s:Sta) (c:Ch) (e:Ending) (w':World):Prop :=
 ∃ dv ev,e=.returned (.tuple #[stV ((doS s c).getD s) dv ev,.bool (doS s c).isSome])∧SafeL w' B0 dv ((doS s c).getD s).db∧SafeE w' B0 ev ((doS s c).getD s).ep∧Below w.heap.size w w'
theorem box3 (w:World) (a b c:Array Value) (t t' t'':TypeId):Blk (((w.alloc (.cells a t)).alloc (.cells b t')).alloc (.cells c t'')) w.heap.size t a∧Blk (((w.alloc (.cells a t)).alloc (.cells b t')).alloc (.cells c t'')) (w.heap.size+1) t' b∧Blk (((w.alloc (.cells a t)).alloc (.cells b t')).alloc (.cells c t'')) (w.heap.size+2) t'' c∧Below w.heap.size w (((w.alloc (.cells a t)).alloc (.cells b t')).alloc (.cells c t''))∧w.heap.size+2<(((w.alloc (.cells a t)).alloc (.cells b t')).alloc (.cells c t'')).heap.size:=by
 refine ⟨((Blk.new w t a).alloc _).alloc _,(blk_second w (.cells a t) t' b).alloc _,?_,low1 (low2 w _ _) _,by simp⟩
 have:=Blk.new ((w.alloc (.cells a t)).alloc (.cells b t')) t'' c
 simpa using this
set_option maxRecDepth 100000 in
set_option maxHeartbeats 8000000 in
theorem rdo_upto (s:Sta) (o q n f:Int) (ls:List Lk) (dv ev u:Value) (B0:Nat) (w:World) (hB0:B0≤w.heap.size) (h1:SafeL w B0 dv s.db) (h2:SafeE w B0 ev s.ep) (h3:LkS w B0 u ls) :
  Calls Tryz.prog 60 #[stV s dv ev,chV ⟨2,o,q,ls,n,f⟩ u] w (RDoOut w B0 s ⟨2,o,q,ls,n,f⟩):=by
 obtain ⟨db,up,bo,ep⟩:=s
 obtain ⟨A1,n1,c1,rfl⟩:=h1.form
 obtain ⟨A2,n2,c2,rfl⟩:=h2.form
 obtain ⟨A3,n3,c3,rfl,hq_⟩:=id h3
 clear hq_
 simp only [stV,chV] at *
 obtain ⟨k0,k1,k2,hb,hsz⟩:=box3 w #[.slice A1 n1 c1,.int .i64 up,.int .i64 bo,.slice A2 n2 c2] #[.int .i64 2,.int .i64 o,.int .i64 q,.slice A3 n3 c3,.int .i64 n,.int .i64 f] #[.slice none 0 0,.int .i64 0,.int .i64 0,.slice none 0 0] 43 82 43
 have hd1:=h1.up hB0 hb
 have he1:=h2.up hb
 have hl1:LkS _ B0 (.slice A3 n3 c3) ls:=h3.below hb hB0
 obtain ⟨P1,hP1⟩:∃ P1,P1=RDoOut w B0 ⟨db,up,bo,ep⟩ ⟨2,o,q,ls,n,f⟩:=⟨_,rfl⟩
 rw [← hP1]
 have hfin:∀ (W:World) (t:Sta) (d e:Value) (b:Bool),Below w.heap.size w W→SafeL W B0 d t.db→SafeE W B0 e t.ep→Blk W (w.heap.size+2) 43 #[.slice none 0 0,.int .i64 0,.int .i64 0,.slice none 0 0]→(doS ⟨db,up,bo,ep⟩ ⟨2,o,q,ls,n,f⟩).getD ⟨db,up,bo,ep⟩=t→(doS ⟨db,up,bo,ep⟩ ⟨2,o,q,ls,n,f⟩).isSome=b→P1 (.returned (.tuple #[stV t d e,.bool b])) (upd4 W (w.heap.size+2) d (.int .i64 t.up) (.int .i64 t.bo) e):=by
  intro W t d e b hW hd he hk ht hb
  rw [hP1]
  unfold RDoOut
  rw [ht,hb]
  exact ⟨_,_,rfl,hd.blk (by have:=hW.size;omega) hk (by decide) (by omega) (upd4_grown _ _ _ _ _ _),he.blk hk (by decide) (by omega) (upd4_grown _ _ _ _ _ _),hW.grown (upd4_grown _ _ _ _ _ _) hW.size (fun q hq=>by cases hq;omega)⟩
 have FIN:=Lib.hid hfin;clear hfin hP1
 obtain ⟨x0,x1,x2,x3,x4⟩:=blk_cells4 k0
 obtain ⟨y0,y1,y2,y3,y4,y5,y6⟩:=blk_cells6 k1
 obtain ⟨z0,z1,z2,z3,z4⟩:=blk_cells4 k2
 obtain ⟨f0,f1,f2,f3⟩:=blk_fz4 k0
 obtain ⟨g0,g1,g2,g3⟩:=blk_fz4 k2
 have HB:=Lib.hid hb;clear hb
 have K0:=Lib.hid k0;clear k0
 have K1:=Lib.hid k1;clear k1
 have K2:=Lib.hid k2;clear k2
 have HD:=Lib.hid hd1;clear hd1 h1
 have HE:=Lib.hid he1;clear he1 h2
 have HLK:=Lib.hid hl1;clear hl1 h3
 have HSZ:=Lib.hid hsz;clear hsz
 by_cases hc:n≤up
 ·have e:doS ⟨db,up,bo,ep⟩ ⟨2,o,q,ls,n,f⟩=none:=by rw [doS_2,if_pos hc]
  have hdd:decide (n≤up)=true:=decide_eq_true hc
  have HF:=Lib.hid (FIN.out _ ⟨db,up,bo,ep⟩ _ _ false HB.out HD.out HE.out K2.out (by rw [e];rfl) (by rw [e];rfl))
  clear e FIN
  go_enter Tryz.func60,Tryz.ntmps60
  go_upto_region 1 with fail
  generalize (((w.alloc (.cells #[.slice A1 n1 c1,.int .i64 up,.int .i64 bo,.slice A2 n2 c2] 43)).alloc (.cells #[.int .i64 2,.int .i64 o,.int .i64 q,.slice A3 n3 c3,.int .i64 n,.int .i64 f] 82)).alloc (.cells #[.slice none 0 0,.int .i64 0,.int .i64 0,.slice none 0 0] 43))=W1 at *
  go_wp2
  refine bodyPost_ret (v:=.tuple #[stV ⟨db,up,bo,ep⟩ (.slice A1 n1 c1) (.slice A2 n2 c2),.bool false]) ?_ rfl HF.out
  simp [results,Tryz.results60,go_sem,z0,z1,z2,z3]
 ·have e:doS ⟨db,up,bo,ep⟩ ⟨2,o,q,ls,n,f⟩=some ⟨db,n,bo,ep⟩:=by rw [doS_2,if_neg hc]
  have hdd:decide (n≤up)=false:=decide_eq_false hc
  have hd2:=HD.out.blk (by have:=HSZ.out;omega) K0.out (by decide) (by omega) (grown_set _ ⟨w.heap.size,1,none⟩ (.int .i64 n))
  have he2:=HE.out.blk K0.out (by decide) (by omega) (grown_set _ ⟨w.heap.size,1,none⟩ (.int .i64 n))
  have k3:=K2.out.far (p:=⟨w.heap.size,1,none⟩) (by show w.heap.size+2≠w.heap.size;omega) (.int .i64 n)
  have HF:=Lib.hid (FIN.out _ ⟨db,n,bo,ep⟩ _ _ true (below_set HB.out (Nat.le_refl _)) hd2 he2 k3 (by rw [e];rfl) (by rw [e];rfl))
  clear e hd2 he2 k3 FIN
  go_enter Tryz.func60,Tryz.ntmps60
  go_upto_region 1 with fail
  generalize (((w.alloc (.cells #[.slice A1 n1 c1,.int .i64 up,.int .i64 bo,.slice A2 n2 c2] 43)).alloc (.cells #[.int .i64 2,.int .i64 o,.int .i64 q,.slice A3 n3 c3,.int .i64 n,.int .i64 f] 82)).alloc (.cells #[.slice none 0 0,.int .i64 0,.int .i64 0,.slice none 0 0] 43))=W1 at *
  go_wp2
  refine bodyPost_ret (v:=.tuple #[stV ⟨db,n,bo,ep⟩ (.slice A1 n1 c1) (.slice A2 n2 c2),.bool true]) ?_ rfl HF.out
  simp [results,Tryz.results60,go_sem,z0,z1,z2,z3]
set_option maxRecDepth 100000 in
set_option maxHeartbeats 8000000 in
theorem rdo_boot (s:Sta) (o q n f:Int) (ls:List Lk) (dv ev u:Value) (B0:Nat) (w:World) (hB0:B0≤w.heap.size) (h1:SafeL w B0 dv s.db) (h2:SafeE w B0 ev s.ep) (h3:LkS w B0 u ls) :
  Calls Tryz.prog 60 #[stV s dv ev,chV ⟨3,o,q,ls,n,f⟩ u] w (RDoOut w B0 s ⟨3,o,q,ls,n,f⟩):=by
 obtain ⟨db,up,bo,ep⟩:=s
 obtain ⟨A1,n1,c1,rfl⟩:=h1.form
 obtain ⟨A2,n2,c2,rfl⟩:=h2.form
 obtain ⟨A3,n3,c3,rfl,hq_⟩:=id h3
 clear hq_
 simp only [stV,chV] at *
 obtain ⟨k0,k1,k2,hb,hsz⟩:=box3 w #[.slice A1 n1 c1,.int .i64 up,.int .i64 bo,.slice A2 n2 c2] #[.int .i64 3,.int .i64 o,.int .i64 q,.slice A3 n3 c3,.int .i64 n,.int .i64 f] #[.slice none 0 0,.int .i64 0,.int .i64 0,.slice none 0 0] 43 82 43
 have hd1:=h1.up hB0 hb
 have he1:=h2.up hb
 have hl1:LkS _ B0 (.slice A3 n3 c3) ls:=h3.below hb hB0
 obtain ⟨P1,hP1⟩:∃ P1,P1=RDoOut w B0 ⟨db,up,bo,ep⟩ ⟨3,o,q,ls,n,f⟩:=⟨_,rfl⟩
 rw [← hP1]
 have hfin:∀ (W:World) (t:Sta) (d e:Value) (b:Bool),Below w.heap.size w W→SafeL W B0 d t.db→SafeE W B0 e t.ep→Blk W (w.heap.size+2) 43 #[.slice none 0 0,.int .i64 0,.int .i64 0,.slice none 0 0]→(doS ⟨db,up,bo,ep⟩ ⟨3,o,q,ls,n,f⟩).getD ⟨db,up,bo,ep⟩=t→(doS ⟨db,up,bo,ep⟩ ⟨3,o,q,ls,n,f⟩).isSome=b→P1 (.returned (.tuple #[stV t d e,.bool b])) (upd4 W (w.heap.size+2) d (.int .i64 t.up) (.int .i64 t.bo) e):=by
  intro W t d e b hW hd he hk ht hb
  rw [hP1]
  unfold RDoOut
  rw [ht,hb]
  exact ⟨_,_,rfl,hd.blk (by have:=hW.size;omega) hk (by decide) (by omega) (upd4_grown _ _ _ _ _ _),he.blk hk (by decide) (by omega) (upd4_grown _ _ _ _ _ _),hW.grown (upd4_grown _ _ _ _ _ _) hW.size (fun q hq=>by cases hq;omega)⟩
 have FIN:=Lib.hid hfin;clear hfin hP1
 obtain ⟨x0,x1,x2,x3,x4⟩:=blk_cells4 k0
 obtain ⟨y0,y1,y2,y3,y4,y5,y6⟩:=blk_cells6 k1
 obtain ⟨z0,z1,z2,z3,z4⟩:=blk_cells4 k2
 obtain ⟨f0,f1,f2,f3⟩:=blk_fz4 k0
 obtain ⟨g0,g1,g2,g3⟩:=blk_fz4 k2
 have HB:=Lib.hid hb;clear hb
 have K0:=Lib.hid k0;clear k0
 have K1:=Lib.hid k1;clear k1
 have K2:=Lib.hid k2;clear k2
 have HD:=Lib.hid hd1;clear hd1 h1
 have HE:=Lib.hid he1;clear he1 h2
 have HLK:=Lib.hid hl1;clear hl1 h3
 have HSZ:=Lib.hid hsz;clear hsz
 by_cases hc:n≤bo
 ·have e:doS ⟨db,up,bo,ep⟩ ⟨3,o,q,ls,n,f⟩=none:=by rw [doS_3,if_pos hc]
  have hdd:decide (n≤bo)=true:=decide_eq_true hc
  have HF:=Lib.hid (FIN.out _ ⟨db,up,bo,ep⟩ _ _ false HB.out HD.out HE.out K2.out (by rw [e];rfl) (by rw [e];rfl))
  clear e FIN
  go_enter Tryz.func60,Tryz.ntmps60
  go_upto_region 1 with fail
  generalize (((w.alloc (.cells #[.slice A1 n1 c1,.int .i64 up,.int .i64 bo,.slice A2 n2 c2] 43)).alloc (.cells #[.int .i64 3,.int .i64 o,.int .i64 q,.slice A3 n3 c3,.int .i64 n,.int .i64 f] 82)).alloc (.cells #[.slice none 0 0,.int .i64 0,.int .i64 0,.slice none 0 0] 43))=W1 at *
  go_wp2
  refine bodyPost_ret (v:=.tuple #[stV ⟨db,up,bo,ep⟩ (.slice A1 n1 c1) (.slice A2 n2 c2),.bool false]) ?_ rfl HF.out
  simp [results,Tryz.results60,go_sem,z0,z1,z2,z3]
 ·have e:doS ⟨db,up,bo,ep⟩ ⟨3,o,q,ls,n,f⟩=some ⟨db,up,n,ep⟩:=by rw [doS_3,if_neg hc]
  have hdd:decide (n≤bo)=false:=decide_eq_false hc
  have hd2:=HD.out.blk (by have:=HSZ.out;omega) K0.out (by decide) (by omega) (grown_set _ ⟨w.heap.size,2,none⟩ (.int .i64 n))
  have he2:=HE.out.blk K0.out (by decide) (by omega) (grown_set _ ⟨w.heap.size,2,none⟩ (.int .i64 n))
  have k3:=K2.out.far (p:=⟨w.heap.size,2,none⟩) (by show w.heap.size+2≠w.heap.size;omega) (.int .i64 n)
  have HF:=Lib.hid (FIN.out _ ⟨db,up,n,ep⟩ _ _ true (below_set HB.out (Nat.le_refl _)) hd2 he2 k3 (by rw [e];rfl) (by rw [e];rfl))
  clear e hd2 he2 k3 FIN
  go_enter Tryz.func60,Tryz.ntmps60
  go_upto_region 1 with fail
  generalize (((w.alloc (.cells #[.slice A1 n1 c1,.int .i64 up,.int .i64 bo,.slice A2 n2 c2] 43)).alloc (.cells #[.int .i64 3,.int .i64 o,.int .i64 q,.slice A3 n3 c3,.int .i64 n,.int .i64 f] 82)).alloc (.cells #[.slice none 0 0,.int .i64 0,.int .i64 0,.slice none 0 0] 43))=W1 at *
  go_wp2
  refine bodyPost_ret (v:=.tuple #[stV ⟨db,up,n,ep⟩ (.slice A1 n1 c1) (.slice A2 n2 c2),.bool true]) ?_ rfl HF.out
  simp [results,Tryz.results60,go_sem,z0,z1,z2,z3]
set_option maxRecDepth 100000 in
set_option maxHeartbeats 8000000 in
theorem rdo_lsa (s:Sta) (o q n f:Int) (ls:List Lk) (dv ev u:Value) (B0:Nat) (w:World) (hB0:B0≤w.heap.size) (h1:SafeL w B0 dv s.db) (h2:SafeE w B0 ev s.ep) (h3:LkS w B0 u ls) (hn:s.db.length≤1000) (hdb:dbOk 0 s.db=true) :
  Calls Tryz.prog 60 #[stV s dv ev,chV ⟨1,o,q,ls,n,f⟩ u] w (RDoOut w B0 s ⟨1,o,q,ls,n,f⟩):=by
 obtain ⟨db,up,bo,ep⟩:=s
 obtain ⟨A1,n1,c1,rfl⟩:=h1.form
 obtain ⟨A2,n2,c2,rfl⟩:=h2.form
 obtain ⟨A3,n3,c3,rfl,hq_⟩:=id h3
 clear hq_
 simp only [stV,chV] at *
 obtain ⟨k0,k1,k2,hb,hsz⟩:=box3 w #[.slice A1 n1 c1,.int .i64 up,.int .i64 bo,.slice A2 n2 c2] #[.int .i64 1,.int .i64 o,.int .i64 q,.slice A3 n3 c3,.int .i64 n,.int .i64 f] #[.slice none 0 0,.int .i64 0,.int .i64 0,.slice none 0 0] 43 82 43
 have hd1:=h1.up hB0 hb
 have he1:=h2.up hb
 have hl1:LkS _ B0 (.slice A3 n3 c3) ls:=h3.below hb hB0
 obtain ⟨P1,hP1⟩:∃ P1,P1=RDoOut w B0 ⟨db,up,bo,ep⟩ ⟨1,o,q,ls,n,f⟩:=⟨_,rfl⟩
 rw [← hP1]
 have hfin:∀ (W:World) (t:Sta) (d e:Value) (b:Bool),Below w.heap.size w W→SafeL W B0 d t.db→SafeE W B0 e t.ep→Blk W (w.heap.size+2) 43 #[.slice none 0 0,.int .i64 0,.int .i64 0,.slice none 0 0]→(doS ⟨db,up,bo,ep⟩ ⟨1,o,q,ls,n,f⟩).getD ⟨db,up,bo,ep⟩=t→(doS ⟨db,up,bo,ep⟩ ⟨1,o,q,ls,n,f⟩).isSome=b→P1 (.returned (.tuple #[stV t d e,.bool b])) (upd4 W (w.heap.size+2) d (.int .i64 t.up) (.int .i64 t.bo) e):=by
  intro W t d e b hW hd he hk ht hb
  rw [hP1]
  unfold RDoOut
  rw [ht,hb]
  exact ⟨_,_,rfl,hd.blk (by have:=hW.size;omega) hk (by decide) (by omega) (upd4_grown _ _ _ _ _ _),he.blk hk (by decide) (by omega) (upd4_grown _ _ _ _ _ _),hW.grown (upd4_grown _ _ _ _ _ _) hW.size (fun q hq=>by cases hq;omega)⟩
 have FIN:=Lib.hid hfin;clear hfin hP1
 obtain ⟨x0,x1,x2,x3,x4⟩:=blk_cells4 k0
 obtain ⟨y0,y1,y2,y3,y4,y5,y6⟩:=blk_cells6 k1
 obtain ⟨z0,z1,z2,z3,z4⟩:=blk_cells4 k2
 obtain ⟨f0,f1,f2,f3⟩:=blk_fz4 k0
 obtain ⟨g0,g1,g2,g3⟩:=blk_fz4 k2
 have HB:=Lib.hid hb;clear hb
 have K0:=Lib.hid k0;clear k0
 have K1:=Lib.hid k1;clear k1
 have K2:=Lib.hid k2;clear k2
 have HD:=Lib.hid hd1;clear hd1 h1
 have HE:=Lib.hid he1;clear he1 h2
 have HLK:=Lib.hid hl1;clear hl1 h3
 have HSZ:=Lib.hid hsz;clear hsz
 have hl1:=(safeL_len HD.out).1
 have SQ:=Lib.hid (rseq_any A1 n1 c1 _ db o ((((w.alloc (.cells #[.slice A1 n1 c1,.int .i64 up,.int .i64 bo,.slice A2 n2 c2] 43)).alloc (.cells #[.int .i64 1,.int .i64 o,.int .i64 q,.slice A3 n3 c3,.int .i64 n,.int .i64 f] 82)).alloc (.cells #[.slice none 0 0,.int .i64 0,.int .i64 0,.slice none 0 0] 43))).drew (HD.out.las (by have:=HSZ.out;omega)))
 have HDB:=Lib.hid hdb;clear hdb
 have hn1:n1≤1000:=by omega
 have PT:=Lib.hid (fun (W:World) (hW:B0≤W.heap.size) (hd:SafeL W B0 (.slice A1 n1 c1) db) (hk:LkS W B0 (.slice A3 n3 c3) ls)=>rput_db A1 n1 c1 db ⟨o,q,ls⟩ (.slice A3 n3 c3) W B0 hW hd hn1 hk)
 have hrp:refPut ⟨o,q,ls⟩ false db=putOf db ⟨o,q,ls⟩:=refPut_eq HDB.out
 have HRP:=Lib.hid hrp;clear hrp hl1
 by_cases hc:q≤seqOf db o
 ·have e:doS ⟨db,up,bo,ep⟩ ⟨1,o,q,ls,n,f⟩=none:=by rw [doS_1,if_pos hc]
  have hdd:decide (q≤seqOf db o)=true:=decide_eq_true hc
  have HE0:=Lib.hid e;clear e
  go_enter Tryz.func60,Tryz.ntmps60
  go_upto_region 1 with fail
  generalize (((w.alloc (.cells #[.slice A1 n1 c1,.int .i64 up,.int .i64 bo,.slice A2 n2 c2] 43)).alloc (.cells #[.int .i64 1,.int .i64 o,.int .i64 q,.slice A3 n3 c3,.int .i64 n,.int .i64 f] 82)).alloc (.cells #[.slice none 0 0,.int .i64 0,.int .i64 0,.slice none 0 0] 43))=W1 at *
  go_wp2_with (fail)
  refine wp_region_held_drew (S:=fun W=>W.cell? ⟨w.heap.size,0,none⟩=some (.slice A1 n1 c1)∧W.cell? ⟨w.heap.size+1,1,none⟩=some (.int .i64 o)∧W.cell? ⟨w.heap.size+1,2,none⟩=some (.int .i64 q)) (by kernel_rfl) ?_ (fun hHeld=>?_)
  ·exact ⟨x0,y1,y2⟩
  refine wpAnyH_take (i:=0) (oi:=⟨some 10,_,_,_,_,_⟩) (v:=?_) rfl (by kernel_rfl) (by kernel_rfl) (by kernel_rfl) (fun _ _ _ h=>h) (Or.inl ⟨by rfl,?_⟩) (by assumption) ?_
  rotate_left
  ·(intro w hSw;(try dsimp only at hSw);go_simp;try with_reducible rfl)
  try simp only [Act.put,List.setIfInBounds_toArray,List.set_cons_zero,List.set_cons_succ]
  refine wpAnyH_take (i:=1) (oi:=⟨some 11,_,_,_,_,_⟩) (v:=?_) rfl (by kernel_rfl) (by kernel_rfl) (by kernel_rfl) (fun _ _ _ h=>h) (Or.inl ⟨by rfl,?_⟩) (by assumption) ?_
  rotate_left
  ·(intro w hSw;(try dsimp only at hSw);go_simp;try with_reducible rfl)
  try simp only [Act.put,List.setIfInBounds_toArray,List.set_cons_zero,List.set_cons_succ]
  refine wpAnyH_take (i:=2) (oi:=⟨some 12,_,_,_,_,_⟩) (v:=?_) rfl (by kernel_rfl) (by kernel_rfl) (by kernel_rfl) (fun _ _ _ h=>h) (Or.inl ⟨by rfl,?_⟩) (by assumption) ?_
  rotate_left
  ·(intro w hSw;(try dsimp only at hSw);go_simp;try with_reducible rfl)
  try simp only [Act.put,List.setIfInBounds_toArray,List.set_cons_zero,List.set_cons_succ]
  refine wpAnyH_take (i:=3) (oi:=⟨some 13,_,_,_,_,_⟩) (v:=?_) rfl (by kernel_rfl) (by kernel_rfl) (by kernel_rfl) (fun _ _ _ h=>h) (Or.inl ⟨by rfl,?_⟩) (by assumption) ?_
  rotate_left
  ·(intro w hSw;(try dsimp only at hSw);go_simp;try with_reducible rfl)
  try simp only [Act.put,List.setIfInBounds_toArray,List.set_cons_zero,List.set_cons_succ]
  refine wpAnyH_take (i:=4) (oi:=⟨some 14,_,_,_,_,_⟩) (v:=?_) rfl (by kernel_rfl) (by kernel_rfl) (by kernel_rfl) (fun _ _ _ h=>h) (Or.inl ⟨by rfl,?_⟩) (by assumption) ?_
  rotate_left
  ·(intro w hSw;(try dsimp only at hSw);go_simp;try with_reducible rfl)
  try simp only [Act.put,List.setIfInBounds_toArray,List.set_cons_zero,List.set_cons_succ]
  refine wpAnyH_take (i:=6) (oi:=⟨some 16,_,_,_,_,_⟩) (v:=?_) rfl (by kernel_rfl) (by kernel_rfl) (by kernel_rfl) (fun _ _ _ h=>h) (Or.inl ⟨by rfl,?_⟩) (by assumption) ?_
  rotate_left
  ·(intro w hSw;(try dsimp only at hSw);go_simp;try with_reducible rfl)
  try simp only [Act.put,List.setIfInBounds_toArray,List.set_cons_zero,List.set_cons_succ]
  refine wpAnyH_take (i:=7) (oi:=⟨some 17,_,_,_,_,_⟩) (v:=?_) rfl (by kernel_rfl) (by kernel_rfl) (by kernel_rfl) (fun _ _ _ h=>h) (Or.inl ⟨by rfl,?_⟩) (by assumption) ?_
  rotate_left
  ·(intro w hSw;(try dsimp only at hSw);go_simp;try with_reducible rfl)
  try simp only [Act.put,List.setIfInBounds_toArray,List.set_cons_zero,List.set_cons_succ]
  refine wpAnyH_take (i:=8) (oi:=⟨some 18,_,_,_,_,_⟩) (v:=?_) rfl (by kernel_rfl) (by kernel_rfl) (by kernel_rfl) (fun _ _ _ h=>h) (Or.inl ⟨by rfl,?_⟩) (by assumption) ?_
  rotate_left
  ·(intro w hSw;(try dsimp only at hSw);go_simp;try with_reducible rfl)
  try simp only [Act.put,List.setIfInBounds_toArray,List.set_cons_zero,List.set_cons_succ]
  refine wpAnyH_ready (rs:=[5]) (by kernel_rfl) (by simp) (AllReadyH.cons (o:=⟨some 15,_,_,_,_,_⟩) rfl (fun K hK=>?_) AllReadyH.nil)
  go_simp
  (go_at_call 112;refine (SQ.out).mono ?_;rintro e w3 ⟨rfl,m3,hw3⟩;have HB3:Hid (Below w.heap.size w w3):=Lib.hid (by rw [hw3];exact below_drewN HB.out.drew m3);have K03:Hid (Blk w3 w.heap.size 43 #[.slice A1 n1 c1,.int .i64 up,.int .i64 bo,.slice A2 n2 c2]):=Lib.hid (by rw [hw3];exact K0.out);have K13:Hid (Blk w3 (w.heap.size+1) 82 (#[.int .i64 1,.int .i64 o,.int .i64 q,.slice A3 n3 c3,.int .i64 n,.int .i64 f])):=Lib.hid (by rw [hw3];exact K1.out);have K23:Hid (Blk w3 (w.heap.size+2) 43 #[.slice none 0 0,.int .i64 0,.int .i64 0,.slice none 0 0]):=Lib.hid (by rw [hw3];exact K2.out);have HD3:Hid (SafeL w3 B0 (.slice A1 n1 c1) db):=Lib.hid (by rw [hw3];exact HD.out);have HE3:Hid (SafeE w3 B0 (.slice A2 n2 c2) ep):=Lib.hid (by rw [hw3];exact HE.out);have HLK3:Hid (LkS w3 B0 (.slice A3 n3 c3) ls):=Lib.hid (by rw [hw3];exact HLK.out);have HSZ3:Hid (w.heap.size+2<w3.heap.size):=Lib.hid (by rw [hw3];exact HSZ.out);clear hw3 x0 x1 x2 x3 x4 y0 y1 y2 y3 y4 y5 y6 z0 z1 z2 z3 z4 f0 f1 f2 f3 g0 g1 g2 g3;obtain ⟨x0,x1,x2,x3,x4⟩:=blk_cells4 K03.out;obtain ⟨y0,y1,y2,y3,y4,y5,y6⟩:=blk_cells6 K13.out;obtain ⟨z0,z1,z2,z3,z4⟩:=blk_cells4 K23.out;obtain ⟨f0,f1,f2,f3⟩:=blk_fz4 K03.out;obtain ⟨g0,g1,g2,g3⟩:=blk_fz4 K23.out)
  refine hK.out _ _ ?_ (fun hHeld=>?_)
  ·exact ⟨x0,y1,y2⟩
  clear hK K
  try simp only [Act.put,List.setIfInBounds_toArray,List.set_cons_zero,List.set_cons_succ]
  refine wpAnyH_take (i:=9) (oi:=⟨some 19,_,_,_,_,_⟩) (v:=?_) rfl (by kernel_rfl) (by kernel_rfl) (by kernel_rfl) (fun _ _ _ h=>h) (Or.inl ⟨by rfl,?_⟩) (by assumption) ?_
  rotate_left
  ·(intro w hSw;(try dsimp only at hSw);go_simp;try with_reducible rfl)
  try simp only [Act.put,List.setIfInBounds_toArray,List.set_cons_zero,List.set_cons_succ]
  refine wpAnyH_done (by kernel_rfl) ?_ _
  have HF:=Lib.hid (FIN.out _ ⟨db,up,bo,ep⟩ _ _ false HB3.out HD3.out HE3.out K23.out (by rw [HE0.out];rfl) (by rw [HE0.out];rfl))
  go_wp2
  refine bodyPost_ret (v:=.tuple #[stV ⟨db,up,bo,ep⟩ (.slice A1 n1 c1) (.slice A2 n2 c2),.bool false]) ?_ rfl HF.out
  simp [results,Tryz.results60,go_sem,z0,z1,z2,z3]
 ·have e:doS ⟨db,up,bo,ep⟩ ⟨1,o,q,ls,n,f⟩=some ⟨putOf db ⟨o,q,ls⟩,up,bo,ep⟩:=by rw [doS_1,if_neg hc]
  have hdd:decide (q≤seqOf db o)=false:=decide_eq_false hc
  have HE0:=Lib.hid e;clear e
  go_enter Tryz.func60,Tryz.ntmps60
  go_upto_region 1 with fail
  generalize (((w.alloc (.cells #[.slice A1 n1 c1,.int .i64 up,.int .i64 bo,.slice A2 n2 c2] 43)).alloc (.cells #[.int .i64 1,.int .i64 o,.int .i64 q,.slice A3 n3 c3,.int .i64 n,.int .i64 f] 82)).alloc (.cells #[.slice none 0 0,.int .i64 0,.int .i64 0,.slice none 0 0] 43))=W1 at *
  go_wp2_with (fail)
  refine wp_region_held_drew (S:=fun W=>W.cell? ⟨w.heap.size,0,none⟩=some (.slice A1 n1 c1)∧W.cell? ⟨w.heap.size+1,1,none⟩=some (.int .i64 o)∧W.cell? ⟨w.heap.size+1,2,none⟩=some (.int .i64 q)) (by kernel_rfl) ?_ (fun hHeld=>?_)
  ·exact ⟨x0,y1,y2⟩
  refine wpAnyH_take (i:=0) (oi:=⟨some 10,_,_,_,_,_⟩) (v:=?_) rfl (by kernel_rfl) (by kernel_rfl) (by kernel_rfl) (fun _ _ _ h=>h) (Or.inl ⟨by rfl,?_⟩) (by assumption) ?_
  rotate_left
  ·(intro w hSw;(try dsimp only at hSw);go_simp;try with_reducible rfl)
  try simp only [Act.put,List.setIfInBounds_toArray,List.set_cons_zero,List.set_cons_succ]
  refine wpAnyH_take (i:=1) (oi:=⟨some 11,_,_,_,_,_⟩) (v:=?_) rfl (by kernel_rfl) (by kernel_rfl) (by kernel_rfl) (fun _ _ _ h=>h) (Or.inl ⟨by rfl,?_⟩) (by assumption) ?_
  rotate_left
  ·(intro w hSw;(try dsimp only at hSw);go_simp;try with_reducible rfl)
  try simp only [Act.put,List.setIfInBounds_toArray,List.set_cons_zero,List.set_cons_succ]
  refine wpAnyH_take (i:=2) (oi:=⟨some 12,_,_,_,_,_⟩) (v:=?_) rfl (by kernel_rfl) (by kernel_rfl) (by kernel_rfl) (fun _ _ _ h=>h) (Or.inl ⟨by rfl,?_⟩) (by assumption) ?_
  rotate_left
  ·(intro w hSw;(try dsimp only at hSw);go_simp;try with_reducible rfl)
  try simp only [Act.put,List.setIfInBounds_toArray,List.set_cons_zero,List.set_cons_succ]
  refine wpAnyH_take (i:=3) (oi:=⟨some 13,_,_,_,_,_⟩) (v:=?_) rfl (by kernel_rfl) (by kernel_rfl) (by kernel_rfl) (fun _ _ _ h=>h) (Or.inl ⟨by rfl,?_⟩) (by assumption) ?_
  rotate_left
  ·(intro w hSw;(try dsimp only at hSw);go_simp;try with_reducible rfl)
  try simp only [Act.put,List.setIfInBounds_toArray,List.set_cons_zero,List.set_cons_succ]
  refine wpAnyH_take (i:=4) (oi:=⟨some 14,_,_,_,_,_⟩) (v:=?_) rfl (by kernel_rfl) (by kernel_rfl) (by kernel_rfl) (fun _ _ _ h=>h) (Or.inl ⟨by rfl,?_⟩) (by assumption) ?_
  rotate_left
  ·(intro w hSw;(try dsimp only at hSw);go_simp;try with_reducible rfl)
  try simp only [Act.put,List.setIfInBounds_toArray,List.set_cons_zero,List.set_cons_succ]
  refine wpAnyH_take (i:=6) (oi:=⟨some 16,_,_,_,_,_⟩) (v:=?_) rfl (by kernel_rfl) (by kernel_rfl) (by kernel_rfl) (fun _ _ _ h=>h) (Or.inl ⟨by rfl,?_⟩) (by assumption) ?_
  rotate_left
  ·(intro w hSw;(try dsimp only at hSw);go_simp;try with_reducible rfl)
  try simp only [Act.put,List.setIfInBounds_toArray,List.set_cons_zero,List.set_cons_succ]
  refine wpAnyH_take (i:=7) (oi:=⟨some 17,_,_,_,_,_⟩) (v:=?_) rfl (by kernel_rfl) (by kernel_rfl) (by kernel_rfl) (fun _ _ _ h=>h) (Or.inl ⟨by rfl,?_⟩) (by assumption) ?_
  rotate_left
  ·(intro w hSw;(try dsimp only at hSw);go_simp;try with_reducible rfl)
  try simp only [Act.put,List.setIfInBounds_toArray,List.set_cons_zero,List.set_cons_succ]
  refine wpAnyH_take (i:=8) (oi:=⟨some 18,_,_,_,_,_⟩) (v:=?_) rfl (by kernel_rfl) (by kernel_rfl) (by kernel_rfl) (fun _ _ _ h=>h) (Or.inl ⟨by rfl,?_⟩) (by assumption) ?_
  rotate_left
  ·(intro w hSw;(try dsimp only at hSw);go_simp;try with_reducible rfl)
  try simp only [Act.put,List.setIfInBounds_toArray,List.set_cons_zero,List.set_cons_succ]
  refine wpAnyH_ready (rs:=[5]) (by kernel_rfl) (by simp) (AllReadyH.cons (o:=⟨some 15,_,_,_,_,_⟩) rfl (fun K hK=>?_) AllReadyH.nil)
  go_simp
  (go_at_call 112;refine (SQ.out).mono ?_;rintro e w3 ⟨rfl,m3,hw3⟩;have HB3:Hid (Below w.heap.size w w3):=Lib.hid (by rw [hw3];exact below_drewN HB.out.drew m3);have K03:Hid (Blk w3 w.heap.size 43 #[.slice A1 n1 c1,.int .i64 up,.int .i64 bo,.slice A2 n2 c2]):=Lib.hid (by rw [hw3];exact K0.out);have K13:Hid (Blk w3 (w.heap.size+1) 82 (#[.int .i64 1,.int .i64 o,.int .i64 q,.slice A3 n3 c3,.int .i64 n,.int .i64 f])):=Lib.hid (by rw [hw3];exact K1.out);have K23:Hid (Blk w3 (w.heap.size+2) 43 #[.slice none 0 0,.int .i64 0,.int .i64 0,.slice none 0 0]):=Lib.hid (by rw [hw3];exact K2.out);have HD3:Hid (SafeL w3 B0 (.slice A1 n1 c1) db):=Lib.hid (by rw [hw3];exact HD.out);have HE3:Hid (SafeE w3 B0 (.slice A2 n2 c2) ep):=Lib.hid (by rw [hw3];exact HE.out);have HLK3:Hid (LkS w3 B0 (.slice A3 n3 c3) ls):=Lib.hid (by rw [hw3];exact HLK.out);have HSZ3:Hid (w.heap.size+2<w3.heap.size):=Lib.hid (by rw [hw3];exact HSZ.out);clear hw3 x0 x1 x2 x3 x4 y0 y1 y2 y3 y4 y5 y6 z0 z1 z2 z3 z4 f0 f1 f2 f3 g0 g1 g2 g3;obtain ⟨x0,x1,x2,x3,x4⟩:=blk_cells4 K03.out;obtain ⟨y0,y1,y2,y3,y4,y5,y6⟩:=blk_cells6 K13.out;obtain ⟨z0,z1,z2,z3,z4⟩:=blk_cells4 K23.out;obtain ⟨f0,f1,f2,f3⟩:=blk_fz4 K03.out;obtain ⟨g0,g1,g2,g3⟩:=blk_fz4 K23.out)
  refine hK.out _ _ ?_ (fun hHeld=>?_)
  ·exact ⟨x0,y1,y2⟩
  clear hK K
  try simp only [Act.put,List.setIfInBounds_toArray,List.set_cons_zero,List.set_cons_succ]
  refine wpAnyH_take (i:=9) (oi:=⟨some 19,_,_,_,_,_⟩) (v:=?_) rfl (by kernel_rfl) (by kernel_rfl) (by kernel_rfl) (fun _ _ _ h=>h) (Or.inl ⟨by rfl,?_⟩) (by assumption) ?_
  rotate_left
  ·(intro w hSw;(try dsimp only at hSw);go_simp;try with_reducible rfl)
  try simp only [Act.put,List.setIfInBounds_toArray,List.set_cons_zero,List.set_cons_succ]
  refine wpAnyH_done (by kernel_rfl) ?_ _
  go_wp2_with (fail)
  refine (PT.out w3 (by have:=HSZ3.out;omega) HD3.out HLK3.out).mono ?_
  rintro e w5 ⟨v5,rfl,ho5,hb5⟩
  have hd5:=safeL_own ho5
  rw [HRP.out] at hd5
  obtain ⟨A5,n5,c5,rfl⟩:=hd5.form
  have k05:=K03.out.below hb5 K03.out.lt
  have k25:=K23.out.below hb5 K23.out.lt
  have hs5:=hb5.size
  have hd6:=hd5.blk (by have:=HSZ3.out;omega) k05 (by decide) (by omega) (grown_set w5 ⟨w.heap.size,0,none⟩ (.slice A5 n5 c5))
  have he6:=(HE3.out.up hb5).blk k05 (by decide) (by omega) (grown_set w5 ⟨w.heap.size,0,none⟩ (.slice A5 n5 c5))
  have k26:=k25.far (p:=⟨w.heap.size,0,none⟩) (by show w.heap.size+2≠w.heap.size;omega) (.slice A5 n5 c5)
  have HF:=Lib.hid (FIN.out _ ⟨putOf db ⟨o,q,ls⟩,up,bo,ep⟩ _ _ true (below_set (low_low HB3.out hb5) (Nat.le_refl _)) hd6 he6 k26 (by rw [HE0.out];rfl) (by rw [HE0.out];rfl))
  clear x0 x1 x2 x3 x4 z0 z1 z2 z3 z4 f0 f1 f2 f3 g0 g1 g2 g3
  obtain ⟨x0,x1,x2,x3,x4⟩:=blk_cells4 k05
  obtain ⟨z0,z1,z2,z3,z4⟩:=blk_cells4 k25
  obtain ⟨f0,f1,f2,f3⟩:=blk_fz4 k05
  obtain ⟨g0,g1,g2,g3⟩:=blk_fz4 k25
  clear hd6 he6 k26 k05 k25 hd5 ho5 hb5
  go_wp2
  refine bodyPost_ret (v:=.tuple #[stV ⟨putOf db ⟨o,q,ls⟩,up,bo,ep⟩ (.slice A5 n5 c5) (.slice A2 n2 c2),.bool true]) ?_ rfl HF.out
  simp [results,Tryz.results60,go_sem,z0,z1,z2,z3]
set_option maxRecDepth 100000 in
set_option maxHeartbeats 8000000 in
theorem rdo_ep (s:Sta) (o q n f:Int) (ls:List Lk) (dv ev u:Value) (B0:Nat) (w:World) (hB0:B0≤w.heap.size) (h1:SafeL w B0 dv s.db) (h2:SafeE w B0 ev s.ep) (h3:LkS w B0 u ls) (hep:epOk 0 s.ep=true) (hw1:win f 64=true) (hw2:win n 1073741824=true) :
  Calls Tryz.prog 60 #[stV s dv ev,chV ⟨4,o,q,ls,n,f⟩ u] w (RDoOut w B0 s ⟨4,o,q,ls,n,f⟩):=by
 obtain ⟨db,up,bo,ep⟩:=s
 obtain ⟨A1,n1,c1,rfl⟩:=h1.form
 obtain ⟨A2,n2,c2,rfl⟩:=h2.form
 obtain ⟨A3,n3,c3,rfl,hq_⟩:=id h3
 clear hq_
 simp only [stV,chV] at *
 obtain ⟨k0,k1,k2,hb,hsz⟩:=box3 w #[.slice A1 n1 c1,.int .i64 up,.int .i64 bo,.slice A2 n2 c2] #[.int .i64 4,.int .i64 o,.int .i64 q,.slice A3 n3 c3,.int .i64 n,.int .i64 f] #[.slice none 0 0,.int .i64 0,.int .i64 0,.slice none 0 0] 43 82 43
 have hd1:=h1.up hB0 hb
 have he1:=h2.up hb
 have hl1:LkS _ B0 (.slice A3 n3 c3) ls:=h3.below hb hB0
 obtain ⟨P1,hP1⟩:∃ P1,P1=RDoOut w B0 ⟨db,up,bo,ep⟩ ⟨4,o,q,ls,n,f⟩:=⟨_,rfl⟩
 rw [← hP1]
 have hfin:∀ (W:World) (t:Sta) (d e:Value) (b:Bool),Below w.heap.size w W→SafeL W B0 d t.db→SafeE W B0 e t.ep→Blk W (w.heap.size+2) 43 #[.slice none 0 0,.int .i64 0,.int .i64 0,.slice none 0 0]→(doS ⟨db,up,bo,ep⟩ ⟨4,o,q,ls,n,f⟩).getD ⟨db,up,bo,ep⟩=t→(doS ⟨db,up,bo,ep⟩ ⟨4,o,q,ls,n,f⟩).isSome=b→P1 (.returned (.tuple #[stV t d e,.bool b])) (upd4 W (w.heap.size+2) d (.int .i64 t.up) (.int .i64 t.bo) e):=by
  intro W t d e b hW hd he hk ht hb
  rw [hP1]
  unfold RDoOut
  rw [ht,hb]
  exact ⟨_,_,rfl,hd.blk (by have:=hW.size;omega) hk (by decide) (by omega) (upd4_grown _ _ _ _ _ _),he.blk hk (by decide) (by omega) (upd4_grown _ _ _ _ _ _),hW.grown (upd4_grown _ _ _ _ _ _) hW.size (fun q hq=>by cases hq;omega)⟩
 have FIN:=Lib.hid hfin;clear hfin hP1
 obtain ⟨x0,x1,x2,x3,x4⟩:=blk_cells4 k0
 obtain ⟨y0,y1,y2,y3,y4,y5,y6⟩:=blk_cells6 k1
 obtain ⟨z0,z1,z2,z3,z4⟩:=blk_cells4 k2
 obtain ⟨f0,f1,f2,f3⟩:=blk_fz4 k0
 obtain ⟨g0,g1,g2,g3⟩:=blk_fz4 k2
 have HB:=Lib.hid hb;clear hb
 have K0:=Lib.hid k0;clear k0
 have K1:=Lib.hid k1;clear k1
 have K2:=Lib.hid k2;clear k2
 have HD:=Lib.hid hd1;clear hd1 h1
 have HE:=Lib.hid he1;clear he1 h2
 have HLK:=Lib.hid hl1;clear hl1 h3
 have HSZ:=Lib.hid hsz;clear hsz
 have SQ:=Lib.hid (repoch_any A2 n2 c2 _ ep f ((((w.alloc (.cells #[.slice A1 n1 c1,.int .i64 up,.int .i64 bo,.slice A2 n2 c2] 43)).alloc (.cells #[.int .i64 4,.int .i64 o,.int .i64 q,.slice A3 n3 c3,.int .i64 n,.int .i64 f] 82)).alloc (.cells #[.slice none 0 0,.int .i64 0,.int .i64 0,.slice none 0 0] 43))).drew HE.out.lks)
 have PT:=Lib.hid (fun (W:World) (hd:SafeE W B0 (.slice A2 n2 c2) ep)=>reps_any A2 n2 c2 ep f n W hd.lks)
 have hrp:refEp ep (f,n)=putEp ep (f,n):=refEp_eq hep hw1 hw2
 have HRP:=Lib.hid hrp;clear hrp hep hw1 hw2
 by_cases hc:n≤epoch ep f
 ·have e:doS ⟨db,up,bo,ep⟩ ⟨4,o,q,ls,n,f⟩=none:=by rw [doS_4,if_pos hc]
  have hdd:decide (n≤epoch ep f)=true:=decide_eq_true hc
  have HE0:=Lib.hid e;clear e
  go_enter Tryz.func60,Tryz.ntmps60
  go_upto_region 1 with fail
  generalize (((w.alloc (.cells #[.slice A1 n1 c1,.int .i64 up,.int .i64 bo,.slice A2 n2 c2] 43)).alloc (.cells #[.int .i64 4,.int .i64 o,.int .i64 q,.slice A3 n3 c3,.int .i64 n,.int .i64 f] 82)).alloc (.cells #[.slice none 0 0,.int .i64 0,.int .i64 0,.slice none 0 0] 43))=W1 at *
  go_wp2_with (fail)
  refine wp_region_held_drew (S:=fun W=>W.cell? ⟨w.heap.size,3,none⟩=some (.slice A2 n2 c2)∧W.cell? ⟨w.heap.size+1,5,none⟩=some (.int .i64 f)∧W.cell? ⟨w.heap.size+1,4,none⟩=some (.int .i64 n)) (by kernel_rfl) ?_ (fun hHeld=>?_)
  ·exact ⟨x3,y5,y4⟩
  refine wpAnyH_take (i:=0) (oi:=⟨some 51,_,_,_,_,_⟩) (v:=?_) rfl (by kernel_rfl) (by kernel_rfl) (by kernel_rfl) (fun _ _ _ h=>h) (Or.inl ⟨by rfl,?_⟩) (by assumption) ?_
  rotate_left
  ·(intro w hSw;(try dsimp only at hSw);go_simp;try with_reducible rfl)
  try simp only [Act.put,List.setIfInBounds_toArray,List.set_cons_zero,List.set_cons_succ]
  refine wpAnyH_take (i:=1) (oi:=⟨some 52,_,_,_,_,_⟩) (v:=?_) rfl (by kernel_rfl) (by kernel_rfl) (by kernel_rfl) (fun _ _ _ h=>h) (Or.inl ⟨by rfl,?_⟩) (by assumption) ?_
  rotate_left
  ·(intro w hSw;(try dsimp only at hSw);go_simp;try with_reducible rfl)
  try simp only [Act.put,List.setIfInBounds_toArray,List.set_cons_zero,List.set_cons_succ]
  refine wpAnyH_take (i:=2) (oi:=⟨some 53,_,_,_,_,_⟩) (v:=?_) rfl (by kernel_rfl) (by kernel_rfl) (by kernel_rfl) (fun _ _ _ h=>h) (Or.inl ⟨by rfl,?_⟩) (by assumption) ?_
  rotate_left
  ·(intro w hSw;(try dsimp only at hSw);go_simp;try with_reducible rfl)
  try simp only [Act.put,List.setIfInBounds_toArray,List.set_cons_zero,List.set_cons_succ]
  refine wpAnyH_take (i:=3) (oi:=⟨some 54,_,_,_,_,_⟩) (v:=?_) rfl (by kernel_rfl) (by kernel_rfl) (by kernel_rfl) (fun _ _ _ h=>h) (Or.inl ⟨by rfl,?_⟩) (by assumption) ?_
  rotate_left
  ·(intro w hSw;(try dsimp only at hSw);go_simp;try with_reducible rfl)
  try simp only [Act.put,List.setIfInBounds_toArray,List.set_cons_zero,List.set_cons_succ]
  refine wpAnyH_take (i:=5) (oi:=⟨some 56,_,_,_,_,_⟩) (v:=?_) rfl (by kernel_rfl) (by kernel_rfl) (by kernel_rfl) (fun _ _ _ h=>h) (Or.inl ⟨by rfl,?_⟩) (by assumption) ?_
  rotate_left
  ·(intro w hSw;(try dsimp only at hSw);go_simp;try with_reducible rfl)
  try simp only [Act.put,List.setIfInBounds_toArray,List.set_cons_zero,List.set_cons_succ]
  refine wpAnyH_take (i:=6) (oi:=⟨some 57,_,_,_,_,_⟩) (v:=?_) rfl (by kernel_rfl) (by kernel_rfl) (by kernel_rfl) (fun _ _ _ h=>h) (Or.inl ⟨by rfl,?_⟩) (by assumption) ?_
  rotate_left
  ·(intro w hSw;(try dsimp only at hSw);go_simp;try with_reducible rfl)
  try simp only [Act.put,List.setIfInBounds_toArray,List.set_cons_zero,List.set_cons_succ]
  refine wpAnyH_ready (rs:=[4]) (by kernel_rfl) (by simp) (AllReadyH.cons (o:=⟨some 55,_,_,_,_,_⟩) rfl (fun K hK=>?_) AllReadyH.nil)
  go_simp
  (go_at_call 65;refine (SQ.out).mono ?_;rintro e w3 ⟨rfl,m3,hw3⟩;have HB3:Hid (Below w.heap.size w w3):=Lib.hid (by rw [hw3];exact below_drewN HB.out.drew m3);have K03:Hid (Blk w3 w.heap.size 43 #[.slice A1 n1 c1,.int .i64 up,.int .i64 bo,.slice A2 n2 c2]):=Lib.hid (by rw [hw3];exact K0.out);have K13:Hid (Blk w3 (w.heap.size+1) 82 (#[.int .i64 4,.int .i64 o,.int .i64 q,.slice A3 n3 c3,.int .i64 n,.int .i64 f])):=Lib.hid (by rw [hw3];exact K1.out);have K23:Hid (Blk w3 (w.heap.size+2) 43 #[.slice none 0 0,.int .i64 0,.int .i64 0,.slice none 0 0]):=Lib.hid (by rw [hw3];exact K2.out);have HD3:Hid (SafeL w3 B0 (.slice A1 n1 c1) db):=Lib.hid (by rw [hw3];exact HD.out);have HE3:Hid (SafeE w3 B0 (.slice A2 n2 c2) ep):=Lib.hid (by rw [hw3];exact HE.out);have HLK3:Hid (LkS w3 B0 (.slice A3 n3 c3) ls):=Lib.hid (by rw [hw3];exact HLK.out);have HSZ3:Hid (w.heap.size+2<w3.heap.size):=Lib.hid (by rw [hw3];exact HSZ.out);clear hw3 x0 x1 x2 x3 x4 y0 y1 y2 y3 y4 y5 y6 z0 z1 z2 z3 z4 f0 f1 f2 f3 g0 g1 g2 g3;obtain ⟨x0,x1,x2,x3,x4⟩:=blk_cells4 K03.out;obtain ⟨y0,y1,y2,y3,y4,y5,y6⟩:=blk_cells6 K13.out;obtain ⟨z0,z1,z2,z3,z4⟩:=blk_cells4 K23.out;obtain ⟨f0,f1,f2,f3⟩:=blk_fz4 K03.out;obtain ⟨g0,g1,g2,g3⟩:=blk_fz4 K23.out)
  refine hK.out _ _ ?_ (fun hHeld=>?_)
  ·exact ⟨x3,y5,y4⟩
  clear hK K
  try simp only [Act.put,List.setIfInBounds_toArray,List.set_cons_zero,List.set_cons_succ]
  refine wpAnyH_take (i:=7) (oi:=⟨some 58,_,_,_,_,_⟩) (v:=?_) rfl (by kernel_rfl) (by kernel_rfl) (by kernel_rfl) (fun _ _ _ h=>h) (Or.inl ⟨by rfl,?_⟩) (by assumption) ?_
  rotate_left
  ·(intro w hSw;(try dsimp only at hSw);go_simp;try with_reducible rfl)
  try simp only [Act.put,List.setIfInBounds_toArray,List.set_cons_zero,List.set_cons_succ]
  refine wpAnyH_done (by kernel_rfl) ?_ _
  have HF:=Lib.hid (FIN.out _ ⟨db,up,bo,ep⟩ _ _ false HB3.out HD3.out HE3.out K23.out (by rw [HE0.out];rfl) (by rw [HE0.out];rfl))
  go_wp2
  refine bodyPost_ret (v:=.tuple #[stV ⟨db,up,bo,ep⟩ (.slice A1 n1 c1) (.slice A2 n2 c2),.bool false]) ?_ rfl HF.out
  simp [results,Tryz.results60,go_sem,z0,z1,z2,z3]
 ·have e:doS ⟨db,up,bo,ep⟩ ⟨4,o,q,ls,n,f⟩=some ⟨db,up,bo,putEp ep (f,n)⟩:=by rw [doS_4,if_neg hc]
  have hdd:decide (n≤epoch ep f)=false:=decide_eq_false hc
  have HE0:=Lib.hid e;clear e
  go_enter Tryz.func60,Tryz.ntmps60
  go_upto_region 1 with fail
  generalize (((w.alloc (.cells #[.slice A1 n1 c1,.int .i64 up,.int .i64 bo,.slice A2 n2 c2] 43)).alloc (.cells #[.int .i64 4,.int .i64 o,.int .i64 q,.slice A3 n3 c3,.int .i64 n,.int .i64 f] 82)).alloc (.cells #[.slice none 0 0,.int .i64 0,.int .i64 0,.slice none 0 0] 43))=W1 at *
  go_wp2_with (fail)
  refine wp_region_held_drew (S:=fun W=>W.cell? ⟨w.heap.size,3,none⟩=some (.slice A2 n2 c2)∧W.cell? ⟨w.heap.size+1,5,none⟩=some (.int .i64 f)∧W.cell? ⟨w.heap.size+1,4,none⟩=some (.int .i64 n)) (by kernel_rfl) ?_ (fun hHeld=>?_)
  ·exact ⟨x3,y5,y4⟩
  refine wpAnyH_take (i:=0) (oi:=⟨some 51,_,_,_,_,_⟩) (v:=?_) rfl (by kernel_rfl) (by kernel_rfl) (by kernel_rfl) (fun _ _ _ h=>h) (Or.inl ⟨by rfl,?_⟩) (by assumption) ?_
  rotate_left
  ·(intro w hSw;(try dsimp only at hSw);go_simp;try with_reducible rfl)
  try simp only [Act.put,List.setIfInBounds_toArray,List.set_cons_zero,List.set_cons_succ]
  refine wpAnyH_take (i:=1) (oi:=⟨some 52,_,_,_,_,_⟩) (v:=?_) rfl (by kernel_rfl) (by kernel_rfl) (by kernel_rfl) (fun _ _ _ h=>h) (Or.inl ⟨by rfl,?_⟩) (by assumption) ?_
  rotate_left
  ·(intro w hSw;(try dsimp only at hSw);go_simp;try with_reducible rfl)
  try simp only [Act.put,List.setIfInBounds_toArray,List.set_cons_zero,List.set_cons_succ]
  refine wpAnyH_take (i:=2) (oi:=⟨some 53,_,_,_,_,_⟩) (v:=?_) rfl (by kernel_rfl) (by kernel_rfl) (by kernel_rfl) (fun _ _ _ h=>h) (Or.inl ⟨by rfl,?_⟩) (by assumption) ?_
  rotate_left
  ·(intro w hSw;(try dsimp only at hSw);go_simp;try with_reducible rfl)
  try simp only [Act.put,List.setIfInBounds_toArray,List.set_cons_zero,List.set_cons_succ]
  refine wpAnyH_take (i:=3) (oi:=⟨some 54,_,_,_,_,_⟩) (v:=?_) rfl (by kernel_rfl) (by kernel_rfl) (by kernel_rfl) (fun _ _ _ h=>h) (Or.inl ⟨by rfl,?_⟩) (by assumption) ?_
  rotate_left
  ·(intro w hSw;(try dsimp only at hSw);go_simp;try with_reducible rfl)
  try simp only [Act.put,List.setIfInBounds_toArray,List.set_cons_zero,List.set_cons_succ]
  refine wpAnyH_take (i:=5) (oi:=⟨some 56,_,_,_,_,_⟩) (v:=?_) rfl (by kernel_rfl) (by kernel_rfl) (by kernel_rfl) (fun _ _ _ h=>h) (Or.inl ⟨by rfl,?_⟩) (by assumption) ?_
  rotate_left
  ·(intro w hSw;(try dsimp only at hSw);go_simp;try with_reducible rfl)
  try simp only [Act.put,List.setIfInBounds_toArray,List.set_cons_zero,List.set_cons_succ]
  refine wpAnyH_take (i:=6) (oi:=⟨some 57,_,_,_,_,_⟩) (v:=?_) rfl (by kernel_rfl) (by kernel_rfl) (by kernel_rfl) (fun _ _ _ h=>h) (Or.inl ⟨by rfl,?_⟩) (by assumption) ?_
  rotate_left
  ·(intro w hSw;(try dsimp only at hSw);go_simp;try with_reducible rfl)
  try simp only [Act.put,List.setIfInBounds_toArray,List.set_cons_zero,List.set_cons_succ]
  refine wpAnyH_ready (rs:=[4]) (by kernel_rfl) (by simp) (AllReadyH.cons (o:=⟨some 55,_,_,_,_,_⟩) rfl (fun K hK=>?_) AllReadyH.nil)
  go_simp
  (go_at_call 65;refine (SQ.out).mono ?_;rintro e w3 ⟨rfl,m3,hw3⟩;have HB3:Hid (Below w.heap.size w w3):=Lib.hid (by rw [hw3];exact below_drewN HB.out.drew m3);have K03:Hid (Blk w3 w.heap.size 43 #[.slice A1 n1 c1,.int .i64 up,.int .i64 bo,.slice A2 n2 c2]):=Lib.hid (by rw [hw3];exact K0.out);have K13:Hid (Blk w3 (w.heap.size+1) 82 (#[.int .i64 4,.int .i64 o,.int .i64 q,.slice A3 n3 c3,.int .i64 n,.int .i64 f])):=Lib.hid (by rw [hw3];exact K1.out);have K23:Hid (Blk w3 (w.heap.size+2) 43 #[.slice none 0 0,.int .i64 0,.int .i64 0,.slice none 0 0]):=Lib.hid (by rw [hw3];exact K2.out);have HD3:Hid (SafeL w3 B0 (.slice A1 n1 c1) db):=Lib.hid (by rw [hw3];exact HD.out);have HE3:Hid (SafeE w3 B0 (.slice A2 n2 c2) ep):=Lib.hid (by rw [hw3];exact HE.out);have HLK3:Hid (LkS w3 B0 (.slice A3 n3 c3) ls):=Lib.hid (by rw [hw3];exact HLK.out);have HSZ3:Hid (w.heap.size+2<w3.heap.size):=Lib.hid (by rw [hw3];exact HSZ.out);clear hw3 x0 x1 x2 x3 x4 y0 y1 y2 y3 y4 y5 y6 z0 z1 z2 z3 z4 f0 f1 f2 f3 g0 g1 g2 g3;obtain ⟨x0,x1,x2,x3,x4⟩:=blk_cells4 K03.out;obtain ⟨y0,y1,y2,y3,y4,y5,y6⟩:=blk_cells6 K13.out;obtain ⟨z0,z1,z2,z3,z4⟩:=blk_cells4 K23.out;obtain ⟨f0,f1,f2,f3⟩:=blk_fz4 K03.out;obtain ⟨g0,g1,g2,g3⟩:=blk_fz4 K23.out)
  refine hK.out _ _ ?_ (fun hHeld=>?_)
  ·exact ⟨x3,y5,y4⟩
  clear hK K
  try simp only [Act.put,List.setIfInBounds_toArray,List.set_cons_zero,List.set_cons_succ]
  refine wpAnyH_take (i:=7) (oi:=⟨some 58,_,_,_,_,_⟩) (v:=?_) rfl (by kernel_rfl) (by kernel_rfl) (by kernel_rfl) (fun _ _ _ h=>h) (Or.inl ⟨by rfl,?_⟩) (by assumption) ?_
  rotate_left
  ·(intro w hSw;(try dsimp only at hSw);go_simp;try with_reducible rfl)
  try simp only [Act.put,List.setIfInBounds_toArray,List.set_cons_zero,List.set_cons_succ]
  refine wpAnyH_done (by kernel_rfl) ?_ _
  go_wp2_with (fail)
  refine (PT.out w3 HE3.out).mono ?_
  rintro e w5 ⟨v5,rfl,ho5,hb5⟩
  have he5:=safeE_own (B0:=B0) ho5
  rw [HRP.out] at he5
  obtain ⟨A5,n5,c5,rfl⟩:=he5.form
  have k05:=K03.out.below hb5 K03.out.lt
  have k25:=K23.out.below hb5 K23.out.lt
  have hs5:=hb5.size
  have hd6:=(HD3.out.up (by have:=HSZ3.out;omega) hb5).blk (by have:=HSZ3.out;omega) k05 (by decide) (by omega) (grown_set w5 ⟨w.heap.size,3,none⟩ (.slice A5 n5 c5))
  have he6:=he5.blk k05 (by decide) (by omega) (grown_set w5 ⟨w.heap.size,3,none⟩ (.slice A5 n5 c5))
  have k26:=k25.far (p:=⟨w.heap.size,3,none⟩) (by show w.heap.size+2≠w.heap.size;omega) (.slice A5 n5 c5)
  have HF:=Lib.hid (FIN.out _ ⟨db,up,bo,putEp ep (f,n)⟩ _ _ true (below_set (low_low HB3.out hb5) (Nat.le_refl _)) hd6 he6 k26 (by rw [HE0.out];rfl) (by rw [HE0.out];rfl))
  clear x0 x1 x2 x3 x4 z0 z1 z2 z3 z4 f0 f1 f2 f3 g0 g1 g2 g3
  obtain ⟨x0,x1,x2,x3,x4⟩:=blk_cells4 k05
  obtain ⟨z0,z1,z2,z3,z4⟩:=blk_cells4 k25
  obtain ⟨f0,f1,f2,f3⟩:=blk_fz4 k05
  obtain ⟨g0,g1,g2,g3⟩:=blk_fz4 k25
  clear hd6 he6 k26 k05 k25 he5 ho5 hb5
  go_wp2
  refine bodyPost_ret (v:=.tuple #[stV ⟨db,up,bo,putEp ep (f,n)⟩ (.slice A1 n1 c1) (.slice A5 n5 c5),.bool true]) ?_ rfl HF.out
  simp [results,Tryz.results60,go_sem,z0,z1,z2,z3]
theorem rdo_any (s:Sta) (c:Ch) (dv ev u:Value) (B0:Nat) (w:World) (hB0:B0≤w.heap.size) (h1:SafeL w B0 dv s.db) (h2:SafeE w B0 ev s.ep) (h3:LkS w B0 u c.ls) (hs:mayS s=true) (hc:mayC c=true) :
  Calls Tryz.prog 60 #[stV s dv ev,chV c u] w (RDoOut w B0 s c):=by
 obtain ⟨k,o,q,ls,n,f⟩:=c
 obtain ⟨hdb,hep,_⟩:=mayS_iff.1 hs
 obtain ⟨l1,l2⟩:=mayS_len hs
 rcases mayC_kind hc with e | e | e | e <;> simp only at e <;> subst e
 ·exact rdo_lsa s o q n f ls dv ev u B0 w hB0 h1 h2 h3 (by omega) hdb
 ·exact rdo_upto s o q n f ls dv ev u B0 w hB0 h1 h2 h3
 ·exact rdo_boot s o q n f ls dv ev u B0 w hB0 h1 h2 h3
 ·rw [mayC_4] at hc
  simp only [Bool.and_eq_true] at hc
  exact rdo_ep s o q n f ls dv ev u B0 w hB0 h1 h2 h3 hep hc.1 hc.2.1
end Go.Proofs.YtplpmemlaohlaaaGreat.Bas
namespace Go.Proofs.YtplpmemlaohlaaaGreat.Bas
open Go.RowKit Go.Shelf Mem Oct Lsa Chg
set_option linter.unusedVariables false
set_option linter.unusedSimpArgs false
theorem mayS_split (db:List La) (up bo:Int) (ep:List (Int × Int)):mayS ⟨db,up,bo,ep⟩=(dbOk 0 db && (epOk 0 ep && (decide (0≤up) && (decide (up≤4611686018427387904) && (decide (0≤bo) && decide (bo≤1073741824)))))):=rfl
theorem dbOk_at (db:List La) (k:Nat) (h:k<db.length):dbOk (lastO db k) (db.drop k)=(laOk (db.getD k zeroL) && (decide (lastO db k<(db.getD k zeroL).o) && dbOk (lastO db (k+1)) (db.drop (k+1)))):=by
 rw [dbOk_step _ db k h,lastO_succ]
set_option maxRecDepth 100000 in
set_option maxHeartbeats 8000000 in
theorem rmay_st (s:Sta) (dv ev:Value) (w:World) (h:StM w w.heap.size dv ev s) :
  Calls Tryz.prog 58 #[stV s dv ev] w fun e w'=>e=.returned (.bool (mayS s))∧Below w.heap.size w w':=by
 obtain ⟨db,up,bo,ep⟩:=s
 obtain ⟨h1,h2⟩:=h
 obtain ⟨A,n,c,rfl,hr_⟩:=id h1
 obtain ⟨A',n',c',rfl,hs_⟩:=id h2
 clear hr_ hs_
 obtain ⟨hl,hnc,hcm,_⟩:=las_len h1
 obtain ⟨hl',hnc',hcm',_⟩:=lks_len h2
 unfold maxLen at hcm hcm'
 simp only [stV] at *
 rw [mayS_split]
 have hb:=low1 (Below.refl w.heap.size w) (.cells #[.slice A n c,.int .i64 up,.int .i64 bo,.slice A' n' c'] 43)
 have k0:=Blk.new w 43 #[.slice A n c,.int .i64 up,.int .i64 bo,.slice A' n' c']
 have HEN:=Lib.hid (enters_of Tryz.func111 (by kernel_rfl) rfl)
 have HL:=Lib.hid hl;clear hl
 have HL':=Lib.hid hl';clear hl'
 have HS:=Lib.hid h1;clear h1
 have HS':=Lib.hid h2;clear h2
 have HB:=Lib.hid hb;clear hb
 have K0:=Lib.hid k0;clear k0
 go_enter Tryz.func58,Tryz.ntmps58
 go_wp2
 go_loopw [3] (fun i wr=>∃ (k:Nat),k≤n∧i=.int .i64 k∧Hid (dbOk 0 db=dbOk (lastO db k) (db.drop k))∧Hid (Blk wr w.heap.size 43 #[.slice A n c,.int .i64 up,.int .i64 bo,.slice A' n' c'])∧Hid (Below w.heap.size w wr)) (fun i _=>n - (intOf i).toNat)
 case atStart=>exact ⟨0,Nat.zero_le _,rfl,Lib.hid rfl,K0,HB⟩
 case round =>
  clear K0 HB
  obtain ⟨k,hk,rfl,HOK,K0,HB⟩:=hrel
  obtain ⟨x0,x1,x2,x3,x4⟩:=blk_cells4 K0.out
  have hws:=HB.out.size
  by_cases hlt:k<n
  ·obtain ⟨b,off,rfl,hb,hc⟩:=las_at HS.out (by omega)
   obtain ⟨u,hr,hk2⟩:=hc k hlt
   have hbw:b<wr.heap.size:=by omega
   have c0:=(HB.out.cell (p:=⟨b,off+k*3+0,none⟩) hb).trans (hr 0 _ rfl)
   have c1:=(HB.out.cell (p:=⟨b,off+k*3+1,none⟩) hb).trans (hr 1 _ rfl)
   have c2_:=(HB.out.cell (p:=⟨b,off+k*3+2,none⟩) hb).trans (hr 2 _ rfl)
   rw [Nat.add_zero] at c0
   have cp:0<k→wr.cell? ⟨b,off+(k - 1)*3,none⟩=some (.int .i64 (lastO db k)):=fun h0=>by
    obtain ⟨u',hr',_⟩:=hc (k - 1) (by omega)
    rw [lastO,if_neg (by omega)]
    exact (HB.out.cell (p:=⟨b,off+(k - 1)*3+0,none⟩) hb).trans (hr' 0 _ rfl)
   have hok:=HOK.out
   rw [dbOk_at db k (by have:=HL.out;omega)] at hok
   have h00:k=0→lastO db k=0:=fun e=>by rw [lastO,if_pos e]
   clear hc hr
   generalize db.getD k zeroL=y at *
   obtain ⟨yo,ys,yl⟩:=y
   obtain ⟨Au,nu,cu,rfl,hq_⟩:=id hk2
   clear hq_
   simp only at c0 c1 c2_ hok hk2
   generalize lastO db k=last at *
   have my:=may_any yo ys Au nu cu yl wr.drew ((hk2.below HB.out (Nat.le_refl _)).more hws)
   have hlo:laOk ⟨yo,ys,yl⟩=may yo ys yl:=rfl
   rw [hlo] at hok
   clear hk2 hlo HOK
   cases hm:may yo ys yl
   ·rw [hm] at my hok
    have MY:=Lib.hid my;clear my
    have HOK2:=Lib.hid hok;clear hok h00 cp
    go_wp2_with (fail)
    refine wp_region_held_drew (S:=fun W=>W.cell? ⟨w.heap.size,0,none⟩=some (.slice (some ⟨b,off,none⟩) n c)∧W.cell? ⟨b,off+k*3,none⟩=some (.int .i64 yo)∧W.cell? ⟨b,off+k*3+1,none⟩=some (.int .i64 ys)∧W.cell? ⟨b,off+k*3+2,none⟩=some (.slice Au nu cu)) (by kernel_rfl) ?_ (fun hHeld=>?_)
    ·exact ⟨x0,c0,c1,c2_⟩
    refine wpAnyH_take (i:=0) (oi:=⟨some 13,_,_,_,_,_⟩) (v:=?_) rfl (by kernel_rfl) (by kernel_rfl) (by kernel_rfl) (fun _ _ _ h=>h) (Or.inl ⟨by rfl,?_⟩) (by assumption) ?_
    rotate_left
    ·(intro w hSw;(try dsimp only at hSw);go_simp;try with_reducible rfl)
    try simp only [Act.put,List.setIfInBounds_toArray,List.set_cons_zero,List.set_cons_succ]
    refine wpAnyH_take (i:=1) (oi:=⟨some 14,_,_,_,_,_⟩) (v:=?_) rfl (by kernel_rfl) (by kernel_rfl) (by kernel_rfl) (fun _ _ _ h=>h) (Or.inl ⟨by rfl,?_⟩) (by assumption) ?_
    rotate_left
    ·(intro w hSw;(try dsimp only at hSw);go_simp;try with_reducible rfl)
    try simp only [Act.put,List.setIfInBounds_toArray,List.set_cons_zero,List.set_cons_succ]
    refine wpAnyH_take (i:=2) (oi:=⟨some 15,_,_,_,_,_⟩) (v:=?_) rfl (by kernel_rfl) (by kernel_rfl) (by kernel_rfl) (fun _ _ _ h=>h) (Or.inl ⟨by rfl,?_⟩) (by assumption) ?_
    rotate_left
    ·(intro w hSw;(try dsimp only at hSw);go_simp;try with_reducible rfl)
    try simp only [Act.put,List.setIfInBounds_toArray,List.set_cons_zero,List.set_cons_succ]
    refine wpAnyH_take (i:=3) (oi:=⟨some 16,_,_,_,_,_⟩) (v:=?_) rfl (by kernel_rfl) (by kernel_rfl) (by kernel_rfl) (fun _ _ _ h=>h) (Or.inl ⟨by rfl,?_⟩) (by assumption) ?_
    rotate_left
    ·(intro w hSw;(try dsimp only at hSw);go_simp;try with_reducible rfl)
    try simp only [Act.put,List.setIfInBounds_toArray,List.set_cons_zero,List.set_cons_succ]
    refine wpAnyH_take (i:=4) (oi:=⟨some 17,_,_,_,_,_⟩) (v:=?_) rfl (by kernel_rfl) (by kernel_rfl) (by kernel_rfl) (fun _ _ _ h=>h) (Or.inl ⟨by rfl,?_⟩) (by assumption) ?_
    rotate_left
    ·(intro w hSw;(try dsimp only at hSw);go_simp;try with_reducible rfl)
    try simp only [Act.put,List.setIfInBounds_toArray,List.set_cons_zero,List.set_cons_succ]
    refine wpAnyH_ready (rs:=[5]) (by kernel_rfl) (by simp) (AllReadyH.cons (o:=⟨some 18,_,_,_,_,_⟩) rfl (fun K hK=>?_) AllReadyH.nil)
    go_simp
    (go_at_call 111;refine (MY.out).mono ?_;rintro e w3 ⟨rfl,hb3⟩;have hb3:Below wr.heap.size wr w3:=⟨hb3.os,hb3.tape,hb3.output,hb3.size,hb3.block⟩;have HB3:=Lib.hid (low_low HB.out hb3);have K3:=Lib.hid (K0.out.below hb3 K0.out.lt);obtain ⟨z0,z1,z2,z3,z4⟩:=blk_cells4 K3.out;have d0:=(hb3.cell (p:=⟨b,off+k*3,none⟩) hbw).trans c0;have d1:=(hb3.cell (p:=⟨b,off+k*3+1,none⟩) hbw).trans c1;have d2:=(hb3.cell (p:=⟨b,off+k*3+2,none⟩) hbw).trans c2_;clear hb3)
    refine hK.out _ _ ?_ (fun hHeld=>?_)
    ·exact ⟨z0,d0,d1,d2⟩
    clear hK K
    try simp only [Act.put,List.setIfInBounds_toArray,List.set_cons_zero,List.set_cons_succ]
    refine wpAnyH_take (i:=6) (oi:=⟨some 19,_,_,_,_,_⟩) (v:=?_) rfl (by kernel_rfl) (by kernel_rfl) (by kernel_rfl) (fun _ _ _ h=>h) (Or.inl ⟨by rfl,?_⟩) (by assumption) ?_
    rotate_left
    ·(intro w hSw;(try dsimp only at hSw);go_simp;try with_reducible rfl)
    try simp only [Act.put,List.setIfInBounds_toArray,List.set_cons_zero,List.set_cons_succ]
    refine wpAnyH_take (i:=7) (oi:=⟨some 20,_,_,_,_,_⟩) (v:=?_) rfl (by kernel_rfl) (by kernel_rfl) (by kernel_rfl) (fun _ _ _ h=>h) (Or.inl ⟨by rfl,?_⟩) (by assumption) ?_
    rotate_left
    ·(intro w hSw;(try dsimp only at hSw);go_simp;try with_reducible rfl)
    try simp only [Act.put,List.setIfInBounds_toArray,List.set_cons_zero,List.set_cons_succ]
    refine wpAnyH_take (i:=8) (oi:=⟨some 21,_,_,_,_,_⟩) (v:=undef) rfl (by kernel_rfl) (by kernel_rfl) (by kernel_rfl) (fun _ _ _ h=>h) (Or.inr ⟨by rfl,rfl⟩) (by assumption) ?_
    try simp only [Act.put,List.setIfInBounds_toArray,List.set_cons_zero,List.set_cons_succ]
    refine wpAnyH_take (i:=9) (oi:=⟨some 22,_,_,_,_,_⟩) (v:=undef) rfl (by kernel_rfl) (by kernel_rfl) (by kernel_rfl) (fun _ _ _ h=>h) (Or.inr ⟨by rfl,rfl⟩) (by assumption) ?_
    try simp only [Act.put,List.setIfInBounds_toArray,List.set_cons_zero,List.set_cons_succ]
    refine wpAnyH_take (i:=10) (oi:=⟨some 23,_,_,_,_,_⟩) (v:=undef) rfl (by kernel_rfl) (by kernel_rfl) (by kernel_rfl) (fun _ _ _ h=>h) (Or.inr ⟨by rfl,rfl⟩) (by assumption) ?_
    try simp only [Act.put,List.setIfInBounds_toArray,List.set_cons_zero,List.set_cons_succ]
    refine wpAnyH_take (i:=11) (oi:=⟨some 24,_,_,_,_,_⟩) (v:=undef) rfl (by kernel_rfl) (by kernel_rfl) (by kernel_rfl) (fun _ _ _ h=>h) (Or.inr ⟨by rfl,rfl⟩) (by assumption) ?_
    try simp only [Act.put,List.setIfInBounds_toArray,List.set_cons_zero,List.set_cons_succ]
    refine wpAnyH_take (i:=12) (oi:=⟨some 25,_,_,_,_,_⟩) (v:=undef) rfl (by kernel_rfl) (by kernel_rfl) (by kernel_rfl) (fun _ _ _ h=>h) (Or.inr ⟨by rfl,rfl⟩) (by assumption) ?_
    try simp only [Act.put,List.setIfInBounds_toArray,List.set_cons_zero,List.set_cons_succ]
    refine wpAnyH_take (i:=13) (oi:=⟨some 26,_,_,_,_,_⟩) (v:=undef) rfl (by kernel_rfl) (by kernel_rfl) (by kernel_rfl) (fun _ _ _ h=>h) (Or.inr ⟨by rfl,rfl⟩) (by assumption) ?_
    try simp only [Act.put,List.setIfInBounds_toArray,List.set_cons_zero,List.set_cons_succ]
    refine wpAnyH_take (i:=14) (oi:=⟨some 27,_,_,_,_,_⟩) (v:=undef) rfl (by kernel_rfl) (by kernel_rfl) (by kernel_rfl) (fun _ _ _ h=>h) (Or.inr ⟨by rfl,rfl⟩) (by assumption) ?_
    try simp only [Act.put,List.setIfInBounds_toArray,List.set_cons_zero,List.set_cons_succ]
    refine wpAnyH_take (i:=15) (oi:=⟨some 28,_,_,_,_,_⟩) (v:=undef) rfl (by kernel_rfl) (by kernel_rfl) (by kernel_rfl) (fun _ _ _ h=>h) (Or.inr ⟨by rfl,rfl⟩) (by assumption) ?_
    try simp only [Act.put,List.setIfInBounds_toArray,List.set_cons_zero,List.set_cons_succ]
    refine wpAnyH_take (i:=16) (oi:=⟨some 29,_,_,_,_,_⟩) (v:=undef) rfl (by kernel_rfl) (by kernel_rfl) (by kernel_rfl) (fun _ _ _ h=>h) (Or.inr ⟨by rfl,rfl⟩) (by assumption) ?_
    try simp only [Act.put,List.setIfInBounds_toArray,List.set_cons_zero,List.set_cons_succ]
    refine wpAnyH_take (i:=17) (oi:=⟨some 30,_,_,_,_,_⟩) (v:=undef) rfl (by kernel_rfl) (by kernel_rfl) (by kernel_rfl) (fun _ _ _ h=>h) (Or.inr ⟨by rfl,rfl⟩) (by assumption) ?_
    try simp only [Act.put,List.setIfInBounds_toArray,List.set_cons_zero,List.set_cons_succ]
    refine wpAnyH_take (i:=18) (oi:=⟨some 31,_,_,_,_,_⟩) (v:=undef) rfl (by kernel_rfl) (by kernel_rfl) (by kernel_rfl) (fun _ _ _ h=>h) (Or.inr ⟨by rfl,rfl⟩) (by assumption) ?_
    try simp only [Act.put,List.setIfInBounds_toArray,List.set_cons_zero,List.set_cons_succ]
    refine wpAnyH_take (i:=19) (oi:=⟨some 32,_,_,_,_,_⟩) (v:=undef) rfl (by kernel_rfl) (by kernel_rfl) (by kernel_rfl) (fun _ _ _ h=>h) (Or.inr ⟨by rfl,rfl⟩) (by assumption) ?_
    try simp only [Act.put,List.setIfInBounds_toArray,List.set_cons_zero,List.set_cons_succ]
    refine wpAnyH_take (i:=20) (oi:=⟨some 33,_,_,_,_,_⟩) (v:=undef) rfl (by kernel_rfl) (by kernel_rfl) (by kernel_rfl) (fun _ _ _ h=>h) (Or.inr ⟨by rfl,rfl⟩) (by assumption) ?_
    try simp only [Act.put,List.setIfInBounds_toArray,List.set_cons_zero,List.set_cons_succ]
    refine wpAnyH_take (i:=21) (oi:=⟨some 34,_,_,_,_,_⟩) (v:=undef) rfl (by kernel_rfl) (by kernel_rfl) (by kernel_rfl) (fun _ _ _ h=>h) (Or.inr ⟨by rfl,rfl⟩) (by assumption) ?_
    try simp only [Act.put,List.setIfInBounds_toArray,List.set_cons_zero,List.set_cons_succ]
    refine wpAnyH_take (i:=22) (oi:=⟨some 35,_,_,_,_,_⟩) (v:=undef) rfl (by kernel_rfl) (by kernel_rfl) (by kernel_rfl) (fun _ _ _ h=>h) (Or.inr ⟨by rfl,rfl⟩) (by assumption) ?_
    try simp only [Act.put,List.setIfInBounds_toArray,List.set_cons_zero,List.set_cons_succ]
    refine wpAnyH_take (i:=23) (oi:=⟨some 36,_,_,_,_,_⟩) (v:=undef) rfl (by kernel_rfl) (by kernel_rfl) (by kernel_rfl) (fun _ _ _ h=>h) (Or.inr ⟨by rfl,rfl⟩) (by assumption) ?_
    try simp only [Act.put,List.setIfInBounds_toArray,List.set_cons_zero,List.set_cons_succ]
    refine wpAnyH_take (i:=24) (oi:=⟨some 37,_,_,_,_,_⟩) (v:=undef) rfl (by kernel_rfl) (by kernel_rfl) (by kernel_rfl) (fun _ _ _ h=>h) (Or.inr ⟨by rfl,rfl⟩) (by assumption) ?_
    try simp only [Act.put,List.setIfInBounds_toArray,List.set_cons_zero,List.set_cons_succ]
    refine wpAnyH_take (i:=25) (oi:=⟨some 38,_,_,_,_,_⟩) (v:=undef) rfl (by kernel_rfl) (by kernel_rfl) (by kernel_rfl) (fun _ _ _ h=>h) (Or.inr ⟨by rfl,rfl⟩) (by assumption) ?_
    try simp only [Act.put,List.setIfInBounds_toArray,List.set_cons_zero,List.set_cons_succ]
    refine wpAnyH_take (i:=26) (oi:=⟨some 39,_,_,_,_,_⟩) (v:=?_) rfl (by kernel_rfl) (by kernel_rfl) (by kernel_rfl) (fun _ _ _ h=>h) (Or.inl ⟨by rfl,?_⟩) (by assumption) ?_
    rotate_left
    ·(intro w hSw;(try dsimp only at hSw);go_simp;try with_reducible rfl)
    try simp only [Act.put,List.setIfInBounds_toArray,List.set_cons_zero,List.set_cons_succ]
    refine wpAnyH_done (by kernel_rfl) ?_ _
    go_wp2
    go_ret
    exact ⟨ret_bool (by rw [HOK2.out];rfl),HB3.out⟩
   ·rw [hm] at my hok
    have MY:=Lib.hid my;clear my
    have hyo:=(may_iff.1 hm).1
    by_cases h0:0<k
    ·have g0:decide (0<k)=true:=by simpa using h0
     have g1:decide ((0:Int)<(k:Int))=true:=by simpa using h0
     have e1:((k:Int) - 1).toNat=k - 1:=by omega
     have e2:(0:Int)≤(k:Int) - 1:=by omega
     have e3:IntKind.i64.wrap ((k:Int) - 1)=(k:Int) - 1:=IntWalk.i64_in _ (by omega)
     have e4:(k:Int) - 1<(n:Int):=by omega
     have e5:(1:Int)≤(k:Int):=by omega
     have e6:1≤k:=h0
     have e7:(k:Int)≤(n:Int):=by omega
     have e8:¬ n<k:=by omega
     replace cp:=cp h0
     cases q6:decide (yo≤last)
     ·have hll:decide (last<yo)=true:=by rw [decide_eq_true_iff];rw [decide_eq_false_iff_not] at q6;omega
      rw [hll,Bool.true_and,Bool.true_and] at hok
      have HOK2:=Lib.hid hok;clear hok h00 hll
      go_wp2_with (fail)
      refine wp_region_held_drew (S:=fun W=>W.cell? ⟨w.heap.size,0,none⟩=some (.slice (some ⟨b,off,none⟩) n c)∧W.cell? ⟨b,off+k*3,none⟩=some (.int .i64 yo)∧W.cell? ⟨b,off+k*3+1,none⟩=some (.int .i64 ys)∧W.cell? ⟨b,off+k*3+2,none⟩=some (.slice Au nu cu)∧W.cell? ⟨b,off+(k - 1)*3,none⟩=some (.int .i64 last)) (by kernel_rfl) ?_ (fun hHeld=>?_)
      ·exact ⟨x0,c0,c1,c2_,cp⟩
      refine wpAnyH_take (i:=0) (oi:=⟨some 13,_,_,_,_,_⟩) (v:=?_) rfl (by kernel_rfl) (by kernel_rfl) (by kernel_rfl) (fun _ _ _ h=>h) (Or.inl ⟨by rfl,?_⟩) (by assumption) ?_
      rotate_left
      ·(intro w hSw;(try dsimp only at hSw);go_simp;try with_reducible rfl)
      try simp only [Act.put,List.setIfInBounds_toArray,List.set_cons_zero,List.set_cons_succ]
      refine wpAnyH_take (i:=1) (oi:=⟨some 14,_,_,_,_,_⟩) (v:=?_) rfl (by kernel_rfl) (by kernel_rfl) (by kernel_rfl) (fun _ _ _ h=>h) (Or.inl ⟨by rfl,?_⟩) (by assumption) ?_
      rotate_left
      ·(intro w hSw;(try dsimp only at hSw);go_simp;try with_reducible rfl)
      try simp only [Act.put,List.setIfInBounds_toArray,List.set_cons_zero,List.set_cons_succ]
      refine wpAnyH_take (i:=2) (oi:=⟨some 15,_,_,_,_,_⟩) (v:=?_) rfl (by kernel_rfl) (by kernel_rfl) (by kernel_rfl) (fun _ _ _ h=>h) (Or.inl ⟨by rfl,?_⟩) (by assumption) ?_
      rotate_left
      ·(intro w hSw;(try dsimp only at hSw);go_simp;try with_reducible rfl)
      try simp only [Act.put,List.setIfInBounds_toArray,List.set_cons_zero,List.set_cons_succ]
      refine wpAnyH_take (i:=3) (oi:=⟨some 16,_,_,_,_,_⟩) (v:=?_) rfl (by kernel_rfl) (by kernel_rfl) (by kernel_rfl) (fun _ _ _ h=>h) (Or.inl ⟨by rfl,?_⟩) (by assumption) ?_
      rotate_left
      ·(intro w hSw;(try dsimp only at hSw);go_simp;try with_reducible rfl)
      try simp only [Act.put,List.setIfInBounds_toArray,List.set_cons_zero,List.set_cons_succ]
      refine wpAnyH_take (i:=4) (oi:=⟨some 17,_,_,_,_,_⟩) (v:=?_) rfl (by kernel_rfl) (by kernel_rfl) (by kernel_rfl) (fun _ _ _ h=>h) (Or.inl ⟨by rfl,?_⟩) (by assumption) ?_
      rotate_left
      ·(intro w hSw;(try dsimp only at hSw);go_simp;try with_reducible rfl)
      try simp only [Act.put,List.setIfInBounds_toArray,List.set_cons_zero,List.set_cons_succ]
      refine wpAnyH_ready (rs:=[5]) (by kernel_rfl) (by simp) (AllReadyH.cons (o:=⟨some 18,_,_,_,_,_⟩) rfl (fun K hK=>?_) AllReadyH.nil)
      go_simp
      (go_at_call 111;refine (MY.out).mono ?_;rintro e w3 ⟨rfl,hb3⟩;have hb3:Below wr.heap.size wr w3:=⟨hb3.os,hb3.tape,hb3.output,hb3.size,hb3.block⟩;have HB3:=Lib.hid (low_low HB.out hb3);have K3:=Lib.hid (K0.out.below hb3 K0.out.lt);obtain ⟨z0,z1,z2,z3,z4⟩:=blk_cells4 K3.out;have d0:=(hb3.cell (p:=⟨b,off+k*3,none⟩) hbw).trans c0;have d1:=(hb3.cell (p:=⟨b,off+k*3+1,none⟩) hbw).trans c1;have d2:=(hb3.cell (p:=⟨b,off+k*3+2,none⟩) hbw).trans c2_;have d3:=(hb3.cell (p:=⟨b,off+(k - 1)*3,none⟩) hbw).trans cp;clear hb3)
      refine hK.out _ _ ?_ (fun hHeld=>?_)
      ·exact ⟨z0,d0,d1,d2,d3⟩
      clear hK K
      try simp only [Act.put,List.setIfInBounds_toArray,List.set_cons_zero,List.set_cons_succ]
      refine wpAnyH_take (i:=6) (oi:=⟨some 19,_,_,_,_,_⟩) (v:=?_) rfl (by kernel_rfl) (by kernel_rfl) (by kernel_rfl) (fun _ _ _ h=>h) (Or.inl ⟨by rfl,?_⟩) (by assumption) ?_
      rotate_left
      ·(intro w hSw;(try dsimp only at hSw);go_simp;try with_reducible rfl)
      try simp only [Act.put,List.setIfInBounds_toArray,List.set_cons_zero,List.set_cons_succ]
      refine wpAnyH_take (i:=7) (oi:=⟨some 20,_,_,_,_,_⟩) (v:=?_) rfl (by kernel_rfl) (by kernel_rfl) (by kernel_rfl) (fun _ _ _ h=>h) (Or.inl ⟨by rfl,?_⟩) (by assumption) ?_
      rotate_left
      ·(intro w hSw;(try dsimp only at hSw);go_simp;try with_reducible rfl)
      try simp only [Act.put,List.setIfInBounds_toArray,List.set_cons_zero,List.set_cons_succ]
      refine wpAnyH_take (i:=8) (oi:=⟨some 21,_,_,_,_,_⟩) (v:=?_) rfl (by kernel_rfl) (by kernel_rfl) (by kernel_rfl) (fun _ _ _ h=>h) (Or.inl ⟨by rfl,?_⟩) (by assumption) ?_
      rotate_left
      ·(intro w hSw;(try dsimp only at hSw);go_simp;try with_reducible rfl)
      try simp only [Act.put,List.setIfInBounds_toArray,List.set_cons_zero,List.set_cons_succ]
      refine wpAnyH_take (i:=9) (oi:=⟨some 22,_,_,_,_,_⟩) (v:=?_) rfl (by kernel_rfl) (by kernel_rfl) (by kernel_rfl) (fun _ _ _ h=>h) (Or.inl ⟨by rfl,?_⟩) (by assumption) ?_
      rotate_left
      ·(intro w hSw;(try dsimp only at hSw);go_simp;try with_reducible rfl)
      try simp only [Act.put,List.setIfInBounds_toArray,List.set_cons_zero,List.set_cons_succ]
      refine wpAnyH_take (i:=10) (oi:=⟨some 23,_,_,_,_,_⟩) (v:=?_) rfl (by kernel_rfl) (by kernel_rfl) (by kernel_rfl) (fun _ _ _ h=>h) (Or.inl ⟨by rfl,?_⟩) (by assumption) ?_
      rotate_left
      ·(intro w hSw;(try dsimp only at hSw);go_simp;try with_reducible rfl)
      try simp only [Act.put,List.setIfInBounds_toArray,List.set_cons_zero,List.set_cons_succ]
      refine wpAnyH_take (i:=11) (oi:=⟨some 24,_,_,_,_,_⟩) (v:=?_) rfl (by kernel_rfl) (by kernel_rfl) (by kernel_rfl) (fun _ _ _ h=>h) (Or.inl ⟨by rfl,?_⟩) (by assumption) ?_
      rotate_left
      ·(intro w hSw;(try dsimp only at hSw);go_simp;try with_reducible rfl)
      try simp only [Act.put,List.setIfInBounds_toArray,List.set_cons_zero,List.set_cons_succ]
      refine wpAnyH_take (i:=12) (oi:=⟨some 25,_,_,_,_,_⟩) (v:=?_) rfl (by kernel_rfl) (by kernel_rfl) (by kernel_rfl) (fun _ _ _ h=>h) (Or.inl ⟨by rfl,?_⟩) (by assumption) ?_
      rotate_left
      ·(intro w hSw;(try dsimp only at hSw);go_simp;try with_reducible rfl)
      try simp only [Act.put,List.setIfInBounds_toArray,List.set_cons_zero,List.set_cons_succ]
      refine wpAnyH_take (i:=13) (oi:=⟨some 26,_,_,_,_,_⟩) (v:=?_) rfl (by kernel_rfl) (by kernel_rfl) (by kernel_rfl) (fun _ _ _ h=>h) (Or.inl ⟨by rfl,?_⟩) (by assumption) ?_
      rotate_left
      ·(intro w hSw;(try dsimp only at hSw);go_simp;try with_reducible rfl)
      try simp only [Act.put,List.setIfInBounds_toArray,List.set_cons_zero,List.set_cons_succ]
      refine wpAnyH_take (i:=14) (oi:=⟨some 27,_,_,_,_,_⟩) (v:=?_) rfl (by kernel_rfl) (by kernel_rfl) (by kernel_rfl) (fun _ _ _ h=>h) (Or.inl ⟨by rfl,?_⟩) (by assumption) ?_
      rotate_left
      ·(intro w hSw;(try dsimp only at hSw);go_simp;try with_reducible rfl)
      try simp only [Act.put,List.setIfInBounds_toArray,List.set_cons_zero,List.set_cons_succ]
      refine wpAnyH_take (i:=15) (oi:=⟨some 28,_,_,_,_,_⟩) (v:=?_) rfl (by kernel_rfl) (by kernel_rfl) (by kernel_rfl) (fun _ _ _ h=>h) (Or.inl ⟨by rfl,?_⟩) (by assumption) ?_
      rotate_left
      ·(intro w hSw;(try dsimp only at hSw);go_simp;try with_reducible rfl)
      try simp only [Act.put,List.setIfInBounds_toArray,List.set_cons_zero,List.set_cons_succ]
      refine wpAnyH_take (i:=16) (oi:=⟨some 29,_,_,_,_,_⟩) (v:=?_) rfl (by kernel_rfl) (by kernel_rfl) (by kernel_rfl) (fun _ _ _ h=>h) (Or.inl ⟨by rfl,?_⟩) (by assumption) ?_
      rotate_left
      ·(intro w hSw;(try dsimp only at hSw);go_simp;try with_reducible rfl)
      try simp only [Act.put,List.setIfInBounds_toArray,List.set_cons_zero,List.set_cons_succ]
      refine wpAnyH_take (i:=17) (oi:=⟨some 30,_,_,_,_,_⟩) (v:=?_) rfl (by kernel_rfl) (by kernel_rfl) (by kernel_rfl) (fun _ _ _ h=>h) (Or.inl ⟨by rfl,?_⟩) (by assumption) ?_
      rotate_left
      ·(intro w hSw;(try dsimp only at hSw);go_simp;try with_reducible rfl)
      try simp only [Act.put,List.setIfInBounds_toArray,List.set_cons_zero,List.set_cons_succ]
      refine wpAnyH_take (i:=18) (oi:=⟨some 31,_,_,_,_,_⟩) (v:=?_) rfl (by kernel_rfl) (by kernel_rfl) (by kernel_rfl) (fun _ _ _ h=>h) (Or.inl ⟨by rfl,?_⟩) (by assumption) ?_
      rotate_left
      ·(intro w hSw;(try dsimp only at hSw);go_simp;try with_reducible rfl)
      try simp only [Act.put,List.setIfInBounds_toArray,List.set_cons_zero,List.set_cons_succ]
      refine wpAnyH_take (i:=19) (oi:=⟨some 32,_,_,_,_,_⟩) (v:=?_) rfl (by kernel_rfl) (by kernel_rfl) (by kernel_rfl) (fun _ _ _ h=>h) (Or.inl ⟨by rfl,?_⟩) (by assumption) ?_
      rotate_left
      ·(intro w hSw;(try dsimp only at hSw);go_simp;try with_reducible rfl)
      try simp only [Act.put,List.setIfInBounds_toArray,List.set_cons_zero,List.set_cons_succ]
      refine wpAnyH_take (i:=20) (oi:=⟨some 33,_,_,_,_,_⟩) (v:=?_) rfl (by kernel_rfl) (by kernel_rfl) (by kernel_rfl) (fun _ _ _ h=>h) (Or.inl ⟨by rfl,?_⟩) (by assumption) ?_
      rotate_left
      ·(intro w hSw;(try dsimp only at hSw);go_simp;try with_reducible rfl)
      try simp only [Act.put,List.setIfInBounds_toArray,List.set_cons_zero,List.set_cons_succ]
      refine wpAnyH_take (i:=21) (oi:=⟨some 34,_,_,_,_,_⟩) (v:=?_) rfl (by kernel_rfl) (by kernel_rfl) (by kernel_rfl) (fun _ _ _ h=>h) (Or.inl ⟨by rfl,?_⟩) (by assumption) ?_
      rotate_left
      ·(intro w hSw;(try dsimp only at hSw);go_simp;try with_reducible rfl)
      try simp only [Act.put,List.setIfInBounds_toArray,List.set_cons_zero,List.set_cons_succ]
      refine wpAnyH_take (i:=22) (oi:=⟨some 35,_,_,_,_,_⟩) (v:=?_) rfl (by kernel_rfl) (by kernel_rfl) (by kernel_rfl) (fun _ _ _ h=>h) (Or.inl ⟨by rfl,?_⟩) (by assumption) ?_
      rotate_left
      ·(intro w hSw;(try dsimp only at hSw);go_simp;try with_reducible rfl)
      try simp only [Act.put,List.setIfInBounds_toArray,List.set_cons_zero,List.set_cons_succ]
      refine wpAnyH_take (i:=23) (oi:=⟨some 36,_,_,_,_,_⟩) (v:=?_) rfl (by kernel_rfl) (by kernel_rfl) (by kernel_rfl) (fun _ _ _ h=>h) (Or.inl ⟨by rfl,?_⟩) (by assumption) ?_
      rotate_left
      ·(intro w hSw;(try dsimp only at hSw);go_simp;try with_reducible rfl)
      try simp only [Act.put,List.setIfInBounds_toArray,List.set_cons_zero,List.set_cons_succ]
      refine wpAnyH_take (i:=24) (oi:=⟨some 37,_,_,_,_,_⟩) (v:=?_) rfl (by kernel_rfl) (by kernel_rfl) (by kernel_rfl) (fun _ _ _ h=>h) (Or.inl ⟨by rfl,?_⟩) (by assumption) ?_
      rotate_left
      ·(intro w hSw;(try dsimp only at hSw);go_simp;try with_reducible rfl)
      try simp only [Act.put,List.setIfInBounds_toArray,List.set_cons_zero,List.set_cons_succ]
      refine wpAnyH_take (i:=25) (oi:=⟨some 38,_,_,_,_,_⟩) (v:=?_) rfl (by kernel_rfl) (by kernel_rfl) (by kernel_rfl) (fun _ _ _ h=>h) (Or.inl ⟨by rfl,?_⟩) (by assumption) ?_
      rotate_left
      ·(intro w hSw;(try dsimp only at hSw);go_simp;try with_reducible rfl)
      try simp only [Act.put,List.setIfInBounds_toArray,List.set_cons_zero,List.set_cons_succ]
      refine wpAnyH_take (i:=26) (oi:=⟨some 39,_,_,_,_,_⟩) (v:=?_) rfl (by kernel_rfl) (by kernel_rfl) (by kernel_rfl) (fun _ _ _ h=>h) (Or.inl ⟨by rfl,?_⟩) (by assumption) ?_
      rotate_left
      ·(intro w hSw;(try dsimp only at hSw);go_simp;try with_reducible rfl)
      try simp only [Act.put,List.setIfInBounds_toArray,List.set_cons_zero,List.set_cons_succ]
      refine wpAnyH_done (by kernel_rfl) ?_ _
      go_wp2
      go_roundw
      case rel=>exact ⟨k+1,by omega,by go_num,HOK2,K3,HB3⟩
      case measure=>simp [intOf];omega
     ·have hll:decide (last<yo)=false:=by rw [decide_eq_false_iff_not];rw [decide_eq_true_iff] at q6;omega
      rw [hll] at hok
      have HOK2:=Lib.hid hok;clear hok h00 hll
      go_wp2_with (fail)
      refine wp_region_held_drew (S:=fun W=>W.cell? ⟨w.heap.size,0,none⟩=some (.slice (some ⟨b,off,none⟩) n c)∧W.cell? ⟨b,off+k*3,none⟩=some (.int .i64 yo)∧W.cell? ⟨b,off+k*3+1,none⟩=some (.int .i64 ys)∧W.cell? ⟨b,off+k*3+2,none⟩=some (.slice Au nu cu)∧W.cell? ⟨b,off+(k - 1)*3,none⟩=some (.int .i64 last)) (by kernel_rfl) ?_ (fun hHeld=>?_)
      ·exact ⟨x0,c0,c1,c2_,cp⟩
      refine wpAnyH_take (i:=0) (oi:=⟨some 13,_,_,_,_,_⟩) (v:=?_) rfl (by kernel_rfl) (by kernel_rfl) (by kernel_rfl) (fun _ _ _ h=>h) (Or.inl ⟨by rfl,?_⟩) (by assumption) ?_
      rotate_left
      ·(intro w hSw;(try dsimp only at hSw);go_simp;try with_reducible rfl)
      try simp only [Act.put,List.setIfInBounds_toArray,List.set_cons_zero,List.set_cons_succ]
      refine wpAnyH_take (i:=1) (oi:=⟨some 14,_,_,_,_,_⟩) (v:=?_) rfl (by kernel_rfl) (by kernel_rfl) (by kernel_rfl) (fun _ _ _ h=>h) (Or.inl ⟨by rfl,?_⟩) (by assumption) ?_
      rotate_left
      ·(intro w hSw;(try dsimp only at hSw);go_simp;try with_reducible rfl)
      try simp only [Act.put,List.setIfInBounds_toArray,List.set_cons_zero,List.set_cons_succ]
      refine wpAnyH_take (i:=2) (oi:=⟨some 15,_,_,_,_,_⟩) (v:=?_) rfl (by kernel_rfl) (by kernel_rfl) (by kernel_rfl) (fun _ _ _ h=>h) (Or.inl ⟨by rfl,?_⟩) (by assumption) ?_
      rotate_left
      ·(intro w hSw;(try dsimp only at hSw);go_simp;try with_reducible rfl)
      try simp only [Act.put,List.setIfInBounds_toArray,List.set_cons_zero,List.set_cons_succ]
      refine wpAnyH_take (i:=3) (oi:=⟨some 16,_,_,_,_,_⟩) (v:=?_) rfl (by kernel_rfl) (by kernel_rfl) (by kernel_rfl) (fun _ _ _ h=>h) (Or.inl ⟨by rfl,?_⟩) (by assumption) ?_
      rotate_left
      ·(intro w hSw;(try dsimp only at hSw);go_simp;try with_reducible rfl)
      try simp only [Act.put,List.setIfInBounds_toArray,List.set_cons_zero,List.set_cons_succ]
      refine wpAnyH_take (i:=4) (oi:=⟨some 17,_,_,_,_,_⟩) (v:=?_) rfl (by kernel_rfl) (by kernel_rfl) (by kernel_rfl) (fun _ _ _ h=>h) (Or.inl ⟨by rfl,?_⟩) (by assumption) ?_
      rotate_left
      ·(intro w hSw;(try dsimp only at hSw);go_simp;try with_reducible rfl)
      try simp only [Act.put,List.setIfInBounds_toArray,List.set_cons_zero,List.set_cons_succ]
      refine wpAnyH_ready (rs:=[5]) (by kernel_rfl) (by simp) (AllReadyH.cons (o:=⟨some 18,_,_,_,_,_⟩) rfl (fun K hK=>?_) AllReadyH.nil)
      go_simp
      (go_at_call 111;refine (MY.out).mono ?_;rintro e w3 ⟨rfl,hb3⟩;have hb3:Below wr.heap.size wr w3:=⟨hb3.os,hb3.tape,hb3.output,hb3.size,hb3.block⟩;have HB3:=Lib.hid (low_low HB.out hb3);have K3:=Lib.hid (K0.out.below hb3 K0.out.lt);obtain ⟨z0,z1,z2,z3,z4⟩:=blk_cells4 K3.out;have d0:=(hb3.cell (p:=⟨b,off+k*3,none⟩) hbw).trans c0;have d1:=(hb3.cell (p:=⟨b,off+k*3+1,none⟩) hbw).trans c1;have d2:=(hb3.cell (p:=⟨b,off+k*3+2,none⟩) hbw).trans c2_;have d3:=(hb3.cell (p:=⟨b,off+(k - 1)*3,none⟩) hbw).trans cp;clear hb3)
      refine hK.out _ _ ?_ (fun hHeld=>?_)
      ·exact ⟨z0,d0,d1,d2,d3⟩
      clear hK K
      try simp only [Act.put,List.setIfInBounds_toArray,List.set_cons_zero,List.set_cons_succ]
      refine wpAnyH_take (i:=6) (oi:=⟨some 19,_,_,_,_,_⟩) (v:=?_) rfl (by kernel_rfl) (by kernel_rfl) (by kernel_rfl) (fun _ _ _ h=>h) (Or.inl ⟨by rfl,?_⟩) (by assumption) ?_
      rotate_left
      ·(intro w hSw;(try dsimp only at hSw);go_simp;try with_reducible rfl)
      try simp only [Act.put,List.setIfInBounds_toArray,List.set_cons_zero,List.set_cons_succ]
      refine wpAnyH_take (i:=7) (oi:=⟨some 20,_,_,_,_,_⟩) (v:=?_) rfl (by kernel_rfl) (by kernel_rfl) (by kernel_rfl) (fun _ _ _ h=>h) (Or.inl ⟨by rfl,?_⟩) (by assumption) ?_
      rotate_left
      ·(intro w hSw;(try dsimp only at hSw);go_simp;try with_reducible rfl)
      try simp only [Act.put,List.setIfInBounds_toArray,List.set_cons_zero,List.set_cons_succ]
      refine wpAnyH_take (i:=8) (oi:=⟨some 21,_,_,_,_,_⟩) (v:=?_) rfl (by kernel_rfl) (by kernel_rfl) (by kernel_rfl) (fun _ _ _ h=>h) (Or.inl ⟨by rfl,?_⟩) (by assumption) ?_
      rotate_left
      ·(intro w hSw;(try dsimp only at hSw);go_simp;try with_reducible rfl)
      try simp only [Act.put,List.setIfInBounds_toArray,List.set_cons_zero,List.set_cons_succ]
      refine wpAnyH_take (i:=9) (oi:=⟨some 22,_,_,_,_,_⟩) (v:=?_) rfl (by kernel_rfl) (by kernel_rfl) (by kernel_rfl) (fun _ _ _ h=>h) (Or.inl ⟨by rfl,?_⟩) (by assumption) ?_
      rotate_left
      ·(intro w hSw;(try dsimp only at hSw);go_simp;try with_reducible rfl)
      try simp only [Act.put,List.setIfInBounds_toArray,List.set_cons_zero,List.set_cons_succ]
      refine wpAnyH_take (i:=10) (oi:=⟨some 23,_,_,_,_,_⟩) (v:=?_) rfl (by kernel_rfl) (by kernel_rfl) (by kernel_rfl) (fun _ _ _ h=>h) (Or.inl ⟨by rfl,?_⟩) (by assumption) ?_
      rotate_left
      ·(intro w hSw;(try dsimp only at hSw);go_simp;try with_reducible rfl)
      try simp only [Act.put,List.setIfInBounds_toArray,List.set_cons_zero,List.set_cons_succ]
      refine wpAnyH_take (i:=11) (oi:=⟨some 24,_,_,_,_,_⟩) (v:=?_) rfl (by kernel_rfl) (by kernel_rfl) (by kernel_rfl) (fun _ _ _ h=>h) (Or.inl ⟨by rfl,?_⟩) (by assumption) ?_
      rotate_left
      ·(intro w hSw;(try dsimp only at hSw);go_simp;try with_reducible rfl)
      try simp only [Act.put,List.setIfInBounds_toArray,List.set_cons_zero,List.set_cons_succ]
      refine wpAnyH_take (i:=12) (oi:=⟨some 25,_,_,_,_,_⟩) (v:=?_) rfl (by kernel_rfl) (by kernel_rfl) (by kernel_rfl) (fun _ _ _ h=>h) (Or.inl ⟨by rfl,?_⟩) (by assumption) ?_
      rotate_left
      ·(intro w hSw;(try dsimp only at hSw);go_simp;try with_reducible rfl)
      try simp only [Act.put,List.setIfInBounds_toArray,List.set_cons_zero,List.set_cons_succ]
      refine wpAnyH_take (i:=13) (oi:=⟨some 26,_,_,_,_,_⟩) (v:=?_) rfl (by kernel_rfl) (by kernel_rfl) (by kernel_rfl) (fun _ _ _ h=>h) (Or.inl ⟨by rfl,?_⟩) (by assumption) ?_
      rotate_left
      ·(intro w hSw;(try dsimp only at hSw);go_simp;try with_reducible rfl)
      try simp only [Act.put,List.setIfInBounds_toArray,List.set_cons_zero,List.set_cons_succ]
      refine wpAnyH_take (i:=14) (oi:=⟨some 27,_,_,_,_,_⟩) (v:=?_) rfl (by kernel_rfl) (by kernel_rfl) (by kernel_rfl) (fun _ _ _ h=>h) (Or.inl ⟨by rfl,?_⟩) (by assumption) ?_
      rotate_left
      ·(intro w hSw;(try dsimp only at hSw);go_simp;try with_reducible rfl)
      try simp only [Act.put,List.setIfInBounds_toArray,List.set_cons_zero,List.set_cons_succ]
      refine wpAnyH_take (i:=15) (oi:=⟨some 28,_,_,_,_,_⟩) (v:=?_) rfl (by kernel_rfl) (by kernel_rfl) (by kernel_rfl) (fun _ _ _ h=>h) (Or.inl ⟨by rfl,?_⟩) (by assumption) ?_
      rotate_left
      ·(intro w hSw;(try dsimp only at hSw);go_simp;try with_reducible rfl)
      try simp only [Act.put,List.setIfInBounds_toArray,List.set_cons_zero,List.set_cons_succ]
      refine wpAnyH_take (i:=16) (oi:=⟨some 29,_,_,_,_,_⟩) (v:=?_) rfl (by kernel_rfl) (by kernel_rfl) (by kernel_rfl) (fun _ _ _ h=>h) (Or.inl ⟨by rfl,?_⟩) (by assumption) ?_
      rotate_left
      ·(intro w hSw;(try dsimp only at hSw);go_simp;try with_reducible rfl)
      try simp only [Act.put,List.setIfInBounds_toArray,List.set_cons_zero,List.set_cons_succ]
      refine wpAnyH_take (i:=17) (oi:=⟨some 30,_,_,_,_,_⟩) (v:=?_) rfl (by kernel_rfl) (by kernel_rfl) (by kernel_rfl) (fun _ _ _ h=>h) (Or.inl ⟨by rfl,?_⟩) (by assumption) ?_
      rotate_left
      ·(intro w hSw;(try dsimp only at hSw);go_simp;try with_reducible rfl)
      try simp only [Act.put,List.setIfInBounds_toArray,List.set_cons_zero,List.set_cons_succ]
      refine wpAnyH_take (i:=18) (oi:=⟨some 31,_,_,_,_,_⟩) (v:=?_) rfl (by kernel_rfl) (by kernel_rfl) (by kernel_rfl) (fun _ _ _ h=>h) (Or.inl ⟨by rfl,?_⟩) (by assumption) ?_
      rotate_left
      ·(intro w hSw;(try dsimp only at hSw);go_simp;try with_reducible rfl)
      try simp only [Act.put,List.setIfInBounds_toArray,List.set_cons_zero,List.set_cons_succ]
      refine wpAnyH_take (i:=19) (oi:=⟨some 32,_,_,_,_,_⟩) (v:=?_) rfl (by kernel_rfl) (by kernel_rfl) (by kernel_rfl) (fun _ _ _ h=>h) (Or.inl ⟨by rfl,?_⟩) (by assumption) ?_
      rotate_left
      ·(intro w hSw;(try dsimp only at hSw);go_simp;try with_reducible rfl)
      try simp only [Act.put,List.setIfInBounds_toArray,List.set_cons_zero,List.set_cons_succ]
      refine wpAnyH_take (i:=20) (oi:=⟨some 33,_,_,_,_,_⟩) (v:=?_) rfl (by kernel_rfl) (by kernel_rfl) (by kernel_rfl) (fun _ _ _ h=>h) (Or.inl ⟨by rfl,?_⟩) (by assumption) ?_
      rotate_left
      ·(intro w hSw;(try dsimp only at hSw);go_simp;try with_reducible rfl)
      try simp only [Act.put,List.setIfInBounds_toArray,List.set_cons_zero,List.set_cons_succ]
      refine wpAnyH_take (i:=21) (oi:=⟨some 34,_,_,_,_,_⟩) (v:=?_) rfl (by kernel_rfl) (by kernel_rfl) (by kernel_rfl) (fun _ _ _ h=>h) (Or.inl ⟨by rfl,?_⟩) (by assumption) ?_
      rotate_left
      ·(intro w hSw;(try dsimp only at hSw);go_simp;try with_reducible rfl)
      try simp only [Act.put,List.setIfInBounds_toArray,List.set_cons_zero,List.set_cons_succ]
      refine wpAnyH_take (i:=22) (oi:=⟨some 35,_,_,_,_,_⟩) (v:=?_) rfl (by kernel_rfl) (by kernel_rfl) (by kernel_rfl) (fun _ _ _ h=>h) (Or.inl ⟨by rfl,?_⟩) (by assumption) ?_
      rotate_left
      ·(intro w hSw;(try dsimp only at hSw);go_simp;try with_reducible rfl)
      try simp only [Act.put,List.setIfInBounds_toArray,List.set_cons_zero,List.set_cons_succ]
      refine wpAnyH_take (i:=23) (oi:=⟨some 36,_,_,_,_,_⟩) (v:=?_) rfl (by kernel_rfl) (by kernel_rfl) (by kernel_rfl) (fun _ _ _ h=>h) (Or.inl ⟨by rfl,?_⟩) (by assumption) ?_
      rotate_left
      ·(intro w hSw;(try dsimp only at hSw);go_simp;try with_reducible rfl)
      try simp only [Act.put,List.setIfInBounds_toArray,List.set_cons_zero,List.set_cons_succ]
      refine wpAnyH_take (i:=24) (oi:=⟨some 37,_,_,_,_,_⟩) (v:=?_) rfl (by kernel_rfl) (by kernel_rfl) (by kernel_rfl) (fun _ _ _ h=>h) (Or.inl ⟨by rfl,?_⟩) (by assumption) ?_
      rotate_left
      ·(intro w hSw;(try dsimp only at hSw);go_simp;try with_reducible rfl)
      try simp only [Act.put,List.setIfInBounds_toArray,List.set_cons_zero,List.set_cons_succ]
      refine wpAnyH_take (i:=25) (oi:=⟨some 38,_,_,_,_,_⟩) (v:=?_) rfl (by kernel_rfl) (by kernel_rfl) (by kernel_rfl) (fun _ _ _ h=>h) (Or.inl ⟨by rfl,?_⟩) (by assumption) ?_
      rotate_left
      ·(intro w hSw;(try dsimp only at hSw);go_simp;try with_reducible rfl)
      try simp only [Act.put,List.setIfInBounds_toArray,List.set_cons_zero,List.set_cons_succ]
      refine wpAnyH_take (i:=26) (oi:=⟨some 39,_,_,_,_,_⟩) (v:=?_) rfl (by kernel_rfl) (by kernel_rfl) (by kernel_rfl) (fun _ _ _ h=>h) (Or.inl ⟨by rfl,?_⟩) (by assumption) ?_
      rotate_left
      ·(intro w hSw;(try dsimp only at hSw);go_simp;try with_reducible rfl)
      try simp only [Act.put,List.setIfInBounds_toArray,List.set_cons_zero,List.set_cons_succ]
      refine wpAnyH_done (by kernel_rfl) ?_ _
      go_wp2
      go_ret
      exact ⟨ret_bool (by rw [HOK2.out];rfl),HB3.out⟩
    ·have g0:decide (0<k)=false:=by simpa using h0
     have g1:decide ((0:Int)<(k:Int))=false:=by simpa using h0
     have hl0:=h00 (by omega)
     have hll:decide (last<yo)=true:=by rw [decide_eq_true_iff];omega
     rw [hll,Bool.true_and,Bool.true_and] at hok
     have HOK2:=Lib.hid hok;clear hok h00 hll hl0 cp
     go_wp2_with (fail)
     refine wp_region_held_drew (S:=fun W=>W.cell? ⟨w.heap.size,0,none⟩=some (.slice (some ⟨b,off,none⟩) n c)∧W.cell? ⟨b,off+k*3,none⟩=some (.int .i64 yo)∧W.cell? ⟨b,off+k*3+1,none⟩=some (.int .i64 ys)∧W.cell? ⟨b,off+k*3+2,none⟩=some (.slice Au nu cu)) (by kernel_rfl) ?_ (fun hHeld=>?_)
     ·exact ⟨x0,c0,c1,c2_⟩
     refine wpAnyH_take (i:=0) (oi:=⟨some 13,_,_,_,_,_⟩) (v:=?_) rfl (by kernel_rfl) (by kernel_rfl) (by kernel_rfl) (fun _ _ _ h=>h) (Or.inl ⟨by rfl,?_⟩) (by assumption) ?_
     rotate_left
     ·(intro w hSw;(try dsimp only at hSw);go_simp;try with_reducible rfl)
     try simp only [Act.put,List.setIfInBounds_toArray,List.set_cons_zero,List.set_cons_succ]
     refine wpAnyH_take (i:=1) (oi:=⟨some 14,_,_,_,_,_⟩) (v:=?_) rfl (by kernel_rfl) (by kernel_rfl) (by kernel_rfl) (fun _ _ _ h=>h) (Or.inl ⟨by rfl,?_⟩) (by assumption) ?_
     rotate_left
     ·(intro w hSw;(try dsimp only at hSw);go_simp;try with_reducible rfl)
     try simp only [Act.put,List.setIfInBounds_toArray,List.set_cons_zero,List.set_cons_succ]
     refine wpAnyH_take (i:=2) (oi:=⟨some 15,_,_,_,_,_⟩) (v:=?_) rfl (by kernel_rfl) (by kernel_rfl) (by kernel_rfl) (fun _ _ _ h=>h) (Or.inl ⟨by rfl,?_⟩) (by assumption) ?_
     rotate_left
     ·(intro w hSw;(try dsimp only at hSw);go_simp;try with_reducible rfl)
     try simp only [Act.put,List.setIfInBounds_toArray,List.set_cons_zero,List.set_cons_succ]
     refine wpAnyH_take (i:=3) (oi:=⟨some 16,_,_,_,_,_⟩) (v:=?_) rfl (by kernel_rfl) (by kernel_rfl) (by kernel_rfl) (fun _ _ _ h=>h) (Or.inl ⟨by rfl,?_⟩) (by assumption) ?_
     rotate_left
     ·(intro w hSw;(try dsimp only at hSw);go_simp;try with_reducible rfl)
     try simp only [Act.put,List.setIfInBounds_toArray,List.set_cons_zero,List.set_cons_succ]
     refine wpAnyH_take (i:=4) (oi:=⟨some 17,_,_,_,_,_⟩) (v:=?_) rfl (by kernel_rfl) (by kernel_rfl) (by kernel_rfl) (fun _ _ _ h=>h) (Or.inl ⟨by rfl,?_⟩) (by assumption) ?_
     rotate_left
     ·(intro w hSw;(try dsimp only at hSw);go_simp;try with_reducible rfl)
     try simp only [Act.put,List.setIfInBounds_toArray,List.set_cons_zero,List.set_cons_succ]
     refine wpAnyH_ready (rs:=[5]) (by kernel_rfl) (by simp) (AllReadyH.cons (o:=⟨some 18,_,_,_,_,_⟩) rfl (fun K hK=>?_) AllReadyH.nil)
     go_simp
     (go_at_call 111;refine (MY.out).mono ?_;rintro e w3 ⟨rfl,hb3⟩;have hb3:Below wr.heap.size wr w3:=⟨hb3.os,hb3.tape,hb3.output,hb3.size,hb3.block⟩;have HB3:=Lib.hid (low_low HB.out hb3);have K3:=Lib.hid (K0.out.below hb3 K0.out.lt);obtain ⟨z0,z1,z2,z3,z4⟩:=blk_cells4 K3.out;have d0:=(hb3.cell (p:=⟨b,off+k*3,none⟩) hbw).trans c0;have d1:=(hb3.cell (p:=⟨b,off+k*3+1,none⟩) hbw).trans c1;have d2:=(hb3.cell (p:=⟨b,off+k*3+2,none⟩) hbw).trans c2_;clear hb3)
     refine hK.out _ _ ?_ (fun hHeld=>?_)
     ·exact ⟨z0,d0,d1,d2⟩
     clear hK K
     try simp only [Act.put,List.setIfInBounds_toArray,List.set_cons_zero,List.set_cons_succ]
     refine wpAnyH_take (i:=6) (oi:=⟨some 19,_,_,_,_,_⟩) (v:=?_) rfl (by kernel_rfl) (by kernel_rfl) (by kernel_rfl) (fun _ _ _ h=>h) (Or.inl ⟨by rfl,?_⟩) (by assumption) ?_
     rotate_left
     ·(intro w hSw;(try dsimp only at hSw);go_simp;try with_reducible rfl)
     try simp only [Act.put,List.setIfInBounds_toArray,List.set_cons_zero,List.set_cons_succ]
     refine wpAnyH_take (i:=7) (oi:=⟨some 20,_,_,_,_,_⟩) (v:=?_) rfl (by kernel_rfl) (by kernel_rfl) (by kernel_rfl) (fun _ _ _ h=>h) (Or.inl ⟨by rfl,?_⟩) (by assumption) ?_
     rotate_left
     ·(intro w hSw;(try dsimp only at hSw);go_simp;try with_reducible rfl)
     try simp only [Act.put,List.setIfInBounds_toArray,List.set_cons_zero,List.set_cons_succ]
     refine wpAnyH_take (i:=8) (oi:=⟨some 21,_,_,_,_,_⟩) (v:=?_) rfl (by kernel_rfl) (by kernel_rfl) (by kernel_rfl) (fun _ _ _ h=>h) (Or.inl ⟨by rfl,?_⟩) (by assumption) ?_
     rotate_left
     ·(intro w hSw;(try dsimp only at hSw);go_simp;try with_reducible rfl)
     try simp only [Act.put,List.setIfInBounds_toArray,List.set_cons_zero,List.set_cons_succ]
     refine wpAnyH_take (i:=9) (oi:=⟨some 22,_,_,_,_,_⟩) (v:=?_) rfl (by kernel_rfl) (by kernel_rfl) (by kernel_rfl) (fun _ _ _ h=>h) (Or.inl ⟨by rfl,?_⟩) (by assumption) ?_
     rotate_left
     ·(intro w hSw;(try dsimp only at hSw);go_simp;try with_reducible rfl)
     try simp only [Act.put,List.setIfInBounds_toArray,List.set_cons_zero,List.set_cons_succ]
     refine wpAnyH_take (i:=10) (oi:=⟨some 23,_,_,_,_,_⟩) (v:=?_) rfl (by kernel_rfl) (by kernel_rfl) (by kernel_rfl) (fun _ _ _ h=>h) (Or.inl ⟨by rfl,?_⟩) (by assumption) ?_
     rotate_left
     ·(intro w hSw;(try dsimp only at hSw);go_simp;try with_reducible rfl)
     try simp only [Act.put,List.setIfInBounds_toArray,List.set_cons_zero,List.set_cons_succ]
     refine wpAnyH_take (i:=11) (oi:=⟨some 24,_,_,_,_,_⟩) (v:=undef) rfl (by kernel_rfl) (by kernel_rfl) (by kernel_rfl) (fun _ _ _ h=>h) (Or.inr ⟨by rfl,rfl⟩) (by assumption) ?_
     try simp only [Act.put,List.setIfInBounds_toArray,List.set_cons_zero,List.set_cons_succ]
     refine wpAnyH_take (i:=12) (oi:=⟨some 25,_,_,_,_,_⟩) (v:=undef) rfl (by kernel_rfl) (by kernel_rfl) (by kernel_rfl) (fun _ _ _ h=>h) (Or.inr ⟨by rfl,rfl⟩) (by assumption) ?_
     try simp only [Act.put,List.setIfInBounds_toArray,List.set_cons_zero,List.set_cons_succ]
     refine wpAnyH_take (i:=13) (oi:=⟨some 26,_,_,_,_,_⟩) (v:=undef) rfl (by kernel_rfl) (by kernel_rfl) (by kernel_rfl) (fun _ _ _ h=>h) (Or.inr ⟨by rfl,rfl⟩) (by assumption) ?_
     try simp only [Act.put,List.setIfInBounds_toArray,List.set_cons_zero,List.set_cons_succ]
     refine wpAnyH_take (i:=14) (oi:=⟨some 27,_,_,_,_,_⟩) (v:=undef) rfl (by kernel_rfl) (by kernel_rfl) (by kernel_rfl) (fun _ _ _ h=>h) (Or.inr ⟨by rfl,rfl⟩) (by assumption) ?_
     try simp only [Act.put,List.setIfInBounds_toArray,List.set_cons_zero,List.set_cons_succ]
     refine wpAnyH_take (i:=15) (oi:=⟨some 28,_,_,_,_,_⟩) (v:=undef) rfl (by kernel_rfl) (by kernel_rfl) (by kernel_rfl) (fun _ _ _ h=>h) (Or.inr ⟨by rfl,rfl⟩) (by assumption) ?_
     try simp only [Act.put,List.setIfInBounds_toArray,List.set_cons_zero,List.set_cons_succ]
     refine wpAnyH_take (i:=16) (oi:=⟨some 29,_,_,_,_,_⟩) (v:=undef) rfl (by kernel_rfl) (by kernel_rfl) (by kernel_rfl) (fun _ _ _ h=>h) (Or.inr ⟨by rfl,rfl⟩) (by assumption) ?_
     try simp only [Act.put,List.setIfInBounds_toArray,List.set_cons_zero,List.set_cons_succ]
     refine wpAnyH_take (i:=17) (oi:=⟨some 30,_,_,_,_,_⟩) (v:=undef) rfl (by kernel_rfl) (by kernel_rfl) (by kernel_rfl) (fun _ _ _ h=>h) (Or.inr ⟨by rfl,rfl⟩) (by assumption) ?_
     try simp only [Act.put,List.setIfInBounds_toArray,List.set_cons_zero,List.set_cons_succ]
     refine wpAnyH_take (i:=18) (oi:=⟨some 31,_,_,_,_,_⟩) (v:=undef) rfl (by kernel_rfl) (by kernel_rfl) (by kernel_rfl) (fun _ _ _ h=>h) (Or.inr ⟨by rfl,rfl⟩) (by assumption) ?_
     try simp only [Act.put,List.setIfInBounds_toArray,List.set_cons_zero,List.set_cons_succ]
     refine wpAnyH_take (i:=19) (oi:=⟨some 32,_,_,_,_,_⟩) (v:=undef) rfl (by kernel_rfl) (by kernel_rfl) (by kernel_rfl) (fun _ _ _ h=>h) (Or.inr ⟨by rfl,rfl⟩) (by assumption) ?_
     try simp only [Act.put,List.setIfInBounds_toArray,List.set_cons_zero,List.set_cons_succ]
     refine wpAnyH_take (i:=20) (oi:=⟨some 33,_,_,_,_,_⟩) (v:=undef) rfl (by kernel_rfl) (by kernel_rfl) (by kernel_rfl) (fun _ _ _ h=>h) (Or.inr ⟨by rfl,rfl⟩) (by assumption) ?_
     try simp only [Act.put,List.setIfInBounds_toArray,List.set_cons_zero,List.set_cons_succ]
     refine wpAnyH_take (i:=21) (oi:=⟨some 34,_,_,_,_,_⟩) (v:=undef) rfl (by kernel_rfl) (by kernel_rfl) (by kernel_rfl) (fun _ _ _ h=>h) (Or.inr ⟨by rfl,rfl⟩) (by assumption) ?_
     try simp only [Act.put,List.setIfInBounds_toArray,List.set_cons_zero,List.set_cons_succ]
     refine wpAnyH_take (i:=22) (oi:=⟨some 35,_,_,_,_,_⟩) (v:=undef) rfl (by kernel_rfl) (by kernel_rfl) (by kernel_rfl) (fun _ _ _ h=>h) (Or.inr ⟨by rfl,rfl⟩) (by assumption) ?_
     try simp only [Act.put,List.setIfInBounds_toArray,List.set_cons_zero,List.set_cons_succ]
     refine wpAnyH_take (i:=23) (oi:=⟨some 36,_,_,_,_,_⟩) (v:=undef) rfl (by kernel_rfl) (by kernel_rfl) (by kernel_rfl) (fun _ _ _ h=>h) (Or.inr ⟨by rfl,rfl⟩) (by assumption) ?_
     try simp only [Act.put,List.setIfInBounds_toArray,List.set_cons_zero,List.set_cons_succ]
     refine wpAnyH_take (i:=24) (oi:=⟨some 37,_,_,_,_,_⟩) (v:=undef) rfl (by kernel_rfl) (by kernel_rfl) (by kernel_rfl) (fun _ _ _ h=>h) (Or.inr ⟨by rfl,rfl⟩) (by assumption) ?_
     try simp only [Act.put,List.setIfInBounds_toArray,List.set_cons_zero,List.set_cons_succ]
     refine wpAnyH_take (i:=25) (oi:=⟨some 38,_,_,_,_,_⟩) (v:=?_) rfl (by kernel_rfl) (by kernel_rfl) (by kernel_rfl) (fun _ _ _ h=>h) (Or.inl ⟨by rfl,?_⟩) (by assumption) ?_
     rotate_left
     ·(intro w hSw;(try dsimp only at hSw);go_simp;try with_reducible rfl)
     try simp only [Act.put,List.setIfInBounds_toArray,List.set_cons_zero,List.set_cons_succ]
     refine wpAnyH_take (i:=26) (oi:=⟨some 39,_,_,_,_,_⟩) (v:=?_) rfl (by kernel_rfl) (by kernel_rfl) (by kernel_rfl) (fun _ _ _ h=>h) (Or.inl ⟨by rfl,?_⟩) (by assumption) ?_
     rotate_left
     ·(intro w hSw;(try dsimp only at hSw);go_simp;try with_reducible rfl)
     try simp only [Act.put,List.setIfInBounds_toArray,List.set_cons_zero,List.set_cons_succ]
     refine wpAnyH_done (by kernel_rfl) ?_ _
     go_wp2
     go_roundw
     case rel=>exact ⟨k+1,by omega,by go_num,HOK2,K3,HB3⟩
     case measure=>simp [intOf];omega
  ·obtain rfl:n=k:=by omega
   have hnil:db.drop n=[]:=List.drop_eq_nil_of_le (by have:=HL.out;omega)
   have hokt:dbOk 0 db=true:=by rw [HOK.out,hnil];rfl
   clear hnil
   have HOKD:=Lib.hid hokt;clear hokt HOK
   go_wp2
   obtain ⟨wo,hwo⟩:∃ wo:World,wo=wr:=⟨_,rfl⟩
   rw [← hwo] at K0 HB x0 x1 x2 x3 x4 hws ⊢
   clear hwo
   go_loopw [4] (fun i wr=>∃ (k:Nat),k≤n'∧i=.int .i64 k∧Hid (epOk 0 ep=epOk (lastE ep k) (ep.drop k))∧Hid (Blk wr w.heap.size 43 #[.slice A n c,.int .i64 up,.int .i64 bo,.slice A' n' c'])∧Hid (Below w.heap.size w wr)) (fun i _=>n' - (intOf i).toNat)
   case atStart=>exact ⟨0,Nat.zero_le _,rfl,Lib.hid rfl,K0,HB⟩
   case round =>
    clear K0 HB x0 x1 x2 x3 x4 hws
    obtain ⟨k,hk,rfl,HOK,K0,HB⟩:=hrel
    obtain ⟨x0,x1,x2,x3,x4⟩:=blk_cells4 K0.out
    have hws:=HB.out.size
    by_cases hlt:k<n'
    ·obtain ⟨b,off,rfl,hb,hc⟩:=lks_at HS'.out (by omega)
     obtain ⟨c0,c1⟩:=hc k hlt
     replace c0:=(HB.out.cell (p:=⟨b,off+k*2,none⟩) hb).trans c0
     replace c1:=(HB.out.cell (p:=⟨b,off+k*2+1,none⟩) hb).trans c1
     have cp:0<k→wr.cell? ⟨b,off+(k - 1)*2,none⟩=some (.int .i64 (lastE ep k)):=fun h0=>by
      rw [lastE,if_neg (by omega)]
      exact (HB.out.cell (p:=⟨b,off+(k - 1)*2,none⟩) hb).trans (hc (k - 1) (by omega)).1
     have hok:=HOK.out
     rw [epOk_step _ ep k (by have:=HL'.out;omega),← lastE_succ] at hok
     have h00:k=0→lastE ep k=0:=fun e=>by rw [lastE,if_pos e]
     clear hc HOK
     have hbw:b<wr.heap.size:=by omega
     generalize hy:ep.getD k (0,0)=y at *
     obtain ⟨a,b_⟩:=y
     simp only at c0 c1 hok
     generalize lastE ep k=last at *
     have HY:=Lib.hid hy;clear hy
     have HOK:=Lib.hid hok;clear hok
     have HB2:=Lib.hid (low1 HB.out (.cells #[.int .i64 a,.int .i64 b_] 118))
     have K2:=Lib.hid (K0.out.alloc (.cells #[.int .i64 a,.int .i64 b_] 118))
     have hbb:b≠wr.heap.size:=by omega
     have hqq:w.heap.size≠wr.heap.size:=by omega
     cases q1:decide (a<1)
     case true =>
      have HOK2:=Lib.hid (show epOk 0 ep=false by rw [HOK.out];simp [epOne,win];simp at q1;intros;omega)
      go_wp2
      go_quiet (fail)
      go_wp2
      go_ret
      exact ⟨ret_bool (by rw [HOKD.out,HOK2.out];rfl),below_drewN HB2.out _⟩
     cases q2:decide (64<a)
     case true =>
      have HOK2:=Lib.hid (show epOk 0 ep=false by rw [HOK.out];simp [epOne,win];simp at q2;intros;omega)
      go_wp2
      go_quiet (fail)
      go_wp2
      go_ret
      exact ⟨ret_bool (by rw [HOKD.out,HOK2.out];rfl),below_drewN HB2.out _⟩
     cases q3:decide (b_<1)
     case true =>
      have HOK2:=Lib.hid (show epOk 0 ep=false by rw [HOK.out];simp [epOne,win];simp at q3;intros;omega)
      go_wp2
      go_quiet (fail)
      go_wp2
      go_ret
      exact ⟨ret_bool (by rw [HOKD.out,HOK2.out];rfl),below_drewN HB2.out _⟩
     cases q4:decide (1073741824<b_)
     case true =>
      have HOK2:=Lib.hid (show epOk 0 ep=false by rw [HOK.out];simp [epOne,win];simp at q4;intros;omega)
      go_wp2
      go_quiet (fail)
      go_wp2
      go_ret
      exact ⟨ret_bool (by rw [HOKD.out,HOK2.out];rfl),below_drewN HB2.out _⟩
     by_cases h0:0<k
     ·have g0:decide (0<k)=true:=by simpa using h0
      have g1:decide ((0:Int)<(k:Int))=true:=by simpa using h0
      have e1:((k:Int) - 1).toNat=k - 1:=by omega
      have e2:(0:Int)≤(k:Int) - 1:=by omega
      have e3:IntKind.i64.wrap ((k:Int) - 1)=(k:Int) - 1:=IntWalk.i64_in _ (by omega)
      have e4:(k:Int) - 1<(n':Int):=by omega
      have e5:(1:Int)≤(k:Int):=by omega
      have e6:1≤k:=h0
      have e7:(k:Int)≤(n':Int):=by omega
      have e8:¬ n'<k:=by omega
      replace cp:=(World.cell?_alloc_lt wr (Obj.cells #[.int .i64 a,.int .i64 b_] 118) ⟨b,off+(k - 1)*2,none⟩ (show b<wr.heap.size by omega)).trans (cp h0)
      cases q6:decide (a≤last)
      ·have HOK2:=Lib.hid (show epOk 0 ep=epOk (lastE ep (k+1)) (ep.drop (k+1)) by rw [HOK.out];simp at q1 q2 q3 q4 q6;simp [epOne,win,q1,q2,q3,q4,q6])
       go_wp2
       go_quiet (fail)
       go_wp2
       go_roundw
       case rel=>exact ⟨k+1,by omega,by go_num,HOK2,Lib.hid (K2.out.drewN _),Lib.hid (below_drewN HB2.out _)⟩
       case measure=>simp [intOf];omega
      ·have HOK2:=Lib.hid (show epOk 0 ep=false by rw [HOK.out];simp [epOne,win];simp at q6;intros;omega)
       go_wp2
       go_quiet (fail)
       go_wp2
       go_ret
       exact ⟨ret_bool (by rw [HOKD.out,HOK2.out];rfl),below_drewN HB2.out _⟩
     ·have g0:decide (0<k)=false:=by simpa using h0
      have g1:decide ((0:Int)<(k:Int))=false:=by simpa using h0
      have hl0:=h00 (by omega)
      have HOK2:=Lib.hid (show epOk 0 ep=epOk (lastE ep (k+1)) (ep.drop (k+1)) by rw [HOK.out,hl0];simp at q1 q2 q3 q4;simp [epOne,win,q1,q2,q3,q4];intros;omega)
      clear cp hl0 h00
      go_wp2
      go_quiet (fail)
      go_wp2
      go_roundw
      case rel=>exact ⟨k+1,by omega,by go_num,HOK2,Lib.hid (K2.out.drewN _),Lib.hid (below_drewN HB2.out _)⟩
      case measure=>simp [intOf];omega
    ·obtain rfl:n'=k:=by omega
     have hnil:ep.drop n'=[]:=List.drop_eq_nil_of_le (by have:=HL'.out;omega)
     have hokt:epOk 0 ep=true:=by rw [HOK.out,hnil];rfl
     clear hnil
     have HOKE:=Lib.hid hokt;clear hokt HOK
     cases q1:decide (0≤up)
     ·go_wp2
      go_ret
      exact ⟨ret_bool (by simp [HOKD.out,HOKE.out, *]),HB.out⟩
     cases q2:decide (up≤4611686018427387904)
     ·go_wp2
      go_ret
      exact ⟨ret_bool (by simp [HOKD.out,HOKE.out, *]),HB.out⟩
     cases q3:decide (0≤bo)
     ·go_wp2
      go_ret
      exact ⟨ret_bool (by simp [HOKD.out,HOKE.out, *]),HB.out⟩
     cases q4:decide (bo≤1073741824)
     ·go_wp2
      go_ret
      exact ⟨ret_bool (by simp [HOKD.out,HOKE.out, *]),HB.out⟩
     go_wp2
     go_ret
     exact ⟨ret_bool (by simp [HOKD.out,HOKE.out, *]),HB.out⟩
end Go.Proofs.YtplpmemlaohlaaaGreat.Bas
namespace Go.Proofs.YtplpmemlaohlaaaGreat.Bas
open Go.RowKit Go.Shelf Mem Oct Lsa Chg
set_option linter.unusedVariables false
set_option linter.unusedSimpArgs false
def RApplyS (w:World) (B0:Nat) (s:Sta) (l:List Ch) (e:Ending) (w':World):Prop :=
 ∃ dv ev,e=.returned (.tuple #[stV (applyS s l).1 dv ev,.int .i64 (applyS s l).2])∧SafeL w' B0 dv (applyS s l).1.db∧SafeE w' B0 ev (applyS s l).1.ep∧Below w.heap.size w w'
def ChsS (w:World) (B B0:Nat) (v:Value) (cs:List Ch):Prop :=
 ∃ (A:Option Addr) (n c:Nat),v=.slice A n c∧cs.length=n∧n≤c∧c≤maxLen ∧
  (0<n→∃ b off,A=some ⟨b,off,none⟩∧b<B∧∀ i,i<n→∃ u,w.rangeAt b (off+i*6) (rowC (cs.getD i zeroC) u)∧LkS w B0 u (cs.getD i zeroC).ls)
theorem chsS_in {w:World} {B B0:Nat} {v:Value} {cs:List Ch} (h:Chs w B0 v cs) (h1:B0≤B) (h2:B≤w.heap.size):ChsS w B B0 v cs:=by
 obtain ⟨A,n,c,e,q1,q2,q3,q4⟩:=h
 refine ⟨A,n,c,e,q1,q2,q3,fun hn=>?_⟩
 obtain ⟨b,off,e1,hlt,h5⟩:=q4 hn
 refine ⟨b,off,e1,by omega,fun i hi=>?_⟩
 obtain ⟨u,h6,h7⟩:=h5 i hi
 exact ⟨u,h6,lkS_in h7 (by omega)⟩
theorem ChsS.keep {w w':World} {B0:Nat} {v:Value} {cs:List Ch} (h:ChsS w w.heap.size B0 v cs) (hb:Below w.heap.size w w') (hB:B0≤w.heap.size):ChsS w' w.heap.size B0 v cs:=by
 obtain ⟨A,n,c,e,q1,q2,q3,q4⟩:=h
 refine ⟨A,n,c,e,q1,q2,q3,fun hn=>?_⟩
 obtain ⟨b,off,e1,hlt,h5⟩:=q4 hn
 refine ⟨b,off,e1,hlt,fun i hi=>?_⟩
 obtain ⟨u,h6,h7⟩:=h5 i hi
 exact ⟨u,rangeC_below h6 hb hlt,h7.below hb hB⟩
theorem chsS_len {w:World} {B B0 n c:Nat} {A:Option Addr} {cs:List Ch} (h:ChsS w B B0 (.slice A n c) cs):cs.length=n∧n≤c∧c≤maxLen:=by
 obtain ⟨A',n',c',e,h1,h2,h3,h4⟩:=h
 injection e with e1 e2 e3
 subst e1 e2 e3
 exact ⟨h1,h2,h3⟩
theorem chsS_at {w:World} {B B0 n c:Nat} {A:Option Addr} {cs:List Ch} (h:ChsS w B B0 (.slice A n c) cs) (hn:0<n) :
  ∃ b off,A=some ⟨b,off,none⟩∧b<B∧∀ i,i<n→∃ u,w.rangeAt b (off+i*6) (rowC (cs.getD i zeroC) u)∧LkS w B0 u (cs.getD i zeroC).ls:=by
 obtain ⟨A',n',c',e,h1,h2,h3,h4⟩:=h
 injection e with e1 e2 e3
 subst e1 e2 e3
 exact h4 hn
structure RA (B0:Nat) (w wr:World) (dv ev:Value) (s:Sta):Prop where
 old:B0≤w.heap.size
 box:Blk wr w.heap.size 43 #[dv,.int .i64 s.up,.int .i64 s.bo,ev]
 res:Blk wr (w.heap.size+1) 43 #[.slice none 0 0,.int .i64 0,.int .i64 0,.slice none 0 0]
 db:SafeL wr B0 dv s.db
 ep:SafeE wr B0 ev s.ep
 low:Below w.heap.size w wr
 size:w.heap.size+1<wr.heap.size
theorem upd4_cell {w:World} {g q i:Nat} {x u0 u1 u2 u3:Value} (hne:q≠g) (h:w.cell? ⟨q,i,none⟩=some x):(upd4 w g u0 u1 u2 u3).cell? ⟨q,i,none⟩=some x:=by
 have hq:=block_lt_of_cell h
 rw [← h]
 exact World.cell?_of_block ((upd4_grown w g u0 u1 u2 u3).block q hq (by simpa using hne))
theorem RA.below {B0:Nat} {w wr w':World} {dv ev:Value} {s:Sta} (h:RA B0 w wr dv ev s) (hb:Below wr.heap.size wr w'):RA B0 w w' dv ev s :=
 ⟨h.old,h.box.below hb h.box.lt,h.res.below hb h.res.lt,h.db.up (by have:=h.size;have:=h.old;omega) hb,h.ep.up hb,low_low h.low hb,Nat.lt_of_lt_of_le h.size hb.size⟩
theorem RA.far {B0:Nat} {w wr w':World} {dv ev:Value} {s:Sta} {g:Nat} {cs:Array Value} (h:RA B0 w wr dv ev s) (hk:Blk wr g 43 cs) (hgt:w.heap.size+1<g) (hg:wr.grownBy w' (some g)):RA B0 w w' dv ev s :=
 ⟨h.old,h.box.grown hg (by simp;omega),h.res.grown hg (by simp;omega),h.db.blk (by have:=h.size;have:=h.old;omega) hk (by decide) (by have:=h.old;omega) hg,h.ep.blk hk (by decide) (by have:=h.old;omega) hg,h.low.grown hg h.low.size (fun q hq=>by cases hq;omega),Nat.lt_of_lt_of_le h.size hg.size⟩
theorem RA.next {B0:Nat} {w wr:World} {dv ev dv' ev':Value} {s t:Sta} (h:RA B0 w wr dv ev s) (hd:SafeL wr B0 dv' t.db) (he:SafeE wr B0 ev' t.ep):RA B0 w (upd4 wr w.heap.size dv' (.int .i64 t.up) (.int .i64 t.bo) ev') dv' ev' t :=
 ⟨h.old,upd4_blk h.box,h.res.grown (upd4_grown _ _ _ _ _ _) (by simp),hd.blk (by have:=h.size;have:=h.old;omega) h.box (by decide) h.old (upd4_grown _ _ _ _ _ _),he.blk h.box (by decide) h.old (upd4_grown _ _ _ _ _ _),h.low.grown (upd4_grown _ _ _ _ _ _) h.low.size (fun q hq=>by cases hq;exact Nat.le_refl _),Nat.lt_of_lt_of_le h.size (upd4_grown wr w.heap.size _ _ _ _).size⟩
theorem RA.done {B0:Nat} {w wr:World} {dv ev dv' ev':Value} {s t:Sta} (h:RA B0 w wr dv ev s) (hd:SafeL wr B0 dv' t.db) (he:SafeE wr B0 ev' t.ep):SafeL (upd4 wr (w.heap.size+1) dv' (.int .i64 t.up) (.int .i64 t.bo) ev') B0 dv' t.db∧SafeE (upd4 wr (w.heap.size+1) dv' (.int .i64 t.up) (.int .i64 t.bo) ev') B0 ev' t.ep∧Below w.heap.size w (upd4 wr (w.heap.size+1) dv' (.int .i64 t.up) (.int .i64 t.bo) ev'):=by
 have hg:=upd4_grown wr (w.heap.size+1) dv' (.int .i64 t.up) (.int .i64 t.bo) ev'
 have hs:=h.size
 have ho:=h.old
 exact ⟨hd.blk (by omega) h.res (by decide) (by omega) hg,he.blk h.res (by decide) (by omega) hg,h.low.grown hg h.low.size (fun q hq=>by cases hq;omega)⟩
set_option maxRecDepth 100000 in
set_option maxHeartbeats 8000000 in
theorem rapply_safe (s:Sta) (dv ev:Value) (A:Option Addr) (n c:Nat) (l:List Ch) (B0:Nat) (w:World) (hB0:B0≤w.heap.size) (h1:SafeL w B0 dv s.db) (h2:SafeE w B0 ev s.ep) (hl:ChsS w w.heap.size B0 (.slice A n c) l) :
  Calls Tryz.prog 25 #[stV s dv ev,.slice A n c] w (RApplyS w B0 s l):=by
 obtain ⟨A1,n1,c1,rfl⟩:=h1.form
 obtain ⟨A2,n2,c2,rfl⟩:=h2.form
 obtain ⟨hln,hnc,hcm⟩:=chsS_len hl
 unfold maxLen at hcm
 have hb:=low2 w (.cells #[.slice A1 n1 c1,.int .i64 s.up,.int .i64 s.bo,.slice A2 n2 c2] 43) (.cells #[.slice none 0 0,.int .i64 0,.int .i64 0,.slice none 0 0] 43)
 have hra:RA B0 w ((w.alloc (.cells #[.slice A1 n1 c1,.int .i64 s.up,.int .i64 s.bo,.slice A2 n2 c2] 43)).alloc (.cells #[.slice none 0 0,.int .i64 0,.int .i64 0,.slice none 0 0] 43)) (.slice A1 n1 c1) (.slice A2 n2 c2) s :=
  ⟨hB0,(Blk.new w _ _).alloc _,blk_second w _ _ _,h1.up hB0 hb,h2.up hb,hb,by simp⟩
 obtain ⟨P1,hP1⟩:∃ P1,P1=RApplyS w B0 s l:=⟨_,rfl⟩
 rw [← hP1]
 have MY:=Lib.hid (fun (W:World) (hW:RA B0 w W (.slice A1 n1 c1) (.slice A2 n2 c2) s)=>rmay_st s (.slice A1 n1 c1) (.slice A2 n2 c2) W ⟨hW.db.las (by have:=hW.size;omega),hW.ep.lks⟩)
 have CH:=Lib.hid (fun (W:World) (hW:Below w.heap.size w W)=>hl.keep hW hB0)
 have hfin:∀ (W:World) (dv ev d e:Value) (sk t:Sta) (b:Int),RA B0 w W dv ev sk→SafeL W B0 d t.db→SafeE W B0 e t.ep→applyS s l=(t,b)→P1 (.returned (.tuple #[stV t d e,.int .i64 b])) (upd4 W (w.heap.size+1) d (.int .i64 t.up) (.int .i64 t.bo) e):=by
  intro W dv ev d e sk t b hW hd he hap
  obtain ⟨h1,h2,h3⟩:=hW.done hd he
  rw [hP1]
  unfold RApplyS
  rw [hap]
  exact ⟨_,_,rfl,h1,h2,h3⟩
 have FIN:=Lib.hid hfin;clear hfin hP1
 have zL:∀ W:World,SafeL W B0 (.slice none 0 0) zeroS.db:=fun W=>⟨none,0,0,rfl,rfl,Nat.le_refl _,by unfold maxLen;omega,fun _=>rfl,fun h=>absurd h (by omega)⟩
 have zE:∀ W:World,SafeE W B0 (.slice none 0 0) zeroS.ep:=fun W=>⟨none,0,0,rfl,rfl,Nat.le_refl _,by unfold maxLen;omega,fun _=>rfl,fun h=>absurd h (by omega)⟩
 have ZL:=Lib.hid zL;clear zL
 have ZE:=Lib.hid zE;clear zE
 have HR:=Lib.hid hra;clear hra hb h1 h2 hl
 have HLN:=Lib.hid hln;clear hln
 obtain ⟨x0,x1,x2,x3,x4⟩:=blk_cells4 HR.out.box
 go_enter Tryz.func25,Tryz.ntmps25
 go_wp2_with (fail)
 generalize ((w.alloc (.cells #[.slice A1 n1 c1,.int .i64 s.up,.int .i64 s.bo,.slice A2 n2 c2] 43)).alloc (.cells #[.slice none 0 0,.int .i64 0,.int .i64 0,.slice none 0 0] 43))=W1 at *
 refine (MY.out W1 HR.out).mono ?_
 rintro e w3 ⟨rfl,hb3⟩
 have hr3:=HR.out.below hb3
 clear hb3 x0 x1 x2 x3 x4 HR
 cases hm:mayS s
 ·have hap:applyS s l=(zeroS,1):=by unfold applyS;rw [if_neg (by rw [hm];simp)]
  have HF:=Lib.hid (FIN.out w3 _ _ _ _ _ zeroS 1 hr3 (ZL.out _) (ZE.out _) hap)
  obtain ⟨z0,z1,z2,z3,z4⟩:=blk_cells4 hr3.res
  obtain ⟨g0,g1,g2,g3⟩:=blk_fz4 hr3.res
  clear hap hr3
  go_wp2
  refine bodyPost_ret (v:=.tuple #[stV zeroS (.slice none 0 0) (.slice none 0 0),.int .i64 1]) ?_ rfl HF.out
  simp [results,Tryz.results25,go_sem,z0,z1,z2,z3,zeroS]
 have HR:=Lib.hid hr3;clear hr3
 have HM:=Lib.hid hm;clear hm
 go_wp2_with (fail)
 obtain ⟨W3,hW3⟩:∃ W:World,W=w3:=⟨_,rfl⟩
 rw [← hW3] at HR ⊢
 clear hW3
 go_loopw [6] (fun i wr=>∃ k:Nat,k≤n∧i=.int .i64 k∧Hid (l.all mayC=(l.drop k).all mayC)∧Hid (RA B0 w wr (.slice A1 n1 c1) (.slice A2 n2 c2) s)) (fun i _=>n - (intOf i).toNat)
 case atStart=>exact ⟨0,Nat.zero_le _,rfl,Lib.hid rfl,HR⟩
 case round =>
  clear HR
  obtain ⟨k,hk,rfl,HA,HR⟩:=hrel
  by_cases hlt:k<n
  ·obtain ⟨b,off,rfl,hb,hc⟩:=chsS_at (CH.out wr HR.out.low) (by omega)
   obtain ⟨u,hr,hk2⟩:=hc k hlt
   have c0:=hr 0 _ rfl
   have c1_:=hr 1 _ rfl
   have c2_:=hr 2 _ rfl
   have c3_:=hr 3 _ rfl
   have c4_:=hr 4 _ rfl
   have c5_:=hr 5 _ rfl
   rw [Nat.add_zero] at c0
   have hkl:k<l.length:=by rw [HLN.out];exact hlt
   have ha:=HA.out
   rw [all_step l k hkl] at ha
   clear hc hr
   generalize l.getD k zeroC=y at *
   have mc:=rmay_c y u wr (hk2.more (by have:=HR.out.low.size;omega))
   obtain ⟨yk,yo,ys,yl,yn,yf⟩:=y
   obtain ⟨Au,nu,cu,rfl,_,hr_⟩:=id hk2
   clear hr_
   simp only [chV] at c0 c1_ c2_ c3_ c4_ c5_ hk2 mc
   cases hmc:mayC ⟨yk,yo,ys,yl,yn,yf⟩
   ·rw [hmc] at mc ha
    have MC:=Lib.hid mc;clear mc hk2
    have hap:applyS s l=(zeroS,1):=by unfold applyS;rw [if_neg (by rw [ha];simp)]
    have HAP:=Lib.hid hap;clear hap ha
    go_wp2_with (go_at_call 59;refine (MC.out).mono ?_;rintro e w4 ⟨rfl,hb4⟩;have hr4:=HR.out.below hb4;have HF:=Lib.hid (FIN.out w4 _ _ _ _ _ zeroS 1 hr4 (ZL.out _) (ZE.out _) HAP.out);obtain ⟨z0,z1,z2,z3,z4⟩:=blk_cells4 hr4.res;obtain ⟨g0,g1,g2,g3⟩:=blk_fz4 hr4.res;clear hr4 hb4)
    refine bodyPost_ret (v:=.tuple #[stV zeroS (.slice none 0 0) (.slice none 0 0),.int .i64 1]) ?_ rfl HF.out
    simp [results,Tryz.results25,go_sem,z0,z1,z2,z3,zeroS]
   ·rw [hmc,Bool.true_and] at ha
    rw [hmc] at mc
    have MC:=Lib.hid mc;clear mc hk2
    have HA2:=Lib.hid ha;clear ha
    go_wp2_with (go_at_call 59;refine (MC.out).mono ?_;rintro e w4 ⟨rfl,hb4⟩;have HR4:=Lib.hid (HR.out.below hb4);clear hb4)
    go_roundw
    case rel=>exact ⟨k+1,by omega,by go_num,HA2,HR4⟩
    case measure=>simp [intOf];omega
  ·obtain rfl:n=k:=by omega
   have hall:l.all mayC=true:=by rw [HA.out,List.drop_eq_nil_of_le (by have:=HLN.out;omega)];rfl
   have HALL:=Lib.hid hall;clear hall HA
   go_wp2_with (fail)
   obtain ⟨wo,hwo⟩:∃ wo:World,wo=wr:=⟨_,rfl⟩
   rw [← hwo] at HR ⊢
   clear hwo
   go_loopw [7] (fun i wr=>∃ (k:Nat) (sk:Sta) (dk ek:Value),k≤n∧i=.int .i64 k∧Hid (mayS sk=true)∧Hid (doAll s l=doAll sk (l.drop k))∧Hid (RA B0 w wr dk ek sk)) (fun i _=>n - (intOf i).toNat)
   case atStart=>exact ⟨0,s,_,_,Nat.zero_le _,rfl,HM,Lib.hid rfl,HR⟩
   case round =>
    clear HR
    obtain ⟨k,sk,dk,ek,hk,rfl,HMK,HDA,HR⟩:=hrel
    obtain ⟨Ad,nd,cd,rfl⟩:=HR.out.db.form
    obtain ⟨Ae,ne,ce,rfl⟩:=HR.out.ep.form
    by_cases hlt:k<n
    ·obtain ⟨b,off,rfl,hb,hc⟩:=chsS_at (CH.out wr HR.out.low) (by omega)
     obtain ⟨u,hr,hk2⟩:=hc k hlt
     have c0:=hr 0 _ rfl
     have c1_:=hr 1 _ rfl
     have c2_:=hr 2 _ rfl
     have c3_:=hr 3 _ rfl
     have c4_:=hr 4 _ rfl
     have c5_:=hr 5 _ rfl
     rw [Nat.add_zero] at c0
     have hkl:k<l.length:=by rw [HLN.out];exact hlt
     have hda:=HDA.out
     rw [doAll_step sk l k hkl] at hda
     have hmc:mayC (l.getD k zeroC)=true:=List.all_eq_true.1 HALL.out (l.getD k zeroC) (by simp [List.getD,List.getElem?_eq_getElem hkl])
     clear hc hr
     generalize l.getD k zeroC=y at *
     obtain ⟨yk,yo,ys,yl,yn,yf⟩:=y
     obtain ⟨Au,nu,cu,rfl,_,hr_⟩:=id hk2
     clear hr_
     simp only at c0 c1_ c2_ c3_ c4_ c5_ hk2
     have hws:=HR.out.low.size
     have hbw:b<wr.heap.size:=by omega
     have DO:=Lib.hid (fun (W:World) (hW:Below wr.heap.size wr W)=>rdo_any sk ⟨yk,yo,ys,yl,yn,yf⟩ (.slice Ad nd cd) (.slice Ae ne ce) (.slice Au nu cu) B0 W (by have:=hW.size;omega) (HR.out.db.up (by omega) hW) (HR.out.ep.up hW) (hk2.below hW (by omega)) HMK.out hmc)
     simp only [stV,chV] at DO
     have HEN:=Lib.hid (enters_of Tryz.func60 (by kernel_rfl) rfl)
     have HMS:=Lib.hid (fun t=>doS_may (t:=t) HMK.out hmc)
     have HK2:=Lib.hid hk2
     clear hmc hk2
     obtain ⟨x0,x1,x2,x3,x4⟩:=blk_cells4 HR.out.box
     have HDA2:=Lib.hid hda;clear hda HDA
     unfold RDoOut at DO
     have hqs:w.heap.size<wr.heap.size:=by have:=HR.out.size;omega
     have hqn:w.heap.size≠wr.heap.size:=by omega
     have hbn:b≠wr.heap.size:=by omega
     cases hds:doS sk ⟨yk,yo,ys,yl,yn,yf⟩ with
     | none =>
      rw [hds] at DO
      simp only [Option.getD_none,Option.isSome_none] at DO
      have HDS:=Lib.hid hds;clear hds
      go_wp2_with (fail)
      go_region_held3 (fun W=>W.cell? ⟨w.heap.size,0,none⟩=some (.slice Ad nd cd)∧W.cell? ⟨w.heap.size,1,none⟩=some (.int .i64 sk.up)∧W.cell? ⟨w.heap.size,2,none⟩=some (.int .i64 sk.bo)∧W.cell? ⟨w.heap.size,3,none⟩=some (.slice Ae ne ce)∧W.cell? ⟨b,off+k*6,none⟩=some (.int .i64 yk)∧W.cell? ⟨b,off+k*6+1,none⟩=some (.int .i64 yo)∧W.cell? ⟨b,off+k*6+2,none⟩=some (.int .i64 ys)∧W.cell? ⟨b,off+k*6+3,none⟩=some (.slice Au nu cu)∧W.cell? ⟨b,off+k*6+4,none⟩=some (.int .i64 yn)∧W.cell? ⟨b,off+k*6+5,none⟩=some (.int .i64 yf))
       (first
        | with_reducible exact ⟨x0,x1,x2,x3,c0,c1_,c2_,c3_,c4_,c5_⟩
        | with_reducible exact ⟨m0,m1,m2,m3,n0,n1,n2,n3,n4,n5_⟩
        | with_reducible exact ⟨upd4_cell hqn m0,upd4_cell hqn m1,upd4_cell hqn m2,upd4_cell hqn m3,upd4_cell hbn n0,upd4_cell hbn n1,upd4_cell hbn n2,upd4_cell hbn n3,upd4_cell hbn n4,upd4_cell hbn n5_⟩
        | go_keep)
       (first | (go_at_call 60;first
        | (refine (DO.out _ (low1 (Below.refl wr.heap.size wr) (.cells #[.slice none 0 0,.int .i64 0,.int .i64 0,.slice none 0 0] 43)).drew).mono ?_;rintro e w5 ⟨dv5,ev5,rfl,hd5,he5,hb5⟩;obtain ⟨A5,n5,c5,rfl⟩:=hd5.form;obtain ⟨A6,n6,c6,rfl⟩:=he5.form;have hbw5:Below wr.heap.size wr w5:=low_low (low1 (Below.refl wr.heap.size wr) (.cells #[.slice none 0 0,.int .i64 0,.int .i64 0,.slice none 0 0] 43)).drew hb5;have m0:=(hbw5.cell (p:=⟨w.heap.size,0,none⟩) hqs).trans x0;have m1:=(hbw5.cell (p:=⟨w.heap.size,1,none⟩) hqs).trans x1;have m2:=(hbw5.cell (p:=⟨w.heap.size,2,none⟩) hqs).trans x2;have m3:=(hbw5.cell (p:=⟨w.heap.size,3,none⟩) hqs).trans x3;have n0:=(hbw5.cell (p:=⟨b,off+k*6,none⟩) hbw).trans c0;have n1:=(hbw5.cell (p:=⟨b,off+k*6+1,none⟩) hbw).trans c1_;have n2:=(hbw5.cell (p:=⟨b,off+k*6+2,none⟩) hbw).trans c2_;have n3:=(hbw5.cell (p:=⟨b,off+k*6+3,none⟩) hbw).trans c3_;have n4:=(hbw5.cell (p:=⟨b,off+k*6+4,none⟩) hbw).trans c4_;have n5_:=(hbw5.cell (p:=⟨b,off+k*6+5,none⟩) hbw).trans c5_;have HR5:=Lib.hid (HR.out.below hbw5);have HD5:=Lib.hid hd5;have HE5:=Lib.hid he5;have KX:=Lib.hid ((Blk.new wr 43 #[.slice none 0 0,.int .i64 0,.int .i64 0,.slice none 0 0]).drew.below hb5 (by simp));obtain ⟨o0,o1,o2,o3,o4⟩:=blk_cells4 KX.out;obtain ⟨p0,p1,p2,p3⟩:=blk_fz4 KX.out;clear hbw5 hd5 he5 hb5)
        | (refine (DO.out _ (Below.refl wr.heap.size wr).drew).mono ?_;rintro e w5 ⟨dv5,ev5,rfl,hd5,he5,hb5⟩;obtain ⟨A5,n5,c5,rfl⟩:=hd5.form;obtain ⟨A6,n6,c6,rfl⟩:=he5.form;have hbw5:Below wr.heap.size wr w5:=low_low (Below.refl wr.heap.size wr).drew hb5;have m0:=(hbw5.cell (p:=⟨w.heap.size,0,none⟩) hqs).trans x0;have m1:=(hbw5.cell (p:=⟨w.heap.size,1,none⟩) hqs).trans x1;have m2:=(hbw5.cell (p:=⟨w.heap.size,2,none⟩) hqs).trans x2;have m3:=(hbw5.cell (p:=⟨w.heap.size,3,none⟩) hqs).trans x3;have n0:=(hbw5.cell (p:=⟨b,off+k*6,none⟩) hbw).trans c0;have n1:=(hbw5.cell (p:=⟨b,off+k*6+1,none⟩) hbw).trans c1_;have n2:=(hbw5.cell (p:=⟨b,off+k*6+2,none⟩) hbw).trans c2_;have n3:=(hbw5.cell (p:=⟨b,off+k*6+3,none⟩) hbw).trans c3_;have n4:=(hbw5.cell (p:=⟨b,off+k*6+4,none⟩) hbw).trans c4_;have n5_:=(hbw5.cell (p:=⟨b,off+k*6+5,none⟩) hbw).trans c5_;have HR5:=Lib.hid (HR.out.below hbw5);have HD5:=Lib.hid hd5;have HE5:=Lib.hid he5; clear hbw5 hd5 he5 hb5)))
      ·skip
       have HRX:=Lib.hid (HR5.out.below (low1 (Below.refl w5.heap.size w5) (.cells #[.slice A5 n5 c5,.int .i64 sk.up,.int .i64 sk.bo,.slice A6 n6 c6] 43)))
       have KX:=Lib.hid (Blk.new w5 43 #[.slice A5 n5 c5,.int .i64 sk.up,.int .i64 sk.bo,.slice A6 n6 c6])
       have HDX:=Lib.hid (HD5.out.up (by have:=HR5.out.size;omega) (low1 (Below.refl w5.heap.size w5) (.cells #[.slice A5 n5 c5,.int .i64 sk.up,.int .i64 sk.bo,.slice A6 n6 c6] 43)))
       have HEX:=Lib.hid (HE5.out.up (low1 (Below.refl w5.heap.size w5) (.cells #[.slice A5 n5 c5,.int .i64 sk.up,.int .i64 sk.bo,.slice A6 n6 c6] 43)))
       clear HR5 HD5 HE5 m0 m1 m2 m3 n0 n1 n2 n3 n4 n5_
       generalize w5.alloc (.cells #[.slice A5 n5 c5,.int .i64 sk.up,.int .i64 sk.bo,.slice A6 n6 c6] 43)=WX at *
       generalize w5.heap.size=gx at *
       have hap:applyS s l=(zeroS,10):=by unfold applyS;rw [if_pos ⟨HM.out,HALL.out⟩,HDA2.out,HDS.out];rfl
       have HF:=Lib.hid (FIN.out WX _ _ _ _ _ zeroS 10 HRX.out (ZL.out _) (ZE.out _) hap)
       obtain ⟨z0,z1,z2,z3,z4⟩:=blk_cells4 HRX.out.res
       obtain ⟨g0,g1,g2,g3⟩:=blk_fz4 HRX.out.res
       clear hap
       go_wp2
       refine bodyPost_ret (v:=.tuple #[stV zeroS (.slice none 0 0) (.slice none 0 0),.int .i64 10]) ?_ rfl HF.out
       simp [results,Tryz.results25,go_sem,z0,z1,z2,z3,zeroS]
      ·skip
       have HRX:=Lib.hid (HR5.out.far KX.out (by have:=HR.out.size;omega) (upd4_grown w5 wr.heap.size (.slice A5 n5 c5) (.int .i64 sk.up) (.int .i64 sk.bo) (.slice A6 n6 c6)))
       have HDX:=Lib.hid (HD5.out.blk (by have:=HR5.out.size;omega) KX.out (by decide) (by have:=HR.out.size;omega) (upd4_grown w5 wr.heap.size (.slice A5 n5 c5) (.int .i64 sk.up) (.int .i64 sk.bo) (.slice A6 n6 c6)))
       have HEX:=Lib.hid (HE5.out.blk KX.out (by decide) (by have:=HR.out.size;omega) (upd4_grown w5 wr.heap.size (.slice A5 n5 c5) (.int .i64 sk.up) (.int .i64 sk.bo) (.slice A6 n6 c6)))
       have KY:=Lib.hid (upd4_blk KX.out (u0:=.slice A5 n5 c5) (u1:=.int .i64 sk.up) (u2:=.int .i64 sk.bo) (u3:=.slice A6 n6 c6))
       clear KX HR5 HD5 HE5 m0 m1 m2 m3 n0 n1 n2 n3 n4 n5_ o0 o1 o2 o3 o4 p0 p1 p2 p3
       unfold upd4 at HRX HDX HEX KY
       generalize ((((w5.setCell ⟨wr.heap.size,0,none⟩ (.slice A5 n5 c5)).setCell ⟨wr.heap.size,1,none⟩ (.int .i64 sk.up)).setCell ⟨wr.heap.size,2,none⟩ (.int .i64 sk.bo)).setCell ⟨wr.heap.size,3,none⟩ (.slice A6 n6 c6))=WX at *
       have KX:=KY
       clear KY
       have hap:applyS s l=(zeroS,10):=by unfold applyS;rw [if_pos ⟨HM.out,HALL.out⟩,HDA2.out,HDS.out];rfl
       have HF:=Lib.hid (FIN.out WX _ _ _ _ _ zeroS 10 HRX.out (ZL.out _) (ZE.out _) hap)
       obtain ⟨z0,z1,z2,z3,z4⟩:=blk_cells4 HRX.out.res
       obtain ⟨g0,g1,g2,g3⟩:=blk_fz4 HRX.out.res
       clear hap
       go_wp2
       refine bodyPost_ret (v:=.tuple #[stV zeroS (.slice none 0 0) (.slice none 0 0),.int .i64 10]) ?_ rfl HF.out
       simp [results,Tryz.results25,go_sem,z0,z1,z2,z3,zeroS]
     | some t =>
      rw [hds] at DO
      simp only [Option.getD_some,Option.isSome_some] at DO
      have HDS:=Lib.hid hds;clear hds
      go_wp2_with (fail)
      go_region_held3 (fun W=>W.cell? ⟨w.heap.size,0,none⟩=some (.slice Ad nd cd)∧W.cell? ⟨w.heap.size,1,none⟩=some (.int .i64 sk.up)∧W.cell? ⟨w.heap.size,2,none⟩=some (.int .i64 sk.bo)∧W.cell? ⟨w.heap.size,3,none⟩=some (.slice Ae ne ce)∧W.cell? ⟨b,off+k*6,none⟩=some (.int .i64 yk)∧W.cell? ⟨b,off+k*6+1,none⟩=some (.int .i64 yo)∧W.cell? ⟨b,off+k*6+2,none⟩=some (.int .i64 ys)∧W.cell? ⟨b,off+k*6+3,none⟩=some (.slice Au nu cu)∧W.cell? ⟨b,off+k*6+4,none⟩=some (.int .i64 yn)∧W.cell? ⟨b,off+k*6+5,none⟩=some (.int .i64 yf))
       (first
        | with_reducible exact ⟨x0,x1,x2,x3,c0,c1_,c2_,c3_,c4_,c5_⟩
        | with_reducible exact ⟨m0,m1,m2,m3,n0,n1,n2,n3,n4,n5_⟩
        | with_reducible exact ⟨upd4_cell hqn m0,upd4_cell hqn m1,upd4_cell hqn m2,upd4_cell hqn m3,upd4_cell hbn n0,upd4_cell hbn n1,upd4_cell hbn n2,upd4_cell hbn n3,upd4_cell hbn n4,upd4_cell hbn n5_⟩
        | go_keep)
       (first | (go_at_call 60;first
        | (refine (DO.out _ (low1 (Below.refl wr.heap.size wr) (.cells #[.slice none 0 0,.int .i64 0,.int .i64 0,.slice none 0 0] 43)).drew).mono ?_;rintro e w5 ⟨dv5,ev5,rfl,hd5,he5,hb5⟩;obtain ⟨A5,n5,c5,rfl⟩:=hd5.form;obtain ⟨A6,n6,c6,rfl⟩:=he5.form;have hbw5:Below wr.heap.size wr w5:=low_low (low1 (Below.refl wr.heap.size wr) (.cells #[.slice none 0 0,.int .i64 0,.int .i64 0,.slice none 0 0] 43)).drew hb5;have m0:=(hbw5.cell (p:=⟨w.heap.size,0,none⟩) hqs).trans x0;have m1:=(hbw5.cell (p:=⟨w.heap.size,1,none⟩) hqs).trans x1;have m2:=(hbw5.cell (p:=⟨w.heap.size,2,none⟩) hqs).trans x2;have m3:=(hbw5.cell (p:=⟨w.heap.size,3,none⟩) hqs).trans x3;have n0:=(hbw5.cell (p:=⟨b,off+k*6,none⟩) hbw).trans c0;have n1:=(hbw5.cell (p:=⟨b,off+k*6+1,none⟩) hbw).trans c1_;have n2:=(hbw5.cell (p:=⟨b,off+k*6+2,none⟩) hbw).trans c2_;have n3:=(hbw5.cell (p:=⟨b,off+k*6+3,none⟩) hbw).trans c3_;have n4:=(hbw5.cell (p:=⟨b,off+k*6+4,none⟩) hbw).trans c4_;have n5_:=(hbw5.cell (p:=⟨b,off+k*6+5,none⟩) hbw).trans c5_;have HR5:=Lib.hid (HR.out.below hbw5);have HD5:=Lib.hid hd5;have HE5:=Lib.hid he5;have KX:=Lib.hid ((Blk.new wr 43 #[.slice none 0 0,.int .i64 0,.int .i64 0,.slice none 0 0]).drew.below hb5 (by simp));obtain ⟨o0,o1,o2,o3,o4⟩:=blk_cells4 KX.out;obtain ⟨p0,p1,p2,p3⟩:=blk_fz4 KX.out;clear hbw5 hd5 he5 hb5)
        | (refine (DO.out _ (Below.refl wr.heap.size wr).drew).mono ?_;rintro e w5 ⟨dv5,ev5,rfl,hd5,he5,hb5⟩;obtain ⟨A5,n5,c5,rfl⟩:=hd5.form;obtain ⟨A6,n6,c6,rfl⟩:=he5.form;have hbw5:Below wr.heap.size wr w5:=low_low (Below.refl wr.heap.size wr).drew hb5;have m0:=(hbw5.cell (p:=⟨w.heap.size,0,none⟩) hqs).trans x0;have m1:=(hbw5.cell (p:=⟨w.heap.size,1,none⟩) hqs).trans x1;have m2:=(hbw5.cell (p:=⟨w.heap.size,2,none⟩) hqs).trans x2;have m3:=(hbw5.cell (p:=⟨w.heap.size,3,none⟩) hqs).trans x3;have n0:=(hbw5.cell (p:=⟨b,off+k*6,none⟩) hbw).trans c0;have n1:=(hbw5.cell (p:=⟨b,off+k*6+1,none⟩) hbw).trans c1_;have n2:=(hbw5.cell (p:=⟨b,off+k*6+2,none⟩) hbw).trans c2_;have n3:=(hbw5.cell (p:=⟨b,off+k*6+3,none⟩) hbw).trans c3_;have n4:=(hbw5.cell (p:=⟨b,off+k*6+4,none⟩) hbw).trans c4_;have n5_:=(hbw5.cell (p:=⟨b,off+k*6+5,none⟩) hbw).trans c5_;have HR5:=Lib.hid (HR.out.below hbw5);have HD5:=Lib.hid hd5;have HE5:=Lib.hid he5; clear hbw5 hd5 he5 hb5)))
      ·skip
       have HRX:=Lib.hid (HR5.out.below (low1 (Below.refl w5.heap.size w5) (.cells #[.slice A5 n5 c5,.int .i64 t.up,.int .i64 t.bo,.slice A6 n6 c6] 43)))
       have KX:=Lib.hid (Blk.new w5 43 #[.slice A5 n5 c5,.int .i64 t.up,.int .i64 t.bo,.slice A6 n6 c6])
       have HDX:=Lib.hid (HD5.out.up (by have:=HR5.out.size;omega) (low1 (Below.refl w5.heap.size w5) (.cells #[.slice A5 n5 c5,.int .i64 t.up,.int .i64 t.bo,.slice A6 n6 c6] 43)))
       have HEX:=Lib.hid (HE5.out.up (low1 (Below.refl w5.heap.size w5) (.cells #[.slice A5 n5 c5,.int .i64 t.up,.int .i64 t.bo,.slice A6 n6 c6] 43)))
       clear HR5 HD5 HE5 m0 m1 m2 m3 n0 n1 n2 n3 n4 n5_
       generalize w5.alloc (.cells #[.slice A5 n5 c5,.int .i64 t.up,.int .i64 t.bo,.slice A6 n6 c6] 43)=WX at *
       generalize w5.heap.size=gx at *
       obtain ⟨x0,x1,x2,x3,x4⟩:=blk_cells4 KX.out
       obtain ⟨y0,y1,y2,y3,y4⟩:=blk_cells4 HRX.out.box
       obtain ⟨f0,f1,f2,f3⟩:=blk_fz4 HRX.out.box
       have HRN:=Lib.hid (HRX.out.next HDX.out HEX.out)
       clear HR HRX
       go_wp2_with (fail)
       go_roundw
       case rel=>exact ⟨k+1,t,_,_,by omega,by go_num,Lib.hid (HMS.out t HDS.out),Lib.hid (by rw [HDA2.out,HDS.out];rfl),HRN⟩
       case measure=>simp [intOf];omega
      ·skip
       have HRX:=Lib.hid (HR5.out.far KX.out (by have:=HR.out.size;omega) (upd4_grown w5 wr.heap.size (.slice A5 n5 c5) (.int .i64 t.up) (.int .i64 t.bo) (.slice A6 n6 c6)))
       have HDX:=Lib.hid (HD5.out.blk (by have:=HR5.out.size;omega) KX.out (by decide) (by have:=HR.out.size;omega) (upd4_grown w5 wr.heap.size (.slice A5 n5 c5) (.int .i64 t.up) (.int .i64 t.bo) (.slice A6 n6 c6)))
       have HEX:=Lib.hid (HE5.out.blk KX.out (by decide) (by have:=HR.out.size;omega) (upd4_grown w5 wr.heap.size (.slice A5 n5 c5) (.int .i64 t.up) (.int .i64 t.bo) (.slice A6 n6 c6)))
       have KY:=Lib.hid (upd4_blk KX.out (u0:=.slice A5 n5 c5) (u1:=.int .i64 t.up) (u2:=.int .i64 t.bo) (u3:=.slice A6 n6 c6))
       clear KX HR5 HD5 HE5 m0 m1 m2 m3 n0 n1 n2 n3 n4 n5_ o0 o1 o2 o3 o4 p0 p1 p2 p3
       unfold upd4 at HRX HDX HEX KY
       generalize ((((w5.setCell ⟨wr.heap.size,0,none⟩ (.slice A5 n5 c5)).setCell ⟨wr.heap.size,1,none⟩ (.int .i64 t.up)).setCell ⟨wr.heap.size,2,none⟩ (.int .i64 t.bo)).setCell ⟨wr.heap.size,3,none⟩ (.slice A6 n6 c6))=WX at *
       have KX:=KY
       clear KY
       obtain ⟨x0,x1,x2,x3,x4⟩:=blk_cells4 KX.out
       obtain ⟨y0,y1,y2,y3,y4⟩:=blk_cells4 HRX.out.box
       obtain ⟨f0,f1,f2,f3⟩:=blk_fz4 HRX.out.box
       have HRN:=Lib.hid (HRX.out.next HDX.out HEX.out)
       clear HR HRX
       go_wp2_with (fail)
       go_roundw
       case rel=>exact ⟨k+1,t,_,_,by omega,by go_num,Lib.hid (HMS.out t HDS.out),Lib.hid (by rw [HDA2.out,HDS.out];rfl),HRN⟩
       case measure=>simp [intOf];omega
    ·obtain rfl:n=k:=by omega
     have hda:=HDA.out
     rw [List.drop_eq_nil_of_le (by have:=HLN.out;omega)] at hda
     have hap:applyS s l=(sk,0):=by unfold applyS;rw [if_pos ⟨HM.out,HALL.out⟩,hda];rfl
     have HF:=Lib.hid (FIN.out wr _ _ _ _ _ sk 0 HR.out HR.out.db HR.out.ep hap)
     obtain ⟨x0,x1,x2,x3,x4⟩:=blk_cells4 HR.out.box
     obtain ⟨z0,z1,z2,z3,z4⟩:=blk_cells4 HR.out.res
     obtain ⟨g0,g1,g2,g3⟩:=blk_fz4 HR.out.res
     clear hda hap
     go_wp2
     refine bodyPost_ret (v:=.tuple #[stV sk (.slice Ad nd cd) (.slice Ae ne ce),.int .i64 0]) ?_ rfl HF.out
     simp [results,Tryz.results25,go_sem,z0,z1,z2,z3]
end Go.Proofs.YtplpmemlaohlaaaGreat.Bas
namespace Go.Proofs.YtplpmemlaohlaaaGreat.Bas
open Go.RowKit Mem Oct Lsa Chg
set_option linter.unusedVariables false
set_option linter.unusedSimpArgs false
set_option maxRecDepth 20000 in
set_option maxHeartbeats 8000000 in
theorem rsame_st (s t:Sta) (dv ev dv' ev':Value) (w:World) (h:StM w w.heap.size dv ev s) (h':StM w w.heap.size dv' ev' t) :
  Calls Tryz.prog 21 #[stV s dv ev,stV t dv' ev'] w fun e w'=>e=.returned (.bool (sameS s t))∧Below w.heap.size w w':=by
 obtain ⟨db,up,bo,ep⟩:=s
 obtain ⟨db',up',bo',ep'⟩:=t
 obtain ⟨h1,h2⟩:=h
 obtain ⟨h1',h2'⟩:=h'
 obtain ⟨A1,n1,c1,rfl,hr_⟩:=id h1
 obtain ⟨A2,n2,c2,rfl,hs_⟩:=id h2
 obtain ⟨A3,n3,c3,rfl,ht_⟩:=id h1'
 obtain ⟨A4,n4,c4,rfl,hu_⟩:=id h2'
 clear hr_ hs_ ht_ hu_
 obtain ⟨hl,hnc,hcm,_⟩:=lks_len h2
 obtain ⟨hl',hnc',hcm',_⟩:=lks_len h2'
 unfold maxLen at hcm hcm'
 simp only [stV] at *
 have hb:=low2 w (.cells #[.slice A1 n1 c1,.int .i64 up,.int .i64 bo,.slice A2 n2 c2] 43) (.cells #[.slice A3 n3 c3,.int .i64 up',.int .i64 bo',.slice A4 n4 c4] 43)
 have k0:=(Blk.new w 43 #[.slice A1 n1 c1,.int .i64 up,.int .i64 bo,.slice A2 n2 c2]).alloc (.cells #[.slice A3 n3 c3,.int .i64 up',.int .i64 bo',.slice A4 n4 c4] 43)
 have k1:=blk_second w (.cells #[.slice A1 n1 c1,.int .i64 up,.int .i64 bo,.slice A2 n2 c2] 43) 43 #[.slice A3 n3 c3,.int .i64 up',.int .i64 bo',.slice A4 n4 c4]
 have al:=rall_db A1 A3 n1 n3 c1 c3 db db' _ (h1.up hb) (h1'.up hb)
 obtain ⟨x0,x1,x2,x3,x4⟩:=blk_cells4 k0
 obtain ⟨y0,y1,y2,y3,y4⟩:=blk_cells4 k1
 have K0:=Lib.hid k0;clear k0
 have K1:=Lib.hid k1;clear k1
 have HB:=Lib.hid hb;clear hb
 unfold sameS
 simp only
 cases g1:(up == up')
 ·have b1:(up != up')=true:=by simp [bne,g1]
  clear al
  go_enter Tryz.func21,Tryz.ntmps21
  go_wp2
  go_ret
  exact ⟨rfl,HB.out⟩
 have b1:(up != up')=false:=by simp [bne,g1]
 cases g2:(bo == bo')
 ·have b2:(bo != bo')=true:=by simp [bne,g2]
  clear al
  go_enter Tryz.func21,Tryz.ntmps21
  go_wp2
  go_ret
  exact ⟨rfl,HB.out⟩
 have b2:(bo != bo')=false:=by simp [bne,g2]
 simp only [Bool.true_and]
 cases g3:sameDb db db'
 ·rw [g3] at al
  have AL:=Lib.hid al;clear al
  go_enter Tryz.func21,Tryz.ntmps21
  go_wp2_with (go_at_call 53;refine (AL.out).mono ?_;rintro e w3 ⟨rfl,hb3⟩;have HB3:=Lib.hid (low_low HB.out hb3);obtain ⟨z0,z1,z2,z3,z4⟩:=blk_cells4 (K0.out.below hb3 K0.out.lt);obtain ⟨u0,u1,u2,u3,u4⟩:=blk_cells4 (K1.out.below hb3 K1.out.lt);clear hb3)
  go_ret
  exact ⟨rfl,HB3.out⟩
 rw [g3] at al
 have AL:=Lib.hid al;clear al
 simp only [Bool.true_and]
 by_cases hn:n2=n4
 ·subst hn
  have hbn:((n2:Int) != (n2:Int))=false:=by simp
  obtain ⟨z,hz⟩:∃ z,z=decide (ep=ep'):=⟨_,rfl⟩
  rw [← hz]
  have HZ:=Lib.hid hz;clear hz
  have HL:=Lib.hid hl;clear hl
  have HL':=Lib.hid hl';clear hl'
  have HS:=Lib.hid h2;clear h2
  have HS':=Lib.hid h2';clear h2'
  clear h1 h1'
  go_enter Tryz.func21,Tryz.ntmps21
  go_wp2_with (go_at_call 53;refine (AL.out).mono ?_;rintro e w3 ⟨rfl,hb3⟩;have HB3:=Lib.hid (low_low HB.out hb3);have Q0:=Lib.hid (K0.out.below hb3 K0.out.lt);have Q1:=Lib.hid (K1.out.below hb3 K1.out.lt);obtain ⟨z0,z1,z2,z3,z4⟩:=blk_cells4 Q0.out;obtain ⟨u0,u1,u2,u3,u4⟩:=blk_cells4 Q1.out;clear hb3)
  go_loopw [5] (fun i wr=>∃ k:Nat,k≤n2∧i=.int .i64 k∧Hid (z=decide (ep.drop k=ep'.drop k))∧Hid (∃ m,wr=w3.drewN m)) (fun i _=>n2 - (intOf i).toNat)
  case atStart=>exact ⟨0,Nat.zero_le _,rfl,HZ,Lib.hid ⟨0,rfl⟩⟩
  case round =>
   obtain ⟨k,hk,rfl,HZ2,HW⟩:=hrel
   obtain ⟨m,rfl⟩:=HW.out
   clear HW
   by_cases hlt:k<n2
   ·obtain ⟨b,off,rfl,hb,hc⟩:=lks_at HS.out (by omega)
    obtain ⟨b',off',rfl,hb',hc'⟩:=lks_at HS'.out (by omega)
    obtain ⟨c0,c1⟩:=hc k hlt
    obtain ⟨d0,d1⟩:=hc' k hlt
    replace c0:=(HB3.out.cell (p:=⟨b,off+k*2,none⟩) hb).trans c0
    replace c1:=(HB3.out.cell (p:=⟨b,off+k*2+1,none⟩) hb).trans c1
    replace d0:=(HB3.out.cell (p:=⟨b',off'+k*2,none⟩) hb').trans d0
    replace d1:=(HB3.out.cell (p:=⟨b',off'+k*2+1,none⟩) hb').trans d1
    have hz:=HZ2.out
    rw [drop_at ep (0,0) k (by have:=HL.out;omega),drop_at ep' (0,0) k (by have:=HL'.out;omega)] at hz
    clear hc hc'
    generalize ep.getD k (0,0)=x at *
    generalize ep'.getD k (0,0)=y at *
    obtain ⟨t,u⟩:=x
    obtain ⟨t',u'⟩:=y
    simp only at c0 c1 d0 d1
    by_cases e1:t=t'
    ·subst e1
     by_cases e2:u=u'
     ·subst e2
      rw [dec_cons] at hz
      have HZ3:=Lib.hid hz;clear hz
      go_wp2
      go_quiet (fail)
      go_wp2
      go_roundw
      case rel=>exact ⟨k+1,by omega,by go_num,HZ3,Lib.hid ⟨_,rfl⟩⟩
      case measure=>simp [intOf];omega
     ·rw [dec_ne (fun e=>e2 (by injection e))] at hz
      have HZ3:=Lib.hid hz;clear hz
      go_wp2
      go_quiet (fail)
      go_wp2
      go_ret
      exact ⟨ret_bool HZ3.out.symm,below_drewN (below_drewN HB3.out _) _⟩
    ·rw [dec_ne (fun e=>e1 (by injection e))] at hz
     have HZ3:=Lib.hid hz;clear hz
     go_wp2
     go_quiet (fail)
     go_wp2
     go_ret
     exact ⟨ret_bool HZ3.out.symm,below_drewN (below_drewN HB3.out _) _⟩
   ·obtain rfl:k=n2:=by omega
    have hz:=HZ2.out
    rw [List.drop_eq_nil_of_le (by have:=HL.out;omega),List.drop_eq_nil_of_le (by have:=HL'.out;omega)] at hz
    have HZ3:=Lib.hid hz;clear hz
    go_wp2
    go_ret
    exact ⟨ret_bool (by simp [HZ3.out]),below_drewN HB3.out _⟩
 ·have hbn:((n2:Int) != (n4:Int))=true:=by rw [bne_iff_ne];omega
  have hd:decide (ep=ep')=false:=decide_eq_false (fun e=>hn (by rw [← hl,← hl',e]))
  rw [hd]
  go_enter Tryz.func21,Tryz.ntmps21
  go_wp2_with (go_at_call 53;refine (AL.out).mono ?_;rintro e w3 ⟨rfl,hb3⟩;have HB3:=Lib.hid (low_low HB.out hb3);obtain ⟨z0,z1,z2,z3,z4⟩:=blk_cells4 (K0.out.below hb3 K0.out.lt);obtain ⟨u0,u1,u2,u3,u4⟩:=blk_cells4 (K1.out.below hb3 K1.out.lt);clear hb3)
  go_ret
  exact ⟨rfl,HB3.out⟩
end Go.Proofs.YtplpmemlaohlaaaGreat.Bas
namespace Go.Proofs.YtplpmemlaohlaaaGreat.Bas
open Go.RowKit Mem Oct Lsa Chg
set_option linter.unusedVariables false
set_option linter.unusedSimpArgs false
def GetLow (w:World) (B:Nat) (db:List La) (o:Int) (e:Ending) (w':World):Prop:=∃ u,e=.returned (lsaV (getOf db o).o (getOf db o).s u)∧Lks w' B u (getOf db o).ls∧Below w.heap.size w w'
set_option maxRecDepth 20000 in
set_option maxHeartbeats 4000000 in
theorem rget_low (A:Option Addr) (n c B:Nat) (db:List La) (o:Int) (w:World) (hB:B≤w.heap.size) (h:Las w B (.slice A n c) db) :
  Calls Tryz.prog 63 #[.slice A n c,.int .i64 o] w (GetLow w B db o):=by
 obtain ⟨hl,hnc,hcm,_⟩:=las_len h
 unfold maxLen at hcm
 have HL:=Lib.hid hl;clear hl
 have HS:=Lib.hid h;clear h
 obtain ⟨P1,hP1⟩:∃ P1,P1=GetLow w B db o:=⟨_,rfl⟩
 rw [← hP1]
 have HP1:=Lib.hid hP1;clear hP1
 obtain ⟨z,hz⟩:∃ z,z=getOf db o:=⟨_,rfl⟩
 have HZ:=Lib.hid hz;clear hz
 have HB:=Lib.hid (low1 (Below.refl w.heap.size w) (.cells #[.int .i64 0,.int .i64 0,.slice none 0 0] 80))
 have K0:=Lib.hid (Blk.new w 80 #[.int .i64 0,.int .i64 0,.slice none 0 0])
 go_enter Tryz.func63,Tryz.ntmps63
 go_wp2
 go_loopw [5] (fun i wr=>∃ k:Nat,k≤n∧i=.int .i64 k∧Hid (z=getOf (db.drop k) o)∧Hid (Blk wr w.heap.size 80 #[.int .i64 0,.int .i64 0,.slice none 0 0])∧Hid (Below w.heap.size w wr)) (fun i _=>n - (intOf i).toNat)
 case atStart=>exact ⟨0,Nat.zero_le _,rfl,HZ,K0,HB⟩
 case round =>
  clear HB K0
  obtain ⟨k,hk,rfl,HZ2,K0,HBW⟩:=hrel
  obtain ⟨x0,x1,x2,x3⟩:=blk_cells3 K0.out
  obtain ⟨f0,f1,f2⟩:=blk_fz3 K0.out
  by_cases hlt:k<n
  ·obtain ⟨b,off,rfl,hb',hc⟩:=las_at HS.out (by omega)
   have hb:=Nat.lt_of_lt_of_le hb' hB
   obtain ⟨u,hr,hk2⟩:=hc k hlt
   have c0:=(HBW.out.cell (p:=⟨b,off+k*3+0,none⟩) hb).trans (hr 0 _ rfl)
   have c1:=(HBW.out.cell (p:=⟨b,off+k*3+1,none⟩) hb).trans (hr 1 _ rfl)
   have c2_:=(HBW.out.cell (p:=⟨b,off+k*3+2,none⟩) hb).trans (hr 2 _ rfl)
   rw [Nat.add_zero] at c0
   have hz:=HZ2.out
   rw [get_step db o k (by have:=HL.out;omega)] at hz
   clear hc hr
   generalize db.getD k zeroL=y at *
   obtain ⟨yo,ys,yl⟩:=y
   obtain ⟨Au,nu,cu,rfl,hq_⟩:=id hk2
   clear hq_
   simp only at c0 c1 c2_ hz hk2
   by_cases e:yo=o
   ·subst e
    rw [if_pos rfl] at hz
    have hb2:=HBW.out.grown (upd3_grown wr w.heap.size (.int .i64 yo) (.int .i64 ys) (.slice Au nu cu)) HBW.out.size (fun q hq=>by cases hq;exact Nat.le_refl _)
    have hfin:P1 (.returned (lsaV yo ys (.slice Au nu cu))) (upd3 wr w.heap.size (.int .i64 yo) (.int .i64 ys) (.slice Au nu cu)):=by
     rw [HP1.out]
     unfold GetLow
     rw [← HZ.out,hz]
     exact ⟨_,rfl,hk2.below hb2 hB,hb2⟩
    have FIN:=Lib.hid hfin
    clear hfin hb2 hz hk2
    go_wp2
    refine bodyPost_ret (v:=lsaV yo ys (.slice Au nu cu)) ?_ rfl FIN.out
    simp [results,Tryz.results63,go_sem,x0,x1,x2]
   ·rw [if_neg e] at hz
    have HZ3:=Lib.hid hz;clear hz hk2
    have hb0:(yo == o)=false:=beq_false_of_ne e
    go_wp2
    go_roundw
    case rel=>exact ⟨k+1,by omega,by go_num,HZ3,K0,HBW⟩
    case measure=>simp [intOf];omega
  ·obtain rfl:k=n:=by omega
   have hz:=HZ2.out
   rw [List.drop_eq_nil_of_le (by have:=HL.out;omega)] at hz
   have hb2:=HBW.out.grown (upd3_grown wr w.heap.size (.int .i64 0) (.int .i64 0) (.slice none 0 0)) HBW.out.size (fun q hq=>by cases hq;exact Nat.le_refl _)
   have hfin:P1 (.returned (lsaV 0 0 (.slice none 0 0))) (upd3 wr w.heap.size (.int .i64 0) (.int .i64 0) (.slice none 0 0)):=by
    rw [HP1.out]
    unfold GetLow
    rw [← HZ.out,hz]
    exact ⟨_,rfl,lks_nil _ _,hb2⟩
   have FIN:=Lib.hid hfin
   clear hfin hb2 hz
   go_wp2
   refine bodyPost_ret (v:=lsaV 0 0 (.slice none 0 0)) ?_ rfl FIN.out
   simp [results,Tryz.results63,go_sem,x0,x1,x2]
theorem quiet_two {P:Program} {f:FuncId} {args:Array Value} {w:World} {n:Nat} {v:Value} (h:Calls P f args (w.drewN n) fun e w'=>e=.returned v∧∃ m,w'=(w.drewN n).drewN m) :
  Calls P f args (w.drewN n) fun e w''=>e=.returned v∧∃ m,w''=w.drewN m:=h.mono fun _ _ ⟨he,m,hm⟩=>⟨he,n+m,by rw [hm];simp [World.drewN,Nat.add_assoc]⟩
theorem within_at {s t:Sta} (h:within s t=true):(∀ k,k<s.db.length→laIn t.db (s.db.getD k zeroL)=true)∧(∀ k,k<s.ep.length→¬ epoch t.ep (s.ep.getD k (0,0)).1<(s.ep.getD k (0,0)).2)∧s.up≤t.up∧s.bo≤t.bo:=by
 unfold within at h
 simp only [Bool.and_eq_true,List.all_eq_true,decide_eq_true_eq] at h
 obtain ⟨h1,h2,h3,h4⟩:=h
 refine ⟨fun k hk=>h1 _ ?_,fun k hk=>?_,h3,h4⟩
 ·simp only [List.getD,List.getElem?_eq_getElem hk,Option.getD_some]
  exact List.getElem_mem _
 ·have:=h2 (s.ep.getD k (0,0)) (by simp only [List.getD,List.getElem?_eq_getElem hk,Option.getD_some];exact List.getElem_mem _)
  unfold epIn at this
  simpa using this
theorem laIn_iff {db:List La} {a:La} (h:laIn db a=true):¬ (getOf db a.o).s<a.s∧((getOf db a.o).s=a.s→sameB (getOf db a.o).o (getOf db a.o).s (getOf db a.o).ls a.o a.s a.ls=true):=by
 unfold laIn at h
 have e:=sameL_eq (getOf db a.o) a
 unfold sameL at e
 rw [e] at h
 generalize getOf db a.o=g at *
 simp only [Bool.not_eq_true',Bool.or_eq_false_iff,decide_eq_false_iff_not,Bool.and_eq_false_iff,beq_eq_false_iff_ne,Bool.not_eq_false'] at h
 refine ⟨h.1,fun he=>?_⟩
 rcases h.2 with h2 | h2
 ·exact absurd he h2
 ·exact h2
set_option maxRecDepth 20000 in
set_option maxHeartbeats 8000000 in
theorem rwithin_yes (s t:Sta) (dv ev dv' ev':Value) (w:World) (h:StM w w.heap.size dv ev s) (h':StM w w.heap.size dv' ev' t) (hw:within s t=true) :
  Calls Tryz.prog 28 #[stV s dv ev,stV t dv' ev'] w fun e w'=>e=.returned (.bool true)∧Below w.heap.size w w':=by
 obtain ⟨hdb,hep,hup,hbo⟩:=within_at hw
 obtain ⟨db,up,bo,ep⟩:=s
 obtain ⟨db',up',bo',ep'⟩:=t
 obtain ⟨h1,h2⟩:=h
 obtain ⟨h1',h2'⟩:=h'
 obtain ⟨A1,n1,c1,rfl,hr_⟩:=id h1
 obtain ⟨A2,n2,c2,rfl,hs_⟩:=id h2
 obtain ⟨A3,n3,c3,rfl,ht_⟩:=id h1'
 obtain ⟨A4,n4,c4,rfl,hu_⟩:=id h2'
 clear hr_ hs_ ht_ hu_ hw
 obtain ⟨hl,hnc,hcm,_⟩:=las_len h1
 obtain ⟨hl2,hnc2,hcm2,_⟩:=lks_len h2
 unfold maxLen at hcm hcm2
 simp only [stV] at *
 have hb:=low2 w (.cells #[.slice A1 n1 c1,.int .i64 up,.int .i64 bo,.slice A2 n2 c2] 43) (.cells #[.slice A3 n3 c3,.int .i64 up',.int .i64 bo',.slice A4 n4 c4] 43)
 have k0:=(Blk.new w 43 #[.slice A1 n1 c1,.int .i64 up,.int .i64 bo,.slice A2 n2 c2]).alloc (.cells #[.slice A3 n3 c3,.int .i64 up',.int .i64 bo',.slice A4 n4 c4] 43)
 have k1:=blk_second w (.cells #[.slice A1 n1 c1,.int .i64 up,.int .i64 bo,.slice A2 n2 c2] 43) 43 #[.slice A3 n3 c3,.int .i64 up',.int .i64 bo',.slice A4 n4 c4]
 have d1:decide (up≤up')=true:=decide_eq_true hup
 have d2:decide (bo≤bo')=true:=decide_eq_true hbo
 rw [hl] at hdb
 rw [hl2] at hep
 have HDB:=Lib.hid hdb;clear hdb
 have HEP:=Lib.hid hep;clear hep
 have K0:=Lib.hid k0;clear k0
 have K1:=Lib.hid k1;clear k1
 have HB:=Lib.hid hb;clear hb
 have HS:=Lib.hid h1;clear h1
 have HE:=Lib.hid h2;clear h2
 have HS':=Lib.hid h1';clear h1'
 have HE':=Lib.hid h2';clear h2'
 clear hl hl2
 go_enter Tryz.func28,Tryz.ntmps28
 go_wp2
 go_loopw [5] (fun i wr=>∃ k:Nat,k≤n1∧i=.int .i64 k∧Hid (Blk wr w.heap.size 43 #[.slice A1 n1 c1,.int .i64 up,.int .i64 bo,.slice A2 n2 c2])∧Hid (Blk wr (w.heap.size+1) 43 #[.slice A3 n3 c3,.int .i64 up',.int .i64 bo',.slice A4 n4 c4])∧Hid (Below w.heap.size w wr)) (fun i _=>n1 - (intOf i).toNat)
 case atStart=>exact ⟨0,Nat.zero_le _,rfl,K0,K1,HB⟩
 case round =>
  clear K0 K1 HB
  obtain ⟨k,hk,rfl,K0,K1,HB⟩:=hrel
  obtain ⟨x0,x1,x2,x3,x4⟩:=blk_cells4 K0.out
  obtain ⟨y0,y1,y2,y3,y4⟩:=blk_cells4 K1.out
  by_cases hlt:k<n1
  ·obtain ⟨b,off,rfl,hb,hc⟩:=las_at HS.out (by omega)
   obtain ⟨u,hr,hk2⟩:=hc k hlt
   have hin:=laIn_iff (HDB.out k hlt)
   have c0:=(HB.out.cell (p:=⟨b,off+k*3+0,none⟩) hb).trans (hr 0 _ rfl)
   rw [Nat.add_zero] at c0
   clear hc
   generalize db.getD k zeroL=x at *
   have HR:=Lib.hid hr;clear hr
   obtain ⟨g,hg⟩:∃ g,g=getOf db' x.o:=⟨_,rfl⟩
   have gt:=fun (W:World) (hW:Below w.heap.size w W)=>rget_low A3 n3 c3 w.heap.size db' x.o W hW.size (HS'.out.keep hW)
   unfold GetLow at gt
   rw [← hg] at gt hin
   obtain ⟨hin1,hin2⟩:=hin
   have GT:=Lib.hid gt;clear gt hg
   have hk3:=fun (W:World) (hW:Below w.heap.size w W)=>(hk2.below hW (Nat.le_refl _)).more hW.size
   have HK3:=Lib.hid hk3;clear hk3
   obtain ⟨Au,nu,cu,rfl,hq_⟩:=id hk2
   clear hq_ hk2
   have gc:=HB.out.size
   go_wp2_with (fail)
   go_region_held3 (fun W=>W.cell? ⟨w.heap.size,0,none⟩=some (.slice (some ⟨b,off,none⟩) n1 c1)∧W.cell? ⟨w.heap.size+1,0,none⟩=some (.slice A3 n3 c3)∧W.cell? ⟨b,off+k*3,none⟩=some (.int .i64 x.o))
    (first
     | with_reducible exact ⟨x0,y0,c0⟩
     | with_reducible exact ⟨r0,s0,t0⟩
     | with_reducible exact ⟨v0,u0,z0⟩
     | go_keep)
    (first
     | (go_at_call 63;refine (GT.out _ ?hw).mono ?_;(case hw=>with_reducible exact HB.out.drew);rintro e w5 ⟨v5,rfl,hs5,hb5⟩;have hb5:Below wr.heap.size wr w5:=⟨hb5.os,hb5.tape,hb5.output,hb5.size,hb5.block⟩;obtain ⟨A5,n5,c5,rfl,hq_⟩:=id hs5;clear hq_;have HS5:=Lib.hid hs5;have HB5:=Lib.hid (low_low HB.out hb5);have K5:=Lib.hid (K0.out.below hb5 K0.out.lt);have J5:=Lib.hid (K1.out.below hb5 K1.out.lt);have r0:=(blk_cells4 K5.out).1;have s0:=(blk_cells4 J5.out).1;have t0:=(HB5.out.cell (p:=⟨b,off+k*3+0,none⟩) hb).trans (HR.out 0 _ rfl);rewrite [Nat.add_zero] at t0;clear hs5 hb5)
     | (go_at_call 63;refine (GT.out _ ?hw).mono ?_;(case hw=>exact (low1 HB.out _).drew);rintro e w5 ⟨v5,rfl,hs5,hb5⟩;have hb5':Below (wr.alloc (.cells #[.int .i64 0,.int .i64 0,.slice none 0 0] 80)).heap.size (wr.alloc (.cells #[.int .i64 0,.int .i64 0,.slice none 0 0] 80)) w5:=⟨hb5.os,hb5.tape,hb5.output,hb5.size,hb5.block⟩;obtain ⟨A5,n5,c5,rfl,hq_⟩:=id hs5;clear hq_;have HS5:=Lib.hid hs5;have HB5:=Lib.hid (low_low (low1 HB.out _) hb5');have K5:=Lib.hid ((K0.out.alloc (.cells #[.int .i64 0,.int .i64 0,.slice none 0 0] 80)).below hb5' (by have:=K0.out.lt;simp;omega));have J5:=Lib.hid ((K1.out.alloc (.cells #[.int .i64 0,.int .i64 0,.slice none 0 0] 80)).below hb5' (by have:=K1.out.lt;simp;omega));have L5:=Lib.hid ((Blk.new wr 80 #[.int .i64 0,.int .i64 0,.slice none 0 0]).below hb5' (by simp));have r0:=(blk_cells4 K5.out).1;have s0:=(blk_cells4 J5.out).1;have t0:=(HB5.out.cell (p:=⟨b,off+k*3+0,none⟩) hb).trans (HR.out 0 _ rfl);rewrite [Nat.add_zero] at t0;obtain ⟨p0,p1,p2,p3⟩:=blk_cells3 L5.out;obtain ⟨f0,f1,f2⟩:=blk_fz3 L5.out;have hgu:=upd3_grown w5 wr.heap.size (.int .i64 g.o) (.int .i64 g.s) (.slice A5 n5 c5);have HB5U:=Lib.hid (HB5.out.grown hgu HB5.out.size (fun q hq=>by cases hq;exact gc));have v0:=(blk_cells4 (K5.out.grown hgu (by have:=K0.out.lt;simp;omega))).1;have u0:=(blk_cells4 (J5.out.grown hgu (by have:=K1.out.lt;simp;omega))).1;have z0:=(HB5U.out.cell (p:=⟨b,off+k*3+0,none⟩) hb).trans (HR.out 0 _ rfl);rewrite [Nat.add_zero] at z0;clear hs5 hb5 hb5'))
   ·have L6:=Lib.hid (Blk.new w5 80 #[.int .i64 g.o,.int .i64 g.s,.slice A5 n5 c5])
    have K6:=Lib.hid (K5.out.alloc (.cells #[.int .i64 g.o,.int .i64 g.s,.slice A5 n5 c5] 80))
    have J6:=Lib.hid (J5.out.alloc (.cells #[.int .i64 g.o,.int .i64 g.s,.slice A5 n5 c5] 80))
    have HB6:=Lib.hid (low1 HB5.out (.cells #[.int .i64 g.o,.int .i64 g.s,.slice A5 n5 c5] 80))
    have HL6:=Lib.hid (HS5.out.alloc HB5.out.size (.cells #[.int .i64 g.o,.int .i64 g.s,.slice A5 n5 c5] 80))
    clear K5 J5 HB5 HS5 K0 K1 HB r0 s0 t0 x0 x1 x2 x3 x4 y0 y1 y2 y3 y4 c0 GT gc
    generalize w5.alloc (.cells #[.int .i64 g.o,.int .i64 g.s,.slice A5 n5 c5] 80)=w6 at *
    generalize w5.heap.size=gl at *
    have hls:=HL6.out
    obtain ⟨l0,l1,l2,l3⟩:=blk_cells3 L6.out
    obtain ⟨m0,m1,m2,m3,m4⟩:=blk_cells4 K6.out
    have c0:=(HB6.out.cell (p:=⟨b,off+k*3+0,none⟩) hb).trans (HR.out 0 _ rfl)
    have c1_:=(HB6.out.cell (p:=⟨b,off+k*3+1,none⟩) hb).trans (HR.out 1 _ rfl)
    have c2_:=(HB6.out.cell (p:=⟨b,off+k*3+2,none⟩) hb).trans (HR.out 2 _ rfl)
    rewrite [Nat.add_zero] at c0
    have dl:decide (g.s<x.s)=false:=decide_eq_false (by omega)
    by_cases he:g.s=x.s
    ·have sm:=rsame_lsa g.o g.s x.o x.s (.slice A5 n5 c5) (.slice Au nu cu) g.ls x.ls w6.drew ((hls.drew).more HB6.out.size) ((HK3.out w6 HB6.out).drew)
     rewrite [hin2 he] at sm
     have SM:=Lib.hid sm;clear sm hls
     have be_:(g.s == x.s)=true:=by rw [he];exact beq_self_eq_true _
     clear he hin1 hin2
     go_wp2_with (fail)
     refine wp_region_held_drew (S:=fun W=>W.cell? ⟨gl,0,none⟩=some (.int .i64 g.o)∧W.cell? ⟨gl,1,none⟩=some (.int .i64 g.s)∧W.cell? ⟨gl,2,none⟩=some (.slice A5 n5 c5)∧W.cell? ⟨w.heap.size,0,none⟩=some (.slice (some ⟨b,off,none⟩) n1 c1)∧W.cell? ⟨b,off+k*3,none⟩=some (.int .i64 x.o)∧W.cell? ⟨b,off+k*3+1,none⟩=some (.int .i64 x.s)∧W.cell? ⟨b,off+k*3+2,none⟩=some (.slice Au nu cu)) (by kernel_rfl) ?_ (fun hHeld=>?_)
     ·exact ⟨l0,l1,l2,m0,c0,c1_,c2_⟩
     refine wpAnyH_take (i:=0) (oi:=⟨some 24,_,_,_,_,_⟩) (v:=?_) rfl (by kernel_rfl) (by kernel_rfl) (by kernel_rfl) (fun _ _ _ h=>h) (Or.inl ⟨by rfl,?_⟩) (by assumption) ?_
     rotate_left
     ·(intro w hSw;(try dsimp only at hSw);go_simp;try with_reducible rfl)
     try simp only [Act.put,List.setIfInBounds_toArray,List.set_cons_zero,List.set_cons_succ]
     refine wpAnyH_take (i:=1) (oi:=⟨some 25,_,_,_,_,_⟩) (v:=?_) rfl (by kernel_rfl) (by kernel_rfl) (by kernel_rfl) (fun _ _ _ h=>h) (Or.inl ⟨by rfl,?_⟩) (by assumption) ?_
     rotate_left
     ·(intro w hSw;(try dsimp only at hSw);go_simp;try with_reducible rfl)
     try simp only [Act.put,List.setIfInBounds_toArray,List.set_cons_zero,List.set_cons_succ]
     refine wpAnyH_take (i:=2) (oi:=⟨some 26,_,_,_,_,_⟩) (v:=?_) rfl (by kernel_rfl) (by kernel_rfl) (by kernel_rfl) (fun _ _ _ h=>h) (Or.inl ⟨by rfl,?_⟩) (by assumption) ?_
     rotate_left
     ·(intro w hSw;(try dsimp only at hSw);go_simp;try with_reducible rfl)
     try simp only [Act.put,List.setIfInBounds_toArray,List.set_cons_zero,List.set_cons_succ]
     refine wpAnyH_take (i:=3) (oi:=⟨some 27,_,_,_,_,_⟩) (v:=?_) rfl (by kernel_rfl) (by kernel_rfl) (by kernel_rfl) (fun _ _ _ h=>h) (Or.inl ⟨by rfl,?_⟩) (by assumption) ?_
     rotate_left
     ·(intro w hSw;(try dsimp only at hSw);go_simp;try with_reducible rfl)
     try simp only [Act.put,List.setIfInBounds_toArray,List.set_cons_zero,List.set_cons_succ]
     refine wpAnyH_take (i:=4) (oi:=⟨some 28,_,_,_,_,_⟩) (v:=?_) rfl (by kernel_rfl) (by kernel_rfl) (by kernel_rfl) (fun _ _ _ h=>h) (Or.inl ⟨by rfl,?_⟩) (by assumption) ?_
     rotate_left
     ·(intro w hSw;(try dsimp only at hSw);go_simp;try with_reducible rfl)
     try simp only [Act.put,List.setIfInBounds_toArray,List.set_cons_zero,List.set_cons_succ]
     refine wpAnyH_take (i:=5) (oi:=⟨some 29,_,_,_,_,_⟩) (v:=?_) rfl (by kernel_rfl) (by kernel_rfl) (by kernel_rfl) (fun _ _ _ h=>h) (Or.inl ⟨by rfl,?_⟩) (by assumption) ?_
     rotate_left
     ·(intro w hSw;(try dsimp only at hSw);go_simp;try with_reducible rfl)
     try simp only [Act.put,List.setIfInBounds_toArray,List.set_cons_zero,List.set_cons_succ]
     refine wpAnyH_take (i:=6) (oi:=⟨some 30,_,_,_,_,_⟩) (v:=?_) rfl (by kernel_rfl) (by kernel_rfl) (by kernel_rfl) (fun _ _ _ h=>h) (Or.inl ⟨by rfl,?_⟩) (by assumption) ?_
     rotate_left
     ·(intro w hSw;(try dsimp only at hSw);go_simp;try with_reducible rfl)
     try simp only [Act.put,List.setIfInBounds_toArray,List.set_cons_zero,List.set_cons_succ]
     refine wpAnyH_take (i:=7) (oi:=⟨some 31,_,_,_,_,_⟩) (v:=?_) rfl (by kernel_rfl) (by kernel_rfl) (by kernel_rfl) (fun _ _ _ h=>h) (Or.inl ⟨by rfl,?_⟩) (by assumption) ?_
     rotate_left
     ·(intro w hSw;(try dsimp only at hSw);go_simp;try with_reducible rfl)
     try simp only [Act.put,List.setIfInBounds_toArray,List.set_cons_zero,List.set_cons_succ]
     refine wpAnyH_take (i:=8) (oi:=⟨some 32,_,_,_,_,_⟩) (v:=?_) rfl (by kernel_rfl) (by kernel_rfl) (by kernel_rfl) (fun _ _ _ h=>h) (Or.inl ⟨by rfl,?_⟩) (by assumption) ?_
     rotate_left
     ·(intro w hSw;(try dsimp only at hSw);go_simp;try with_reducible rfl)
     try simp only [Act.put,List.setIfInBounds_toArray,List.set_cons_zero,List.set_cons_succ]
     refine wpAnyH_take (i:=9) (oi:=⟨some 33,_,_,_,_,_⟩) (v:=?_) rfl (by kernel_rfl) (by kernel_rfl) (by kernel_rfl) (fun _ _ _ h=>h) (Or.inl ⟨by rfl,?_⟩) (by assumption) ?_
     rotate_left
     ·(intro w hSw;(try dsimp only at hSw);go_simp;try with_reducible rfl)
     try simp only [Act.put,List.setIfInBounds_toArray,List.set_cons_zero,List.set_cons_succ]
     refine wpAnyH_take (i:=10) (oi:=⟨some 34,_,_,_,_,_⟩) (v:=?_) rfl (by kernel_rfl) (by kernel_rfl) (by kernel_rfl) (fun _ _ _ h=>h) (Or.inl ⟨by rfl,?_⟩) (by assumption) ?_
     rotate_left
     ·(intro w hSw;(try dsimp only at hSw);go_simp;try with_reducible rfl)
     try simp only [Act.put,List.setIfInBounds_toArray,List.set_cons_zero,List.set_cons_succ]
     refine wpAnyH_take (i:=11) (oi:=⟨some 35,_,_,_,_,_⟩) (v:=?_) rfl (by kernel_rfl) (by kernel_rfl) (by kernel_rfl) (fun _ _ _ h=>h) (Or.inl ⟨by rfl,?_⟩) (by assumption) ?_
     rotate_left
     ·(intro w hSw;(try dsimp only at hSw);go_simp;try with_reducible rfl)
     try simp only [Act.put,List.setIfInBounds_toArray,List.set_cons_zero,List.set_cons_succ]
     refine wpAnyH_take (i:=12) (oi:=⟨some 36,_,_,_,_,_⟩) (v:=?_) rfl (by kernel_rfl) (by kernel_rfl) (by kernel_rfl) (fun _ _ _ h=>h) (Or.inl ⟨by rfl,?_⟩) (by assumption) ?_
     rotate_left
     ·(intro w hSw;(try dsimp only at hSw);go_simp;try with_reducible rfl)
     try simp only [Act.put,List.setIfInBounds_toArray,List.set_cons_zero,List.set_cons_succ]
     refine wpAnyH_take (i:=13) (oi:=⟨some 37,_,_,_,_,_⟩) (v:=?_) rfl (by kernel_rfl) (by kernel_rfl) (by kernel_rfl) (fun _ _ _ h=>h) (Or.inl ⟨by rfl,?_⟩) (by assumption) ?_
     rotate_left
     ·(intro w hSw;(try dsimp only at hSw);go_simp;try with_reducible rfl)
     try simp only [Act.put,List.setIfInBounds_toArray,List.set_cons_zero,List.set_cons_succ]
     refine wpAnyH_take (i:=14) (oi:=⟨some 38,_,_,_,_,_⟩) (v:=?_) rfl (by kernel_rfl) (by kernel_rfl) (by kernel_rfl) (fun _ _ _ h=>h) (Or.inl ⟨by rfl,?_⟩) (by assumption) ?_
     rotate_left
     ·(intro w hSw;(try dsimp only at hSw);go_simp;try with_reducible rfl)
     try simp only [Act.put,List.setIfInBounds_toArray,List.set_cons_zero,List.set_cons_succ]
     refine wpAnyH_take (i:=15) (oi:=⟨some 39,_,_,_,_,_⟩) (v:=?_) rfl (by kernel_rfl) (by kernel_rfl) (by kernel_rfl) (fun _ _ _ h=>h) (Or.inl ⟨by rfl,?_⟩) (by assumption) ?_
     rotate_left
     ·(intro w hSw;(try dsimp only at hSw);go_simp;try with_reducible rfl)
     try simp only [Act.put,List.setIfInBounds_toArray,List.set_cons_zero,List.set_cons_succ]
     refine wpAnyH_take (i:=16) (oi:=⟨some 40,_,_,_,_,_⟩) (v:=?_) rfl (by kernel_rfl) (by kernel_rfl) (by kernel_rfl) (fun _ _ _ h=>h) (Or.inl ⟨by rfl,?_⟩) (by assumption) ?_
     rotate_left
     ·(intro w hSw;(try dsimp only at hSw);go_simp;try with_reducible rfl)
     try simp only [Act.put,List.setIfInBounds_toArray,List.set_cons_zero,List.set_cons_succ]
     refine wpAnyH_take (i:=17) (oi:=⟨some 41,_,_,_,_,_⟩) (v:=?_) rfl (by kernel_rfl) (by kernel_rfl) (by kernel_rfl) (fun _ _ _ h=>h) (Or.inl ⟨by rfl,?_⟩) (by assumption) ?_
     rotate_left
     ·(intro w hSw;(try dsimp only at hSw);go_simp;try with_reducible rfl)
     try simp only [Act.put,List.setIfInBounds_toArray,List.set_cons_zero,List.set_cons_succ]
     refine wpAnyH_take (i:=18) (oi:=⟨some 42,_,_,_,_,_⟩) (v:=?_) rfl (by kernel_rfl) (by kernel_rfl) (by kernel_rfl) (fun _ _ _ h=>h) (Or.inl ⟨by rfl,?_⟩) (by assumption) ?_
     rotate_left
     ·(intro w hSw;(try dsimp only at hSw);go_simp;try with_reducible rfl)
     try simp only [Act.put,List.setIfInBounds_toArray,List.set_cons_zero,List.set_cons_succ]
     refine wpAnyH_take (i:=19) (oi:=⟨some 43,_,_,_,_,_⟩) (v:=?_) rfl (by kernel_rfl) (by kernel_rfl) (by kernel_rfl) (fun _ _ _ h=>h) (Or.inl ⟨by rfl,?_⟩) (by assumption) ?_
     rotate_left
     ·(intro w hSw;(try dsimp only at hSw);go_simp;try with_reducible rfl)
     try simp only [Act.put,List.setIfInBounds_toArray,List.set_cons_zero,List.set_cons_succ]
     refine wpAnyH_take (i:=20) (oi:=⟨some 44,_,_,_,_,_⟩) (v:=?_) rfl (by kernel_rfl) (by kernel_rfl) (by kernel_rfl) (fun _ _ _ h=>h) (Or.inl ⟨by rfl,?_⟩) (by assumption) ?_
     rotate_left
     ·(intro w hSw;(try dsimp only at hSw);go_simp;try with_reducible rfl)
     try simp only [Act.put,List.setIfInBounds_toArray,List.set_cons_zero,List.set_cons_succ]
     refine wpAnyH_take (i:=21) (oi:=⟨some 45,_,_,_,_,_⟩) (v:=?_) rfl (by kernel_rfl) (by kernel_rfl) (by kernel_rfl) (fun _ _ _ h=>h) (Or.inl ⟨by rfl,?_⟩) (by assumption) ?_
     rotate_left
     ·(intro w hSw;(try dsimp only at hSw);go_simp;try with_reducible rfl)
     try simp only [Act.put,List.setIfInBounds_toArray,List.set_cons_zero,List.set_cons_succ]
     refine wpAnyH_take (i:=22) (oi:=⟨some 46,_,_,_,_,_⟩) (v:=?_) rfl (by kernel_rfl) (by kernel_rfl) (by kernel_rfl) (fun _ _ _ h=>h) (Or.inl ⟨by rfl,?_⟩) (by assumption) ?_
     rotate_left
     ·(intro w hSw;(try dsimp only at hSw);go_simp;try with_reducible rfl)
     try simp only [Act.put,List.setIfInBounds_toArray,List.set_cons_zero,List.set_cons_succ]
     refine wpAnyH_take (i:=23) (oi:=⟨some 47,_,_,_,_,_⟩) (v:=?_) rfl (by kernel_rfl) (by kernel_rfl) (by kernel_rfl) (fun _ _ _ h=>h) (Or.inl ⟨by rfl,?_⟩) (by assumption) ?_
     rotate_left
     ·(intro w hSw;(try dsimp only at hSw);go_simp;try with_reducible rfl)
     try simp only [Act.put,List.setIfInBounds_toArray,List.set_cons_zero,List.set_cons_succ]
     refine wpAnyH_take (i:=24) (oi:=⟨some 48,_,_,_,_,_⟩) (v:=?_) rfl (by kernel_rfl) (by kernel_rfl) (by kernel_rfl) (fun _ _ _ h=>h) (Or.inl ⟨by rfl,?_⟩) (by assumption) ?_
     rotate_left
     ·(intro w hSw;(try dsimp only at hSw);go_simp;try with_reducible rfl)
     try simp only [Act.put,List.setIfInBounds_toArray,List.set_cons_zero,List.set_cons_succ]
     refine wpAnyH_take (i:=25) (oi:=⟨some 49,_,_,_,_,_⟩) (v:=?_) rfl (by kernel_rfl) (by kernel_rfl) (by kernel_rfl) (fun _ _ _ h=>h) (Or.inl ⟨by rfl,?_⟩) (by assumption) ?_
     rotate_left
     ·(intro w hSw;(try dsimp only at hSw);go_simp;try with_reducible rfl)
     try simp only [Act.put,List.setIfInBounds_toArray,List.set_cons_zero,List.set_cons_succ]
     refine wpAnyH_ready (rs:=[26]) (by kernel_rfl) (by simp) (AllReadyH.cons (o:=⟨some 50,_,_,_,_,_⟩) rfl (fun K hK=>?_) AllReadyH.nil)
     go_simp
     (go_at_call 64;refine (SM.out).mono ?_;rintro e w7 ⟨rfl,hb7⟩;have hb7:Below w6.heap.size w6 w7:=⟨hb7.os,hb7.tape,hb7.output,hb7.size,hb7.block⟩;have HB7:=Lib.hid (low_low HB6.out hb7);have K7:=Lib.hid (K6.out.below hb7 K6.out.lt);have J7:=Lib.hid (J6.out.below hb7 J6.out.lt);obtain ⟨p0,p1,p2,p3⟩:=blk_cells3 (L6.out.below hb7 L6.out.lt);obtain ⟨q0,q1,q2,q3,q4⟩:=blk_cells4 K7.out;have t0:=(HB7.out.cell (p:=⟨b,off+k*3+0,none⟩) hb).trans (HR.out 0 _ rfl);have t1:=(HB7.out.cell (p:=⟨b,off+k*3+1,none⟩) hb).trans (HR.out 1 _ rfl);have t2:=(HB7.out.cell (p:=⟨b,off+k*3+2,none⟩) hb).trans (HR.out 2 _ rfl);rewrite [Nat.add_zero] at t0;clear hb7)
     refine hK.out _ _ ?_ (fun hHeld=>?_)
     ·exact ⟨p0,p1,p2,q0,t0,t1,t2⟩
     clear hK K
     try simp only [Act.put,List.setIfInBounds_toArray,List.set_cons_zero,List.set_cons_succ]
     refine wpAnyH_take (i:=27) (oi:=⟨some 51,_,_,_,_,_⟩) (v:=?_) rfl (by kernel_rfl) (by kernel_rfl) (by kernel_rfl) (fun _ _ _ h=>h) (Or.inl ⟨by rfl,?_⟩) (by assumption) ?_
     rotate_left
     ·(intro w hSw;(try dsimp only at hSw);go_simp;try with_reducible rfl)
     try simp only [Act.put,List.setIfInBounds_toArray,List.set_cons_zero,List.set_cons_succ]
     refine wpAnyH_take (i:=28) (oi:=⟨some 52,_,_,_,_,_⟩) (v:=?_) rfl (by kernel_rfl) (by kernel_rfl) (by kernel_rfl) (fun _ _ _ h=>h) (Or.inl ⟨by rfl,?_⟩) (by assumption) ?_
     rotate_left
     ·(intro w hSw;(try dsimp only at hSw);go_simp;try with_reducible rfl)
     try simp only [Act.put,List.setIfInBounds_toArray,List.set_cons_zero,List.set_cons_succ]
     refine wpAnyH_take (i:=29) (oi:=⟨some 53,_,_,_,_,_⟩) (v:=?_) rfl (by kernel_rfl) (by kernel_rfl) (by kernel_rfl) (fun _ _ _ h=>h) (Or.inl ⟨by rfl,?_⟩) (by assumption) ?_
     rotate_left
     ·(intro w hSw;(try dsimp only at hSw);go_simp;try with_reducible rfl)
     try simp only [Act.put,List.setIfInBounds_toArray,List.set_cons_zero,List.set_cons_succ]
     refine wpAnyH_done (by kernel_rfl) ?_ _
     go_wp2
     go_roundw
     case rel=>exact ⟨k+1,by omega,by go_num,K7,J7,HB7⟩
     case measure=>simp [intOf];omega
    ·have be_:(g.s == x.s)=false:=beq_false_of_ne he
     clear hls he hin1 hin2
     go_wp2_with (fail)
     refine wp_region_held_drew (S:=fun W=>W.cell? ⟨gl,1,none⟩=some (.int .i64 g.s)∧W.cell? ⟨w.heap.size,0,none⟩=some (.slice (some ⟨b,off,none⟩) n1 c1)∧W.cell? ⟨b,off+k*3+1,none⟩=some (.int .i64 x.s)) (by kernel_rfl) ?_ (fun hHeld=>?_)
     ·exact ⟨l1,m0,c1_⟩
     refine wpAnyH_take (i:=0) (oi:=⟨some 24,_,_,_,_,_⟩) (v:=?_) rfl (by kernel_rfl) (by kernel_rfl) (by kernel_rfl) (fun _ _ _ h=>h) (Or.inl ⟨by rfl,?_⟩) (by assumption) ?_
     rotate_left
     ·(intro w hSw;(try dsimp only at hSw);go_simp;try with_reducible rfl)
     try simp only [Act.put,List.setIfInBounds_toArray,List.set_cons_zero,List.set_cons_succ]
     refine wpAnyH_take (i:=1) (oi:=⟨some 25,_,_,_,_,_⟩) (v:=?_) rfl (by kernel_rfl) (by kernel_rfl) (by kernel_rfl) (fun _ _ _ h=>h) (Or.inl ⟨by rfl,?_⟩) (by assumption) ?_
     rotate_left
     ·(intro w hSw;(try dsimp only at hSw);go_simp;try with_reducible rfl)
     try simp only [Act.put,List.setIfInBounds_toArray,List.set_cons_zero,List.set_cons_succ]
     refine wpAnyH_take (i:=2) (oi:=⟨some 26,_,_,_,_,_⟩) (v:=?_) rfl (by kernel_rfl) (by kernel_rfl) (by kernel_rfl) (fun _ _ _ h=>h) (Or.inl ⟨by rfl,?_⟩) (by assumption) ?_
     rotate_left
     ·(intro w hSw;(try dsimp only at hSw);go_simp;try with_reducible rfl)
     try simp only [Act.put,List.setIfInBounds_toArray,List.set_cons_zero,List.set_cons_succ]
     refine wpAnyH_take (i:=3) (oi:=⟨some 27,_,_,_,_,_⟩) (v:=?_) rfl (by kernel_rfl) (by kernel_rfl) (by kernel_rfl) (fun _ _ _ h=>h) (Or.inl ⟨by rfl,?_⟩) (by assumption) ?_
     rotate_left
     ·(intro w hSw;(try dsimp only at hSw);go_simp;try with_reducible rfl)
     try simp only [Act.put,List.setIfInBounds_toArray,List.set_cons_zero,List.set_cons_succ]
     refine wpAnyH_take (i:=4) (oi:=⟨some 28,_,_,_,_,_⟩) (v:=?_) rfl (by kernel_rfl) (by kernel_rfl) (by kernel_rfl) (fun _ _ _ h=>h) (Or.inl ⟨by rfl,?_⟩) (by assumption) ?_
     rotate_left
     ·(intro w hSw;(try dsimp only at hSw);go_simp;try with_reducible rfl)
     try simp only [Act.put,List.setIfInBounds_toArray,List.set_cons_zero,List.set_cons_succ]
     refine wpAnyH_take (i:=5) (oi:=⟨some 29,_,_,_,_,_⟩) (v:=?_) rfl (by kernel_rfl) (by kernel_rfl) (by kernel_rfl) (fun _ _ _ h=>h) (Or.inl ⟨by rfl,?_⟩) (by assumption) ?_
     rotate_left
     ·(intro w hSw;(try dsimp only at hSw);go_simp;try with_reducible rfl)
     try simp only [Act.put,List.setIfInBounds_toArray,List.set_cons_zero,List.set_cons_succ]
     refine wpAnyH_take (i:=6) (oi:=⟨some 30,_,_,_,_,_⟩) (v:=?_) rfl (by kernel_rfl) (by kernel_rfl) (by kernel_rfl) (fun _ _ _ h=>h) (Or.inl ⟨by rfl,?_⟩) (by assumption) ?_
     rotate_left
     ·(intro w hSw;(try dsimp only at hSw);go_simp;try with_reducible rfl)
     try simp only [Act.put,List.setIfInBounds_toArray,List.set_cons_zero,List.set_cons_succ]
     refine wpAnyH_take (i:=7) (oi:=⟨some 31,_,_,_,_,_⟩) (v:=?_) rfl (by kernel_rfl) (by kernel_rfl) (by kernel_rfl) (fun _ _ _ h=>h) (Or.inl ⟨by rfl,?_⟩) (by assumption) ?_
     rotate_left
     ·(intro w hSw;(try dsimp only at hSw);go_simp;try with_reducible rfl)
     try simp only [Act.put,List.setIfInBounds_toArray,List.set_cons_zero,List.set_cons_succ]
     refine wpAnyH_take (i:=8) (oi:=⟨some 32,_,_,_,_,_⟩) (v:=?_) rfl (by kernel_rfl) (by kernel_rfl) (by kernel_rfl) (fun _ _ _ h=>h) (Or.inl ⟨by rfl,?_⟩) (by assumption) ?_
     rotate_left
     ·(intro w hSw;(try dsimp only at hSw);go_simp;try with_reducible rfl)
     try simp only [Act.put,List.setIfInBounds_toArray,List.set_cons_zero,List.set_cons_succ]
     refine wpAnyH_take (i:=9) (oi:=⟨some 33,_,_,_,_,_⟩) (v:=?_) rfl (by kernel_rfl) (by kernel_rfl) (by kernel_rfl) (fun _ _ _ h=>h) (Or.inl ⟨by rfl,?_⟩) (by assumption) ?_
     rotate_left
     ·(intro w hSw;(try dsimp only at hSw);go_simp;try with_reducible rfl)
     try simp only [Act.put,List.setIfInBounds_toArray,List.set_cons_zero,List.set_cons_succ]
     refine wpAnyH_take (i:=10) (oi:=⟨some 34,_,_,_,_,_⟩) (v:=?_) rfl (by kernel_rfl) (by kernel_rfl) (by kernel_rfl) (fun _ _ _ h=>h) (Or.inl ⟨by rfl,?_⟩) (by assumption) ?_
     rotate_left
     ·(intro w hSw;(try dsimp only at hSw);go_simp;try with_reducible rfl)
     try simp only [Act.put,List.setIfInBounds_toArray,List.set_cons_zero,List.set_cons_succ]
     refine wpAnyH_take (i:=11) (oi:=⟨some 35,_,_,_,_,_⟩) (v:=?_) rfl (by kernel_rfl) (by kernel_rfl) (by kernel_rfl) (fun _ _ _ h=>h) (Or.inl ⟨by rfl,?_⟩) (by assumption) ?_
     rotate_left
     ·(intro w hSw;(try dsimp only at hSw);go_simp;try with_reducible rfl)
     try simp only [Act.put,List.setIfInBounds_toArray,List.set_cons_zero,List.set_cons_succ]
     refine wpAnyH_take (i:=12) (oi:=⟨some 36,_,_,_,_,_⟩) (v:=?_) rfl (by kernel_rfl) (by kernel_rfl) (by kernel_rfl) (fun _ _ _ h=>h) (Or.inl ⟨by rfl,?_⟩) (by assumption) ?_
     rotate_left
     ·(intro w hSw;(try dsimp only at hSw);go_simp;try with_reducible rfl)
     try simp only [Act.put,List.setIfInBounds_toArray,List.set_cons_zero,List.set_cons_succ]
     refine wpAnyH_take (i:=13) (oi:=⟨some 37,_,_,_,_,_⟩) (v:=?_) rfl (by kernel_rfl) (by kernel_rfl) (by kernel_rfl) (fun _ _ _ h=>h) (Or.inl ⟨by rfl,?_⟩) (by assumption) ?_
     rotate_left
     ·(intro w hSw;(try dsimp only at hSw);go_simp;try with_reducible rfl)
     try simp only [Act.put,List.setIfInBounds_toArray,List.set_cons_zero,List.set_cons_succ]
     refine wpAnyH_take (i:=14) (oi:=⟨some 38,_,_,_,_,_⟩) (v:=?_) rfl (by kernel_rfl) (by kernel_rfl) (by kernel_rfl) (fun _ _ _ h=>h) (Or.inl ⟨by rfl,?_⟩) (by assumption) ?_
     rotate_left
     ·(intro w hSw;(try dsimp only at hSw);go_simp;try with_reducible rfl)
     try simp only [Act.put,List.setIfInBounds_toArray,List.set_cons_zero,List.set_cons_succ]
     refine wpAnyH_take (i:=15) (oi:=⟨some 39,_,_,_,_,_⟩) (v:=?_) rfl (by kernel_rfl) (by kernel_rfl) (by kernel_rfl) (fun _ _ _ h=>h) (Or.inl ⟨by rfl,?_⟩) (by assumption) ?_
     rotate_left
     ·(intro w hSw;(try dsimp only at hSw);go_simp;try with_reducible rfl)
     try simp only [Act.put,List.setIfInBounds_toArray,List.set_cons_zero,List.set_cons_succ]
     refine wpAnyH_take (i:=16) (oi:=⟨some 40,_,_,_,_,_⟩) (v:=?_) rfl (by kernel_rfl) (by kernel_rfl) (by kernel_rfl) (fun _ _ _ h=>h) (Or.inl ⟨by rfl,?_⟩) (by assumption) ?_
     rotate_left
     ·(intro w hSw;(try dsimp only at hSw);go_simp;try with_reducible rfl)
     try simp only [Act.put,List.setIfInBounds_toArray,List.set_cons_zero,List.set_cons_succ]
     refine wpAnyH_take (i:=17) (oi:=⟨some 41,_,_,_,_,_⟩) (v:=?_) rfl (by kernel_rfl) (by kernel_rfl) (by kernel_rfl) (fun _ _ _ h=>h) (Or.inl ⟨by rfl,?_⟩) (by assumption) ?_
     rotate_left
     ·(intro w hSw;(try dsimp only at hSw);go_simp;try with_reducible rfl)
     try simp only [Act.put,List.setIfInBounds_toArray,List.set_cons_zero,List.set_cons_succ]
     refine wpAnyH_take (i:=18) (oi:=⟨some 42,_,_,_,_,_⟩) (v:=?_) rfl (by kernel_rfl) (by kernel_rfl) (by kernel_rfl) (fun _ _ _ h=>h) (Or.inl ⟨by rfl,?_⟩) (by assumption) ?_
     rotate_left
     ·(intro w hSw;(try dsimp only at hSw);go_simp;try with_reducible rfl)
     try simp only [Act.put,List.setIfInBounds_toArray,List.set_cons_zero,List.set_cons_succ]
     refine wpAnyH_take (i:=19) (oi:=⟨some 43,_,_,_,_,_⟩) (v:=?_) rfl (by kernel_rfl) (by kernel_rfl) (by kernel_rfl) (fun _ _ _ h=>h) (Or.inl ⟨by rfl,?_⟩) (by assumption) ?_
     rotate_left
     ·(intro w hSw;(try dsimp only at hSw);go_simp;try with_reducible rfl)
     try simp only [Act.put,List.setIfInBounds_toArray,List.set_cons_zero,List.set_cons_succ]
     refine wpAnyH_take (i:=20) (oi:=⟨some 44,_,_,_,_,_⟩) (v:=undef) rfl (by kernel_rfl) (by kernel_rfl) (by kernel_rfl) (fun _ _ _ h=>h) (Or.inr ⟨by rfl,rfl⟩) (by assumption) ?_
     try simp only [Act.put,List.setIfInBounds_toArray,List.set_cons_zero,List.set_cons_succ]
     refine wpAnyH_take (i:=21) (oi:=⟨some 45,_,_,_,_,_⟩) (v:=undef) rfl (by kernel_rfl) (by kernel_rfl) (by kernel_rfl) (fun _ _ _ h=>h) (Or.inr ⟨by rfl,rfl⟩) (by assumption) ?_
     try simp only [Act.put,List.setIfInBounds_toArray,List.set_cons_zero,List.set_cons_succ]
     refine wpAnyH_take (i:=22) (oi:=⟨some 46,_,_,_,_,_⟩) (v:=undef) rfl (by kernel_rfl) (by kernel_rfl) (by kernel_rfl) (fun _ _ _ h=>h) (Or.inr ⟨by rfl,rfl⟩) (by assumption) ?_
     try simp only [Act.put,List.setIfInBounds_toArray,List.set_cons_zero,List.set_cons_succ]
     refine wpAnyH_take (i:=23) (oi:=⟨some 47,_,_,_,_,_⟩) (v:=undef) rfl (by kernel_rfl) (by kernel_rfl) (by kernel_rfl) (fun _ _ _ h=>h) (Or.inr ⟨by rfl,rfl⟩) (by assumption) ?_
     try simp only [Act.put,List.setIfInBounds_toArray,List.set_cons_zero,List.set_cons_succ]
     refine wpAnyH_take (i:=24) (oi:=⟨some 48,_,_,_,_,_⟩) (v:=undef) rfl (by kernel_rfl) (by kernel_rfl) (by kernel_rfl) (fun _ _ _ h=>h) (Or.inr ⟨by rfl,rfl⟩) (by assumption) ?_
     try simp only [Act.put,List.setIfInBounds_toArray,List.set_cons_zero,List.set_cons_succ]
     refine wpAnyH_take (i:=25) (oi:=⟨some 49,_,_,_,_,_⟩) (v:=undef) rfl (by kernel_rfl) (by kernel_rfl) (by kernel_rfl) (fun _ _ _ h=>h) (Or.inr ⟨by rfl,rfl⟩) (by assumption) ?_
     try simp only [Act.put,List.setIfInBounds_toArray,List.set_cons_zero,List.set_cons_succ]
     refine wpAnyH_take (i:=26) (oi:=⟨some 50,_,_,_,_,_⟩) (v:=undef) rfl (by kernel_rfl) (by kernel_rfl) (by kernel_rfl) (fun _ _ _ h=>h) (Or.inr ⟨by rfl,rfl⟩) (by assumption) ?_
     try simp only [Act.put,List.setIfInBounds_toArray,List.set_cons_zero,List.set_cons_succ]
     refine wpAnyH_take (i:=27) (oi:=⟨some 51,_,_,_,_,_⟩) (v:=undef) rfl (by kernel_rfl) (by kernel_rfl) (by kernel_rfl) (fun _ _ _ h=>h) (Or.inr ⟨by rfl,rfl⟩) (by assumption) ?_
     try simp only [Act.put,List.setIfInBounds_toArray,List.set_cons_zero,List.set_cons_succ]
     refine wpAnyH_take (i:=28) (oi:=⟨some 52,_,_,_,_,_⟩) (v:=?_) rfl (by kernel_rfl) (by kernel_rfl) (by kernel_rfl) (fun _ _ _ h=>h) (Or.inl ⟨by rfl,?_⟩) (by assumption) ?_
     rotate_left
     ·(intro w hSw;(try dsimp only at hSw);go_simp;try with_reducible rfl)
     try simp only [Act.put,List.setIfInBounds_toArray,List.set_cons_zero,List.set_cons_succ]
     refine wpAnyH_take (i:=29) (oi:=⟨some 53,_,_,_,_,_⟩) (v:=?_) rfl (by kernel_rfl) (by kernel_rfl) (by kernel_rfl) (fun _ _ _ h=>h) (Or.inl ⟨by rfl,?_⟩) (by assumption) ?_
     rotate_left
     ·(intro w hSw;(try dsimp only at hSw);go_simp;try with_reducible rfl)
     try simp only [Act.put,List.setIfInBounds_toArray,List.set_cons_zero,List.set_cons_succ]
     refine wpAnyH_done (by kernel_rfl) ?_ _
     go_wp2
     go_roundw
     case rel=>exact ⟨k+1,by omega,by go_num,Lib.hid K6.out.drew,Lib.hid J6.out.drew,Lib.hid HB6.out.drew⟩
     case measure=>simp [intOf];omega
   ·have l6:=upd3_blk (u0:=.int .i64 g.o) (u1:=.int .i64 g.s) (u2:=.slice A5 n5 c5) L5.out
    have k6:=K5.out.grown hgu (by have:=K0.out.lt;simp;omega)
    have j6:=J5.out.grown hgu (by have:=K1.out.lt;simp;omega)
    have hl6:=HS5.out.grown hgu HB5.out.size (fun q hq=>by cases hq;exact gc)
    have hb6:=HB5U.out
    simp only [upd3] at l6 k6 j6 hl6 hb6
    have L6:=Lib.hid l6;clear l6
    have K6:=Lib.hid k6;clear k6
    have J6:=Lib.hid j6;clear j6
    have HL6:=Lib.hid hl6;clear hl6
    have HB6:=Lib.hid hb6;clear hb6
    clear K5 J5 HB5 HS5 K0 K1 HB HB5U L5 hgu r0 s0 t0 v0 u0 z0 p0 p1 p2 p3 f0 f1 f2 x0 x1 x2 x3 x4 y0 y1 y2 y3 y4 c0 GT gc
    generalize ((w5.setCell ⟨wr.heap.size,0,none⟩ (.int .i64 g.o)).setCell ⟨wr.heap.size,1,none⟩ (.int .i64 g.s)).setCell ⟨wr.heap.size,2,none⟩ (.slice A5 n5 c5)=w6 at *
    generalize wr.heap.size=gl at *
    have hls:=HL6.out
    obtain ⟨l0,l1,l2,l3⟩:=blk_cells3 L6.out
    obtain ⟨m0,m1,m2,m3,m4⟩:=blk_cells4 K6.out
    have c0:=(HB6.out.cell (p:=⟨b,off+k*3+0,none⟩) hb).trans (HR.out 0 _ rfl)
    have c1_:=(HB6.out.cell (p:=⟨b,off+k*3+1,none⟩) hb).trans (HR.out 1 _ rfl)
    have c2_:=(HB6.out.cell (p:=⟨b,off+k*3+2,none⟩) hb).trans (HR.out 2 _ rfl)
    rewrite [Nat.add_zero] at c0
    have dl:decide (g.s<x.s)=false:=decide_eq_false (by omega)
    by_cases he:g.s=x.s
    ·have sm:=rsame_lsa g.o g.s x.o x.s (.slice A5 n5 c5) (.slice Au nu cu) g.ls x.ls w6.drew ((hls.drew).more HB6.out.size) ((HK3.out w6 HB6.out).drew)
     rewrite [hin2 he] at sm
     have SM:=Lib.hid sm;clear sm hls
     have be_:(g.s == x.s)=true:=by rw [he];exact beq_self_eq_true _
     clear he hin1 hin2
     go_wp2_with (fail)
     refine wp_region_held_drew (S:=fun W=>W.cell? ⟨gl,0,none⟩=some (.int .i64 g.o)∧W.cell? ⟨gl,1,none⟩=some (.int .i64 g.s)∧W.cell? ⟨gl,2,none⟩=some (.slice A5 n5 c5)∧W.cell? ⟨w.heap.size,0,none⟩=some (.slice (some ⟨b,off,none⟩) n1 c1)∧W.cell? ⟨b,off+k*3,none⟩=some (.int .i64 x.o)∧W.cell? ⟨b,off+k*3+1,none⟩=some (.int .i64 x.s)∧W.cell? ⟨b,off+k*3+2,none⟩=some (.slice Au nu cu)) (by kernel_rfl) ?_ (fun hHeld=>?_)
     ·exact ⟨l0,l1,l2,m0,c0,c1_,c2_⟩
     refine wpAnyH_take (i:=0) (oi:=⟨some 24,_,_,_,_,_⟩) (v:=?_) rfl (by kernel_rfl) (by kernel_rfl) (by kernel_rfl) (fun _ _ _ h=>h) (Or.inl ⟨by rfl,?_⟩) (by assumption) ?_
     rotate_left
     ·(intro w hSw;(try dsimp only at hSw);go_simp;try with_reducible rfl)
     try simp only [Act.put,List.setIfInBounds_toArray,List.set_cons_zero,List.set_cons_succ]
     refine wpAnyH_take (i:=1) (oi:=⟨some 25,_,_,_,_,_⟩) (v:=?_) rfl (by kernel_rfl) (by kernel_rfl) (by kernel_rfl) (fun _ _ _ h=>h) (Or.inl ⟨by rfl,?_⟩) (by assumption) ?_
     rotate_left
     ·(intro w hSw;(try dsimp only at hSw);go_simp;try with_reducible rfl)
     try simp only [Act.put,List.setIfInBounds_toArray,List.set_cons_zero,List.set_cons_succ]
     refine wpAnyH_take (i:=2) (oi:=⟨some 26,_,_,_,_,_⟩) (v:=?_) rfl (by kernel_rfl) (by kernel_rfl) (by kernel_rfl) (fun _ _ _ h=>h) (Or.inl ⟨by rfl,?_⟩) (by assumption) ?_
     rotate_left
     ·(intro w hSw;(try dsimp only at hSw);go_simp;try with_reducible rfl)
     try simp only [Act.put,List.setIfInBounds_toArray,List.set_cons_zero,List.set_cons_succ]
     refine wpAnyH_take (i:=3) (oi:=⟨some 27,_,_,_,_,_⟩) (v:=?_) rfl (by kernel_rfl) (by kernel_rfl) (by kernel_rfl) (fun _ _ _ h=>h) (Or.inl ⟨by rfl,?_⟩) (by assumption) ?_
     rotate_left
     ·(intro w hSw;(try dsimp only at hSw);go_simp;try with_reducible rfl)
     try simp only [Act.put,List.setIfInBounds_toArray,List.set_cons_zero,List.set_cons_succ]
     refine wpAnyH_take (i:=4) (oi:=⟨some 28,_,_,_,_,_⟩) (v:=?_) rfl (by kernel_rfl) (by kernel_rfl) (by kernel_rfl) (fun _ _ _ h=>h) (Or.inl ⟨by rfl,?_⟩) (by assumption) ?_
     rotate_left
     ·(intro w hSw;(try dsimp only at hSw);go_simp;try with_reducible rfl)
     try simp only [Act.put,List.setIfInBounds_toArray,List.set_cons_zero,List.set_cons_succ]
     refine wpAnyH_take (i:=5) (oi:=⟨some 29,_,_,_,_,_⟩) (v:=?_) rfl (by kernel_rfl) (by kernel_rfl) (by kernel_rfl) (fun _ _ _ h=>h) (Or.inl ⟨by rfl,?_⟩) (by assumption) ?_
     rotate_left
     ·(intro w hSw;(try dsimp only at hSw);go_simp;try with_reducible rfl)
     try simp only [Act.put,List.setIfInBounds_toArray,List.set_cons_zero,List.set_cons_succ]
     refine wpAnyH_take (i:=6) (oi:=⟨some 30,_,_,_,_,_⟩) (v:=?_) rfl (by kernel_rfl) (by kernel_rfl) (by kernel_rfl) (fun _ _ _ h=>h) (Or.inl ⟨by rfl,?_⟩) (by assumption) ?_
     rotate_left
     ·(intro w hSw;(try dsimp only at hSw);go_simp;try with_reducible rfl)
     try simp only [Act.put,List.setIfInBounds_toArray,List.set_cons_zero,List.set_cons_succ]
     refine wpAnyH_take (i:=7) (oi:=⟨some 31,_,_,_,_,_⟩) (v:=?_) rfl (by kernel_rfl) (by kernel_rfl) (by kernel_rfl) (fun _ _ _ h=>h) (Or.inl ⟨by rfl,?_⟩) (by assumption) ?_
     rotate_left
     ·(intro w hSw;(try dsimp only at hSw);go_simp;try with_reducible rfl)
     try simp only [Act.put,List.setIfInBounds_toArray,List.set_cons_zero,List.set_cons_succ]
     refine wpAnyH_take (i:=8) (oi:=⟨some 32,_,_,_,_,_⟩) (v:=?_) rfl (by kernel_rfl) (by kernel_rfl) (by kernel_rfl) (fun _ _ _ h=>h) (Or.inl ⟨by rfl,?_⟩) (by assumption) ?_
     rotate_left
     ·(intro w hSw;(try dsimp only at hSw);go_simp;try with_reducible rfl)
     try simp only [Act.put,List.setIfInBounds_toArray,List.set_cons_zero,List.set_cons_succ]
     refine wpAnyH_take (i:=9) (oi:=⟨some 33,_,_,_,_,_⟩) (v:=?_) rfl (by kernel_rfl) (by kernel_rfl) (by kernel_rfl) (fun _ _ _ h=>h) (Or.inl ⟨by rfl,?_⟩) (by assumption) ?_
     rotate_left
     ·(intro w hSw;(try dsimp only at hSw);go_simp;try with_reducible rfl)
     try simp only [Act.put,List.setIfInBounds_toArray,List.set_cons_zero,List.set_cons_succ]
     refine wpAnyH_take (i:=10) (oi:=⟨some 34,_,_,_,_,_⟩) (v:=?_) rfl (by kernel_rfl) (by kernel_rfl) (by kernel_rfl) (fun _ _ _ h=>h) (Or.inl ⟨by rfl,?_⟩) (by assumption) ?_
     rotate_left
     ·(intro w hSw;(try dsimp only at hSw);go_simp;try with_reducible rfl)
     try simp only [Act.put,List.setIfInBounds_toArray,List.set_cons_zero,List.set_cons_succ]
     refine wpAnyH_take (i:=11) (oi:=⟨some 35,_,_,_,_,_⟩) (v:=?_) rfl (by kernel_rfl) (by kernel_rfl) (by kernel_rfl) (fun _ _ _ h=>h) (Or.inl ⟨by rfl,?_⟩) (by assumption) ?_
     rotate_left
     ·(intro w hSw;(try dsimp only at hSw);go_simp;try with_reducible rfl)
     try simp only [Act.put,List.setIfInBounds_toArray,List.set_cons_zero,List.set_cons_succ]
     refine wpAnyH_take (i:=12) (oi:=⟨some 36,_,_,_,_,_⟩) (v:=?_) rfl (by kernel_rfl) (by kernel_rfl) (by kernel_rfl) (fun _ _ _ h=>h) (Or.inl ⟨by rfl,?_⟩) (by assumption) ?_
     rotate_left
     ·(intro w hSw;(try dsimp only at hSw);go_simp;try with_reducible rfl)
     try simp only [Act.put,List.setIfInBounds_toArray,List.set_cons_zero,List.set_cons_succ]
     refine wpAnyH_take (i:=13) (oi:=⟨some 37,_,_,_,_,_⟩) (v:=?_) rfl (by kernel_rfl) (by kernel_rfl) (by kernel_rfl) (fun _ _ _ h=>h) (Or.inl ⟨by rfl,?_⟩) (by assumption) ?_
     rotate_left
     ·(intro w hSw;(try dsimp only at hSw);go_simp;try with_reducible rfl)
     try simp only [Act.put,List.setIfInBounds_toArray,List.set_cons_zero,List.set_cons_succ]
     refine wpAnyH_take (i:=14) (oi:=⟨some 38,_,_,_,_,_⟩) (v:=?_) rfl (by kernel_rfl) (by kernel_rfl) (by kernel_rfl) (fun _ _ _ h=>h) (Or.inl ⟨by rfl,?_⟩) (by assumption) ?_
     rotate_left
     ·(intro w hSw;(try dsimp only at hSw);go_simp;try with_reducible rfl)
     try simp only [Act.put,List.setIfInBounds_toArray,List.set_cons_zero,List.set_cons_succ]
     refine wpAnyH_take (i:=15) (oi:=⟨some 39,_,_,_,_,_⟩) (v:=?_) rfl (by kernel_rfl) (by kernel_rfl) (by kernel_rfl) (fun _ _ _ h=>h) (Or.inl ⟨by rfl,?_⟩) (by assumption) ?_
     rotate_left
     ·(intro w hSw;(try dsimp only at hSw);go_simp;try with_reducible rfl)
     try simp only [Act.put,List.setIfInBounds_toArray,List.set_cons_zero,List.set_cons_succ]
     refine wpAnyH_take (i:=16) (oi:=⟨some 40,_,_,_,_,_⟩) (v:=?_) rfl (by kernel_rfl) (by kernel_rfl) (by kernel_rfl) (fun _ _ _ h=>h) (Or.inl ⟨by rfl,?_⟩) (by assumption) ?_
     rotate_left
     ·(intro w hSw;(try dsimp only at hSw);go_simp;try with_reducible rfl)
     try simp only [Act.put,List.setIfInBounds_toArray,List.set_cons_zero,List.set_cons_succ]
     refine wpAnyH_take (i:=17) (oi:=⟨some 41,_,_,_,_,_⟩) (v:=?_) rfl (by kernel_rfl) (by kernel_rfl) (by kernel_rfl) (fun _ _ _ h=>h) (Or.inl ⟨by rfl,?_⟩) (by assumption) ?_
     rotate_left
     ·(intro w hSw;(try dsimp only at hSw);go_simp;try with_reducible rfl)
     try simp only [Act.put,List.setIfInBounds_toArray,List.set_cons_zero,List.set_cons_succ]
     refine wpAnyH_take (i:=18) (oi:=⟨some 42,_,_,_,_,_⟩) (v:=?_) rfl (by kernel_rfl) (by kernel_rfl) (by kernel_rfl) (fun _ _ _ h=>h) (Or.inl ⟨by rfl,?_⟩) (by assumption) ?_
     rotate_left
     ·(intro w hSw;(try dsimp only at hSw);go_simp;try with_reducible rfl)
     try simp only [Act.put,List.setIfInBounds_toArray,List.set_cons_zero,List.set_cons_succ]
     refine wpAnyH_take (i:=19) (oi:=⟨some 43,_,_,_,_,_⟩) (v:=?_) rfl (by kernel_rfl) (by kernel_rfl) (by kernel_rfl) (fun _ _ _ h=>h) (Or.inl ⟨by rfl,?_⟩) (by assumption) ?_
     rotate_left
     ·(intro w hSw;(try dsimp only at hSw);go_simp;try with_reducible rfl)
     try simp only [Act.put,List.setIfInBounds_toArray,List.set_cons_zero,List.set_cons_succ]
     refine wpAnyH_take (i:=20) (oi:=⟨some 44,_,_,_,_,_⟩) (v:=?_) rfl (by kernel_rfl) (by kernel_rfl) (by kernel_rfl) (fun _ _ _ h=>h) (Or.inl ⟨by rfl,?_⟩) (by assumption) ?_
     rotate_left
     ·(intro w hSw;(try dsimp only at hSw);go_simp;try with_reducible rfl)
     try simp only [Act.put,List.setIfInBounds_toArray,List.set_cons_zero,List.set_cons_succ]
     refine wpAnyH_take (i:=21) (oi:=⟨some 45,_,_,_,_,_⟩) (v:=?_) rfl (by kernel_rfl) (by kernel_rfl) (by kernel_rfl) (fun _ _ _ h=>h) (Or.inl ⟨by rfl,?_⟩) (by assumption) ?_
     rotate_left
     ·(intro w hSw;(try dsimp only at hSw);go_simp;try with_reducible rfl)
     try simp only [Act.put,List.setIfInBounds_toArray,List.set_cons_zero,List.set_cons_succ]
     refine wpAnyH_take (i:=22) (oi:=⟨some 46,_,_,_,_,_⟩) (v:=?_) rfl (by kernel_rfl) (by kernel_rfl) (by kernel_rfl) (fun _ _ _ h=>h) (Or.inl ⟨by rfl,?_⟩) (by assumption) ?_
     rotate_left
     ·(intro w hSw;(try dsimp only at hSw);go_simp;try with_reducible rfl)
     try simp only [Act.put,List.setIfInBounds_toArray,List.set_cons_zero,List.set_cons_succ]
     refine wpAnyH_take (i:=23) (oi:=⟨some 47,_,_,_,_,_⟩) (v:=?_) rfl (by kernel_rfl) (by kernel_rfl) (by kernel_rfl) (fun _ _ _ h=>h) (Or.inl ⟨by rfl,?_⟩) (by assumption) ?_
     rotate_left
     ·(intro w hSw;(try dsimp only at hSw);go_simp;try with_reducible rfl)
     try simp only [Act.put,List.setIfInBounds_toArray,List.set_cons_zero,List.set_cons_succ]
     refine wpAnyH_take (i:=24) (oi:=⟨some 48,_,_,_,_,_⟩) (v:=?_) rfl (by kernel_rfl) (by kernel_rfl) (by kernel_rfl) (fun _ _ _ h=>h) (Or.inl ⟨by rfl,?_⟩) (by assumption) ?_
     rotate_left
     ·(intro w hSw;(try dsimp only at hSw);go_simp;try with_reducible rfl)
     try simp only [Act.put,List.setIfInBounds_toArray,List.set_cons_zero,List.set_cons_succ]
     refine wpAnyH_take (i:=25) (oi:=⟨some 49,_,_,_,_,_⟩) (v:=?_) rfl (by kernel_rfl) (by kernel_rfl) (by kernel_rfl) (fun _ _ _ h=>h) (Or.inl ⟨by rfl,?_⟩) (by assumption) ?_
     rotate_left
     ·(intro w hSw;(try dsimp only at hSw);go_simp;try with_reducible rfl)
     try simp only [Act.put,List.setIfInBounds_toArray,List.set_cons_zero,List.set_cons_succ]
     refine wpAnyH_ready (rs:=[26]) (by kernel_rfl) (by simp) (AllReadyH.cons (o:=⟨some 50,_,_,_,_,_⟩) rfl (fun K hK=>?_) AllReadyH.nil)
     go_simp
     (go_at_call 64;refine (SM.out).mono ?_;rintro e w7 ⟨rfl,hb7⟩;have hb7:Below w6.heap.size w6 w7:=⟨hb7.os,hb7.tape,hb7.output,hb7.size,hb7.block⟩;have HB7:=Lib.hid (low_low HB6.out hb7);have K7:=Lib.hid (K6.out.below hb7 K6.out.lt);have J7:=Lib.hid (J6.out.below hb7 J6.out.lt);obtain ⟨p0,p1,p2,p3⟩:=blk_cells3 (L6.out.below hb7 L6.out.lt);obtain ⟨q0,q1,q2,q3,q4⟩:=blk_cells4 K7.out;have t0:=(HB7.out.cell (p:=⟨b,off+k*3+0,none⟩) hb).trans (HR.out 0 _ rfl);have t1:=(HB7.out.cell (p:=⟨b,off+k*3+1,none⟩) hb).trans (HR.out 1 _ rfl);have t2:=(HB7.out.cell (p:=⟨b,off+k*3+2,none⟩) hb).trans (HR.out 2 _ rfl);rewrite [Nat.add_zero] at t0;clear hb7)
     refine hK.out _ _ ?_ (fun hHeld=>?_)
     ·exact ⟨p0,p1,p2,q0,t0,t1,t2⟩
     clear hK K
     try simp only [Act.put,List.setIfInBounds_toArray,List.set_cons_zero,List.set_cons_succ]
     refine wpAnyH_take (i:=27) (oi:=⟨some 51,_,_,_,_,_⟩) (v:=?_) rfl (by kernel_rfl) (by kernel_rfl) (by kernel_rfl) (fun _ _ _ h=>h) (Or.inl ⟨by rfl,?_⟩) (by assumption) ?_
     rotate_left
     ·(intro w hSw;(try dsimp only at hSw);go_simp;try with_reducible rfl)
     try simp only [Act.put,List.setIfInBounds_toArray,List.set_cons_zero,List.set_cons_succ]
     refine wpAnyH_take (i:=28) (oi:=⟨some 52,_,_,_,_,_⟩) (v:=?_) rfl (by kernel_rfl) (by kernel_rfl) (by kernel_rfl) (fun _ _ _ h=>h) (Or.inl ⟨by rfl,?_⟩) (by assumption) ?_
     rotate_left
     ·(intro w hSw;(try dsimp only at hSw);go_simp;try with_reducible rfl)
     try simp only [Act.put,List.setIfInBounds_toArray,List.set_cons_zero,List.set_cons_succ]
     refine wpAnyH_take (i:=29) (oi:=⟨some 53,_,_,_,_,_⟩) (v:=?_) rfl (by kernel_rfl) (by kernel_rfl) (by kernel_rfl) (fun _ _ _ h=>h) (Or.inl ⟨by rfl,?_⟩) (by assumption) ?_
     rotate_left
     ·(intro w hSw;(try dsimp only at hSw);go_simp;try with_reducible rfl)
     try simp only [Act.put,List.setIfInBounds_toArray,List.set_cons_zero,List.set_cons_succ]
     refine wpAnyH_done (by kernel_rfl) ?_ _
     go_wp2
     go_roundw
     case rel=>exact ⟨k+1,by omega,by go_num,K7,J7,HB7⟩
     case measure=>simp [intOf];omega
    ·have be_:(g.s == x.s)=false:=beq_false_of_ne he
     clear hls he hin1 hin2
     go_wp2_with (fail)
     refine wp_region_held_drew (S:=fun W=>W.cell? ⟨gl,1,none⟩=some (.int .i64 g.s)∧W.cell? ⟨w.heap.size,0,none⟩=some (.slice (some ⟨b,off,none⟩) n1 c1)∧W.cell? ⟨b,off+k*3+1,none⟩=some (.int .i64 x.s)) (by kernel_rfl) ?_ (fun hHeld=>?_)
     ·exact ⟨l1,m0,c1_⟩
     refine wpAnyH_take (i:=0) (oi:=⟨some 24,_,_,_,_,_⟩) (v:=?_) rfl (by kernel_rfl) (by kernel_rfl) (by kernel_rfl) (fun _ _ _ h=>h) (Or.inl ⟨by rfl,?_⟩) (by assumption) ?_
     rotate_left
     ·(intro w hSw;(try dsimp only at hSw);go_simp;try with_reducible rfl)
     try simp only [Act.put,List.setIfInBounds_toArray,List.set_cons_zero,List.set_cons_succ]
     refine wpAnyH_take (i:=1) (oi:=⟨some 25,_,_,_,_,_⟩) (v:=?_) rfl (by kernel_rfl) (by kernel_rfl) (by kernel_rfl) (fun _ _ _ h=>h) (Or.inl ⟨by rfl,?_⟩) (by assumption) ?_
     rotate_left
     ·(intro w hSw;(try dsimp only at hSw);go_simp;try with_reducible rfl)
     try simp only [Act.put,List.setIfInBounds_toArray,List.set_cons_zero,List.set_cons_succ]
     refine wpAnyH_take (i:=2) (oi:=⟨some 26,_,_,_,_,_⟩) (v:=?_) rfl (by kernel_rfl) (by kernel_rfl) (by kernel_rfl) (fun _ _ _ h=>h) (Or.inl ⟨by rfl,?_⟩) (by assumption) ?_
     rotate_left
     ·(intro w hSw;(try dsimp only at hSw);go_simp;try with_reducible rfl)
     try simp only [Act.put,List.setIfInBounds_toArray,List.set_cons_zero,List.set_cons_succ]
     refine wpAnyH_take (i:=3) (oi:=⟨some 27,_,_,_,_,_⟩) (v:=?_) rfl (by kernel_rfl) (by kernel_rfl) (by kernel_rfl) (fun _ _ _ h=>h) (Or.inl ⟨by rfl,?_⟩) (by assumption) ?_
     rotate_left
     ·(intro w hSw;(try dsimp only at hSw);go_simp;try with_reducible rfl)
     try simp only [Act.put,List.setIfInBounds_toArray,List.set_cons_zero,List.set_cons_succ]
     refine wpAnyH_take (i:=4) (oi:=⟨some 28,_,_,_,_,_⟩) (v:=?_) rfl (by kernel_rfl) (by kernel_rfl) (by kernel_rfl) (fun _ _ _ h=>h) (Or.inl ⟨by rfl,?_⟩) (by assumption) ?_
     rotate_left
     ·(intro w hSw;(try dsimp only at hSw);go_simp;try with_reducible rfl)
     try simp only [Act.put,List.setIfInBounds_toArray,List.set_cons_zero,List.set_cons_succ]
     refine wpAnyH_take (i:=5) (oi:=⟨some 29,_,_,_,_,_⟩) (v:=?_) rfl (by kernel_rfl) (by kernel_rfl) (by kernel_rfl) (fun _ _ _ h=>h) (Or.inl ⟨by rfl,?_⟩) (by assumption) ?_
     rotate_left
     ·(intro w hSw;(try dsimp only at hSw);go_simp;try with_reducible rfl)
     try simp only [Act.put,List.setIfInBounds_toArray,List.set_cons_zero,List.set_cons_succ]
     refine wpAnyH_take (i:=6) (oi:=⟨some 30,_,_,_,_,_⟩) (v:=?_) rfl (by kernel_rfl) (by kernel_rfl) (by kernel_rfl) (fun _ _ _ h=>h) (Or.inl ⟨by rfl,?_⟩) (by assumption) ?_
     rotate_left
     ·(intro w hSw;(try dsimp only at hSw);go_simp;try with_reducible rfl)
     try simp only [Act.put,List.setIfInBounds_toArray,List.set_cons_zero,List.set_cons_succ]
     refine wpAnyH_take (i:=7) (oi:=⟨some 31,_,_,_,_,_⟩) (v:=?_) rfl (by kernel_rfl) (by kernel_rfl) (by kernel_rfl) (fun _ _ _ h=>h) (Or.inl ⟨by rfl,?_⟩) (by assumption) ?_
     rotate_left
     ·(intro w hSw;(try dsimp only at hSw);go_simp;try with_reducible rfl)
     try simp only [Act.put,List.setIfInBounds_toArray,List.set_cons_zero,List.set_cons_succ]
     refine wpAnyH_take (i:=8) (oi:=⟨some 32,_,_,_,_,_⟩) (v:=?_) rfl (by kernel_rfl) (by kernel_rfl) (by kernel_rfl) (fun _ _ _ h=>h) (Or.inl ⟨by rfl,?_⟩) (by assumption) ?_
     rotate_left
     ·(intro w hSw;(try dsimp only at hSw);go_simp;try with_reducible rfl)
     try simp only [Act.put,List.setIfInBounds_toArray,List.set_cons_zero,List.set_cons_succ]
     refine wpAnyH_take (i:=9) (oi:=⟨some 33,_,_,_,_,_⟩) (v:=?_) rfl (by kernel_rfl) (by kernel_rfl) (by kernel_rfl) (fun _ _ _ h=>h) (Or.inl ⟨by rfl,?_⟩) (by assumption) ?_
     rotate_left
     ·(intro w hSw;(try dsimp only at hSw);go_simp;try with_reducible rfl)
     try simp only [Act.put,List.setIfInBounds_toArray,List.set_cons_zero,List.set_cons_succ]
     refine wpAnyH_take (i:=10) (oi:=⟨some 34,_,_,_,_,_⟩) (v:=?_) rfl (by kernel_rfl) (by kernel_rfl) (by kernel_rfl) (fun _ _ _ h=>h) (Or.inl ⟨by rfl,?_⟩) (by assumption) ?_
     rotate_left
     ·(intro w hSw;(try dsimp only at hSw);go_simp;try with_reducible rfl)
     try simp only [Act.put,List.setIfInBounds_toArray,List.set_cons_zero,List.set_cons_succ]
     refine wpAnyH_take (i:=11) (oi:=⟨some 35,_,_,_,_,_⟩) (v:=?_) rfl (by kernel_rfl) (by kernel_rfl) (by kernel_rfl) (fun _ _ _ h=>h) (Or.inl ⟨by rfl,?_⟩) (by assumption) ?_
     rotate_left
     ·(intro w hSw;(try dsimp only at hSw);go_simp;try with_reducible rfl)
     try simp only [Act.put,List.setIfInBounds_toArray,List.set_cons_zero,List.set_cons_succ]
     refine wpAnyH_take (i:=12) (oi:=⟨some 36,_,_,_,_,_⟩) (v:=?_) rfl (by kernel_rfl) (by kernel_rfl) (by kernel_rfl) (fun _ _ _ h=>h) (Or.inl ⟨by rfl,?_⟩) (by assumption) ?_
     rotate_left
     ·(intro w hSw;(try dsimp only at hSw);go_simp;try with_reducible rfl)
     try simp only [Act.put,List.setIfInBounds_toArray,List.set_cons_zero,List.set_cons_succ]
     refine wpAnyH_take (i:=13) (oi:=⟨some 37,_,_,_,_,_⟩) (v:=?_) rfl (by kernel_rfl) (by kernel_rfl) (by kernel_rfl) (fun _ _ _ h=>h) (Or.inl ⟨by rfl,?_⟩) (by assumption) ?_
     rotate_left
     ·(intro w hSw;(try dsimp only at hSw);go_simp;try with_reducible rfl)
     try simp only [Act.put,List.setIfInBounds_toArray,List.set_cons_zero,List.set_cons_succ]
     refine wpAnyH_take (i:=14) (oi:=⟨some 38,_,_,_,_,_⟩) (v:=?_) rfl (by kernel_rfl) (by kernel_rfl) (by kernel_rfl) (fun _ _ _ h=>h) (Or.inl ⟨by rfl,?_⟩) (by assumption) ?_
     rotate_left
     ·(intro w hSw;(try dsimp only at hSw);go_simp;try with_reducible rfl)
     try simp only [Act.put,List.setIfInBounds_toArray,List.set_cons_zero,List.set_cons_succ]
     refine wpAnyH_take (i:=15) (oi:=⟨some 39,_,_,_,_,_⟩) (v:=?_) rfl (by kernel_rfl) (by kernel_rfl) (by kernel_rfl) (fun _ _ _ h=>h) (Or.inl ⟨by rfl,?_⟩) (by assumption) ?_
     rotate_left
     ·(intro w hSw;(try dsimp only at hSw);go_simp;try with_reducible rfl)
     try simp only [Act.put,List.setIfInBounds_toArray,List.set_cons_zero,List.set_cons_succ]
     refine wpAnyH_take (i:=16) (oi:=⟨some 40,_,_,_,_,_⟩) (v:=?_) rfl (by kernel_rfl) (by kernel_rfl) (by kernel_rfl) (fun _ _ _ h=>h) (Or.inl ⟨by rfl,?_⟩) (by assumption) ?_
     rotate_left
     ·(intro w hSw;(try dsimp only at hSw);go_simp;try with_reducible rfl)
     try simp only [Act.put,List.setIfInBounds_toArray,List.set_cons_zero,List.set_cons_succ]
     refine wpAnyH_take (i:=17) (oi:=⟨some 41,_,_,_,_,_⟩) (v:=?_) rfl (by kernel_rfl) (by kernel_rfl) (by kernel_rfl) (fun _ _ _ h=>h) (Or.inl ⟨by rfl,?_⟩) (by assumption) ?_
     rotate_left
     ·(intro w hSw;(try dsimp only at hSw);go_simp;try with_reducible rfl)
     try simp only [Act.put,List.setIfInBounds_toArray,List.set_cons_zero,List.set_cons_succ]
     refine wpAnyH_take (i:=18) (oi:=⟨some 42,_,_,_,_,_⟩) (v:=?_) rfl (by kernel_rfl) (by kernel_rfl) (by kernel_rfl) (fun _ _ _ h=>h) (Or.inl ⟨by rfl,?_⟩) (by assumption) ?_
     rotate_left
     ·(intro w hSw;(try dsimp only at hSw);go_simp;try with_reducible rfl)
     try simp only [Act.put,List.setIfInBounds_toArray,List.set_cons_zero,List.set_cons_succ]
     refine wpAnyH_take (i:=19) (oi:=⟨some 43,_,_,_,_,_⟩) (v:=?_) rfl (by kernel_rfl) (by kernel_rfl) (by kernel_rfl) (fun _ _ _ h=>h) (Or.inl ⟨by rfl,?_⟩) (by assumption) ?_
     rotate_left
     ·(intro w hSw;(try dsimp only at hSw);go_simp;try with_reducible rfl)
     try simp only [Act.put,List.setIfInBounds_toArray,List.set_cons_zero,List.set_cons_succ]
     refine wpAnyH_take (i:=20) (oi:=⟨some 44,_,_,_,_,_⟩) (v:=undef) rfl (by kernel_rfl) (by kernel_rfl) (by kernel_rfl) (fun _ _ _ h=>h) (Or.inr ⟨by rfl,rfl⟩) (by assumption) ?_
     try simp only [Act.put,List.setIfInBounds_toArray,List.set_cons_zero,List.set_cons_succ]
     refine wpAnyH_take (i:=21) (oi:=⟨some 45,_,_,_,_,_⟩) (v:=undef) rfl (by kernel_rfl) (by kernel_rfl) (by kernel_rfl) (fun _ _ _ h=>h) (Or.inr ⟨by rfl,rfl⟩) (by assumption) ?_
     try simp only [Act.put,List.setIfInBounds_toArray,List.set_cons_zero,List.set_cons_succ]
     refine wpAnyH_take (i:=22) (oi:=⟨some 46,_,_,_,_,_⟩) (v:=undef) rfl (by kernel_rfl) (by kernel_rfl) (by kernel_rfl) (fun _ _ _ h=>h) (Or.inr ⟨by rfl,rfl⟩) (by assumption) ?_
     try simp only [Act.put,List.setIfInBounds_toArray,List.set_cons_zero,List.set_cons_succ]
     refine wpAnyH_take (i:=23) (oi:=⟨some 47,_,_,_,_,_⟩) (v:=undef) rfl (by kernel_rfl) (by kernel_rfl) (by kernel_rfl) (fun _ _ _ h=>h) (Or.inr ⟨by rfl,rfl⟩) (by assumption) ?_
     try simp only [Act.put,List.setIfInBounds_toArray,List.set_cons_zero,List.set_cons_succ]
     refine wpAnyH_take (i:=24) (oi:=⟨some 48,_,_,_,_,_⟩) (v:=undef) rfl (by kernel_rfl) (by kernel_rfl) (by kernel_rfl) (fun _ _ _ h=>h) (Or.inr ⟨by rfl,rfl⟩) (by assumption) ?_
     try simp only [Act.put,List.setIfInBounds_toArray,List.set_cons_zero,List.set_cons_succ]
     refine wpAnyH_take (i:=25) (oi:=⟨some 49,_,_,_,_,_⟩) (v:=undef) rfl (by kernel_rfl) (by kernel_rfl) (by kernel_rfl) (fun _ _ _ h=>h) (Or.inr ⟨by rfl,rfl⟩) (by assumption) ?_
     try simp only [Act.put,List.setIfInBounds_toArray,List.set_cons_zero,List.set_cons_succ]
     refine wpAnyH_take (i:=26) (oi:=⟨some 50,_,_,_,_,_⟩) (v:=undef) rfl (by kernel_rfl) (by kernel_rfl) (by kernel_rfl) (fun _ _ _ h=>h) (Or.inr ⟨by rfl,rfl⟩) (by assumption) ?_
     try simp only [Act.put,List.setIfInBounds_toArray,List.set_cons_zero,List.set_cons_succ]
     refine wpAnyH_take (i:=27) (oi:=⟨some 51,_,_,_,_,_⟩) (v:=undef) rfl (by kernel_rfl) (by kernel_rfl) (by kernel_rfl) (fun _ _ _ h=>h) (Or.inr ⟨by rfl,rfl⟩) (by assumption) ?_
     try simp only [Act.put,List.setIfInBounds_toArray,List.set_cons_zero,List.set_cons_succ]
     refine wpAnyH_take (i:=28) (oi:=⟨some 52,_,_,_,_,_⟩) (v:=?_) rfl (by kernel_rfl) (by kernel_rfl) (by kernel_rfl) (fun _ _ _ h=>h) (Or.inl ⟨by rfl,?_⟩) (by assumption) ?_
     rotate_left
     ·(intro w hSw;(try dsimp only at hSw);go_simp;try with_reducible rfl)
     try simp only [Act.put,List.setIfInBounds_toArray,List.set_cons_zero,List.set_cons_succ]
     refine wpAnyH_take (i:=29) (oi:=⟨some 53,_,_,_,_,_⟩) (v:=?_) rfl (by kernel_rfl) (by kernel_rfl) (by kernel_rfl) (fun _ _ _ h=>h) (Or.inl ⟨by rfl,?_⟩) (by assumption) ?_
     rotate_left
     ·(intro w hSw;(try dsimp only at hSw);go_simp;try with_reducible rfl)
     try simp only [Act.put,List.setIfInBounds_toArray,List.set_cons_zero,List.set_cons_succ]
     refine wpAnyH_done (by kernel_rfl) ?_ _
     go_wp2
     go_roundw
     case rel=>exact ⟨k+1,by omega,by go_num,Lib.hid K6.out.drew,Lib.hid J6.out.drew,Lib.hid HB6.out.drew⟩
     case measure=>simp [intOf];omega
  ·obtain rfl:n1=k:=by omega
   go_wp2
   go_loopw [7] (fun i wr=>∃ k:Nat,k≤n2∧i=.int .i64 k∧Hid (Blk wr w.heap.size 43 #[.slice A1 n1 c1,.int .i64 up,.int .i64 bo,.slice A2 n2 c2])∧Hid (Blk wr (w.heap.size+1) 43 #[.slice A3 n3 c3,.int .i64 up',.int .i64 bo',.slice A4 n4 c4])∧Hid (Below w.heap.size w wr)) (fun i _=>n2 - (intOf i).toNat)
   case atStart=>exact ⟨0,Nat.zero_le _,rfl,K0,K1,HB⟩
   case round =>
    clear K0 K1 HB x0 x1 x2 x3 x4 y0 y1 y2 y3 y4
    obtain ⟨j,hj,rfl,K0,K1,HB⟩:=hrel
    obtain ⟨x0,x1,x2,x3,x4⟩:=blk_cells4 K0.out
    obtain ⟨y0,y1,y2,y3,y4⟩:=blk_cells4 K1.out
    by_cases hlt2:j<n2
    ·obtain ⟨b,off,rfl,hb,hc⟩:=lks_at HE.out (by omega)
     obtain ⟨c0,c1_⟩:=hc j hlt2
     have hin:=HEP.out j hlt2
     clear hc
     generalize ep.getD j (0,0)=x at *
     obtain ⟨xo,xn⟩:=x
     simp only at c0 c1_ hin
     have HC0:=Lib.hid c0
     have HC1:=Lib.hid c1_
     replace c0:=(HB.out.cell (p:=⟨b,off+j*2,none⟩) hb).trans c0
     replace c1_:=(HB.out.cell (p:=⟨b,off+j*2+1,none⟩) hb).trans c1_
     have rp:=fun (W:World) (hW:Below w.heap.size w W)=>repoch_any A4 n4 c4 w.heap.size ep' xo W (HE'.out.below hW (Nat.le_refl _))
     generalize epoch ep' xo=q at *
     have dl:decide (q<xn)=false:=decide_eq_false (by omega)
     have RP:=Lib.hid rp;clear rp
     clear hin
     go_wp2_with (fail)
     go_quiet (first | (go_at_call 65;exact quiet_two (RP.out _ (below_drewN HB.out _))))
     go_wp2
     go_roundw
     case rel=>exact ⟨j+1,by omega,by go_num,Lib.hid (K0.out.drewN _),Lib.hid (K1.out.drewN _),Lib.hid (below_drewN HB.out _)⟩
     case measure=>simp [intOf];omega
    ·obtain rfl:n2=j:=by omega
     go_wp2
     go_ret
     exact ⟨rfl,HB.out⟩
end Go.Proofs.YtplpmemlaohlaaaGreat.Bas
