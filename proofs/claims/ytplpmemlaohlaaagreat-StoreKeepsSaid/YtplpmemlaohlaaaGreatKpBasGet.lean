/- The state whose bytes they are (layer 11): the contract of base.Get. Condition: at most 200000 bytes. -/
import Derived.Test.YtplpmemlaohlaaaGreatKpBasApply
import Derived.Test.YtplpmemlaohlaaaGreatKpBasDo
import Derived.Test.YtplpmemlaohlaaaGreatKpBasPut
import Derived.Test.YtplpmemlaohlaaaGreatKpBaseP
import Derived.Test.YtplpmemlaohlaaaGreatKpLowAll
import Derived.Test.YtplpmemlaohlaaaGreatKpReaderEnd
import Derived.Test.YtplpmemlaohlaaaGreatKpRefBas
namespace Go.Proofs.YtplpmemlaohlaaaGreat.Bas
open Go.RowKit Go.Shelf Mem Oct Lsa Chg
set_option linter.unusedVariables false
set_option linter.unusedSimpArgs false
def errG (r:Option Sta):Int:=match r with | some _=>0 | none=>2
def GetOwnS (w:World) (r:Option Sta) (e:Ending) (w':World):Prop :=
 ∃ dv ev,e=.returned (.tuple #[stV (r.getD zeroS) dv ev,.int .i64 (errG r)])∧OwnL w' w.heap.size dv (r.getD zeroS).db∧OwnE w' w.heap.size ev (r.getD zeroS).ep∧Below w.heap.size w w'
structure GA (w wr:World) (g gx:Nat) (s:Sta) (t:St):Prop where
 x:StAt wr (gx+1) gx s
 res:Blk wr w.heap.size 43 zSt
 rd:Rdr wr g t
 low:Below w.heap.size w wr
 o1:w.heap.size<g
 o2:g<gx
theorem GA.size {w wr:World} {g gx:Nat} {s:Sta} {t:St} (h:GA w wr g gx s t):gx+1≤wr.heap.size:=by
 obtain ⟨dv,ev,hk,_⟩:=h.x
 exact hk.lt
theorem own_gr {w w':World} {base g n sz:Nat} {e:TypeId} {v:Value} {xs:List Value} (h:w.ownsRow base e sz v n xs) (hg:w.grownBy w' (some g)) (hlt:g<base):w'.ownsRow base e sz v n xs :=
 h.kept hg (.inr (fun e=>by have:=(h.lt g e).1;omega))
theorem LkT.gr {w w':World} {base g:Nat} {u:Value} {ls:List Lk} (h:LkT w base u ls) (hg:w.grownBy w' (some g)) (hlt:g<base):LkT w' base u ls:=by
 obtain ⟨n,h⟩:=h
 exact ⟨n,own_gr h hg hlt⟩
theorem OwnL.gr {w w':World} {base g:Nat} {v:Value} {l:List La} (h:OwnL w base v l) (hg:w.grownBy w' (some g)) (hlt:g<base):OwnL w' base v l:=by
 obtain ⟨us,h1,h2,h3⟩:=h
 exact ⟨us,h1,own_gr h2 hg hlt,fun i hi=>(h3 i hi).gr hg hlt⟩
theorem ownL_more {w:World} {base base':Nat} {v:Value} {l:List La} (h:OwnL w base v l) (hb:base'≤base):OwnL w base' v l:=by
 obtain ⟨us,h1,h2,h3⟩:=h
 exact ⟨us,h1,own_mono h2 hb,fun i hi=>(h3 i hi).more hb⟩
theorem GA.reader {w wr w':World} {g gx:Nat} {s:Sta} {t t':St} (h:GA w wr g gx s t) (hg:wr.grownBy w' (some g)) (hr:Rdr w' g t'):GA w w' g gx s t':=by
 obtain ⟨⟨dv,ev,hk,hd,he⟩,h2,h3,h4,h5,h6⟩:=h
 exact ⟨⟨dv,ev,hk.grown hg (by simp;omega),hd.gr hg (by omega),own_gr he hg (by omega)⟩,h2.grown hg (by simp;omega),hr,h4.grown hg h4.size (fun q hq=>by cases hq;omega),h5,h6⟩
theorem GA.below {w wr w':World} {g gx:Nat} {s:Sta} {t:St} (h:GA w wr g gx s t) (hb:Below wr.heap.size wr w'):GA w w' g gx s t:=by
 have hs:=h.size
 have hx:=h.x.below hb
 exact ⟨hx,h.res.below hb h.res.lt,h.rd.below hb h.rd.size,low_low h.low hb,h.o1,h.o2⟩
theorem ga_db {w wr w2:World} {g gx:Nat} {dv ev v2 u:Value} {s:Sta} {t:St} {a:La} {us:List Value} {o:Obj} (h:GA w wr g gx s t) (hk:Blk wr gx 43 #[dv,.int .i64 s.up,.int .i64 s.bo,ev]) (he:OwnE wr (gx+1) ev s.ep)
  (hus:us.length=s.db.length) (how:wr.ownsRow (gx+1) 80 3 dv s.db.length (flatL s.db us)) (hlk:∀ i,i<s.db.length→LkT wr (gx+1) (us.getD i undef) (s.db.getD i zeroL).ls) (hu:LkT wr (gx+1) u a.ls)
  (hown:w2.ownsRow (gx+1) 80 3 v2 (s.db.length+1) (flatL s.db us++rowL a u)) (hg:(wr.alloc o).grownBy w2 dv.ownBlock):GA w (w2.setCell ⟨gx,0,none⟩ v2) g gx ⟨s.db++[a],s.up,s.bo,s.ep⟩ t:=by
 have hg2:wr.grownBy w2 dv.ownBlock:=grown_trans (World.grownBy_alloc wr o _) hg
 have hl:=ownL_push (w:=wr) hus how hlk hu hown hg2
 have hne:∀ q,dv.ownBlock=some q→gx+1≤q:=fun q hq=>(how.lt q hq).1
 have hk2:=hk.grown hg2 (fun e=>by have:=hne _ e.symm;omega)
 have he2:OwnE w2 (gx+1) ev s.ep:=World.ownsRow.kept he hg2 (own_apart he how (by decide))
 have o1:=h.o1
 have o2:=h.o2
 have hr2:=h.res.grown hg2 (fun e=>by have:=hne _ e.symm;omega)
 exact ⟨stAt_store (s:=⟨s.db++[a],s.up,s.bo,s.ep⟩) hk2 hl he2 rfl,hr2.far (p:=⟨gx,0,none⟩) (by show w.heap.size≠gx;omega) _,(h.rd.grown hg2 (fun q hq=>by have:=hne q hq;omega)).setFar _ (by exact o2) _,below_set (h.low.grown hg2 h.low.size (fun q hq=>by have:=hne q hq;omega)) (by omega),o1,o2⟩
theorem ga_ep {w wr w2:World} {g gx:Nat} {dv ev v2:Value} {s:Sta} {t:St} {a:Lk} {o:Obj} (h:GA w wr g gx s t) (hk:Blk wr gx 43 #[dv,.int .i64 s.up,.int .i64 s.bo,ev]) (hd:OwnL wr (gx+1) dv s.db) (he:OwnE wr (gx+1) ev s.ep)
  (hown:w2.ownsRow (gx+1) 118 2 v2 (s.ep.length+1) (lkCells s.ep++lkCells [a])) (hg:(wr.alloc o).grownBy w2 ev.ownBlock):GA w (w2.setCell ⟨gx,3,none⟩ v2) g gx ⟨s.db,s.up,s.bo,s.ep++[a]⟩ t:=by
 have hg2:wr.grownBy w2 ev.ownBlock:=grown_trans (World.grownBy_alloc wr o _) hg
 have hl:=hd.row he (by decide) (by decide) hg2
 have hne:∀ q,ev.ownBlock=some q→gx+1≤q:=fun q hq=>(World.ownsRow.lt he q hq).1
 have hk2:=hk.grown hg2 (fun e=>by have:=hne _ e.symm;omega)
 have he2:OwnE w2 (gx+1) v2 (s.ep++[a]):=by
  unfold OwnE
  rw [List.length_append,lkCells_app]
  exact hown
 have o1:=h.o1
 have o2:=h.o2
 have hr2:=h.res.grown hg2 (fun e=>by have:=hne _ e.symm;omega)
 exact ⟨stAt_store (s:=⟨s.db,s.up,s.bo,s.ep++[a]⟩) hk2 hl he2 rfl,hr2.far (p:=⟨gx,3,none⟩) (by show w.heap.size≠gx;omega) _,(h.rd.grown hg2 (fun q hq=>by have:=hne q hq;omega)).setFar _ (by exact o2) _,below_set (h.low.grown hg2 h.low.size (fun q hq=>by have:=hne q hq;omega)) (by omega),o1,o2⟩
theorem rowL_one' (a:La) (A:Option Addr) (n c:Nat):∀ x∈rowL a (.slice A n c),x.oneCell'=true:=rowL_one a _ rfl
set_option maxRecDepth 100000 in
set_option maxHeartbeats 8000000 in
theorem sget_own (v:Value) (xs:List Nat) (w:World) (h:Sl w w.heap.size v xs) (hxl:xs.length≤200000) :
  Calls Tryz.prog 125 #[v] w (GetOwnS w (getS xs)):=by
 obtain ⟨A,n,c,rfl,_⟩:=id h
 have hx:=h.lt
 have hb0:=low1 (Below.refl w.heap.size w) (.cells #[.slice none 0 0,.int .i64 0,.int .i64 0,.slice none 0 0] 43)
 have k0:=Blk.new w 43 #[.slice none 0 0,.int .i64 0,.int .i64 0,.slice none 0 0]
 have rd:=read_any _ xs _ (sl_up h hb0) hxl
 obtain ⟨P1,hP1⟩:∃ P1,P1=GetOwnS w (getS xs):=⟨_,rfl⟩
 rw [← hP1]
 have hno:∀ (W:World),(gEnd xs && mayS (gS xs))=false→Below w.heap.size w W→P1 (.returned (.tuple #[stV zeroS (.slice none 0 0) (.slice none 0 0),.int .i64 2])) (upd4 W w.heap.size (.slice none 0 0) (.int .i64 0) (.int .i64 0) (.slice none 0 0)):=by
  intro W hc hW
  have e:getS xs=none:=by unfold getS;rw [if_neg (by rw [hc];simp)]
  rw [hP1,e]
  exact ⟨_,_,rfl,ownL_nil _ _,World.ownsRow_nil _ _ _ _,hW.grown (upd4_grown _ _ _ _ _ _) hW.size (fun q hq=>by cases hq;exact Nat.le_refl _)⟩
 have hyes:∀ (W:World) (dv ev:Value) (g gx:Nat) (t:St),(gEnd xs && mayS (gS xs))=true→GA w W g gx (gS xs) t→OwnL W (gx+1) dv (gS xs).db→OwnE W (gx+1) ev (gS xs).ep→P1 (.returned (.tuple #[stV (gS xs) dv ev,.int .i64 0])) (upd4 W w.heap.size dv (.int .i64 (gS xs).up) (.int .i64 (gS xs).bo) ev):=by
  intro W dv ev g gx t hc hW hd he
  have e:getS xs=some (gS xs):=by unfold getS;rw [if_pos hc]
  rw [hP1,e]
  have o1:=hW.o1
  have o2:=hW.o2
  have hg:=upd4_grown W w.heap.size dv (.int .i64 (gS xs).up) (.int .i64 (gS xs).bo) ev
  exact ⟨_,_,rfl,ownL_more (hd.gr hg (by omega)) (by omega),own_mono (own_gr he hg (by omega)) (by omega),hW.low.grown hg hW.low.size (fun q hq=>by cases hq;exact Nat.le_refl _)⟩
 have NO:=Lib.hid hno;clear hno
 have YES:=Lib.hid hyes;clear hyes hP1
 have nnU:(gU xs).2<18446744073709551616:=rnum_small (st:=(xs,true)) (k:=8) (K:=8) rfl hx
 have b1:∀ x∈(gU xs).1.1,x<256:=rnum_bytes hx
 have nnB:(gB xs).2<4294967296:=rnum_small (st:=(gU xs).1) (k:=4) (K:=4) rfl b1
 have b2:∀ x∈(gB xs).1.1,x<256:=rnum_bytes b1
 have nnM:(gM xs).2<256:=rnum_small (st:=(gB xs).1) (k:=1) (K:=1) rfl b2
 have b3:∀ x∈(gM xs).1.1,x<256:=rnum_bytes b2
 have b4:∀ x∈(gD xs).1.1,x<256:=rdbs_bytes b3 _
 have nnQ:(gN xs).2<256:=rnum_small (st:=(gD xs).1) (k:=1) (K:=1) rfl b4
 have b5:∀ x∈(gN xs).1.1,x<256:=rnum_bytes b4
 obtain ⟨U,T1,⟨hU,hT1⟩,nU,r1⟩:∃ (N:Nat) (T:St),(N=(gU xs).2∧T=(gU xs).1)∧N<18446744073709551616∧∀ (g:Nat) (W:World),Rdr W g (xs,true)→Calls Tryz.prog 165 #[ptr g,.int .i64 8] W fun e w'=>e=.returned (.int .u64 (N:Nat))∧Rdr w' g T∧W.grownBy w' (some g) :=
  ⟨_,_,⟨rfl,rfl⟩,nnU,fun g W hW=>rnum_any g (xs,true) 8 W hW⟩
 obtain ⟨B,T2,⟨hB,hT2⟩,nB,r2⟩:∃ (N:Nat) (T:St),(N=(gB xs).2∧T=(gB xs).1)∧N<4294967296∧∀ (g:Nat) (W:World),Rdr W g (gU xs).1→Calls Tryz.prog 165 #[ptr g,.int .i64 4] W fun e w'=>e=.returned (.int .u64 (N:Nat))∧Rdr w' g T∧W.grownBy w' (some g) :=
  ⟨_,_,⟨rfl,rfl⟩,nnB,fun g W hW=>rnum_any g (gU xs).1 4 W hW⟩
 obtain ⟨M,T3,⟨hM,hT3⟩,nM,r3⟩:∃ (N:Nat) (T:St),(N=(gM xs).2∧T=(gM xs).1)∧N<256∧∀ (g:Nat) (W:World),Rdr W g (gB xs).1→Calls Tryz.prog 165 #[ptr g,.int .i64 1] W fun e w'=>e=.returned (.int .u64 (N:Nat))∧Rdr w' g T∧W.grownBy w' (some g) :=
  ⟨_,_,⟨rfl,rfl⟩,nnM,fun g W hW=>rnum_any g (gB xs).1 1 W hW⟩
 obtain ⟨Q,T5,⟨hQ,hT5⟩,nQ,r4⟩:∃ (N:Nat) (T:St),(N=(gN xs).2∧T=(gN xs).1)∧N<256∧∀ (g:Nat) (W:World),Rdr W g (gD xs).1→Calls Tryz.prog 165 #[ptr g,.int .i64 1] W fun e w'=>e=.returned (.int .u64 (N:Nat))∧Rdr w' g T∧W.grownBy w' (some g) :=
  ⟨_,_,⟨rfl,rfl⟩,nnQ,fun g W hW=>rnum_any g (gD xs).1 1 W hW⟩
 rw [← hT1] at r2
 rw [← hT2] at r3
 have hww:=sgn_wrap nU
 obtain ⟨sU,hsU⟩:∃ sU,sU=sgn U:=⟨_,rfl⟩
 rw [← hsU] at hww
 rw [← hT3] at b3
 have hD:gD xs=rdbs T3 M:=by unfold gD;rw [hM,hT3]
 rw [hD] at r4
 have hE:gE xs=rlks T5 Q:=by unfold gE;rw [hQ,hT5]
 have hS:gS xs=⟨(rdbs T3 M).2,sU,(B:Nat),(rlks T5 Q).2⟩:=by unfold gS;rw [hD,hE,hsU,hU,hB]
 have hEnd:gEnd xs=((rlks T5 Q).1.2 && decide ((rlks T5 Q).1.1.length=0)):=by unfold gEnd;rw [hE]
 have HGS:=Lib.hid hS
 have HEND:=Lib.hid hEnd;clear hEnd
 clear hD hE hS hT1 hT2 hT3 hT5 hU hB hM hQ hsU nU b1 b2 b4 b5 nnU nnB nnM nnQ
 have RD:=Lib.hid rd;clear rd
 have R1:=Lib.hid r1;clear r1
 have R2:=Lib.hid r2;clear r2
 have R3:=Lib.hid r3;clear r3
 have R4:=Lib.hid r4;clear r4
 have HB0:=Lib.hid hb0;clear hb0
 have K0:=Lib.hid k0;clear k0
 clear b3
 clear h hx
 obtain ⟨i0,hi,hz0,hz1,hz2⟩:=info_parts infoL
 have HI:=Lib.hid hi;clear hi
 have HZ0:=Lib.hid hz0;clear hz0
 have HZ1:=Lib.hid hz1;clear hz1
 have HZ2:=Lib.hid hz2;clear hz2
 obtain ⟨i1,hi,hz0,hz1,hz2⟩:=info_parts infoE
 have HJ:=Lib.hid hi;clear hi
 have HY0:=Lib.hid hz0;clear hz0
 have HY1:=Lib.hid hz1;clear hz1
 have HY2:=Lib.hid hz2;clear hz2
 go_enter Tryz.func125,Tryz.ntmps125
 go_wp2_with (first
  | (go_at_call 164;refine (RD.out).mono ?_;rintro e w1 ⟨g,rfl,hg,hr1,hb1⟩;have hwg:w.heap.size<g:=(by simp at hg;omega);have HR1:=Lib.hid hr1;have HB1:=Lib.hid (low_low HB0.out hb1);have K1:=Lib.hid (K0.out.below hb1 K0.out.lt);clear hr1 hb1 hg)
  | (have HM1:=R1;go_at_call 165;refine (R1.out g _ HR1.out).mono ?_;rintro e w2 ⟨rfl,hr2,hg2⟩;have HR2:=Lib.hid hr2;have HB2:=Lib.hid (HB1.out.grown hg2 HB1.out.size (fun q hq=>by cases hq;omega));have K2:=Lib.hid (K1.out.grown hg2 (by simp;omega));clear hr2 hg2 HM1 R1)
  | (have HM2:=R2;go_at_call 165;refine (R2.out g _ HR2.out).mono ?_;rintro e w3 ⟨rfl,hr3,hg3⟩;have HR3:=Lib.hid hr3;have HB3:=Lib.hid (HB2.out.grown hg3 HB2.out.size (fun q hq=>by cases hq;omega));have K3:=Lib.hid (K2.out.grown hg3 (by simp;omega));have hg3s:=hr3.size;clear hr3 hg3 HM2 R2)
  | (have HM3:=R3;go_at_call 165;refine (R3.out g _ (HR3.out.alloc _)).mono ?_;rintro e w4 ⟨rfl,hr4,hg4⟩;have ha:GA w (w3.alloc (.cells #[.slice none 0 0,.int .i64 sU,.int .i64 (B:Nat),.slice none 0 0] 43)) g w3.heap.size ⟨[],sU,(B:Nat),[]⟩ T2:=⟨⟨_,_,Blk.new _ _ _,ownL_nil _ _,World.ownsRow_nil _ _ _ _⟩,K3.out.alloc _,HR3.out.alloc _,HB3.out.alloc HB3.out.size _,hwg,hg3s⟩;have HA4:=Lib.hid (ha.reader hg4 hr4);clear ha hr4 hg4 HM3 R3))
 clear RD HR1 HB1 K1 HR2 HB2 K2 HR3 HB3 K3 HB0 K0 hww nB
 generalize w3.heap.size=gx at *
 go_loopw [20] (fun i wr=>∃ k:Nat,k≤M∧i=.int .i64 k∧Hid (GA w wr g gx ⟨(rdbs T3 k).2,sU,(B:Nat),[]⟩ (rdbs T3 k).1)) (fun i _=>M - (intOf i).toNat)
 case atStart=>exact ⟨0,Nat.zero_le _,rfl,HA4⟩
 case round =>
  clear HA4
  obtain ⟨k,hk,rfl,HA⟩:=hrel
  by_cases hlt:k<M
  ·have hlen:=rdbs_len T3 k
   have hstep:rdbs T3 (k+1)=((rAll (rdbs T3 k).1).1,(rdbs T3 k).2++[laOf (rdbs T3 k).1]):=rfl
   have ha:=HA.out
   clear HA
   generalize rdbs T3 k=q at ha hlen hstep
   obtain ⟨st,db⟩:=q
   simp only at hlen hstep ha
   obtain ⟨a,hal⟩:∃ a,a=laOf st:=⟨_,rfl⟩
   rw [← hal] at hstep
   have lr:Calls Tryz.prog 174 #[ptr g] wr (fun e w'=>∃ v,e=.returned (.tuple #[lsaV a.o a.s v,.bool (rOk st)])∧(∃ n,w'.ownsRow wr.heap.size 195 2 v n (lkCells a.ls))∧Rdr w' g (rAll st).1∧wr.grownBy w' (some g)):=by
    rw [hal]
    exact lread_own g st wr ha.rd
   generalize rOk st=ok at lr
   have LR:=Lib.hid lr;clear lr hal
   have HST:=Lib.hid hstep;clear hstep
   have HA:=Lib.hid ha;clear ha
   have hk255:k≤255:=by omega
   have HLEN:=Lib.hid hlen;clear hlen
   go_wp2_with (first
    | (go_at_call 174;refine (LR.out).mono ?_;rintro e w5 ⟨u5,rfl,⟨nu,ho5⟩,hr5,hg5⟩;obtain ⟨Au,cu,rfl⟩:=Lsa.own_form ho5;have ha5:=HA.out.reader hg5 hr5;have hu5:LkT w5 (gx+1) (.slice Au nu cu) a.ls:=⟨_,own_mono ho5 (by have:=HA.out.size;omega)⟩;have hbx:=low1 (Below.refl w5.heap.size w5) (.cells #[.int .i64 a.o,.int .i64 a.s,.slice Au nu cu] 80);have ha6:=ha5.below hbx;have HU6:=Lib.hid (hu5.below hbx);obtain ⟨dv,ev,hk6,⟨us,hus,how,hlk⟩,he⟩:=id ha6.x;simp only at hk6 hus how hlk he;obtain ⟨Ad,cd,rfl⟩:=Lsa.own_form how;obtain ⟨y0,y1,y2,y3,y4⟩:=blk_cells4 hk6;have HA6:=Lib.hid ha6;have HK6:=Lib.hid hk6;have HUS:=Lib.hid hus;have HOW:=Lib.hid how;have HLK:=Lib.hid hlk;have HE6:=Lib.hid he;have hsz6:=hbx.size;clear ho5 hr5 hg5 ha5 hu5 hbx ha6 hk6 hus how hlk he)
    | (at_builtin;(refine wpList_append_any _ rfl (.tmp 28) (.tmp 30) 40 rfl (gx+1) 80 i0 (.agg #[.int .i64 0,.int .i64 0,.slice none 0 0]) 3 40 Tryz.underlying40 HI.out HZ0.out HZ1.out HZ2.out rfl (by decide) (.slice Ad db.length cd) db.length (flatL db us) rfl (HOW.out.alloc _) ((w5.alloc (.cells #[.int .i64 a.o,.int .i64 a.s,.slice Au nu cu] 80)).heap.size+1) (some ⟨w5.heap.size+1,0,none⟩) 1 1 (rowL a (.slice Au nu cu)) rfl (reads_lsa (w5.alloc (.cells #[.int .i64 a.o,.int .i64 a.s,.slice Au nu cu] 80)) a (.slice Au nu cu) _ (by simp)) (rowL_one' a Au nu cu) (by have:=HLEN.out;unfold maxLen;omega) (by have:=HLEN.out;omega) (by have:=HA6.out.size;simp at this ⊢;omega) ?_;intro v7 w7 hown7 hg7 _;obtain ⟨A7,c7,rfl⟩:=Lsa.own_form hown7;have hk7:=(HK6.out.alloc (.cells #[.int .i64 a.o,.int .i64 a.s,.slice Au nu cu] 80)).grown hg7 (fun e=>by have:=(HOW.out.lt _ e.symm).1;omega);obtain ⟨z0,z1,z2,z3,z4⟩:=blk_cells4 hk7;obtain ⟨f0,f1,f2,f3⟩:=blk_fz4 hk7;have HAN:=Lib.hid (ga_db HA6.out HK6.out HE6.out HUS.out HOW.out HLK.out HU6.out hown7 hg7);clear hk7 hown7 hg7)))
   go_roundw
   case rel=>exact ⟨k+1,by omega,by go_num,by rw [HST.out];exact HAN⟩
   case measure=>simp [intOf];omega
  ·obtain rfl:M=k:=by omega
   have ha:=HA.out
   clear HA
   generalize hq:rdbs T3 M=q at *
   obtain ⟨T4,db⟩:=q
   clear hq
   simp only at ha
   have HA:=Lib.hid ha;clear ha
   go_wp2_with (go_at_call 165;refine (R4.out g _ HA.out.rd).mono ?_;rintro e w5 ⟨rfl,hr5,hg5⟩;have HA5:=Lib.hid (HA.out.reader hg5 hr5);clear hr5 hg5)
   have HEN:=Lib.hid (enters_of Tryz.func165 (by kernel_rfl) rfl)
   go_loopw [37] (fun i wr=>∃ k:Nat,k≤Q∧i=.int .i64 k∧Hid (GA w wr g gx ⟨db,sU,(B:Nat),(rlks T5 k).2⟩ (rlks T5 k).1)) (fun i _=>Q - (intOf i).toNat)
   case atStart=>exact ⟨0,Nat.zero_le _,rfl,HA5⟩
   case round =>
    clear HA5 HA
    obtain ⟨j,hj,rfl,HA⟩:=hrel
    by_cases hlt2:j<Q
    ·have hlen:=rlks_len T5 j
     have hstep:rlks T5 (j+1)=rlk (rlks T5 j):=rfl
     have ha:=HA.out
     clear HA
     generalize rlks T5 j=q at ha hlen hstep
     obtain ⟨st0,l0⟩:=q
     simp only at hlen ha
     simp only [rlk] at hstep
     have hr:=ha.rd
     have n1:(rnum st0 1).2<256:=rnum_lt (st:=st0) (k:=1) (K:=1) rfl hr.lt
     have n2:(rnum (rnum st0 1).1 4).2<4294967296:=rnum_small (k:=4) (K:=4) rfl (rnum_bytes hr.lt)
     have r1:=rnum_any g st0 1 wr.drew hr.drew
     generalize rnum st0 1=q at *
     obtain ⟨st1,N1⟩:=q
     simp only at n1 n2 r1 hstep
     have r2:=fun W (hW:Rdr W g st1)=>rnum_any g st1 4 W hW
     generalize rnum st1 4=q at *
     obtain ⟨st2,N2⟩:=q
     simp only at n2 r2 hstep
     have HST:=Lib.hid hstep;clear hstep
     have R1:=Lib.hid r1;clear r1
     have R2:=Lib.hid r2;clear r2
     have e1:IntKind.i64.wrap (N1:Int)=(N1:Int):=IntWalk.i64_in _ (by omega)
     have e2:IntKind.i64.wrap (N2:Int)=(N2:Int):=IntWalk.i64_in _ (by omega)
     obtain ⟨dv,ev,hk0,hd0,he0⟩:=id ha.x
     simp only at hk0 hd0 he0
     obtain ⟨Ae,ce,rfl⟩:=ownE_form he0
     obtain ⟨y0,y1,y2,y3,y4⟩:=blk_cells4 hk0
     obtain ⟨g0,g1,g2,g3⟩:=blk_fz4 hk0
     have o1:=ha.o1
     have o2:=ha.o2
     have hl255:l0.length≤255:=by omega
     have HLEN:=Lib.hid hlen;clear hlen
     have HA0:=Lib.hid ha;clear ha hr
     have HK0:=Lib.hid hk0;clear hk0
     have HD0:=Lib.hid hd0;clear hd0
     have HE0:Hid (OwnE wr (gx+1) (.slice Ae l0.length ce) l0):=Lib.hid he0;clear he0
     go_wp2_with (fail)
     go_region_law (first
      | (refine step_calls rfl 165 _ _ rfl #[ptr g,.int .i64 1] (by simp [Act.eval,Act.put]) HEN.out (by exact R1.out) ?_;rintro e w1 ⟨rfl,hr1,hg1⟩;refine ⟨_,rfl,?_⟩;have hg1:wr.grownBy w1 (some g):=⟨hg1.os,hg1.tape,hg1.output,hg1.size,hg1.block⟩;have HA1:=Lib.hid (HA0.out.reader hg1 hr1);have hk1:=HK0.out.grown hg1 (by simp;omega);obtain ⟨y10,y11,y12,y13,y14⟩:=blk_cells4 hk1;have HK1:=Lib.hid hk1;have HD1:=Lib.hid (HD0.out.gr hg1 (by omega));have HE1:Hid (OwnE w1 (gx+1) (.slice Ae l0.length ce) l0):=Lib.hid (own_gr HE0.out hg1 (by omega));have HR1:=Lib.hid hr1;clear hk1 hr1 hg1)
      | (refine step_calls rfl 165 _ _ rfl #[ptr g,.int .i64 4] (by simp [Act.eval,Act.put]) HEN.out (by exact (R2.out w1 HR1.out)) ?_;rintro e w2 ⟨rfl,hr2,hg2⟩;refine ⟨_,rfl,?_⟩;have HA2:=Lib.hid (HA1.out.reader hg2 hr2);have hk2:=HK1.out.grown hg2 (by simp;omega);obtain ⟨y20,y21,y22,y23,y24⟩:=blk_cells4 hk2;have HK2:=Lib.hid hk2;have HD2:=Lib.hid (HD1.out.gr hg2 (by omega));have HE2:Hid (OwnE w2 (gx+1) (.slice Ae l0.length ce) l0):=Lib.hid (own_gr HE1.out hg2 (by omega));have HR2:=Lib.hid hr2;clear hk2 hr2 hg2)
      | (refine step_append_any _ rfl (.tmp 40) (.tmp 48) 41 rfl (gx+1) 118 i1 (.agg #[.int .i64 0,.int .i64 0]) 2 16 Tryz.underlying41 HJ.out HY0.out HY1.out HY2.out rfl (by decide) (.slice Ae l0.length ce) l0.length (lkCells l0) rfl ((World.ownsRow.alloc HE2.out _).drew) (w2.heap.size+1) (some ⟨w2.heap.size,0,none⟩) 1 1 (lkCells [((N1:Nat),(N2:Nat))]) rfl ((reads_ep w2 _ _ _ rfl).drew) (lkCells_one' _) (by unfold maxLen;omega) (by omega) (by have:=HA2.out.size;simp;omega) ?_;intro v6 w6 hown6 hg6 _;have hg6:(w2.alloc (.cells #[.int .i64 (N1:Nat),.int .i64 (N2:Nat)] 118)).grownBy w6 (Value.slice Ae l0.length ce).ownBlock:=⟨hg6.os,hg6.tape,hg6.output,hg6.size,hg6.block⟩;obtain ⟨A6,c6,rfl⟩:=Lsa.own_form hown6;have hk6:=(HK2.out.alloc (.cells #[.int .i64 (N1:Nat),.int .i64 (N2:Nat)] 118)).grown hg6 (fun e=>by have:=(World.ownsRow.lt HE2.out _ e.symm).1;omega);obtain ⟨z0,z1,z2,z3,z4⟩:=blk_cells4 hk6;obtain ⟨f0,f1,f2,f3⟩:=blk_fz4 hk6;have HAN:=Lib.hid (ga_ep HA2.out HK2.out HD2.out HE2.out hown6 hg6);clear hk6 hown6 hg6))
     all_goals
      go_wp2_with (fail)
      go_roundw
      case rel=>exact ⟨j+1,by omega,by go_num,by rw [HST.out];exact HAN⟩
      case measure=>simp [intOf];omega
    ·obtain rfl:Q=j:=by omega
     have ha:=HA.out
     clear HA
     have dn:=done_any g (rlks T5 Q).1 wr ha.rd
     have hen:=HEND.out
     generalize hq:rlks T5 Q=q at *
     obtain ⟨t9,ep⟩:=q
     clear hq
     simp only at ha dn hen
     generalize hz:(t9.2 && decide (t9.1.length=0))=z at *
     clear hz
     have DN:=Lib.hid dn;clear dn
     have HEN2:=Lib.hid hen;clear hen
     cases z
     ·have hc:(gEnd xs && mayS (gS xs))=false:=by rw [HEN2.out];rfl
      have HF:=Lib.hid (NO.out wr hc ha.low)
      obtain ⟨z0,z1,z2,z3,z4⟩:=blk_cells4 ha.res
      obtain ⟨f0,f1,f2,f3⟩:=blk_fz4 ha.res
      clear hc ha
      go_wp2_with (go_at_call 175;refine (DN.out).mono ?_;rintro e w' ⟨rfl,rfl⟩)
      refine bodyPost_ret (v:=.tuple #[stV zeroS (.slice none 0 0) (.slice none 0 0),.int .i64 2]) ?_ rfl HF.out
      simp [results,Tryz.results125,go_sem,z0,z1,z2,z3,zeroS]
     ·obtain ⟨dv,ev,hk0,hd0,he0⟩:=id ha.x
      simp only at hk0 hd0 he0
      obtain ⟨Ad,nd,cd,rfl⟩:=ownL_sl hd0
      obtain ⟨Ae,ne,ce,rfl⟩:=ownE_sl he0
      have ck:=scheck_any ⟨db,sU,(B:Nat),ep⟩ (.slice Ad nd cd) (.slice Ae ne ce) wr ⟨hd0.las,ownE_lks he0⟩
      obtain ⟨x0,x1,x2,x3,x4⟩:=blk_cells4 hk0
      have o1:=ha.o1
      have o2:=ha.o2
      have HA:=Lib.hid ha;clear ha
      have HK0:=Lib.hid hk0;clear hk0
      have HD0:=Lib.hid hd0;clear hd0
      have HE0:Hid (OwnE wr (gx+1) (.slice Ae ne ce) ep):=Lib.hid he0;clear he0
      have hgS:gS xs=⟨db,sU,(B:Nat),ep⟩:=HGS.out
      cases hm:mayS ⟨db,sU,(B:Nat),ep⟩
      ·rw [hm] at ck
       have CK:=Lib.hid ck;clear ck
       have hc:(gEnd xs && mayS (gS xs))=false:=by rw [HEN2.out,hgS,hm];rfl
       have HC:=Lib.hid hc;clear hc hgS
       go_wp2_with (first
        | (go_at_call 175;refine (DN.out).mono ?_;rintro e w' ⟨rfl,rfl⟩)
        | (go_at_call 94;refine (CK.out).mono ?_;rintro e w8 ⟨rfl,hb8⟩;have ha8:=HA.out.below hb8;have HF:=Lib.hid (NO.out w8 HC.out ha8.low);obtain ⟨z0,z1,z2,z3,z4⟩:=blk_cells4 ha8.res;obtain ⟨f0,f1,f2,f3⟩:=blk_fz4 ha8.res;clear ha8 hb8))
       refine bodyPost_ret (v:=.tuple #[stV zeroS (.slice none 0 0) (.slice none 0 0),.int .i64 2]) ?_ rfl HF.out
       simp [results,Tryz.results125,go_sem,z0,z1,z2,z3,zeroS]
      ·rw [hm] at ck
       have CK:=Lib.hid ck;clear ck
       have hc:(gEnd xs && mayS (gS xs))=true:=by rw [HEN2.out,hgS,hm];rfl
       have HC:=Lib.hid hc;clear hc
       go_wp2_with (first
        | (go_at_call 175;refine (DN.out).mono ?_;rintro e w' ⟨rfl,rfl⟩)
        | (go_at_call 94;refine (CK.out).mono ?_;rintro e w8 ⟨rfl,hb8⟩;have ha8:=HA.out.below hb8;have hf:=YES.out w8 (.slice Ad nd cd) (.slice Ae ne ce) g gx t9 HC.out (by rw [hgS];exact ha8) (by rw [hgS];exact HD0.out.below hb8) (by rw [hgS];exact own_below HE0.out hb8);rw [hgS] at hf;have HF:=Lib.hid hf;obtain ⟨z0,z1,z2,z3,z4⟩:=blk_cells4 ha8.res;obtain ⟨f0,f1,f2,f3⟩:=blk_fz4 ha8.res;obtain ⟨y0,y1,y2,y3,y4⟩:=blk_cells4 (HK0.out.below hb8 HK0.out.lt);clear ha8 hb8 hf))
       refine bodyPost_ret (v:=.tuple #[stV ⟨db,sU,(B:Nat),ep⟩ (.slice Ad nd cd) (.slice Ae ne ce),.int .i64 0]) ?_ rfl HF.out
       simp [results,Tryz.results125,go_sem,z0,z1,z2,z3]
end Go.Proofs.YtplpmemlaohlaaaGreat.Bas
