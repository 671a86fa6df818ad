/- An epoch put into a row whose nodes rise (layer 11): base.stand at epochs. -/
import Derived.Test.YtplpmemlaohlaaaGreatKpFindEp
import Derived.Test.YtplpmemlaohlaaaGreatKpInsEp
import Derived.Test.YtplpmemlaohlaaaGreatKpStandLsa
import Derived.Deep.RegionHeld3
namespace Go.Proofs.YtplpmemlaohlaaaGreat.Bas
open Go.RowKit Mem Oct Lsa Chg
set_option linter.unusedVariables false
set_option linter.unusedSimpArgs false
theorem ep_row_at {w:World} {base g n c:Nat} {l:List (Int × Int)} (h:w.ownsRow base 118 2 (.slice (some ⟨g,0,none⟩) n c) n (lkCells l)) (hn:n=l.length) {r:Nat} (hr:r<n):w.cell? ⟨g,r*2,none⟩=some (.int .i64 (l.getD r (0,0)).1)∧w.cell? ⟨g,r*2+1,none⟩=some (.int .i64 (l.getD r (0,0)).2):=by
 have hc:=lkCells_at l r (by omega)
 have l2:=lkCells_length l
 rw [h.cellAt (r*2) (by omega),h.cellAt (r*2+1) (by omega)]
 exact hc
set_option maxHeartbeats 1000000 in
theorem greater_any (a b a' b':Int) (w:World):Calls Tryz.prog 150 #[.agg #[.int .i64 a,.int .i64 b],.agg #[.int .i64 a',.int .i64 b']] w fun e w'=>e=.returned (.bool (decide (b'<b)))∧Below w.heap.size w w':=by
 have HB:=Lib.hid (low2 w (.cells #[.int .i64 a,.int .i64 b] 118) (.cells #[.int .i64 a',.int .i64 b'] 118))
 go_enter Tryz.func150,Tryz.ntmps150
 go_wp2
 go_ret
 exact ⟨ret_bool (by simp),HB.out⟩
theorem blk_cells2 {w:World} {g:Nat} {t:TypeId} {a b:Value} (h:Blk w g t #[a,b]):w.cell? ⟨g,0,none⟩=some a∧w.cell? ⟨g,1,none⟩=some b∧g<w.heap.size:=⟨by rw [h.cell];rfl,by rw [h.cell];rfl,h.lt⟩
def StandOutE (w:World) (base:Nat) (v:Value) (l:List (Int × Int)) (x:Int × Int) (e:Ending) (w':World):Prop :=
 ∃ v',e=.returned (.tuple #[v',.bool (decide (epoch l x.1<x.2))])∧OwnE w' base v' (if epoch l x.1<x.2 then putEp l x else l)∧RowUp w w' v v'
theorem ownE_form {w:World} {base:Nat} {v:Value} {l:List (Int × Int)} (h:OwnE w base v l):∃ A c,v=.slice A l.length c:=by
 rcases h.2 with ⟨rfl,h0⟩ | ⟨g,cap,cur,rfl,_⟩
 ·rw [h0];exact ⟨none,0,rfl⟩
 ·exact ⟨_,_,rfl⟩
set_option maxHeartbeats 4000000 in
set_option maxRecDepth 100000 in
theorem stand_ep (base:Nat) (v:Value) (l:List (Int × Int)) (a:Int × Int) (w:World) (h:OwnE w base v l) (hn:l.length≤100) (hbase:base≤w.heap.size)
  (hK:∀ j,j<l.length→0≤kE l j∧kE l j≤64) (hm:∀ i j,i≤j→j<l.length→kE l i≤kE l j) (h1:0≤a.1) (h2:a.1≤64) (h3:1≤a.2) :
  Calls Tryz.prog 148 #[v,(.agg #[.int .i64 a.1,.int .i64 a.2]),.func (.func 149) #[] #[],.func (.func 150) #[] #[]] w (StandOutE w base v l a):=by
 obtain ⟨o,s⟩:=a
 obtain ⟨A,c,rfl⟩:=ownE_form h
 simp only at *
 have hb2:=low2 w (.cells #[.int .i64 o,.int .i64 s] 118) (.cells #[.func (.func 149) #[] #[]] 229)
 have k0:=(Blk.new w 118 #[.int .i64 o,.int .i64 s]).alloc (.cells #[.func (.func 149) #[] #[]] 229)
 have k1:=blk_second w (.cells #[.int .i64 o,.int .i64 s] 118) 229 #[.func (.func 149) #[] #[]]
 obtain ⟨n,hnn⟩:∃ n,n=l.length:=⟨_,rfl⟩
 rw [← hnn] at h hn hK hm ⊢
 have hlas:Lks w w.heap.size (.slice A n c) l:=ownE_lks h
 have nd:=fun W=>FindEp.node_any o s W
 have fd:=fun (W:World) (hW:Below w.heap.size w W) (hq:W.cell? ⟨w.heap.size+1,0,none⟩=some (.func (.func 149) #[] #[]))=>FindEp.find_any A n c l o (w.heap.size+1) W (hlas.up hW) (by omega) hq h1 h2 hK hm
 obtain ⟨P1,hP1⟩:∃ P1,P1=StandOutE w base (.slice A n c) l (o,s):=⟨_,rfl⟩
 rw [← hP1]
 have HP1:=Lib.hid hP1;clear hP1
 have HO:=Lib.hid h;clear h
 have HN:=Lib.hid hnn;clear hnn
 have HM:=Lib.hid hm;clear hm
 have HK:=Lib.hid hK;clear hK
 have FD:=Lib.hid fd;clear fd hlas
 have ND:=Lib.hid nd;clear nd
 have HB2:=Lib.hid hb2;clear hb2
 have K0:=Lib.hid k0;clear k0
 have K1:=Lib.hid k1;clear k1
 go_enter Tryz.func148,Tryz.ntmps148
 go_wp2_with (go_at_call 149;refine (ND.out _).mono ?_;rintro e w3 ⟨rfl,hb⟩;have HB3:=Lib.hid (low_low HB2.out hb);have Q0:=Lib.hid (K0.out.below hb K0.out.lt);have Q1:=Lib.hid (K1.out.below hb K1.out.lt);obtain ⟨x0,x1,x2⟩:=blk_cells2 Q0.out;have y0:=blk_c0' Q1.out;clear hb)
 refine (FD.out _ HB3.out y0).mono ?_
 rintro e w4 ⟨⟨r,rfl,hR⟩,hb4⟩
 have HB4:=Lib.hid (low_low HB3.out hb4)
 have K4:=Lib.hid (Q0.out.below hb4 Q0.out.lt)
 have HR:Hid (Rank n (kE l) o r):=Lib.hid hR
 clear hR
 obtain ⟨z0,z1,z3⟩:=blk_cells2 K4.out
 clear hb4 x0 x1 x2 y0
 by_cases hf:r<n∧kE l r=o
 ·have e1:(decide (r<n) && ((l.getD r (0,0)).1 - o == 0))=true:=by
   have:(l.getD r (0,0)).1=o:=hf.2
   rw [this,decide_eq_true hf.1]
   simp
  simp only [e1]
  have hrn:=hf.1
  have HF:=Lib.hid hf;clear hf e1
  have hown:w.ownsRow base 118 2 (.slice A n c) n (lkCells l):=by have:=HO.out;unfold OwnE at this;rw [HN.out];rw [HN.out] at this;exact this
  obtain ⟨g,rfl⟩:∃ g,A=some ⟨g,0,none⟩:=own_some hown (by omega)
  obtain ⟨d0,d1⟩:=ep_row_at (own_below hown HB4.out) HN.out hrn
  have hso:epoch l o=(l.getD r (0,0)).2:=epoch_found (HN.out ▸ HR.out) (by rw [← HN.out];exact hrn) HF.out.2
  have hko:(l.getD r (0,0)).1=o:=HF.out.2
  have hgs:g<w.heap.size:=(hown.lt g rfl).2
  generalize hx:l.getD r (0,0)=x at d0 d1 hso hko
  obtain ⟨xo,xs⟩:=x
  simp only at hso hko d0 d1
  subst hko
  have HSO:=Lib.hid hso;clear hso
  have HX:=Lib.hid hx;clear hx
  have HOW:=Lib.hid hown;clear hown
  cases hnb:decide (xs<s)
  ·have hns:s≤xs:=by
    simpa using hnb
   go_wp2_with (fail)
   go_region_held3 (fun W=>W.cell? ⟨w.heap.size,0,none⟩=some (.int .i64 xo)∧W.cell? ⟨w.heap.size,1,none⟩=some (.int .i64 s)∧W.cell? ⟨g,r*2,none⟩=some (.int .i64 xo)∧W.cell? ⟨g,r*2+1,none⟩=some (.int .i64 xs))
    (first
     | with_reducible exact ⟨z0,z1,d0,d1⟩
     | with_reducible exact ⟨i0,i1,j0,j1⟩
     | go_keep)
    (first | (go_at_call 150;refine (greater_any xo s xo xs _).mono ?_;rintro e w5 ⟨rfl,hb⟩;rewrite [hnb];have hb:Below w4.heap.size w4 w5:=⟨hb.os,hb.tape,hb.output,hb.size,hb.block⟩;have HB5:=Lib.hid (low_low HB4.out hb);have K5:=Lib.hid (K4.out.below hb K4.out.lt);obtain ⟨i0,i1,i3⟩:=blk_cells2 K5.out;have j0:=(hb.cell (p:=⟨g,r*2,none⟩) (show g<_ by omega)).trans d0;have j1:=(hb.cell (p:=⟨g,r*2+1,none⟩) (show g<_ by omega)).trans d1;have hb0:=HB5.out;have f0:=(own_below HOW.out hb0).frozenAt (r*2);have f1:=(own_below HOW.out hb0).frozenAt (r*2+1);clear hb hb0))
   go_wp2
   have hb5:=HB5.out
   rw [HP1.out]
   refine ⟨.slice (some ⟨g,0,none⟩) n c,?_,?_,grown_of_below hb5,.inl rfl⟩
   ·rw [decide_eq_false (show ¬ epoch l xo<s by rw [HSO.out];omega)]
    rfl
   rw [if_neg (show ¬ epoch l xo<s by rw [HSO.out];omega)]
   have:=own_below HOW.out hb5
   unfold OwnE
   rw [← HN.out]
   exact this
  ·have hns:xs<s:=by
    simpa using hnb
   go_wp2_with (fail)
   go_region_held3 (fun W=>W.cell? ⟨w.heap.size,0,none⟩=some (.int .i64 xo)∧W.cell? ⟨w.heap.size,1,none⟩=some (.int .i64 s)∧W.cell? ⟨g,r*2,none⟩=some (.int .i64 xo)∧W.cell? ⟨g,r*2+1,none⟩=some (.int .i64 xs))
    (first
     | with_reducible exact ⟨z0,z1,d0,d1⟩
     | with_reducible exact ⟨i0,i1,j0,j1⟩
     | go_keep)
    (first | (go_at_call 150;refine (greater_any xo s xo xs _).mono ?_;rintro e w5 ⟨rfl,hb⟩;rewrite [hnb];have hb:Below w4.heap.size w4 w5:=⟨hb.os,hb.tape,hb.output,hb.size,hb.block⟩;have HB5:=Lib.hid (low_low HB4.out hb);have K5:=Lib.hid (K4.out.below hb K4.out.lt);obtain ⟨i0,i1,i3⟩:=blk_cells2 K5.out;have j0:=(hb.cell (p:=⟨g,r*2,none⟩) (show g<_ by omega)).trans d0;have j1:=(hb.cell (p:=⟨g,r*2+1,none⟩) (show g<_ by omega)).trans d1;have hb0:=HB5.out;have f0:=(own_below HOW.out hb0).frozenAt (r*2);have f1:=(own_below HOW.out hb0).frozenAt (r*2+1);clear hb hb0))
   have hb5:=HB5.out
   have how:=own_below HOW.out hb5
   have hfin:P1 (.returned (.tuple #[.slice (some ⟨g,0,none⟩) n c,.bool true])) (w5.setCells g (r*2) (lkCells [(xo,s)])):=by
    rw [HP1.out]
    refine ⟨.slice (some ⟨g,0,none⟩) n c,?_,?_,?_,.inl rfl⟩
    ·rw [decide_eq_true (show epoch l xo<s by rw [HSO.out];exact hns)]
    ·rw [if_pos (show epoch l xo<s by rw [HSO.out];omega),putEp_found (x:=(xo,s)) (HN.out ▸ HR.out) (by rw [← HN.out];exact hrn) HF.out.2]
     exact ownE_set (by rw [← HN.out];exact hrn) HN.out how
    ·exact grown_trans (grown_of_below hb5) (grown_setCells g _ _ _)
   have hw:w5.setCells g (r*2) (lkCells [(xo,s)])=(w5.setCell ⟨g,r*2,none⟩ (.int .i64 xo)).setCell ⟨g,r*2+1,none⟩ (.int .i64 s):=rfl
   rw [hw] at hfin
   have FIN:=Lib.hid hfin
   clear hfin how hb5 hw
   go_wp2
   exact FIN.out
 ·have e1:(decide (r<n) && ((l.getD r (0,0)).1 - o == 0))=false:=by
   rw [Bool.and_eq_false_iff,decide_eq_false_iff_not,beq_eq_false_iff_ne]
   by_cases hr:r<n
   ·right;intro e;exact hf ⟨hr,by show (l.getD r (0,0)).1=o;omega⟩
   ·exact .inl hr
  simp only [e1]
  have HF:=Lib.hid hf;clear hf e1
  have hown:w.ownsRow base 118 2 (.slice A n c) n (lkCells l):=by have:=HO.out;unfold OwnE at this;rw [HN.out];rw [HN.out] at this;exact this
  have hbA:Below w.heap.size w (w4.alloc (.cells #[.int .i64 o,.int .i64 s] 118)):=low1 HB4.out _
  have ho5:=own_below hown hbA
  have hne:(Value.slice A n c).ownBlock≠some w4.heap.size:=fun e=>by
   have:=(hown.lt _ e).2
   have:=HB4.out.size
   omega
  have IN:=Lib.hid (InsEp.ins_any base A n c r w4.heap.size (lkCells l) (lkCells [(o,s)]) _ ho5 (by omega) HR.out.1 (Blk.new w4 118 #[.int .i64 o,.int .i64 s]) hne rfl (lkCells_one' _) (lkCells_one' l) (Nat.le_trans hbase hbA.size))
  have hseq:epoch l o=0:=epoch_no (fun j hj=>HR.out.none HM.out (fun hr e=>HF.out ⟨hr,e⟩) j (by rw [HN.out];exact hj))
  have hput:putEp l (o,s)=l.take r++((o,s)::l.drop r):=putEp_new (x:=(o,s)) (HN.out ▸ HR.out) (fun hr e=>HF.out ⟨by rw [HN.out];exact hr,e⟩)
  have hrl:r≤l.length:=by rw [← HN.out];exact HR.out.1
  have hgA:w.grownBy (w4.alloc (.cells #[.int .i64 o,.int .i64 s] 118)) (Value.slice A n c).ownBlock:=grown_of_below hbA
  have hfin:∀ (v6:Value) (w6:World),w6.ownsRow base 118 2 v6 (n+1) ((lkCells l).take (r*2)++(lkCells [(o,s)]++(lkCells l).drop (r*2)))→(w4.alloc (.cells #[.int .i64 o,.int .i64 s] 118)).grownBy w6 (Value.slice A n c).ownBlock→(v6.ownBlock=(Value.slice A n c).ownBlock∨v6.ownBlock=some (w4.alloc (.cells #[.int .i64 o,.int .i64 s] 118)).heap.size)→P1 (.returned (.tuple #[v6,.bool true])) w6:=by
   intro v6 w6 ho6 hg6 hv6
   rw [HP1.out]
   refine ⟨v6,by rw [decide_eq_true (show epoch l o<s by omega)],?_,grown_trans hgA hg6,?_⟩
   ·rw [if_pos (show epoch l o<s by omega),hput]
    rw [HN.out] at ho6
    exact ownE_insert hrl ho6
   ·rcases hv6 with e | e
    ·exact .inl e
    ·exact .inr ⟨_,e,hbA.size⟩
  have FIN:=Lib.hid hfin
  clear hfin hgA hrl hput hseq hne ho5 hbA hown
  go_wp2_with (fail)
  refine (IN.out).mono ?_
  rintro e w6 ⟨v6,rfl,ho6,hg6,hv6⟩
  have HF6:=Lib.hid (FIN.out v6 w6 ho6 hg6 hv6)
  clear ho6 hg6 hv6
  go_wp2
  exact HF6.out
end Go.Proofs.YtplpmemlaohlaaaGreat.Bas
