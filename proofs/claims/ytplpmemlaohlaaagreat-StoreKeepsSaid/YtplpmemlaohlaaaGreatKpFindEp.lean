/- Where a node stands in a row of Ep whose nodes rise (layer 11): base.nodeOf, the closure of base.stand, slices.BinarySearchFunc. -/
import Derived.Test.YtplpmemlaohlaaaGreatKpBasMem
import Derived.Test.YtplpmemlaohlaaaGreatKpChgCheck
import Derived.Test.YtplpmemlaohlaaaGreatKpLsaSame
import Derived.Deep.LoopGhost
namespace Go.Proofs.YtplpmemlaohlaaaGreat.Bas.FindEp
open Go.RowKit Mem Oct Lsa Chg Bas
set_option linter.unusedVariables false
set_option linter.unusedSimpArgs false
set_option maxHeartbeats 1000000 in
theorem node_any (o s:Int) (w:World):Calls Tryz.prog 149 #[.agg #[.int .i64 o,.int .i64 s]] w fun e w'=>e=.returned (.int .i64 o)∧Below w.heap.size w w':=by
 have HB:=Lib.hid (low1 (Below.refl w.heap.size w) (.cells #[.int .i64 o,.int .i64 s] 118))
 go_enter Tryz.func149,Tryz.ntmps149
 go_wp2
 go_ret
 exact ⟨rfl,HB.out⟩
set_option maxHeartbeats 1000000 in
theorem cmp_any (o s:Int) (t:Int) (q:Nat) (w:World) (hq:w.cell? ⟨q,0,none⟩=some (.func (.func 149) #[] #[])) (hqs:q<w.heap.size) (h1:0≤o) (h2:o≤64) (h3:0≤t) (h4:t≤64) :
  Calls Tryz.prog 191 #[.agg #[.int .i64 o,.int .i64 s],.int .i64 t,.pointer (some ⟨q,0,none⟩)] w fun e w'=>e=.returned (.int .i64 (o - t))∧Below w.heap.size w w':=by
 have HB:=Lib.hid (low1 (Below.refl w.heap.size w) (.cells #[.int .i64 o,.int .i64 s] 118))
 have nd:=node_any o s (w.alloc (.cells #[.int .i64 o,.int .i64 s] 118))
 have ND:=Lib.hid nd;clear nd
 have hq2:(w.alloc (.cells #[.int .i64 o,.int .i64 s] 118)).cell? ⟨q,0,none⟩=some (.func (.func 149) #[] #[]):=by
  rw [World.cell?_alloc_lt _ _ _ (by exact hqs)]
  exact hq
 go_enter Tryz.func191,Tryz.ntmps191
 go_wp2_with (go_at_call 149;refine (ND.out).mono ?_;rintro e w' ⟨rfl,hb⟩;have HB2:=Lib.hid (low_low HB.out hb);clear hb)
 go_ret
 exact ⟨rfl,HB2.out⟩
theorem half_lt {lo hi:Nat} (h:lo<hi):(lo+hi) / 2<hi∧lo≤(lo+hi) / 2:=by omega
set_option maxHeartbeats 4000000 in
set_option maxRecDepth 100000 in
theorem find_any (A:Option Addr) (n c:Nat) (l:List (Int × Int)) (t:Int) (q:Nat) (w:World) (h:Lks w w.heap.size (.slice A n c) l) (hn:n≤1000)
  (hq:w.cell? ⟨q,0,none⟩=some (.func (.func 149) #[] #[])) (h3:0≤t) (h4:t≤64) (hK:∀ j,j<n→0≤(l.getD j (0,0)).1∧(l.getD j (0,0)).1≤64) (hm:∀ i j,i≤j→j<n→(l.getD i (0,0)).1≤(l.getD j (0,0)).1) :
  Calls Tryz.prog 190 #[.slice A n c,.int .i64 t,.func (.func 191) #[] #[.pointer (some ⟨q,0,none⟩)]] w fun e w' =>
   (∃ r:Nat,e=.returned (.tuple #[.int .i64 (r:Nat),.bool (decide (r<n) && (((fun j=>(l.getD j (0,0)).1) r) - t == 0))])∧Rank n (fun j=>(l.getD j (0,0)).1) t r)∧Below w.heap.size w w':=by
 have hqs:q<w.heap.size:=block_lt_of_cell hq
 have hlen:l.length=n∧n≤c∧c≤maxLen:=by
  obtain ⟨e1,e2,e3,_⟩:=lks_len h
  exact ⟨e1,e2,e3⟩
 obtain ⟨hl,hnc,hcm⟩:=hlen
 unfold maxLen at hcm
 obtain ⟨K,hKK⟩:∃ K:Nat→Int,K=fun j=>(l.getD j (0,0)).1:=⟨_,rfl⟩
 have hKj:∀ j,(l.getD j (0,0)).1=K j:=fun j=>by rw [hKK]
 simp only [hKj] at hK hm
 rw [← hKK]
 have HH:=Lib.hid h;clear h
 have HKJ:=Lib.hid hKj;clear hKj hKK
 have HK:=Lib.hid hK;clear hK
 have HM:=Lib.hid hm;clear hm
 have HQ:=Lib.hid hq;clear hq
 have HL:=Lib.hid hl;clear hl
 go_enter Tryz.func190,Tryz.ntmps190
 go_wp2
 go_loopg [9,10] n (fun kx s9 s10 wr=>∃ lo hi:Nat,s9=.int .i64 lo∧s10=.int .i64 hi∧lo≤hi∧hi≤n∧hi - lo≤kx∧Below w.heap.size w wr∧Hid ((∀ j,j<lo→K j<t)∧(∀ j,hi≤j→j<n→t≤K j)))
 case atStart=>exact ⟨0,n,rfl,rfl,Nat.zero_le _,Nat.le_refl _,by omega,Below.refl _ _,(Lib.hid ⟨fun j hj=>absurd hj (Nat.not_lt_zero _),fun j h1 h2=>by omega⟩:Hid ((∀ j,j<0→K j<t)∧(∀ j,n≤j→j<n→t≤K j)))⟩
 case round =>
  obtain ⟨lo,hi,rfl,rfl,hlh,hin,hg,hbw,I⟩:=hrel
  have HBW:=Lib.hid hbw;clear hbw
  have hqw:=(HBW.out.cell (p:=⟨q,0,none⟩) hqs).trans HQ.out
  have HQW:=Lib.hid hqw;clear hqw
  have hws:=HBW.out.size
  by_cases hlt:lo<hi
  ·obtain ⟨hh1,hh2⟩:=half_lt hlt
   obtain ⟨b,off,rfl,hb,hc⟩:=lks_at HH.out (by omega)
   have hk2:=HK.out ((lo+hi) / 2) (by omega)
   obtain ⟨d0,d1⟩:=hc ((lo+hi) / 2) (by omega)
   have c0:=(HBW.out.cell (p:=⟨b,off+(lo+hi) / 2*2,none⟩) hb).trans d0
   have c1:=(HBW.out.cell (p:=⟨b,off+(lo+hi) / 2*2+1,none⟩) hb).trans d1
   have ek:=HKJ.out ((lo+hi) / 2)
   generalize (l.getD ((lo+hi) / 2) (0,0))=y at c0 c1 ek
   obtain ⟨yo,ys⟩:=y
   simp only at c0 c1 ek
   rw [← ek] at hk2
   have cm:=fun (W:World) (hW:W.cell? ⟨q,0,none⟩=some (.func (.func 149) #[] #[])) (hs:q<W.heap.size)=>cmp_any yo ys t q W hW hs hk2.1 hk2.2 h3 h4
   have EK:=Lib.hid ek;clear ek hc d0 d1
   have CM:=Lib.hid cm;clear cm
   by_cases hyt:yo<t
   ·have hd:decide (yo - t<0)=true:=by rw [decide_eq_true_iff];omega
    go_wp2_with (go_at_call 191;refine (CM.out _ HQW.out (by omega)).mono ?_;rintro e w2 ⟨rfl,hb2⟩;have HB2:=Lib.hid (low_low HBW.out hb2);clear hb2)
    go_roundg (hi - ((lo+hi) / 2+1))
    case measure=>omega
    case rel =>
     have I2:Hid ((∀ j,j<(lo+hi) / 2+1→K j<t)∧(∀ j,hi≤j→j<n→t≤K j)):=Lib.hid ⟨fun j hj=>by
      have h1:=HM.out j ((lo+hi) / 2) (by omega) (by omega)
      rw [← EK.out] at h1
      omega,I.out.2⟩
     exact ⟨(lo+hi) / 2+1,hi,by rw [show ((lo:Int)+(hi:Int)) / 2+1=(((lo+hi) / 2+1:Nat):Int) by omega],rfl,by omega,hin,Nat.le_refl _,HB2.out,I2⟩
   ·have hd:decide (yo - t<0)=false:=by rw [decide_eq_false_iff_not];omega
    go_wp2_with (go_at_call 191;refine (CM.out _ HQW.out (by omega)).mono ?_;rintro e w2 ⟨rfl,hb2⟩;have HB2:=Lib.hid (low_low HBW.out hb2);clear hb2)
    go_roundg ((lo+hi) / 2 - lo)
    case measure=>omega
    case rel =>
     have I2:Hid ((∀ j,j<lo→K j<t)∧(∀ j,(lo+hi) / 2≤j→j<n→t≤K j)):=Lib.hid ⟨I.out.1,fun j hj hjn=>by
      have h1:=HM.out ((lo+hi) / 2) j hj hjn
      rw [← EK.out] at h1
      omega⟩
     exact ⟨lo,(lo+hi) / 2,rfl,by rw [show ((lo:Int)+(hi:Int)) / 2=(((lo+hi) / 2:Nat):Int) by omega],by omega,by omega,Nat.le_refl _,HB2.out,I2⟩
  ·obtain rfl:hi=lo:=by omega
   have hR:Rank n K t hi:=⟨hin,I.out.1,I.out.2⟩
   have HR:=Lib.hid hR;clear hR I
   by_cases hn2:hi<n
   ·obtain ⟨b,off,rfl,hb,hc⟩:=lks_at HH.out (by omega)
    have hk2:=HK.out hi hn2
    obtain ⟨d0,d1⟩:=hc (hi) (by omega)
    have c0:=(HBW.out.cell (p:=⟨b,off+hi*2,none⟩) hb).trans d0
    have c1:=(HBW.out.cell (p:=⟨b,off+hi*2+1,none⟩) hb).trans d1
    have ek:=HKJ.out (hi)
    generalize (l.getD (hi) (0,0))=y at c0 c1 ek
    obtain ⟨yo,ys⟩:=y
    simp only at c0 c1 ek
    rw [← ek] at hk2
    have cm:=fun (W:World) (hW:W.cell? ⟨q,0,none⟩=some (.func (.func 149) #[] #[])) (hs:q<W.heap.size)=>cmp_any yo ys t q W hW hs hk2.1 hk2.2 h3 h4
    have EK:=Lib.hid ek;clear ek hc d0 d1
    have CM:=Lib.hid cm;clear cm
    go_wp2_with (go_at_call 191;refine (CM.out _ HQW.out (by omega)).mono ?_;rintro e w2 ⟨rfl,hb2⟩;have HB2:=Lib.hid (low_low HBW.out hb2);clear hb2)
    go_ret2
    refine ⟨⟨hi,?_,HR.out⟩,HB2.out⟩
    rw [← EK.out,decide_eq_true hn2,Bool.true_and]
    rfl
   ·go_wp2
    go_ret2
    refine ⟨⟨hi,?_,HR.out⟩,HBW.out⟩
    rw [decide_eq_false hn2,Bool.false_and]
    rfl
end Go.Proofs.YtplpmemlaohlaaaGreat.Bas.FindEp
