/- The acts of layer 12's laws: what a law is told of acts that came in; place and Light. -/
import Derived.Test.YtplpmemlaohlaaaGreatKpChgAwake
import Derived.Test.YtplpmemlaohlaaaGreatKpDiskAll
import Derived.Test.YtplpmemlaohlaaaGreatKpWalAllB
import Derived.BigQuiet
namespace Go.Proofs.YtplpmemlaohlaaaGreat.Sto
open Go.RowKit Mem Lsa Chg
open Dsk (TearsAt TearR TearsR tears_of list_of ActLens ActFits recs_len)
set_option linter.unusedVariables false
set_option linter.unusedSimpArgs false
def Act12R (w:World) (j:Nat) (v:Value):Prop:=match j with | 0=>NumOf .i64 v | 1=>NumOf .i64 v | 2=>∃ A l c,v=.slice A l c∧IsRecs w A l c 6 (ChR w) | 3=>TearsR w v | _=>True
section
open Go.ChangeShapes Go.WideShapes Go.ChangeAt Go.Joins
variable {H:Type} {enc:TypeId × Value→H} {W:World} {base:Nat} {held:Bool}
set_option maxRecDepth 20000 in
theorem open_acts12_at {fuel:Nat} {v:Value} {y:DataW H × List MemPlace} (h:DataW.trod enc Tryz.prog W base (fun _=>true) held fuel 22 [v]=some y):∃ A l c,v=.slice A l c∧IsRecs W A l c 4 (Act12R W):=by
 rcases open_slice_fields Tryz.underlying22 Tryz.underlying52 (by kernel_rfl) (by kernel_rfl) h with ⟨hcs,_⟩ | ⟨x,l,c,m,D,Pl,hcs,_,hl,hm,hmm,_,hh⟩
 ·injection hcs with hcs _
  exact ⟨none,0,0,hcs,.inl ⟨rfl,rfl,rfl⟩⟩
 ·injection hcs with hcs _
  refine ⟨some x,l,c,hcs,.inr ⟨_,rfl,hl,hm,fun i hi j hj=>?_⟩⟩
  obtain ⟨ys,n,_,_,_,hg⟩:=hh i (by rw [hmm,if_pos rfl];exact hi)
  match j,hj with
  | 0,_ =>
   obtain ⟨v,y,hc,_,ht⟩:=hg 0 _ rfl
   exact ⟨v,hc,open_num_at Tryz.underlying3 ht⟩
  | 1,_ =>
   obtain ⟨v,y,hc,_,ht⟩:=hg 1 _ rfl
   exact ⟨v,hc,open_num_at Tryz.underlying3 ht⟩
  | 2,_ =>
   obtain ⟨v,y,hc,_,ht⟩:=hg 2 _ rfl
   exact ⟨v,hc,open_changes_at ht⟩
  | 3,_ =>
   obtain ⟨v,y,hc,_,ht⟩:=hg 3 _ rfl
   refine ⟨v,hc,?_⟩
   rcases open_slice_fields Tryz.underlying50 Tryz.underlying110 (by kernel_rfl) (by kernel_rfl) ht with ⟨hcs',_⟩ | ⟨x',l',c',m',D',Pl',hcs',_,hl',hm',hmm',_,hh'⟩
   ·obtain rfl:v=.slice none 0 0:=by simpa using hcs'
    exact ⟨_,_,_,rfl,.inl ⟨rfl,rfl,rfl⟩⟩
   ·obtain rfl:v=.slice (some x') l' c':=by simpa using hcs'
    refine ⟨_,_,_,rfl,?_⟩
    refine .inr ⟨_,rfl,hl',hm',fun i' hi' j' hj'=>?_⟩
    obtain ⟨ys',n',_,_,_,hg'⟩:=hh' i' (by rw [hmm',if_pos rfl];exact hi')
    match j',hj' with
    | 0,_ =>
     obtain ⟨v,y,hc,_,ht⟩:=hg' 0 _ rfl
     exact ⟨v,hc,open_num_at Tryz.underlying3 ht⟩
    | 1,_ =>
     obtain ⟨v,y,hc,_,ht⟩:=hg' 1 _ rfl
     exact ⟨v,hc,open_row_at Tryz.underlying74 Tryz.underlying5 (by kernel_rfl) ht⟩
end
def TearFits (w:World) (At:Option Addr) (nt:Nat):Prop:=nt≤40∧∀ bt ot,At=some ⟨bt,ot,none⟩→∀ k,k<nt→∀ (Au:Option Addr) (nu cu:Nat),w.cell? ⟨bt,ot+k*2+1,none⟩=some (.slice Au nu cu)→nu≤600
def Fits12 (w:World) (A:Option Addr) (k:Nat):Prop:=∀ b off,A=some ⟨b,off,none⟩→∀ i,i<k→∀ At nt ct,w.cell? ⟨b,off+(i*4+3),none⟩=some (.slice At nt ct)→TearFits w At nt
def Out12 (w:World) (A:Option Addr) (len:Nat) (t:Bool):Prop:=t=true→len≤25∧Fits12 w A len
theorem tears_light (w W:World) (At:Option Addr) (nt ct g:Nat) (hg:g=W.heap.size) (hW:Below w.heap.size w W) (ht:IsRecs w At nt ct 2 (TearR w)) :
  Calls Tryz.prog 30 #[.slice (some ⟨g,0,none⟩) 1 1] (W.alloc (.cells #[.int .i64 0,.int .i64 0,.slice none 0 0,.bool false,.slice At nt ct] 76)) fun e w'=>∃ t,e=.returned (.bool t)∧Below w.heap.size w w'∧(t=true→TearFits w At nt):=by
 subst hg
 have kb:=Blk.new W 76 #[.int .i64 0,.int .i64 0,.slice none 0 0,.bool false,.slice At nt ct]
 have hba:=low1 hW (.cells #[.int .i64 0,.int .i64 0,.slice none 0 0,.bool false,.slice At nt ct] 76)
 have li:=Dsk.light_any (some ⟨W.heap.size,0,none⟩) 1 1 (W.alloc (.cells #[.int .i64 0,.int .i64 0,.slice none 0 0,.bool false,.slice At nt ct] 76)) (by omega) (fun _=>⟨_,_,rfl,by simp,fun i hi=>by
  obtain rfl:i=0:=by omega
  refine ⟨none,0,0,At,nt,ct,by rw [kb.cell];rfl,by rw [kb.cell];rfl,fun h0=>?_⟩
  obtain ⟨bt,ot,e,hbt,hct⟩:=rec_at ht (by omega) h0
  refine ⟨bt,ot,e,Nat.lt_of_lt_of_le hbt hba.size,fun q hq=>?_⟩
  obtain ⟨v1,c1,A1,l1,c1',zs,rfl,w1⟩:=hct q hq 1 (by omega)
  exact ⟨A1,l1,c1',by rw [hba.cell (p:=⟨bt,ot+q*2+1,none⟩) hbt,show ot+q*2+1=ot+(q*2+1) by omega];exact c1⟩⟩)
 have hfits:∀ t,(t=true↔1≤40∧∀ b off,(some ⟨W.heap.size,0,none⟩:Option Addr)=some ⟨b,off,none⟩→∀ i,i<1→ActFits (W.alloc (.cells #[.int .i64 0,.int .i64 0,.slice none 0 0,.bool false,.slice At nt ct] 76)) b off i)→t=true→TearFits w At nt:=fun t h1 h2=>by
  have h3:=(h1.1 h2).2 _ _ rfl 0 (by omega) none 0 0 At nt ct (by rw [kb.cell];rfl) (by rw [kb.cell];rfl)
  refine ⟨h3.2.1,fun bt ot e q hq Au nu cu hcu=>h3.2.2 bt ot e q hq Au nu cu ?_⟩
  obtain ⟨bt',ot',e',hbt,hct⟩:=rec_at ht (by omega) (by omega:0<nt)
  rw [e] at e'
  injection e' with e'
  injection e' with e1 e2 _
  subst e1 e2
  rw [hba.cell (p:=⟨bt,ot+q*2+1,none⟩) hbt]
  exact hcu
 refine li.mono ?_
 rintro e w2 ⟨t,rfl,rfl,h⟩
 exact ⟨t,rfl,hba,hfits t h⟩
set_option maxRecDepth 20000 in
set_option maxHeartbeats 4000000 in
theorem light12_any (A:Option Addr) (len cap:Nat) (w:World) (h:IsRecs w A len cap 4 (Act12R w)) :
  Calls Tryz.prog 6 #[.slice A len cap] w fun e w'=>∃ t,e=.returned (.bool t)∧Below w.heap.size w w'∧Out12 w A len t:=by
 have hlen:=recs_len h
 have H:=Lib.hid h;clear h
 go_enter Tryz.func6,Tryz.ntmps6
 go_wp2
 go_loopw [3] (fun i wr=>∃ k:Nat,k≤len∧k≤26∧i=.int .i64 k∧Fits12 w A k∧Below w.heap.size w wr) (fun i _=>len - (intOf i).toNat)
 case atStart=>exact ⟨0,Nat.zero_le _,by omega,rfl,fun _ _ _ j hj=>absurd hj (by omega),Below.refl _ _⟩
 case round =>
  obtain ⟨k,hk,hk26,rfl,hfit,hbw⟩:=hrel
  have HF:=Lib.hid hfit;clear hfit
  have HB:=Lib.hid hbw;clear hbw
  by_cases hlt:k<len∧k≤25
  ·obtain ⟨h1,h2⟩:=hlt
   obtain ⟨b,off,e,hb,hc⟩:=rec_at H.out (by omega) (by omega)
   subst e
   obtain ⟨v3,c3,At,nt,ct,rfl,ht⟩:=hc k h1 3 (by omega)
   obtain ⟨v2,c2,Al,nl,cl,rfl,hl⟩:=hc k h1 2 (by omega)
   obtain ⟨l,hls⟩:=chs_in hl
   have c2':wr.cell? ⟨b,off+k*4+2,none⟩=some (.slice Al nl cl):=by rw [show off+k*4+2=off+(k*4+2) by omega,HB.out.cell (p:=⟨b,off+(k*4+2),none⟩) hb];exact c2
   have lg10:=light10_any Al nl cl l wr (hls.up HB.out)
   have LG:=Lib.hid lg10;clear lg10 hls hl c2
   generalize lightB l=lb at *
   have hbz:b<wr.heap.size:=Nat.lt_of_lt_of_le hb HB.out.size
   have HT:=Lib.hid ht;clear ht hc
   have c3':wr.cell? ⟨b,off+(k*4+3),none⟩=some (.slice At nt ct):=by rw [HB.out.cell (p:=⟨b,off+(k*4+3),none⟩) hb];exact c3
   have C3:=Lib.hid c3;clear c3
   rw [show off+(k*4+3)=off+k*4+3 by omega] at c3'
   have TL:=Lib.hid (fun (W:World) (hW:Below w.heap.size w W)=>tears_light w W At nt ct _ rfl hW HT.out)
   cases lb with
   | false =>
    go_wp2_with (go_at_call 29;refine (LG.out).mono ?_;rintro e w3 ⟨rfl,hb3⟩;have HB3:=Lib.hid (low_low HB.out hb3);clear hb3)
    go_ret
    exact ⟨false,rfl,HB3.out,fun e=>(by cases e)⟩
   | true =>
   go_wp2_with (first
    | (go_at_call 29;refine (LG.out).mono ?_;rintro e w3 ⟨rfl,hb3⟩;have c3'':=(hb3.cell (p:=⟨b,off+k*4+3,none⟩) hbz).trans c3';have HB3:=Lib.hid (low_low HB.out hb3);have hbz3:=Nat.lt_of_lt_of_le hbz hb3.size;clear hb3)
    | (go_at_call 30;refine (TL.out w3 HB3.out).mono ?_;rintro e w2 ⟨t,rfl,hb2,ht⟩;have HBA:=Lib.hid hb2;have HFT:=Lib.hid ht;clear hb2 ht;cases t))
   ·go_ret
    exact ⟨false,rfl,HBA.out,fun e=>(by cases e)⟩
   ·go_roundw
    case rel =>
     refine ⟨k+1,by omega,by omega,by go_num,fun b' off' e j hj At' nt' ct' hc'=>?_,HBA.out⟩
     by_cases hjk:j<k
     ·exact HF.out b' off' e j hjk At' nt' ct' hc'
     ·obtain rfl:j=k:=by omega
      injection e with e
      injection e with e1 e2 _
      subst e1 e2
      rw [C3.out] at hc'
      injection hc' with hc'
      injection hc' with a1 a2 a3
      subst a1 a2 a3
      first | exact HFT.out rfl | exact HFT.out trivial
    case measure=>simp [intOf];omega
  ·by_cases hkl:k<len
   ·have hk40:¬ k≤25:=by omega
    have hd:decide ((len:Int)≤25)=false:=by simp;omega
    clear hlt
    go_wp2
    go_ret
    exact ⟨false,rfl,HB.out,fun e=>(by cases e)⟩
   ·obtain rfl:k=len:=by omega
    clear hlt
    by_cases h40:k≤25
    ·have hd:decide ((k:Int)≤25)=true:=by simp;omega
     go_wp2
     go_ret
     exact ⟨true,rfl,HB.out,fun _=>⟨h40,HF.out⟩⟩
    ·have hd:decide ((k:Int)≤25)=false:=by simp;omega
     go_wp2
     go_ret
     exact ⟨false,rfl,HB.out,fun e=>(by cases e)⟩
def place12 (n:Int):Nat:=(6+n % 24).toNat
theorem place12_le (n:Int):6≤place12 n∧place12 n≤29:=by unfold place12;omega
set_option maxHeartbeats 1000000 in
theorem place12_any (n:Int) (w:World) (h0:0≤n) (h1:n<256):Calls Tryz.prog 9 #[.int .u8 n] w fun e w'=>e=.returned (.int .i64 (place12 n:Nat))∧w=w':=by
 have e0:((place12 n:Nat):Int)=6+n % 24:=by unfold place12;omega
 rw [e0]
 clear e0
 go_enter Tryz.func9,Tryz.ntmps9
 go_wp2
 go_ret
 exact ⟨rfl,rfl⟩
structure Ac12 where
 what:Int
 n:Int
 l:List Ch
 tears:List (Int × List Nat)
def Acts12At (w:World) (B:Nat) (A:Option Addr) (len:Nat) (l:List Ac12):Prop:=l.length=len∧(0<len→∃ b off,A=some ⟨b,off,none⟩∧b<B∧∀ i,i<len→∃ a Al nl cl At nt ct,l[i]?=some a ∧
 w.cell? ⟨b,off+i*4,none⟩=some (.int .i64 a.what)∧w.cell? ⟨b,off+i*4+1,none⟩=some (.int .i64 a.n)∧w.cell? ⟨b,off+i*4+2,none⟩=some (.slice Al nl cl)∧w.cell? ⟨b,off+i*4+3,none⟩=some (.slice At nt ct) ∧
  TearsAt w B (.slice At nt ct) a.tears∧Chs w B (.slice Al nl cl) a.l ∧ -9223372036854775808≤a.n∧a.n≤9223372036854775807)
theorem acts12_of {w:World} {A:Option Addr} {len cap:Nat} (h:IsRecs w A len cap 4 (Act12R w)) (hf:Fits12 w A len):∃ l,Acts12At w w.heap.size A len l:=by
 by_cases h0:0<len
 ·obtain ⟨b,off,rfl,hb,hc⟩:=rec_at h (by omega) h0
  obtain ⟨l,hl,hp⟩:=list_of (α:=Ac12) (n:=len) (P:=fun i a=>∃ Al nl cl At nt ct,w.cell? ⟨b,off+i*4,none⟩=some (.int .i64 a.what)∧w.cell? ⟨b,off+i*4+1,none⟩=some (.int .i64 a.n)∧w.cell? ⟨b,off+i*4+2,none⟩=some (.slice Al nl cl)∧w.cell? ⟨b,off+i*4+3,none⟩=some (.slice At nt ct) ∧
    TearsAt w w.heap.size (.slice At nt ct) a.tears∧Chs w w.heap.size (.slice Al nl cl) a.l ∧ -9223372036854775808≤a.n∧a.n≤9223372036854775807) (fun i hi=>by
   obtain ⟨v0,c0,k0,rfl,w0⟩:=hc i hi 0 (by omega)
   obtain ⟨v1,c1,k1,rfl,w1⟩:=hc i hi 1 (by omega)
   obtain ⟨v2,c2,Al,nl,cl,rfl,w2⟩:=hc i hi 2 (by omega)
   obtain ⟨v3,c3,At,nt,ct,rfl,w3⟩:=hc i hi 3 (by omega)
   obtain ⟨f2,f3⟩:=hf b off rfl i hi At nt ct c3
   obtain ⟨ts,hts⟩:=tears_of w3 f2 f3
   obtain ⟨cs,hcs⟩:=chs_in w2
   have hb1:=Go.bounds_i64 w1
   exact ⟨⟨k0,k1,cs,ts⟩,Al,nl,cl,At,nt,ct,c0,c1,c2,c3,hts,hcs,hb1.1,by have:=hb1.2;simp only;omega⟩)
  exact ⟨l,hl,fun _=>⟨b,off,rfl,hb,fun i hi=>by
   obtain ⟨a,h1,Al,nl,cl,At,nt,ct,h2⟩:=hp i hi
   exact ⟨a,Al,nl,cl,At,nt,ct,h1,h2⟩⟩⟩
 ·obtain rfl:len=0:=by omega
  exact ⟨[],rfl,fun h=>absurd h (by omega)⟩
theorem acts12_at {w wr:World} {B len k:Nat} {A:Option Addr} {l:List Ac12} (h:Acts12At w B A len l) (hbl:Below B w wr) (hkn:k<len):∃ b off a Al nl cl At nt ct,A=some ⟨b,off,none⟩∧b<B∧l[k]?=some a ∧
  wr.cell? ⟨b,off+k*4,none⟩=some (.int .i64 a.what)∧wr.cell? ⟨b,off+k*4+1,none⟩=some (.int .i64 a.n)∧wr.cell? ⟨b,off+k*4+2,none⟩=some (.slice Al nl cl)∧wr.cell? ⟨b,off+k*4+3,none⟩=some (.slice At nt ct) ∧
   TearsAt wr B (.slice At nt ct) a.tears∧Chs wr B (.slice Al nl cl) a.l ∧ -9223372036854775808≤a.n∧a.n≤9223372036854775807:=by
 obtain ⟨b,off,rfl,hb,hc⟩:=h.2 (by omega)
 obtain ⟨a,Al,nl,cl,At,nt,ct,h1,h2,h3,h4,h5,h6,h7,h8⟩:=hc k hkn
 have e:∀ o,wr.cell? ⟨b,o,none⟩=w.cell? ⟨b,o,none⟩:=fun o=>hbl.cell (p:=⟨b,o,none⟩) hb
 exact ⟨b,off,a,Al,nl,cl,At,nt,ct,rfl,hb,h1,by rw [e];exact h2,by rw [e];exact h3,by rw [e];exact h4,by rw [e];exact h5,h6.below hbl (Nat.le_refl _),h7.keep hbl,h8⟩
end Go.Proofs.YtplpmemlaohlaaaGreat.Sto
