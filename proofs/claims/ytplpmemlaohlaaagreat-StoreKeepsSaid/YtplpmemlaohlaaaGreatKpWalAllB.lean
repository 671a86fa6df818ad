/- WalAllB: the texts WalMem, WalRead, WalRecs, WalRecord, WalPut, WalBase, WalOpen, WalActs, WalReady, WalOpened, WalCommit, WalTurn, WalAwake, WalTold in one. (Printed by tools/mergeall.py.) -/
import Derived.Test.YtplpmemlaohlaaaGreatKpDiskAll
import Derived.Test.YtplpmemlaohlaaaGreatKpPageAll
import Derived.Test.YtplpmemlaohlaaaGreatKpPlotAt
import Derived.Test.YtplpmemlaohlaaaGreatKpRecAll
import Derived.Test.YtplpmemlaohlaaaGreatKpSlotAll
import Derived.Test.YtplpmemlaohlaaaGreatKpWalAllA
import Derived.BigQuiet
import Derived.Deep.RegionHeld3
namespace Go.Proofs.YtplpmemlaohlaaaGreat.Wl
open Go.RowKit Mem Pg Rcd Slt
open Dsk (KeptBut SMap DiskAt St ptr kept_of_below kept_of_grown)
open Plt (sl plV sl_le sl_pos)
set_option linter.unusedVariables false
set_option linter.unusedSimpArgs false
def lg (k:Nat):Nat:=k - 2*sl k
theorem lg_eq (k:Nat):(k:Int) - 2*(sl k:Nat)=(lg k:Nat):=by
 have:=sl_le k
 unfold lg
 omega
structure Wn where
 gen:Int
 mark:Int
 next:Nat
 br:Bool
abbrev walCs (g k:Nat) (v:Wn):Array Value:=#[ptr g,.int .i64 (sl k:Nat),.int .i64 (2*(sl k:Nat)),.int .i64 (lg k:Nat),.int .i64 v.gen,.int .i64 v.mark,.int .i64 (v.next:Nat),.bool v.br]
def WalAt (w:World) (x g k:Nat) (v:Wn):Prop:=Blk w x 138 (walCs g k v)
def isSlc:Value→Bool
 | .slice _ _ _=>true
 | _=>false
def Odd (w:World) (S:List Nat):Prop:=∀ g∈S,∀ i u,w.cell? ⟨g,i,none⟩=some u→isBy u=false∧isSlc u=false
theorem odd_cells {w:World} {g:Nat} {t:TypeId} {cs:Array Value} (h:Blk w g t cs) (hc:∀ u∈cs.toList,isBy u=false∧isSlc u=false):Odd w [g]:=by
 intro g' hg i u hu
 obtain rfl:=List.mem_singleton.1 hg
 rw [h.cell] at hu
 obtain ⟨hi,he⟩:=Array.getElem?_eq_some_iff.1 hu
 exact hc u (by rw [← he,← Array.getElem_toList];exact List.getElem_mem _)
theorem Odd.app {w:World} {S T:List Nat} (h:Odd w S) (k:Odd w T):Odd w (S++T):=fun g hg=>(List.mem_append.1 hg).elim (h g) (k g)
theorem odd_map {w:World} {b:Nat} {f:Nat→Option (List Nat)} (h:SMap w b f):Odd w [b]:=by
 obtain ⟨D,n,⟨es,clock,hbb,F,hs,hD⟩,h1⟩:=h
 intro g' hg i u hu
 obtain rfl:=List.mem_singleton.1 hg
 exfalso
 simp [World.cell?,hbb] at hu
theorem odd_disk {w:World} {g bs bw:Nat} {s:St} (h:DiskAt w g bs bw s):Odd w [g,bs,bw]:=by
 have h1:=odd_cells h.1 (by intro u hu;simp at hu;rcases hu with rfl | rfl | rfl | rfl | rfl <;> exact ⟨rfl,rfl⟩)
 exact (h1.app (odd_map h.2.1)).app (odd_map h.2.2.1)
theorem odd_wal {w:World} {x g k:Nat} {v:Wn} (h:WalAt w x g k v):Odd w [x] :=
 odd_cells h (by intro u hu;simp at hu;rcases hu with rfl | rfl | rfl | rfl | rfl | rfl | rfl | rfl <;> exact ⟨rfl,rfl⟩)
theorem odd_both {w:World} {x g bs bw k:Nat} {v:Wn} {s:St} (h:WalAt w x g k v) (hd:DiskAt w g bs bw s):Odd w [x,g,bs,bw]:=(odd_wal h).app (odd_disk hd)
section
variable {w w':World} {B:Nat} {S:List Nat}
theorem bts_kept {A:Option Addr} {n:Nat} {xs:List Nat} (h:Bts w B A n xs) (hk:KeptBut w w' S) (ho:Odd w S) (hB:B≤w.heap.size):Bts w' B A n xs:=by
 obtain ⟨h1,h2,h3,h4⟩:=h
 refine ⟨h1,h2,h3,fun h0=>?_⟩
 obtain ⟨b,off,e1,hb,hc⟩:=h4 h0
 refine ⟨b,off,e1,hb,fun i hi=>?_⟩
 have hn:b ∉ S:=fun hm=>by
  have:=(ho b hm (off+0) _ (hc 0 h0)).1
  simp [isBy] at this
 rw [← hc i hi]
 exact hk.cell (p:=⟨b,off+i,none⟩) (by show b<_;omega) hn
theorem btc_kept {A:Option Addr} {n c:Nat} {xs:List Nat} (h:BtsC w B A n c xs) (hk:KeptBut w w' S) (ho:Odd w S) (hB:B≤w.heap.size):BtsC w' B A n c xs:=⟨bts_kept h.1 hk ho hB,h.2⟩
theorem sl_kept {v:Value} {xs:List Nat} (h:Sl w B v xs) (hk:KeptBut w w' S) (ho:Odd w S) (hB:B≤w.heap.size):Sl w' B v xs:=by
 obtain ⟨A,n,c,e,h1,h2⟩:=h
 exact ⟨A,n,c,e,bts_kept h1 hk ho hB,h2⟩
theorem sls_kept {v:Value} {ss:List (List Nat)} (h:Sls w B v ss) (hk:KeptBut w w' S) (ho:Odd w S) (hB:B≤w.heap.size):Sls w' B v ss:=by
 obtain ⟨A,n,c,e,h1,h2,h3,h4⟩:=h
 refine ⟨A,n,c,e,h1,h2,h3,fun h0=>?_⟩
 obtain ⟨b,off,e1,hb,hc⟩:=h4 h0
 refine ⟨b,off,e1,hb,fun i hi=>?_⟩
 have hn:b ∉ S:=fun hm=>by
  obtain ⟨u,hu,A',n',c',rfl,_⟩:=hc 0 h0
  have:=(ho b hm (off+0) _ hu).2
  simp [isSlc] at this
 obtain ⟨u,hu,hs⟩:=hc i hi
 exact ⟨u,(hk.cell (p:=⟨b,off+i,none⟩) (by show b<_;omega) hn).trans hu,sl_kept hs hk ho hB⟩
theorem WalAt.kept {x g k:Nat} {v:Wn} (h:WalAt w x g k v) (hk:KeptBut w w' S) (hn:x ∉ S):WalAt w' x g k v:=hk.blk h hn
theorem WalAt.up {x g k:Nat} {v:Wn} (h:WalAt w x g k v) (hb:Below w.heap.size w w'):WalAt w' x g k v:=h.kept (S:=[]) (kept_of_below hb (Nat.le_refl _)) (by simp)
theorem WalAt.lt {x g k:Nat} {v:Wn} (h:WalAt w x g k v):x<w.heap.size:=Blk.lt h
theorem WalAt.set_br {x g k:Nat} {v:Wn} (h:WalAt w x g k v) (b:Bool):WalAt (w.setCell ⟨x,7,none⟩ (.bool b)) x g k { v with br:=b }:=by
 have:=Blk.set_ h 7 (.bool b)
 exact this
theorem WalAt.set_next {x g k:Nat} {v:Wn} (h:WalAt w x g k v) (n:Nat):WalAt (w.setCell ⟨x,6,none⟩ (.int .i64 (n:Nat))) x g k { v with next:=n }:=by
 have:=Blk.set_ h 6 (.int .i64 (n:Nat))
 exact this
theorem WalAt.set_gen {x g k:Nat} {v:Wn} (h:WalAt w x g k v) (n:Int):WalAt (w.setCell ⟨x,4,none⟩ (.int .i64 n)) x g k { v with gen:=n }:=by
 have:=Blk.set_ h 4 (.int .i64 n)
 exact this
theorem kept_set1 {x i:Nat} (u:Value):KeptBut w (w.setCell ⟨x,i,none⟩ u) [x]:=kept_of_grown (grown_set w ⟨x,i,none⟩ u) (by simp)
theorem DiskAt.set_far {g bs bw x i:Nat} {s:St} (h:DiskAt w g bs bw s) (u:Value) (h1:x≠g) (h2:x≠bs) (h3:x≠bw):DiskAt (w.setCell ⟨x,i,none⟩ u) g bs bw s :=
 h.kept (kept_set1 (i:=i) u) (by simpa using Ne.symm h1) (by simpa using Ne.symm h2) (by simpa using Ne.symm h3)
end
theorem wal_ne {w:World} {x g bs bw k:Nat} {v:Wn} {s:St} (h:WalAt w x g k v) (hd:DiskAt w g bs bw s):x≠g∧x≠bs∧x≠bw :=
 ⟨Blk.ne_ h hd.1 (by decide),Dsk.smap_ne_blk hd.2.1 h,Dsk.smap_ne_blk hd.2.2.1 h⟩
section
variable {w:World} {x g k:Nat} {v:Wn}
theorem WalAt.c0 (h:WalAt w x g k v):w.cell? ⟨x,0,none⟩=some (ptr g):=by rw [Blk.cell h];rfl
theorem WalAt.c1 (h:WalAt w x g k v):w.cell? ⟨x,1,none⟩=some (.int .i64 (sl k:Nat)):=by rw [Blk.cell h];rfl
theorem WalAt.c2 (h:WalAt w x g k v):w.cell? ⟨x,2,none⟩=some (.int .i64 (2*(sl k:Nat))):=by rw [Blk.cell h];rfl
theorem WalAt.c3 (h:WalAt w x g k v):w.cell? ⟨x,3,none⟩=some (.int .i64 (lg k:Nat)):=by rw [Blk.cell h];rfl
theorem WalAt.c4 (h:WalAt w x g k v):w.cell? ⟨x,4,none⟩=some (.int .i64 v.gen):=by rw [Blk.cell h];rfl
theorem WalAt.c5 (h:WalAt w x g k v):w.cell? ⟨x,5,none⟩=some (.int .i64 v.mark):=by rw [Blk.cell h];rfl
theorem WalAt.c6 (h:WalAt w x g k v):w.cell? ⟨x,6,none⟩=some (.int .i64 (v.next:Nat)):=by rw [Blk.cell h];rfl
theorem WalAt.c7 (h:WalAt w x g k v):w.cell? ⟨x,7,none⟩=some (.bool v.br):=by rw [Blk.cell h];rfl
theorem WalAt.fz (h:WalAt w x g k v) (i:Nat):w.frozen? ⟨x,i,none⟩=false:=Blk.frozen h i
end
end Go.Proofs.YtplpmemlaohlaaaGreat.Wl
namespace Go.Proofs.YtplpmemlaohlaaaGreat.Wl
open Go.RowKit Mem Pg Rcd Slt
open Dsk (KeptBut SMap DiskAt St ptr kept_of_below kept_of_grown IsSec)
open Plt (sl plV sl_le sl_pos slot_any at_any fromI toI atI may_mk)
set_option linter.unusedVariables false
set_option linter.unusedSimpArgs false
theorem slot_k (k:Nat) (gen:Int) (w:World) (h1:6≤k) (h2:k≤1024) (hg0:0≤gen) (hg:gen≤9223372036854775807) :
  Calls Tryz.prog 168 #[plV (sl k:Nat) (2*(sl k:Nat)) (lg k:Nat),.int .i64 gen] w fun e w'=>e=.returned (.tuple #[.int .i64 (slotAt (sl k) gen:Nat),.int .i64 (slotAt (sl k) gen+sl k:Nat)])∧Below w.heap.size w w':=by
 have hm:=may_mk k h1 h2
 rw [lg_eq] at hm
 have e1:gen % 2*((sl k:Nat):Int)=((slotAt (sl k) gen:Nat):Int):=by
  unfold slotAt
  rcases (by omega:gen % 2=0∧gen.toNat % 2=0∨gen % 2=1∧gen.toNat % 2=1) with ⟨h,h'⟩ | ⟨h,h'⟩ <;> rw [h,h'] <;> omega
 have e2:fromI (sl k:Nat) (2*(sl k:Nat)) (lg k:Nat) gen=((slotAt (sl k) gen:Nat):Int):=by
  unfold fromI
  rw [if_neg (by rw [hm];simp;omega),e1]
 have e3:toI (sl k:Nat) (2*(sl k:Nat)) (lg k:Nat) gen=((slotAt (sl k) gen+sl k:Nat):Int):=by
  unfold toI
  rw [if_neg (by rw [hm];simp;omega),e1]
  omega
 refine (slot_any _ _ _ gen w hg).mono ?_
 rintro e w' ⟨rfl,hb⟩
 rw [e2,e3]
 exact ⟨rfl,hb⟩
theorem at_k (k i:Nat) (w:World) (h1:6≤k) (h2:k≤1024) (hi:i<lg k) :
  Calls Tryz.prog 101 #[plV (sl k:Nat) (2*(sl k:Nat)) (lg k:Nat),.int .i64 (i:Nat)] w fun e w'=>e=.returned (.int .i64 (2*sl k+i:Nat))∧Below w.heap.size w w':=by
 have hm:=may_mk k h1 h2
 rw [lg_eq] at hm
 have e2:atI (sl k:Nat) (2*(sl k:Nat)) (lg k:Nat) (i:Nat)=((2*sl k+i:Nat):Int):=by
  unfold atI
  rw [if_neg (by rw [hm];simp;omega)]
  omega
 refine (at_any _ _ _ _ w).mono ?_
 rintro e w' ⟨rfl,hb⟩
 rw [e2]
 exact ⟨rfl,hb⟩
def ofS (D:Nat→List Nat) (k:Nat):List (List Nat):=(List.range k).map D
theorem ofS_len (D:Nat→List Nat) (k:Nat):(ofS D k).length=k:=by simp [ofS]
theorem ofS_get (D:Nat→List Nat) (k i:Nat) (h:i<k):(ofS D k).getD i []=D i:=by simp [ofS,List.getD,h]
theorem ofS_mem {D:Nat→List Nat} {k:Nat} {s:List Nat} (h:s∈ofS D k):∃ i,i<k∧s=D i:=by
 simp only [ofS,List.mem_map,List.mem_range] at h
 obtain ⟨i,hi,e⟩:=h
 exact ⟨i,hi,e.symm⟩
theorem ofS_cut (D:Nat→List Nat) {k i j:Nat} (hij:i≤j) (hj:j≤k):((ofS D k).drop i).take (j - i)=ofS (fun m=>D (i+m)) (j - i):=by
 apply List.ext_getElem
 ·simp [ofS];omega
 ·intro m h1 h2
  simp [ofS]
set_option maxRecDepth 20000 in
set_option maxHeartbeats 2000000 in
theorem wread_dead (g bs bw:Nat) (s:St) (w:World) (h:DiskAt w g bs bw s) (hd:s.dead=true) (hn:s.n≤1000) :
  Calls Tryz.prog 68 #[ptr g] w fun e w'=>e=.returned (.tuple #[.slice none 0 0,.int .i64 7])∧Below w.heap.size w w':=by
 have h1:1≤s.n:=h.2.2.2.2.1
 have cs:=Dsk.size_any g bs bw s w h
 have cr:=fun (W:World) (hW:Below w.heap.size w W)=>Dsk.read_dead g bs bw s 0 W (h.below hW) hd
 obtain ⟨n,hnn⟩:∃ n,n=s.n:=⟨_,rfl⟩
 rw [← hnn] at cs h1 hn
 have hmk:=fun (W:World)=>make_slices n hn W
 have CS:=Lib.hid cs;clear cs
 have CR:=Lib.hid cr;clear cr
 clear h hd hnn
 have HB0:=Lib.hid (palloc (Below.refl w.heap.size w) (.cells (List.replicate n (Value.slice none 0 0)).toArray 74))
 go_enter Tryz.func68,Tryz.ntmps68
 go_wp2_with (go_at_call 49;refine (CS.out).mono ?_;rintro e w' ⟨rfl,rfl⟩)
 go_loopw [13] (fun i wr=>i=.int .i64 0∧wr=w.alloc (.cells (List.replicate n (Value.slice none 0 0)).toArray 74)) (fun i _=>0)
 case atStart=>exact ⟨rfl,rfl⟩
 case round =>
  obtain ⟨rfl,rfl⟩:=hrel
  go_wp2_with (go_at_call 50;refine (CR.out _ HB0.out).mono ?_;rintro e w' ⟨rfl,rfl⟩)
  go_ret2
  exact ⟨rfl,HB0.out⟩
set_option maxRecDepth 20000 in
set_option maxHeartbeats 2000000 in
theorem wread_ok (g bs bw:Nat) (s:St) (w:World) (h:DiskAt w g bs bw s) (hd:s.dead=false) (hn:s.n≤1000) :
  Calls Tryz.prog 68 #[ptr g] w fun e w'=>∃ b,e=.returned (.tuple #[.slice (some ⟨b,0,none⟩) s.n s.n,.int .i64 0])∧Sls w' w'.heap.size (.slice (some ⟨b,0,none⟩) s.n s.n) (ofS s.get s.n)∧Below w.heap.size w w':=by
 have cs:=Dsk.size_any g bs bw s w h
 have cr:=fun (W:World) (i:Nat) (hi:i<s.n) (hW:Below w.heap.size w W)=>Dsk.read_ok g bs bw s i W (h.below hW) hd hi
 obtain ⟨n,hnn⟩:∃ n,n=s.n:=⟨_,rfl⟩
 rw [← hnn] at cs cr hn ⊢
 obtain ⟨F,hF⟩:∃ F,F=s.get:=⟨_,rfl⟩
 rw [← hF] at cr ⊢
 have hmk:=fun (W:World)=>make_slices n hn W
 have hgt:=fun i hi=>ofS_get F n i hi
 have hln:=ofS_len F n
 obtain ⟨L,hL⟩:∃ L,L=ofS F n:=⟨_,rfl⟩
 rw [← hL] at hgt hln ⊢
 have HGT:=Lib.hid hgt;clear hgt
 have HLN:=Lib.hid hln;clear hln
 have CS:=Lib.hid cs;clear cs
 have CR:=Lib.hid cr;clear cr
 clear h hd hnn hF hL
 go_enter Tryz.func68,Tryz.ntmps68
 go_wp2_with (go_at_call 49;refine (CS.out).mono ?_;rintro e w' ⟨rfl,rfl⟩)
 go_loopw [13] (fun i wr=>∃ k:Nat,k≤n∧i=.int .i64 k∧Made wr w.heap.size n k F∧Below w.heap.size w wr) (fun i _=>n - (intOf i).toNat)
 case atStart=>exact ⟨0,Nat.zero_le _,rfl,made_new w n F,palloc (Below.refl _ _) _⟩
 case round =>
  obtain ⟨k,hk,rfl,hmd,hbw⟩:=hrel
  have HB:=Lib.hid hbw;clear hbw
  have HMK:=Lib.hid hmd;clear hmd
  by_cases hlt:k<n
  ·go_wp2_with (go_at_call 50;refine (CR.out _ k hlt HB.out).mono ?_;rintro e w4 ⟨v4,rfl,hs4,hb4⟩;obtain ⟨A4,n4,c4,rfl,_⟩:=id hs4;have HS4:=Lib.hid hs4;have HM4:=Lib.hid (HMK.out.below hb4);have HB4:=Lib.hid (HB.out.trans (hb4.mono HB.out.size));obtain ⟨⟨uk,huk,huo⟩,hfk4,hg4⟩:=HM4.out.cell hlt;clear hb4 hs4)
   go_roundw
   case rel=>exact ⟨k+1,by omega,by go_num,HM4.out.step hlt HS4.out,HB4.out.grown (grown_set w4 ⟨w.heap.size,k,none⟩ _) HB4.out.size (fun q hq=>by cases hq;exact Nat.le_refl _)⟩
   case measure=>simp [intOf];omega
  ·obtain rfl:k=n:=by omega
   go_wp2
   go_ret2
   exact ⟨_,rfl,HMK.out.sls (by unfold maxLen;omega) HLN.out (fun i hi=>HGT.out i hi),HB.out⟩
theorem sz32 (w:World):(sizeOf (Tryz.prog.elem 33)).run Tryz.prog w=.ok 1 w:=by kernel_rfl
theorem un32:Tryz.prog.underlying 33=some (.slice (Tryz.prog.elem 33)):=by kernel_rfl
theorem sls_sliced {w:World} {B n cap:Nat} {A:Option Addr} {ss:List (List Nat)} (h:Sls w B (.slice A n cap) ss) (i k:Nat) (hik:i≤k) (hk:k≤n) :
  ∃ A',(∀ W,(Instr.slice 33 (.slice A n cap) (some (.int .i64 (i:Nat))) (some (.int .i64 (k:Nat))) none).run Tryz.prog W=.ok (.slice A' (k - i) (cap - i)) W)∧Sls w B (.slice A' (k - i) (cap - i)) ((ss.drop i).take (k - i))∧(A'=none→A=none):=by
 obtain ⟨hl,hnc,hcm⟩:=sls_len h
 have e:∃ A',sliced A i k cap 1=.slice A' (k - i) (cap - i)∧(i<n→A'=A.map (·.add (i*1)))∧(A'=none→A=none):=by
  unfold sliced
  refine ⟨_,rfl,fun hi=>?_,fun e0=>?_⟩
  ·rw [if_neg (by omega)]
  ·cases A with
   | none=>rfl
   | some ad=>split at e0 <;> simp_all
 obtain ⟨A',e1,e2,e3⟩:=e
 refine ⟨A',fun W=>?_,⟨A',_,_,rfl,by simp;omega,by omega,by omega,fun h0=>?_⟩,e3⟩
 ·rw [run_slice_lh W _ A n cap un32 .i64 .i64 i k (by omega) (by omega) (by omega),sz32]
  simp only [Result.andThen,Int.toNat_natCast,e1]
 ·obtain ⟨b,off,rfl,hb,hc⟩:=sls_at h (by omega)
  refine ⟨b,off+i,by rw [e2 (by omega)];simp [add_plain],hb,fun j hj=>?_⟩
  obtain ⟨u,hu,hs⟩:=hc (i+j) (by omega)
  refine ⟨u,by rw [Nat.add_assoc];exact hu,?_⟩
  have:((ss.drop i).take (k - i)).getD j []=ss.getD (i+j) []:=by simp [List.getD,List.getElem?_drop,hj]
  rw [this]
  exact hs
set_option maxRecDepth 20000 in
set_option maxHeartbeats 2000000 in
theorem slotOf_any (k:Nat) (gen:Int) (A:Option Addr) (c:Nat) (D:Nat→List Nat) (w:World) (h1:6≤k) (h2:k≤1000) (hg0:0≤gen) (hg:gen≤9223372036854775807) (h:Sls w w.heap.size (.slice A k c) (ofS D k)) :
  Calls Tryz.prog 119 #[plV (sl k:Nat) (2*(sl k:Nat)) (lg k:Nat),.slice A k c,.int .i64 gen] w fun e w'=>∃ A' c',e=.returned (.slice A' (sl k) c')∧Sls w' w'.heap.size (.slice A' (sl k) c') (ofS (fun j=>D (slotAt (sl k) gen+j)) (sl k))∧(A'=none→A=none)∧Below w.heap.size w w':=by
 have hs:=sl_le k
 have hlt:=slotAt_lt (sl:=sl k) (g:=gen) (j:=sl k - 1) (by have:=sl_pos (k:=k) (by omega);omega)
 have hp:=sl_pos (k:=k) (by omega)
 obtain ⟨A',hrun,hcut,hnil⟩:=sls_sliced h (slotAt (sl k) gen) (slotAt (sl k) gen+sl k) (by omega) (by omega)
 rw [ofS_cut D (by omega) (by omega)] at hcut
 have sk:=fun (W:World)=>slot_k k gen W h1 (by omega) hg0 hg
 rw [Nat.add_sub_cancel_left] at hcut hrun
 obtain ⟨f,hf⟩:∃ f,f=slotAt (sl k) gen:=⟨_,rfl⟩
 rw [← hf] at sk hrun hcut hlt ⊢
 obtain ⟨t,ht⟩:∃ t,t=f+sl k:=⟨_,rfl⟩
 rw [← ht] at sk hrun
 obtain ⟨c',hc'⟩:∃ c',c'=c - f:=⟨_,rfl⟩
 rw [← hc'] at hrun hcut
 generalize lg k=l at *
 generalize sl k=m at *
 have SK:=Lib.hid sk;clear sk
 have HC:=Lib.hid hcut;clear hcut
 clear h hf ht hc'
 have HB0:=Lib.hid (palloc (Below.refl w.heap.size w) (.cells #[.int .i64 (m:Nat),.int .i64 (2*(m:Nat)),.int .i64 (l:Nat)] 37))
 go_enter Tryz.func119,Tryz.ntmps119
 go_wp2_with (go_at_call 168;refine (SK.out _).mono ?_;rintro e w' ⟨rfl,hb⟩;have HB:=Lib.hid (HB0.out.trans (hb.mono HB0.out.size));clear hb)
 go_ret
 exact ⟨_,_,rfl,HC.out.up HB.out,hnil,HB.out⟩
end Go.Proofs.YtplpmemlaohlaaaGreat.Wl
namespace Go.Proofs.YtplpmemlaohlaaaGreat.Wl
open Go.RowKit Mem Pg Rcd Slt
open Plt (sl plV sl_le sl_pos)
set_option linter.unusedVariables false
set_option linter.unusedSimpArgs false
def newTo (D:Nat→List Nat) (f t k:Nat):Bool:=(List.range k).all fun i=>(decide (f≤i) && decide (i<t)) || decide (D i=Pg.noughts)
theorem newTo_step {D:Nat→List Nat} {f t k:Nat} (h:newTo D f t k=true):newTo D f t (k+1)=((decide (f≤k) && decide (k<t)) || decide (D k=Pg.noughts)):=by
 unfold newTo at h ⊢
 rw [List.range_succ,List.all_append,h]
 simp
theorem newTo_no {D:Nat→List Nat} {f t k n:Nat} (hk:k<n) (h:newTo D f t (k+1)=false):newTo D f t n=false:=by
 cases e:newTo D f t n with
 | false=>rfl
 | true =>
  exfalso
  have:newTo D f t (k+1)=true:=by
   unfold newTo at e ⊢
   rw [List.all_eq_true] at e ⊢
   intro i hi
   exact e i (by rw [List.mem_range] at hi ⊢;omega)
  rw [this] at h
  cases h
set_option maxRecDepth 20000 in
set_option maxHeartbeats 2000000 in
theorem isNew_any (k:Nat) (A:Option Addr) (c:Nat) (D:Nat→List Nat) (w:World) (h1:6≤k) (h2:k≤1000) (h:Sls w w.heap.size (.slice A k c) (ofS D k)) :
  Calls Tryz.prog 120 #[plV (sl k:Nat) (2*(sl k:Nat)) (lg k:Nat),.slice A k c] w fun e w'=>e=.returned (.bool (newTo D (slotAt (sl k) 1) (slotAt (sl k) 1+sl k) k))∧Below w.heap.size w w':=by
 have sk:=fun (W:World)=>slot_k k 1 W h1 (by omega) (by omega) (by omega)
 have hgt:=fun i hi=>ofS_get D k i hi
 obtain ⟨f,hf⟩:∃ f,f=slotAt (sl k) 1:=⟨_,rfl⟩
 rw [← hf] at sk ⊢
 obtain ⟨t,ht⟩:∃ t,t=f+sl k:=⟨_,rfl⟩
 rw [← ht] at sk ⊢
 generalize ofS D k=L at *
 have HGT:=Lib.hid hgt;clear hgt
 have HS:=Lib.hid h;clear h
 generalize lg k=l at *
 generalize sl k=m at *
 have SK:=Lib.hid sk;clear sk
 clear hf ht
 have HB0:=Lib.hid (palloc (Below.refl w.heap.size w) (.cells #[.int .i64 (m:Nat),.int .i64 (2*(m:Nat)),.int .i64 (l:Nat)] 37))
 go_enter Tryz.func120,Tryz.ntmps120
 go_wp2_with (go_at_call 168;refine (SK.out _).mono ?_;rintro e w1 ⟨rfl,hb⟩;have HB:=Lib.hid (HB0.out.trans (hb.mono HB0.out.size));clear hb)
 go_loopw [16] (fun i wr=>∃ j:Nat,j≤k∧i=.int .i64 j∧newTo D f t j=true∧Below w.heap.size w wr) (fun i _=>k - (intOf i).toNat)
 case atStart=>exact ⟨0,Nat.zero_le _,rfl,rfl,HB.out⟩
 case round =>
  obtain ⟨j,hj,rfl,hnt,hbw⟩:=hrel
  have HBW:=Lib.hid hbw;clear hbw
  have HNT:=Lib.hid hnt;clear hnt
  by_cases hlt:j<k
  ·obtain ⟨b,off,e,hb,hc⟩:=sls_at HS.out (by omega)
   subst e
   obtain ⟨u,hu,hus⟩:=hc j hlt
   rw [HGT.out j hlt] at hus
   obtain ⟨A1,n1,c1,rfl,hbt,_⟩:=id hus
   have hu':wr.cell? ⟨b,off+j,none⟩=some (.slice A1 n1 c1):=by rw [HBW.out.cell (p:=⟨b,off+j,none⟩) hb];exact hu
   have bl:=blank_any A1 n1 c1 w.heap.size (D j) wr (hbt.below HBW.out (Nat.le_refl _)) HBW.out.size
   have hst:=newTo_step HNT.out
   have hno:=@newTo_no D f t j k hlt
   obtain ⟨bb,hbb⟩:∃ bb,bb=decide (D j=Pg.noughts):=⟨_,rfl⟩
   rw [← hbb] at bl hst
   have BL:=Lib.hid bl;clear bl hbb
   have HST:=Lib.hid hst;clear hst
   have HNO:=Lib.hid hno;clear hno
   clear hu hc hus hbt
   by_cases hjf:j<f
   ·have e1:newTo D f t (j+1)=bb:=by rw [HST.out,decide_eq_false (by omega)];simp
    have E1:=Lib.hid e1;clear e1
    cases bb
    ·go_wp2_with (go_at_call 169;refine (BL.out).mono ?_;rintro e w2 ⟨rfl,hb2⟩;have HB2:=Lib.hid (HBW.out.trans (hb2.mono HBW.out.size));clear hb2)
     go_ret
     exact ⟨ret_bool (HNO.out E1.out).symm,HB2.out⟩
    ·go_wp2_with (go_at_call 169;refine (BL.out).mono ?_;rintro e w2 ⟨rfl,hb2⟩;have HB2:=Lib.hid (HBW.out.trans (hb2.mono HBW.out.size));clear hb2)
     go_roundw
     case rel=>exact ⟨j+1,by omega,by go_num,E1.out,HB2.out⟩
     case measure=>simp [intOf];omega
   ·by_cases hjt:t≤j
    ·have e1:newTo D f t (j+1)=bb:=by rw [HST.out,decide_eq_false (by omega:¬ j<t)];simp
     have E1:=Lib.hid e1;clear e1
     cases bb
     ·go_wp2_with (go_at_call 169;refine (BL.out).mono ?_;rintro e w2 ⟨rfl,hb2⟩;have HB2:=Lib.hid (HBW.out.trans (hb2.mono HBW.out.size));clear hb2)
      go_ret
      exact ⟨ret_bool (HNO.out E1.out).symm,HB2.out⟩
     ·go_wp2_with (go_at_call 169;refine (BL.out).mono ?_;rintro e w2 ⟨rfl,hb2⟩;have HB2:=Lib.hid (HBW.out.trans (hb2.mono HBW.out.size));clear hb2)
      go_roundw
      case rel=>exact ⟨j+1,by omega,by go_num,E1.out,HB2.out⟩
      case measure=>simp [intOf];omega
    ·have e1:newTo D f t (j+1)=true:=by rw [HST.out,decide_eq_true (by omega:f≤j),decide_eq_true (by omega:j<t)];simp
     have E1:=Lib.hid e1;clear e1
     go_wp2
     go_roundw
     case rel=>exact ⟨j+1,by omega,by go_num,E1.out,HBW.out⟩
     case measure=>simp [intOf];omega
  ·obtain rfl:j=k:=by omega
   go_wp2
   go_ret
   exact ⟨ret_bool HNT.out.symm,HBW.out⟩
set_option maxRecDepth 20000 in
set_option maxHeartbeats 2000000 in
theorem log_any (k:Nat) (A:Option Addr) (c:Nat) (D:Nat→List Nat) (w:World) (h1:6≤k) (h2:k≤1000) (h:Sls w w.heap.size (.slice A k c) (ofS D k)) :
  Calls Tryz.prog 72 #[plV (sl k:Nat) (2*(sl k:Nat)) (lg k:Nat),.slice A k c] w fun e w'=>∃ b,e=.returned (.slice (some ⟨b,0,none⟩) (lg k) (lg k))∧Sls w' w'.heap.size (.slice (some ⟨b,0,none⟩) (lg k) (lg k)) (ofS (fun i=>D (2*sl k+i)) (lg k))∧Below w.heap.size w w':=by
 have hlk:lg k≤1000∧2*sl k+lg k=k:=by have:=sl_le k;unfold lg;omega
 have at_:=fun (W:World) (i:Nat) (hi:i<lg k)=>at_k k i W h1 (by omega) hi
 have hgt:=fun i hi=>ofS_get D k i hi
 obtain ⟨F,hF⟩:∃ F:Nat→List Nat,F=fun i=>D (2*sl k+i):=⟨_,rfl⟩
 have hgF:∀ i,F i=D (2*sl k+i):=fun i=>by rw [hF]
 rw [← hF]
 have hg2:=fun i hi=>ofS_get F (lg k) i hi
 have hl2:=ofS_len F (lg k)
 generalize ofS F (lg k)=L2 at *
 generalize ofS D k=L at *
 have HGT:=Lib.hid hgt;clear hgt
 have HGF:=Lib.hid hgF;clear hgF
 have HG2:=Lib.hid hg2;clear hg2
 have HL2:=Lib.hid hl2;clear hl2
 have HS:=Lib.hid h;clear h
 clear hF
 generalize lg k=l at *
 generalize sl k=m at *
 have AT:=Lib.hid at_;clear at_
 obtain ⟨hl1,hml⟩:=hlk
 have HML:=Lib.hid hml;clear hml
 have hmk:=fun (W:World)=>make_slices l hl1 W
 have kp:=Blk.new w 37 #[.int .i64 (m:Nat),.int .i64 (2*(m:Nat)),.int .i64 (l:Nat)]
 have HB0:=Lib.hid (palloc (Below.refl w.heap.size w) (.cells #[.int .i64 (m:Nat),.int .i64 (2*(m:Nat)),.int .i64 (l:Nat)] 37))
 have KP:=Lib.hid kp;clear kp
 go_enter Tryz.func72,Tryz.ntmps72
 go_wp2
 generalize hw1:w.alloc (.cells #[.int .i64 (m:Nat),.int .i64 (2*(m:Nat)),.int .i64 (l:Nat)] 37)=w1 at *
 have hg1:w1.heap.size=w.heap.size+1:=by rw [← hw1];simp
 have hmd:=made_new w1 l F
 have hbm:=palloc (Below.refl w1.heap.size w1) (Obj.cells (List.replicate l (Value.slice none 0 0)).toArray 74)
 rw [hg1] at hmd hbm
 have HG1:=Lib.hid hg1;clear hg1 hw1
 go_loopw [12] (fun i wr=>∃ j:Nat,j≤l∧i=.int .i64 j∧Made wr (w.heap.size+1) l j F∧Below (w.heap.size+1) w1 wr) (fun i _=>l - (intOf i).toNat)
 case atStart=>exact ⟨0,Nat.zero_le _,rfl,hmd,hbm⟩
 case round =>
  obtain ⟨j,hj,rfl,hmd,hbw⟩:=hrel
  have HBW:=Lib.hid hbw;clear hbw
  have HMK:=Lib.hid hmd;clear hmd
  by_cases hlt:j<l
  ·obtain ⟨b,off,e,hb,hc⟩:=sls_at HS.out (by have:=HML.out;omega)
   subst e
   obtain ⟨u,hu,hus⟩:=hc (2*m+j) (by have:=HML.out;omega)
   rw [HGT.out _ (by have:=HML.out;omega),← HGF.out j] at hus
   have hbl:=HB0.out.trans (HBW.out.mono (Nat.le_succ _))
   have kpw:=KP.out.below HBW.out (Nat.lt_succ_self _)
   have p0:=kpw.cell 0
   have p1:=kpw.cell 1
   have p2:=kpw.cell 2
   have hzp:=kpw.lt
   simp at p0 p1 p2
   have HUS:=Lib.hid ((hus.below hbl (Nat.le_refl _)).more hbl.size)
   obtain ⟨A1,n1,c1,rfl,_⟩:=id hus
   have hu':wr.cell? ⟨b,off+(2*m+j),none⟩=some (.slice A1 n1 c1):=by rw [hbl.cell (p:=⟨b,off+(2*m+j),none⟩) hb];exact hu
   have HBL:=Lib.hid hbl
   have HU:=Lib.hid hu'
   have HBB:=Lib.hid hb
   clear hu hc hus hbl hu' kpw hb
   obtain ⟨q,hq⟩:∃ q,q=2*m+j:=⟨_,rfl⟩
   have hat:=fun (W:World)=>AT.out W j hlt
   rw [← hq] at hat HU
   have hqk:q<k:=by have:=HML.out;omega
   have HAT:=Lib.hid hat;clear hat hq
   go_wp2_with (go_at_call 101;refine (HAT.out _).mono ?_;rintro e w2 ⟨rfl,hb2⟩;have hu2:=(hb2.cell (p:=⟨b,off+q,none⟩) (Nat.lt_of_lt_of_le HBB.out HBL.out.size)).trans HU.out;have HM2:=Lib.hid (HMK.out.below hb2);have HB2:=Lib.hid (HBW.out.trans (hb2.mono (Nat.le_trans (by rw [HG1.out];exact Nat.le_refl _) HBW.out.size)));have HS2:=Lib.hid ((HUS.out.below hb2 (Nat.le_refl _)).more hb2.size);obtain ⟨⟨uk,huk,huo⟩,hfk4,hg4⟩:=HM2.out.cell hlt;clear hb2)
   go_roundw
   case rel=>exact ⟨j+1,by omega,by go_num,HM2.out.step hlt HS2.out,HB2.out.grown (grown_set w2 ⟨w.heap.size+1,j,none⟩ _) (Nat.le_trans (by rw [HG1.out];exact Nat.le_refl _) HB2.out.size) (fun q hq=>by cases hq;exact Nat.le_refl _)⟩
   case measure=>simp [intOf];omega
  ·obtain rfl:j=l:=by omega
   go_wp2
   go_ret
   exact ⟨_,rfl,HMK.out.sls (by unfold maxLen;omega) HL2.out (fun i hi=>HG2.out i hi),HB0.out.trans (HBW.out.mono (Nat.le_succ _))⟩
set_option maxRecDepth 20000 in
set_option maxHeartbeats 4000000 in
theorem wpages_any (A:Option Addr) (n c:Nat) (ss:List (List Nat)) (w:World) (h:Sls w w.heap.size (.slice A n c) ss) (hn:n≤1000) (hlen:∀ s∈ss,s.length≤600) :
  Calls Tryz.prog 122 #[.slice A n c] w fun e w'=>∃ v',e=.returned v'∧PgRow w' w.heap.size v' (pagesOf ss)∧Below w.heap.size w w':=by
 obtain ⟨hsl,hnc,hcm⟩:=sls_len h
 obtain ⟨ts,hts⟩:∃ ts,ts=ss:=⟨_,rfl⟩
 rw [← hts] at h hlen hsl ⊢
 clear hts
 have HSL:=Lib.hid hsl;clear hsl
 have HS:=Lib.hid h;clear h
 have HLN:=Lib.hid hlen;clear hlen
 obtain ⟨i0,hi,hz0,hz1,hz2⟩:=info_parts info24
 have HI:=Lib.hid hi;clear hi
 have HZ0:=Lib.hid hz0;clear hz0
 have HZ1:=Lib.hid hz1;clear hz1
 have HZ2:=Lib.hid hz2;clear hz2
 go_enter Tryz.func122,Tryz.ntmps122
 go_wp2
 go_loopw [3,10] (fun v i wr=>∃ k:Nat,k≤n∧i=.int .i64 k∧(pagesOf (ts.take k)).length=k∧PgRow wr w.heap.size v (pagesOf (ts.take k))∧Below w.heap.size w wr) (fun _ i _=>n - (intOf i).toNat)
 case atStart=>exact ⟨0,Nat.zero_le _,rfl,rfl,pgRow_nil _ _,Below.refl _ _⟩
 case round =>
  obtain ⟨k,hk,rfl,hpk,hrow,hbw⟩:=hrel
  have HB:=Lib.hid hbw;clear hbw
  have HROW:=Lib.hid hrow;clear hrow
  have HPK:=Lib.hid hpk;clear hpk
  by_cases hlt:k<n
  ·obtain ⟨b,off,e,hb,hc⟩:=sls_at HS.out (by omega)
   subst e
   obtain ⟨u,hu,hus⟩:=hc k hlt
   obtain ⟨A1,n1,c1,rfl,_⟩:=id hus
   have hu':wr.cell? ⟨b,off+k,none⟩=some (.slice A1 n1 c1):=by rw [HB.out.cell (p:=⟨b,off+k,none⟩) hb];exact hu
   have hsl1:(ts.getD k []).length≤600:=HLN.out _ (getD_mem_sl (by have:=HSL.out;omega))
   have hpt:=pagesOf_take HPK.out (by have:=HSL.out;omega)
   have hps:=fun hg=>pagesOf_stop HPK.out (by have:=HSL.out;omega) hg
   obtain ⟨s,hs⟩:∃ s,s=ts.getD k []:=⟨_,rfl⟩
   rw [← hs] at hus hsl1 hpt hps
   have hup:=sl_up hus HB.out
   have HUP:=Lib.hid hup;clear hup hus hc hs hu
   cases hg:got s with
   | none =>
    have hp2:=hps hg
    have HP2:=Lib.hid hp2;clear hp2 hpt hps
    have gt:=get_none _ s wr HUP.out (by omega) hg
    have GT:=Lib.hid gt;clear gt hg
    go_wp2_with (go_at_call 62;refine (GT.out).mono ?_;rintro e w4 ⟨A4,n4,c4,rfl,hb4⟩;have HR4:=Lib.hid ((HROW.out).below (palloc hb4 (Obj.cells #[.int .i64 0,.int .i64 0,.int .i64 0,.int .i64 0,.int .i64 0,.int .i64 0,.slice A4 n4 c4] 125)));have HB4:=Lib.hid (HB.out.trans ((palloc hb4 (Obj.cells #[.int .i64 0,.int .i64 0,.int .i64 0,.int .i64 0,.int .i64 0,.int .i64 0,.slice A4 n4 c4] 125)).mono HB.out.size));clear hb4)
    go_ret
    rw [HP2.out]
    exact ⟨_,rfl,HR4.out,HB4.out⟩
   | some p =>
    have hp2:pagesOf (ts.take (k+1))=pagesOf (ts.take k)++[p]:=by rw [hpt,hg]
    have HP2:=Lib.hid hp2;clear hp2 hpt hps
    obtain ⟨ps,hps⟩:∃ ps,ps=pagesOf (ts.take k):=⟨_,rfl⟩
    rw [← hps] at HROW HP2 HPK
    clear hps
    have gt:=get_some _ s p wr HUP.out (by omega) hg
    have GT:=Lib.hid gt;clear gt hg
    have hk16:k<1000:=by omega
    go_wp2_with (first
     | (go_at_call 62;refine (GT.out).mono ?_;rintro e w4 ⟨A4,n4,c4,rfl,hbt4,hb4⟩;obtain ⟨vs,hvl,hown4,hvs⟩:=(HROW.out).below hb4;have HVL:=Lib.hid hvl;have HOW:=Lib.hid hown4;have HVS:=Lib.hid hvs;have HBT:=Lib.hid hbt4;have HB4:=Lib.hid (HB.out.trans (hb4.mono HB.out.size));have hz4:=HB4.out.size;clear hb4 hbt4 hvl hown4 hvs)
     | (at_builtin;refine wpList_append_n _ rfl (.tmp 21) (.tmp 23) 163 rfl w.heap.size 125 i0 zPg 7 72 Tryz.underlying163 HI.out HZ0.out HZ1.out HZ2.out rfl (by decide) zPg_nob u3 ps.length (flat ps vs) rfl ?own ((w4.alloc (Obj.cells #[.int .i64 p.kind,.int .i64 p.gen,.int .i64 p.mark,.int .i64 p.index,.int .i64 p.part,.int .i64 p.parts,.slice A4 n4 c4] 125)).heap.size+1) (some ⟨(w4.alloc (Obj.cells #[.int .i64 p.kind,.int .i64 p.gen,.int .i64 p.mark,.int .i64 p.index,.int .i64 p.part,.int .i64 p.parts,.slice A4 n4 c4] 125)).heap.size,0,none⟩) 1 1 (row p (.slice A4 n4 c4)) ?hx ?hr (row_one _ _ _ _) (row_nob _ _ _ _) ?h63 ?hby ?hbase ?_;(case own=>exact HOW.out.below (palloc (palloc (Below.refl _ _) _) _));(case hx=>first | rfl | simp [Act.eval]);(case hr=>exact reads_page _ _ _ rfl rfl);(case h63=>(have:=HPK.out;unfold maxLen;omega));(case hby=>(have:=HPK.out;omega));(case hbase=>(simp;omega));intro v5 w5 hown5 hg5 _;have hbw:=palloc (palloc (Below.refl w4.heap.size w4) (Obj.cells #[.int .i64 p.kind,.int .i64 p.gen,.int .i64 p.mark,.int .i64 p.index,.int .i64 p.part,.int .i64 p.parts,.slice A4 n4 c4] 125)) (Obj.cells #[.int .i64 p.kind,.int .i64 p.gen,.int .i64 p.mark,.int .i64 p.index,.int .i64 p.part,.int .i64 p.parts,.slice A4 n4 c4] 125);have HR5:=Lib.hid (pgRow_push (q:=p) HVL.out HOW.out HVS.out ⟨A4,n4,c4,rfl,HBT.out⟩ hbw hown5 hg5);have HB5:=Lib.hid ((HB4.out.trans (hbw.mono HB4.out.size)).grown hg5 (HB4.out.trans (hbw.mono HB4.out.size)).size (fun q hq=>(HOW.out.1.lt q hq).1));clear hown5 hg5 hbw))
    go_roundw
    case rel=>exact ⟨k+1,by omega,by go_num,by rw [HP2.out,List.length_append,HPK.out];rfl,by rw [HP2.out];exact HR5.out,HB5.out⟩
    case measure=>simp [intOf];omega
  ·obtain rfl:k=n:=by omega
   have htk:ts.take k=ts:=List.take_of_length_le (by have:=HSL.out;omega)
   rw [htk] at HROW
   go_wp2
   go_ret
   exact ⟨_,rfl,HROW.out,HB.out⟩
end Go.Proofs.YtplpmemlaohlaaaGreat.Wl
namespace Go.Proofs.YtplpmemlaohlaaaGreat.Wl
open Go.RowKit Mem Pg Rcd Slt
open Plt (sl plV sl_le sl_pos)
set_option linter.unusedVariables false
set_option linter.unusedSimpArgs false
set_option maxHeartbeats 2000000 in
theorem isAt_any (p:P) (A:Option Addr) (n c:Nat) (g:Int) (i:Nat) (w:World) :
  Calls Tryz.prog 123 #[.agg #[.int .i64 p.kind,.int .i64 p.gen,.int .i64 p.mark,.int .i64 p.index,.int .i64 p.part,.int .i64 p.parts,.slice A n c],.int .i64 g,.int .i64 (i:Nat)] w fun e w'=>e=.returned (.bool (atB p g i))∧Below w.heap.size w w':=by
 obtain ⟨kind,gen,mark,index,part,parts_,b⟩:=p
 unfold atB
 simp only
 have hb:=palloc (Below.refl w.heap.size w) (Obj.cells #[.int .i64 kind,.int .i64 gen,.int .i64 mark,.int .i64 index,.int .i64 part,.int .i64 parts_,.slice A n c] 125)
 have HB:=Lib.hid hb;clear hb
 by_cases h1:kind=2
 ·have b1:(kind == 2)=true:=by simpa using h1
  rw [decide_eq_true h1,Bool.true_and]
  by_cases h2:gen=g
  ·have b2:(gen == g)=true:=by simpa using h2
   rw [decide_eq_true h2,Bool.true_and]
   by_cases h3:index=(i:Int)
   ·have b3:(index == (i:Int))=true:=by simpa using h3
    rw [decide_eq_true h3]
    clear h1 h2 h3
    go_enter Tryz.func123,Tryz.ntmps123
    go_wp2
    go_ret
    exact ⟨rfl,HB.out⟩
   ·have b3:(index == (i:Int))=false:=by simpa using h3
    rw [decide_eq_false h3]
    clear h1 h2 h3
    go_enter Tryz.func123,Tryz.ntmps123
    go_wp2
    go_ret
    exact ⟨rfl,HB.out⟩
  ·have b2:(gen == g)=false:=by simpa using h2
   rw [decide_eq_false h2,Bool.false_and]
   clear h1 h2
   go_enter Tryz.func123,Tryz.ntmps123
   go_wp2
   go_ret
   exact ⟨rfl,HB.out⟩
 ·have b1:(kind == 2)=false:=by simpa using h1
  rw [decide_eq_false h1,Bool.false_and,Bool.false_and]
  clear h1
  go_enter Tryz.func123,Tryz.ntmps123
  go_wp2
  go_ret
  exact ⟨rfl,HB.out⟩
theorem pages_ofS (D:Nat→List Nat) (k:Nat):pagesOf (ofS D k)=run (fun i=>got (D i)) k 0:=by
 have h:=pagesOf_run D 0 k
 have e:(fun j=>D (0+j))=D:=by funext j;rw [Nat.zero_add]
 have e2:slotF D 0=fun i=>got (D i):=by funext i;unfold slotF;rw [Nat.zero_add]
 rw [e,e2] at h
 exact h
theorem sz90 (w:World):(sizeOf (Tryz.prog.elem 163)).run Tryz.prog w=.ok 7 w:=by kernel_rfl
theorem un90:Tryz.prog.underlying 163=some (.slice (Tryz.prog.elem 163)):=by kernel_rfl
theorem pgs_drop {w:World} {B n c:Nat} {b off:Nat} {ps:List P} (h:Pgs w B (.slice (some ⟨b,off,none⟩) n c) ps) (i:Nat) (hi:i<n) :
  (∀ W,(Instr.slice 163 (.slice (some ⟨b,off,none⟩) n c) (some (.int .i64 (i:Nat))) none none).run Tryz.prog W=.ok (.slice (some ⟨b,off+i*7,none⟩) (n - i) (c - i)) W)∧Pgs w B (.slice (some ⟨b,off+i*7,none⟩) (n - i) (c - i)) (ps.drop i):=by
 obtain ⟨hl,hnc,hcm⟩:=pgs_len h
 refine ⟨fun W=>?_,⟨_,_,_,rfl,by rw [List.length_drop];omega,by omega,by omega,fun h0=>?_⟩⟩
 ·rw [run_slice_l W _ _ n c un90 .i64 i (by omega) (by omega),sz90]
  simp only [Result.andThen,Int.toNat_natCast]
  unfold sliced
  rw [if_neg (by omega)]
  simp [add_plain]
 ·obtain ⟨b',off',e,hb,hc⟩:=pgs_at h (by omega)
  injection e with e
  injection e with e1 e2 _
  subst e1 e2
  refine ⟨b,off+i*7,rfl,hb,fun j hj=>?_⟩
  obtain ⟨v,hr,hs⟩:=hc (i+j) (by omega)
  have e3:(ps.drop i).getD j noP=ps.getD (i+j) noP:=by simp [List.getD,List.getElem?_drop]
  rw [e3]
  exact ⟨v,by rw [show off+i*7+j*7=off+(i+j)*7 by omega];exact hr,hs⟩
set_option maxRecDepth 20000 in
set_option maxHeartbeats 4000000 in
theorem records_any (A:Option Addr) (n c:Nat) (D:Nat→List Nat) (g:Int) (w:World) (h:Sls w w.heap.size (.slice A n c) (ofS D n)) (hn:n≤1000) (hlen:∀ s∈ofS D n,s.length≤600) :
  Calls Tryz.prog 71 #[.slice A n c,.int .i64 g] w fun e w'=>∃ v',e=.returned (.tuple #[v',.int .i64 ((recsOf (ofLog (fun i=>got (D i)) g) n).2:Nat)])∧Sls w' w'.heap.size v' (recsOf (ofLog (fun i=>got (D i)) g) n).1∧Below w.heap.size w w':=by
 have pg:=wpages_any A n c (ofS D n) w h hn hlen
 have hmay:=pagesOf_may (ofS D n)
 rw [pages_ofS] at pg hmay
 obtain ⟨hf,hfe⟩:∃ hf,hf=fun i=>got (D i):=⟨_,rfl⟩
 rw [← hfe] at pg hmay ⊢
 have hrl:=run_len (f:=hf) n 0
 have hRN:=fun i hi hj=>rec_none (h:=hf) (g:=g) (log:=n) (i:=i) hi hj
 have hRS:=fun i p b m hi hp ha hj=>rec_some (h:=hf) (g:=g) (log:=n) (i:=i) (p:=p) (b:=b) (n:=m) hi hp ha hj
 have hRE:=fun i hi=>rec_end (h:=hf) (g:=g) (log:=n) (i:=i) hi
 have hRO:=fun i p hi hp ha=>rec_other (h:=hf) (g:=g) (log:=n) (i:=i) (p:=p) hi hp ha
 obtain ⟨ps,hps⟩:∃ ps,ps=run hf n 0:=⟨_,rfl⟩
 rw [← hps] at pg hmay hrl hRN hRS hRE hRO
 obtain ⟨F,hF⟩:∃ F,F=ofLog hf g:=⟨_,rfl⟩
 rw [← hF] at hRN hRS hRE hRO ⊢
 obtain ⟨T,hT⟩:∃ T,T=recsOf F n:=⟨_,rfl⟩
 rw [← hT]
 obtain ⟨hl6,hin⟩:=may_facts hmay
 obtain ⟨m,hm⟩:∃ m,m=ps.length:=⟨_,rfl⟩
 rw [← hm] at hrl hRN hRS hRE hRO
 have hm1:m≤1000:=by omega
 have PG:=Lib.hid pg;clear pg
 have HM:=Lib.hid hm;clear hm
 have HT:=Lib.hid hT;clear hT
 have HRN:=Lib.hid hRN;clear hRN
 have HRS:=Lib.hid hRS;clear hRS
 have HRE:=Lib.hid hRE;clear hRE
 have HRO:=Lib.hid hRO;clear hRO
 have HL6:=Lib.hid hl6;clear hl6
 have HIN:=Lib.hid hin;clear hin
 clear hps hF hfe h hlen hmay
 obtain ⟨i0,hi,hz0,hz1,hz2⟩:=info_parts info25
 have HI:=Lib.hid hi;clear hi
 have HZ0:=Lib.hid hz0;clear hz0
 have HZ1:=Lib.hid hz1;clear hz1
 have HZ2:=Lib.hid hz2;clear hz2
 go_enter Tryz.func71,Tryz.ntmps71
 go_wp2_with (go_at_call 122;refine (PG.out).mono ?_;rintro e w1 ⟨v1,rfl,hrow,hb⟩;have hpg:=pgRow_pgs hrow;obtain ⟨A1,n1,c1,rfl,_⟩:=id hpg;obtain rfl:n1=m:=(by have h1:=(pgs_len hpg).1;have:=HM.out;omega);have HB1:=Lib.hid hb;have HP1:=Lib.hid hpg;clear hpg hrow hb)
 go_loopw [6,7] (fun v i wr=>∃ (k:Nat) (fs:List (List Nat)) (fu:Nat),k≤n1∧i=.int .i64 k∧T=(fs++(tail F n fu k).1,(tail F n fu k).2)∧n - k≤fu∧fs.length≤k∧SlRow wr w1.heap.size v fs∧Below w1.heap.size w1 wr) (fun _ i _=>n1 - (intOf i).toNat)
 case atStart=>exact ⟨0,[],n,Nat.zero_le _,rfl,by rw [HT.out];rfl,Nat.le_refl _,by simp,slRow_nil _ _,Below.refl _ _⟩
 case round =>
  obtain ⟨k,fs,fu,hk,rfl,hTT,hfu,hfl,hrow,hbw⟩:=hrel
  have HTT:=Lib.hid hTT;clear hTT
  have HBW:=Lib.hid hbw;clear hbw
  have HROW:=Lib.hid hrow;clear hrow
  have HFU:=Lib.hid hfu;clear hfu
  by_cases hlt:k<n1
  ·obtain ⟨b,off,e,hb,hc⟩:=pgs_at HP1.out (by omega)
   subst e
   obtain ⟨hcut,hpd⟩:=pgs_drop HP1.out k hlt
   obtain ⟨vb,hr,hs⟩:=hc k hlt
   have hpk:ps[k]?=some (ps.getD k noP):=by
    have:k<ps.length:=by rw [← HM.out];exact hlt
    simp [List.getD,List.getElem?_eq_getElem this]
   obtain ⟨p,hp⟩:∃ p,p=ps.getD k noP:=⟨_,rfl⟩
   rw [← hp] at hr hs hpk
   obtain ⟨A2,n2,c2,rfl,_⟩:=id hs
   have hrw:=rangeAt_below hr HBW.out hb
   have hld:=load_row wr b (off+k*7) p _ hrw
   have l0:=hrw 0 _ rfl
   have l1:=hrw 1 _ rfl
   have l2:=hrw 2 _ rfl
   have l3:=hrw 3 _ rfl
   have l4:=hrw 4 _ rfl
   have l5:=hrw 5 _ rfl
   have l6:=hrw 6 _ rfl
   simp only [Nat.add_zero] at l0
   have ia:=isAt_any p A2 n2 c2 g k wr
   have HRW:=Lib.hid hrw;clear hrw hr hs hc
   have HPK:=Lib.hid hpk;clear hpk
   have HPD:=Lib.hid hpd;clear hpd
   have ro:=HRO.out k p hlt HPK.out
   have rs:=fun b' m'=>HRS.out k p b' m' hlt HPK.out
   have RO:=Lib.hid ro;clear ro
   have RS:=Lib.hid rs;clear rs
   clear hp
   have hfu1:1≤fu:=by have:=HFU.out;omega
   cases ha:atB p g k with
   | false =>
    rw [ha] at ia
    have IA:=Lib.hid ia;clear ia
    have e1:=tail_none (k:=fu) (RO.out ha)
    have e2:=HTT.out
    rw [e1,List.append_nil] at e2
    have E2:=Lib.hid e2;clear e1 e2 ha
    go_wp2_with (go_at_call 123;refine (IA.out).mono ?_;rintro e w2 ⟨rfl,hb2⟩;have HB2:=Lib.hid (HB1.out.trans ((HBW.out.trans (hb2.mono HBW.out.size)).mono HB1.out.size));have HR2:=Lib.hid (HROW.out.below hb2);clear hb2)
    go_ret2
    rw [E2.out]
    exact ⟨_,rfl,slRow_sls HR2.out,HB2.out⟩
   | true =>
    rw [ha] at ia
    have IA:=Lib.hid ia;clear ia
    have jn:=fun (W:World) (hW:Below w1.heap.size w1 W)=>join_any (some ⟨b,off+k*7,none⟩) (n1 - k) (c1 - k) (ps.drop k) W ((HPD.out.below hW (Nat.le_refl _)).more hW.size) (by omega) (fun q hq=>HL6.out q (List.mem_of_mem_drop hq)) (fun q hq=>HIN.out q (List.mem_of_mem_drop hq))
    obtain ⟨d1,hd1⟩:∃ d1,d1=n1 - k:=⟨_,rfl⟩
    obtain ⟨d2,hd2⟩:∃ d2,d2=c1 - k:=⟨_,rfl⟩
    rw [← hd1,← hd2] at jn hcut
    cases hj:joined (ps.drop k) with
    | none =>
     have e0:=HRN.out k (Nat.le_of_lt hlt) hj
     have e1:=tail_none (k:=fu) e0
     have e2:=HTT.out
     rw [e1,List.append_nil] at e2
     have E2:=Lib.hid e2;clear e0 e1 e2 ha
     rw [hj,jb_none hj] at jn
     have JN:=Lib.hid jn;clear jn hj hd1 hd2
     go_wp2_with (first
      | (go_at_call 123;refine (IA.out).mono ?_;rintro e w2 ⟨rfl,hb2⟩;have HB2:=Lib.hid (HBW.out.trans (hb2.mono HBW.out.size));have HR2:=Lib.hid (HROW.out.below hb2);clear hb2)
      | (go_at_call 124;refine (JN.out _ HB2.out).mono ?_;rintro e w3 ⟨v3,rfl,hs3,hb3⟩;have HB3:=Lib.hid (HB1.out.trans ((HB2.out.trans (hb3.mono HB2.out.size)).mono HB1.out.size));have HR3:=Lib.hid (HR2.out.below hb3);obtain ⟨A3,n3,c3,rfl,_⟩:=id hs3;clear hb3 hs3))
     go_ret2
     rw [E2.out]
     exact ⟨_,rfl,slRow_sls HR3.out,HB3.out⟩
    | some y =>
     obtain ⟨bs,cnt⟩:=y
     obtain ⟨e0,hc1,hc2⟩:=RS.out bs cnt ha hj
     obtain ⟨fu',rfl⟩:∃ fu',fu=fu'+1:=⟨fu - 1,by omega⟩
     have e1:=tail_some (k:=fu') e0
     have e2:=HTT.out
     rw [e1] at e2
     have e3:T=(fs++[bs]++(tail F n fu' (k+cnt)).1,(tail F n fu' (k+cnt)).2):=by rw [e2,List.append_assoc];rfl
     have E3:=Lib.hid e3;clear e0 e1 e2 e3 ha
     rw [hj,jb_some hj] at jn
     simp only [Option.isSome_some] at jn
     have JN:=Lib.hid jn;clear jn hj hd1 hd2
     have hfs:fs.length≤1000:=by omega
     go_wp2_with (first
      | (go_at_call 123;refine (IA.out).mono ?_;rintro e w2 ⟨rfl,hb2⟩;have HB2:=Lib.hid (HBW.out.trans (hb2.mono HBW.out.size));have HR2:=Lib.hid (HROW.out.below hb2);clear hb2)
      | (go_at_call 124;refine (JN.out _ HB2.out).mono ?_;rintro e w3 ⟨v3,rfl,hs3,hb3⟩;have HB3:=Lib.hid (HB2.out.trans (hb3.mono HB2.out.size));obtain ⟨vs,hvl,hown4,hvs⟩:=(HR2.out).below hb3;obtain ⟨A3,n3,c3,rfl,_⟩:=id hs3;have HS3:=Lib.hid hs3;have HVL:=Lib.hid hvl;have HOW:=Lib.hid hown4;have HVS:=Lib.hid hvs;have hz3:=HB3.out.size;clear hb3 hs3 hvl hown4 hvs)
      | (at_builtin;refine wpList_append_n _ rfl (.tmp 37) (.tmp 39) 33 rfl w1.heap.size 74 i0 (.slice none 0 0) 1 24 Tryz.underlying33 HI.out HZ0.out HZ1.out HZ2.out rfl (by decide) zSl_nob u6 fs.length vs rfl ?own (w3.heap.size+1) (some ⟨w3.heap.size,0,none⟩) 1 1 [.slice A3 n3 c3] ?hx ?hr (by simp [Value.oneCell']) (by intro u hu;rw [List.mem_singleton.1 hu];rfl) ?h63 ?hby ?hbase ?_;(case own=>exact HOW.out.below (palloc (Below.refl _ _) _));(case hx=>first | rfl | simp [Act.eval]);(case hr=>exact reads_slice _ _ _ rfl);(case h63=>(unfold maxLen;omega));(case hby=>omega);(case hbase=>(simp;omega));intro v5 w5 hown5 hg5 _;have hbw:=palloc (Below.refl w3.heap.size w3) (Obj.cells #[.slice A3 n3 c3] 74);have HR5:=Lib.hid (slRow_push HVL.out HOW.out HVS.out HS3.out hbw hown5 hg5);have HB5:=Lib.hid ((HB3.out.trans (hbw.mono HB3.out.size)).grown hg5 (HB3.out.trans (hbw.mono HB3.out.size)).size (fun q hq=>(HOW.out.1.lt q hq).1));clear hown5 hg5 hbw))
     go_roundw
     case rel=>exact ⟨k+cnt,fs++[bs],fu',hc2,by go_num,E3.out,by have:=HFU.out;omega,by simp;omega,HR5.out,HB5.out⟩
     case measure=>simp [intOf];omega
  ·obtain rfl:k=n1:=by omega
   have e1:=tail_none (k:=fu) (HRE.out k rfl)
   have e2:=HTT.out
   rw [e1,List.append_nil] at e2
   have E2:=Lib.hid e2;clear e1 e2
   go_wp2
   go_ret2
   rw [E2.out]
   exact ⟨_,rfl,slRow_sls HROW.out,HB1.out.trans (HBW.out.mono HB1.out.size)⟩
end Go.Proofs.YtplpmemlaohlaaaGreat.Wl
namespace Go.Proofs.YtplpmemlaohlaaaGreat.Wl
open Go.RowKit Mem Pg Rcd Slt
open Dsk (KeptBut SMap DiskAt St ptr kept_of_below kept_of_grown kept_drew)
open Plt (sl plV sl_le sl_pos)
set_option linter.unusedVariables false
set_option linter.unusedSimpArgs false
def Wn.brk (v:Wn) (e:Int):Wn:={ v with br:=e != 0 }
theorem brk_0 (v:Wn):v.brk 0={ v with br:=false }:=rfl
theorem brk_n (v:Wn) {e:Int} (h:e≠0):v.brk e={ v with br:=true }:=by
 unfold Wn.brk
 rw [show (e != 0)=true from bne_iff_ne.2 h]
theorem bts_disk {w:World} {g bs bw:Nat} {s:St} (h:DiskAt w g bs bw s) {A:Option Addr} {n:Nat} {xs:List Nat} (hb:Bts w w.heap.size A n xs):∀ w1,w.grownBy w1 (some g)→Bts w1 w1.heap.size A n xs :=
 fun w1 hg=>(bts_kept hb (kept_of_grown hg (List.mem_cons_self ..)) (odd_disk h) (Nat.le_refl _)).more hg.size
theorem writes_go {s:St} {i:Nat} {x:List Nat} {r:List (List Nat)}:writes s i (x::r)=if (s.write (i:Int) x).2=0 then writes (s.write (i:Int) x).1 (i+1) r else s.write (i:Int) x:=rfl
theorem drop_at {α:Type} (l:List α) (j:Nat) (d:α) (h:j<l.length):l.drop j=l.getD j d::l.drop (j+1):=by
 rw [List.drop_eq_getElem_cons h]
 simp [List.getD,List.getElem?_eq_getElem h]
set_option maxRecDepth 20000 in
set_option maxHeartbeats 4000000 in
theorem wwrite_any (x g bs bw k:Nat) (s:St) (v:Wn) (fr:Nat) (A:Option Addr) (n c:Nat) (l:List (List Nat)) (w:World) (hw:WalAt w x g k v) (hd:DiskAt w g bs bw s) (hl:Sls w w.heap.size (.slice A n c) l) (hn:n≤1000) (hf:fr≤2000) :
  Calls Tryz.prog 100 #[ptr x,.int .i64 (fr:Nat),.slice A n c] w fun e w'=>e=.returned (.int .i64 (writes s fr l).2)∧WalAt w' x g k (v.brk (writes s fr l).2)∧DiskAt w' g bs bw (writes s fr l).1∧KeptBut w w' [x,g,bs,bw]:=by
 obtain ⟨hll,hnc,hcm⟩:=sls_len hl
 obtain ⟨n1,n2,n3⟩:=wal_ne hw hd
 have hne:x ∉ [g,bs,bw]:=by simp [n1,n2,n3]
 have N1:=Lib.hid n1;clear n1
 have N2:=Lib.hid n2;clear n2
 have N3:=Lib.hid n3;clear n3
 have HNE:=Lib.hid hne;clear hne
 have hodd:=odd_both hw hd
 obtain ⟨R,hR⟩:∃ R,R=writes s fr l:=⟨_,rfl⟩
 rw [← hR]
 have HODD:=Lib.hid hodd;clear hodd
 have HLL:=Lib.hid hll;clear hll
 have HL:=Lib.hid hl;clear hl
 have HW:=Lib.hid hw;clear hw
 have HD:=Lib.hid hd;clear hd
 have HR:=Lib.hid hR;clear hR
 go_enter Tryz.func100,Tryz.ntmps100
 go_wp2
 go_loopw [13] (fun i wr=>∃ (j:Nat) (sj:St),j≤n∧i=.int .i64 j∧R=writes sj (fr+j) (l.drop j)∧WalAt wr x g k v∧DiskAt wr g bs bw sj∧KeptBut w wr [x,g,bs,bw]) (fun i _=>n - (intOf i).toNat)
 case atStart=>exact ⟨0,s,Nat.zero_le _,rfl,HR.out,HW.out,HD.out,KeptBut.refl _ _⟩
 case round =>
  obtain ⟨j,sj,hj,rfl,hRj,hwr,hdr,hkr⟩:=hrel
  have c0:=hwr.c0
  have hx:=hwr.lt
  have HWR:=Lib.hid hwr;clear hwr
  have HKR:=Lib.hid hkr;clear hkr
  by_cases hlt:j<n
  ·have hls:=sls_kept HL.out HKR.out HODD.out (Nat.le_refl _)
   obtain ⟨b,off,e,hb,hc⟩:=sls_at hls (by omega)
   subst e
   obtain ⟨u,hu,hus⟩:=hc j hlt
   obtain ⟨A1,n1,c1,rfl,hbt,_⟩:=id hus
   rw [drop_at l j [] (by rw [HLL.out];exact hlt),writes_go] at hRj
   obtain ⟨y,hy⟩:∃ y,y=l.getD j []:=⟨_,rfl⟩
   rw [← hy] at hbt hRj
   have e1:((fr+j:Nat):Int)=(fr:Int)+(j:Int):=by omega
   rw [e1] at hRj
   have cw:=Dsk.write_any g bs bw sj ((fr:Int)+(j:Int)) A1 n1 c1 y wr hdr hbt.1 hbt.2.1 (bts_disk hdr (hbt.more HKR.out.size))
   obtain ⟨r,hr⟩:∃ r,r=sj.write ((fr:Int)+(j:Int)) y:=⟨_,rfl⟩
   rw [← hr] at cw hRj
   obtain ⟨s',e'⟩:=r
   simp only at cw hRj
   clear hr hy e1 hus hbt hls hc hdr hb
   by_cases he:e'=0
   ·subst he
    rw [if_pos rfl] at hRj
    have HRJ:=Lib.hid hRj;clear hRj
    have CW:=Lib.hid cw;clear cw
    go_wp2_with (go_at_call 156;refine (CW.out).mono ?_;rintro e w2 ⟨rfl,hd2,hk2⟩;have HW2:=Lib.hid (HWR.out.kept hk2 HNE.out);have HD2:=Lib.hid hd2;have HK2:=Lib.hid (HKR.out.trans (hk2.more (fun y hy=>List.mem_cons_of_mem _ hy)));clear hd2 hk2)
    go_roundw
    case rel=>exact ⟨j+1,s',by omega,by go_num,HRJ.out,HW2.out,HD2.out,HK2.out⟩
    case measure=>simp [intOf];omega
   ·rw [if_neg he] at hRj
    have hne:(e' != 0)=true:=bne_iff_ne.2 he
    have hbr:=brk_n v he
    have HBR:=Lib.hid hbr;clear hbr
    have HRJ:=Lib.hid hRj;clear hRj
    have CW:=Lib.hid cw;clear cw
    clear he
    go_wp2_with (go_at_call 156;refine (CW.out).mono ?_;rintro e w2 ⟨rfl,hd2,hk2⟩;have hw2:=HWR.out.kept hk2 HNE.out;have f5:=hw2.fz 7;have d5:=hw2.c7;have hx2:=hw2.lt;have HW2:=Lib.hid hw2;have HD2:=Lib.hid hd2;have HK2:=Lib.hid (HKR.out.trans (hk2.more (fun y hy=>List.mem_cons_of_mem _ hy)));clear hd2 hk2 hw2)
    go_ret
    rw [HRJ.out,HBR.out]
    exact ⟨rfl,HW2.out.set_br true,DiskAt.set_far HD2.out _ N1.out N2.out N3.out,HK2.out.trans ((kept_set1 _).more (by simp))⟩
  ·obtain rfl:j=n:=by omega
   rw [List.drop_of_length_le (by rw [HLL.out];exact Nat.le_refl _),writes_nil] at hRj
   have cf:=Dsk.flush_any g bs bw sj wr hdr
   rw [← hRj] at cf
   obtain ⟨s',e'⟩:=R
   simp only at cf ⊢
   clear hRj hdr HR
   have CF:=Lib.hid cf;clear cf
   by_cases he:e'=0
   ·subst he
    go_wp2_with (go_at_call 157;refine (CF.out).mono ?_;rintro e w2 ⟨rfl,hd2,hk2⟩;have hw2:=HWR.out.kept hk2 HNE.out;have f5:=hw2.fz 7;have d5:=hw2.c7;have hx2:=hw2.lt;have HW2:=Lib.hid hw2;have HD2:=Lib.hid hd2;have HK2:=Lib.hid (HKR.out.trans (hk2.more (fun y hy=>List.mem_cons_of_mem _ hy)));clear hd2 hk2 hw2)
    go_ret
    exact ⟨rfl,HW2.out.set_br false,DiskAt.set_far HD2.out _ N1.out N2.out N3.out,HK2.out.trans ((kept_set1 _).more (by simp))⟩
   ·have hne:(e' != 0)=true:=bne_iff_ne.2 he
    have hbr:=brk_n v he
    have HBR:=Lib.hid hbr;clear hbr
    clear he
    go_wp2_with (go_at_call 157;refine (CF.out).mono ?_;rintro e w2 ⟨rfl,hd2,hk2⟩;have hw2:=HWR.out.kept hk2 HNE.out;have f5:=hw2.fz 7;have d5:=hw2.c7;have hx2:=hw2.lt;have HW2:=Lib.hid hw2;have HD2:=Lib.hid hd2;have HK2:=Lib.hid (HKR.out.trans (hk2.more (fun y hy=>List.mem_cons_of_mem _ hy)));clear hd2 hk2 hw2)
    go_ret
    exact ⟨rfl,(by have h:=HW2.out.set_br true;rw [← HBR.out] at h;exact h),DiskAt.set_far HD2.out _ N1.out N2.out N3.out,HK2.out.trans ((kept_set1 _).more (by simp))⟩
set_option maxRecDepth 20000 in
set_option maxHeartbeats 4000000 in
theorem lay_any (x g bs bw k:Nat) (s:St) (v:Wn) (gen:Int) (A:Option Addr) (n c:Nat) (b:List Nat) (w:World) (hw:WalAt w x g k v) (hd:DiskAt w g bs bw s) (hk1:6≤k) (hk2:k≤1000) (hg0:0≤gen) (hg1:gen≤2147483648)
  (hb:Sl w w.heap.size (.slice A n c) b) (hbn:b.length=n) (hok:errOf gen v.mark (sl k:Nat) b=0) :
  Calls Tryz.prog 121 #[ptr x,.agg #[.int .i64 gen,.slice A n c]] w fun e w'=>e=.returned (.int .i64 (writes s (slotAt (sl k) gen) (secL (bP gen v.mark) b)).2) ∧
   WalAt w' x g k (v.brk (writes s (slotAt (sl k) gen) (secL (bP gen v.mark) b)).2)∧DiskAt w' g bs bw (writes s (slotAt (sl k) gen) (secL (bP gen v.mark) b)).1∧KeptBut w w' [x,g,bs,bw]:=by
 have hsc:secs gen v.mark (sl k:Nat) b=secL (bP gen v.mark) b:=by unfold secs;rw [if_pos hok];rfl
 have hb0:=palloc (Below.refl w.heap.size w) (Obj.cells #[.int .i64 gen,.slice A n c] 140)
 have kb:=Blk.new w 140 #[.int .i64 gen,.slice A n c]
 have se:=fun (W:World) (hW:Below w.heap.size w W)=>sectors_any gen v.mark (sl k:Nat) A n c b W (sl_up hb hW) hbn
 rw [hok,hsc] at se
 have sk:=fun (W:World)=>slot_k k gen W hk1 (by omega) hg0 (by omega)
 have hslt:=slotAt_lt (sl:=sl k) (g:=gen) (j:=0) (sl_pos (by omega))
 have hs16:=sl_le k
 have hl16:(secL (bP gen v.mark) b).length≤16:=by rw [secL_len];exact parts_le _
 obtain ⟨L,hL⟩:∃ L,L=secL (bP gen v.mark) b:=⟨_,rfl⟩
 rw [← hL] at se hl16 ⊢
 obtain ⟨f,hf⟩:∃ f,f=slotAt (sl k) gen:=⟨_,rfl⟩
 rw [← hf] at sk hslt ⊢
 obtain ⟨t,ht⟩:∃ t,t=f+sl k:=⟨_,rfl⟩
 rw [← ht] at sk
 have wr:=fun (A1:Option Addr) (n1 c1:Nat) (W:World) (h1:WalAt W x g k v) (h2:DiskAt W g bs bw s) (h3:Sls W W.heap.size (.slice A1 n1 c1) L)=>wwrite_any x g bs bw k s v f A1 n1 c1 L W h1 h2 h3 (by have:=(sls_len h3).1;omega) (by omega)
 obtain ⟨R,hR⟩:∃ R,R=writes s f L:=⟨_,rfl⟩
 rw [← hR] at wr ⊢
 have c1:=(hw.up hb0).c1
 have c2:=(hw.up hb0).c2
 have c3:=(hw.up hb0).c3
 have c5:=(hw.up hb0).c5
 have hx:=(hw.up hb0).lt
 have k0:(w.alloc (Obj.cells #[.int .i64 gen,.slice A n c] 140)).cell? ⟨w.heap.size,0,none⟩=some (.int .i64 gen):=kb.cell 0
 have k1:(w.alloc (Obj.cells #[.int .i64 gen,.slice A n c] 140)).cell? ⟨w.heap.size,1,none⟩=some (.slice A n c):=kb.cell 1
 have hkb:=kb.lt
 have HB0:=Lib.hid hb0;clear hb0
 have KB:=Lib.hid kb;clear kb
 have HW:=Lib.hid hw;clear hw
 have HD:=Lib.hid hd;clear hd
 have SE:=Lib.hid se;clear se
 have SK:=Lib.hid sk;clear sk
 have WR:=Lib.hid wr;clear wr
 clear hL hf ht hR hb hbn hok hsc hl16 hslt hs16
 go_enter Tryz.func121,Tryz.ntmps121
 go_wp2
 generalize w.alloc (Obj.cells #[.int .i64 gen,.slice A n c] 140)=w1 at *
 go_region_held3 (fun W=>W.cell? ⟨w.heap.size,0,none⟩=some (.int .i64 gen)∧W.cell? ⟨w.heap.size,1,none⟩=some (.slice A n c)∧W.cell? ⟨x,1,none⟩=some (.int .i64 (sl k:Nat))∧W.cell? ⟨x,5,none⟩=some (.int .i64 v.mark))
  (first
   | with_reducible exact ⟨k0,k1,c1,c5⟩
   | with_reducible exact ⟨e0,e1,e2,e3⟩
   | go_keep)
  (first
   | (go_at_call 170;refine (SE.out _ (by exact HB0.out.drew)).mono ?_;rintro e w2 ⟨v2,rfl,hs2,hb2⟩;obtain ⟨A2,n2,c2,rfl,_⟩:=id hs2;have hb2:Below w1.heap.size w1 w2:=⟨hb2.os,hb2.tape,hb2.output,hb2.size,hb2.block⟩;have HS2:=Lib.hid hs2;have HB2:=Lib.hid (HB0.out.trans (hb2.mono HB0.out.size));have kb2:=KB.out.below hb2 hkb;have hw2:=HW.out.up HB2.out;have e0:=kb2.cell 0;have e1:=kb2.cell 1;have e2:=hw2.c1;have e3:=hw2.c5;have e4:=hw2.c2;have e5:=hw2.c3;have hx2:=hw2.lt;have hkb2:=kb2.lt;simp at e0 e1;have HW2:=Lib.hid hw2;have KB2:=Lib.hid kb2;clear hb2 hs2 hw2 kb2))
 go_wp2
 go_region_held3 (fun W=>W.cell? ⟨w.heap.size,0,none⟩=some (.int .i64 gen)∧W.cell? ⟨x,1,none⟩=some (.int .i64 (sl k:Nat))∧W.cell? ⟨x,2,none⟩=some (.int .i64 (2*(sl k:Nat)))∧W.cell? ⟨x,3,none⟩=some (.int .i64 (lg k:Nat)))
  (first
   | with_reducible exact ⟨e0,e2,e4,e5⟩
   | with_reducible exact ⟨f0,f2,f4,f5⟩
   | go_keep)
  (first
   | (go_at_call 168;refine (SK.out _).mono ?_;rintro e w3 ⟨rfl,hb3⟩;have hb3:Below w2.heap.size w2 w3:=⟨hb3.os,hb3.tape,hb3.output,hb3.size,hb3.block⟩;have HS3:=Lib.hid (HS2.out.up hb3);have HB3:=Lib.hid (HB2.out.trans (hb3.mono HB2.out.size));have kb3:=KB2.out.below hb3 hkb2;have hw3:=HW2.out.up hb3;have f0:=kb3.cell 0;have f2:=hw3.c1;have f4:=hw3.c2;have f5:=hw3.c3;simp at f0;have HW3:=Lib.hid hw3;clear hb3 hw3 kb3))
 go_wp2_with (go_at_call 100;refine (WR.out A2 n2 c2 _ HW3.out (HD.out.below HB3.out) HS3.out).mono ?_;rintro e w4 ⟨rfl,hw4,hd4,hk4⟩;have HW4:=Lib.hid hw4;have HD4:=Lib.hid hd4;have HK4:=Lib.hid ((kept_of_below (S:=[x,g,bs,bw]) HB3.out (Nat.le_refl _)).trans hk4);clear hw4 hd4 hk4)
 go_ret
 exact ⟨rfl,HW4.out,HD4.out,HK4.out⟩
end Go.Proofs.YtplpmemlaohlaaaGreat.Wl
namespace Go.Proofs.YtplpmemlaohlaaaGreat.Wl
open Go.RowKit Mem Pg Rcd Slt
open Dsk (KeptBut SMap DiskAt St ptr kept_of_below kept_of_grown kept_drew)
open Plt (sl plV sl_le sl_pos)
set_option linter.unusedVariables false
set_option linter.unusedSimpArgs false
theorem slots_0 (D:Nat→List Nat) (m:Nat):ofS (fun j=>D (slotAt m 0+j)) m=slots D m 0:=rfl
theorem slots_1 (D:Nat→List Nat) (m:Nat):ofS (fun j=>D (slotAt m 1+j)) m=slots D m 1:=rfl
def theBase (D:Nat→List Nat) (k:Nat):Option Bs:=better (slots D (sl k) 0) (slots D (sl k) 1)
def newD (D:Nat→List Nat) (k:Nat):Bool:=newTo D (slotAt (sl k) 1) (slotAt (sl k) 1+sl k) k
def firstP (s:St) (k:Nat) (m:Int):St × Int:=writes s (slotAt (sl k) 1) (secL (bP 1 m) [])
def BM (w:World) (o:Option Bs) (s6 s7:Value) (wx:World):Prop:=∃ (y:Nat) (A:Option Addr) (n c:Nat),s6=.pointer (some ⟨y,0,none⟩)∧s7=.bool o.isSome∧Blk wx y 140 #[.int .i64 (o.getD (0,[])).1,.slice A n c]∧BtsC wx wx.heap.size A n c (o.getD (0,[])).2 ∧
 Blk wx w.heap.size 140 #[.int .i64 0,.slice none 0 0]∧Below w.heap.size w wx∧w.heap.size<y
abbrev zB:Obj:=.cells #[.int .i64 0,.slice none 0 0] 140
theorem bm_new {w w4:World} {o:Option Bs} {A:Option Addr} {n c y:Nat} (hy:y=w4.heap.size) (hk:Blk w4 w.heap.size 140 #[.int .i64 0,.slice none 0 0]) (hb:Below w.heap.size w w4) (ht:BtsC w4 w4.heap.size A n c (o.getD (0,[])).2) (hlt:w.heap.size<w4.heap.size) :
  BM w o (.pointer (some ⟨y,0,none⟩)) (.bool o.isSome) (w4.alloc (.cells #[.int .i64 (o.getD (0,[])).1,.slice A n c] 140)):=by
 subst hy
 exact ⟨_,A,n,c,rfl,rfl,Blk.new _ _ _,btc_up ht (palloc (Below.refl _ _) _),hk.alloc _,palloc hb _,hlt⟩
theorem bm_set {w w4:World} {o:Option Bs} {A:Option Addr} {n c y:Nat} (hy:Blk w4 y 140 #[.int .i64 0,.slice none 0 0]) (hk:Blk w4 w.heap.size 140 #[.int .i64 0,.slice none 0 0]) (hb:Below w.heap.size w w4) (ht:BtsC w4 w4.heap.size A n c (o.getD (0,[])).2) (hlt:w.heap.size<y) :
  BM w o (.pointer (some ⟨y,0,none⟩)) (.bool o.isSome) ((w4.setCell ⟨y,0,none⟩ (.int .i64 (o.getD (0,[])).1)).setCell ⟨y,1,none⟩ (.slice A n c)):=by
 have hg:=set2_grown w4 y (.int .i64 (o.getD (0,[])).1) (.slice A n c)
 have h1:=(hy.set_ 0 (.int .i64 (o.getD (0,[])).1)).set_ 1 (.slice A n c)
 exact ⟨_,A,n,c,rfl,rfl,by simpa using h1,(btc_by ht hg (Nat.le_refl _) (noBy_blk2 hy)).more hg.size,hk.grown hg (by simp;omega),hb.grown hg hb.size (fun q hq=>by cases hq;omega),hlt⟩
def BaseOut (w:World) (x g bs bw k:Nat) (s:St) (v:Wn) (e:Ending) (w':World):Prop :=
 (∃ (y:Bs) (A:Option Addr) (n c:Nat),theBase s.get k=some y∧e=.returned (.tuple #[.agg #[.int .i64 y.1,.slice A n c],.int .i64 0])∧BtsC w' w'.heap.size A n c y.2∧Below w.heap.size w w') ∨
 (theBase s.get k=none∧newD s.get k=false∧e=.returned (.tuple #[.agg #[.int .i64 0,.slice none 0 0],.int .i64 8])∧Below w.heap.size w w') ∨
 (theBase s.get k=none∧newD s.get k=true∧e=.returned (.tuple #[.agg #[.int .i64 1,.slice none 0 0],.int .i64 (firstP s k v.mark).2])∧WalAt w' x g k (v.brk (firstP s k v.mark).2)∧DiskAt w' g bs bw (firstP s k v.mark).1∧KeptBut w w' [x,g,bs,bw])
theorem fits_ok {p:P} {b:List Nat} (hk:1≤p.kind∧p.kind≤9) (hg:0≤p.gen∧p.gen≤2147483648) (hm:0≤p.mark∧p.mark≤2147483648) (hi:0≤p.index∧p.index≤1000000) (hb:b.length≤7808):fits p b=true:=by
 have h1:=parts_pos hb
 have h2:=parts_le b.length
 unfold fits
 rw [Bool.and_eq_true]
 refine ⟨by simpa using h1,List.all_eq_true.2 fun q hq=>?_⟩
 simp only [pages,List.mem_map,List.mem_range] at hq
 obtain ⟨i,hil,rfl⟩:=hq
 unfold P.may
 simp only [nth,Bool.and_eq_true]
 exact ⟨⟨⟨⟨⟨⟨win_of hk.1 hk.2,win_of hg.1 hg.2⟩,win_of hm.1 hm.2⟩,win_of (by omega) (by omega)⟩,win_of (by omega) (by omega)⟩,win_of (by omega) (by omega)⟩,decide_eq_true (by rw [List.length_take];omega)⟩
theorem err_ok {g m:Int} {k:Nat} {b:List Nat} (hg:0≤g∧g≤2147483648) (hm:0≤m∧m≤2147483648) (hb:b.length≤7808) (hk:parts b.length≤k):errOf g m (k:Nat) b=0:=by
 have h1:=parts_pos hb
 unfold errOf
 rw [if_neg (by omega),if_pos (fits_ok (by unfold bP;simp) hg hm (by unfold bP;simp) hb)]
theorem first_ok (m:Int) (h0:0≤m) (h1:m≤2147483648) (k:Nat) (hk:1≤k):errOf 1 m (k:Nat) []=0 :=
 err_ok (by omega) ⟨h0,h1⟩ (by simp) (by rw [show parts ([]:List Nat).length=1 by decide];exact hk)
theorem bl1 {w w1:World} (h:Below w.heap.size w w1):Below w.heap.size w w1.drew:=h.drew
theorem bl2 {w w1:World} (h:Below w.heap.size w w1) (o:Obj):Below w.heap.size w (w1.alloc o).drew:=(palloc h o).drew
theorem kept_above {w w1 w2:World} {S:List Nat} {row:Option Nat} (h:KeptBut w w1 S) (hg:w1.grownBy w2 row) (hr:∀ g,row=some g→w.heap.size≤g):KeptBut w w2 S :=
 ⟨hg.os.trans h.os,hg.tape.trans h.tape,hg.output.trans h.output,Nat.le_trans h.size hg.size,fun g hg1 hn=>(hg.block g (Nat.lt_of_lt_of_le hg1 h.size) (fun e=>by have:=hr g e.symm;omega)).trans (h.block g hg1 hn)⟩
theorem set2_keep {w:World} {y x i:Nat} {a b:Value} (h:x≠y):((w.setCell ⟨y,0,none⟩ a).setCell ⟨y,1,none⟩ b).cell? ⟨x,i,none⟩=w.cell? ⟨x,i,none⟩:=by
 rw [World.cell?_setCell_other _ _ _ _ (fun e=>h (by cases e;rfl)),World.cell?_setCell_other _ _ _ _ (fun e=>h (by cases e;rfl))]
theorem undrew {B:Nat} {w w':World} (h:Below B w.drew w'):Below B w w':=⟨h.os,h.tape,h.output,h.size,h.block⟩
set_option maxRecDepth 20000 in
set_option maxHeartbeats 8000000 in
theorem base_any (x g bs bw k:Nat) (s:St) (v:Wn) (A:Option Addr) (c:Nat) (w:World) (hw:WalAt w x g k v) (hd:DiskAt w g bs bw s) (hk:s.n=k) (hk1:6≤k) (hk2:k≤1000) (hm0:0≤v.mark) (hm1:v.mark≤2147483648)
  (hA:A≠none) (h:Sls w w.heap.size (.slice A k c) (ofS s.get k)) (hlen:∀ y∈ofS s.get k,y.length≤600) :
  Calls Tryz.prog 70 #[ptr x,.slice A k c] w (BaseOut w x g bs bw k s v):=by
 have hb1:=palloc (Below.refl w.heap.size w) zB
 have kp:=Blk.new w 140 #[.int .i64 0,.slice none 0 0]
 have hs16:=sl_le k
 have hs1:=sl_pos (k:=k) (by omega)
 have so:=fun (W:World) (gen:Int) (h0:0≤gen) (h1:gen≤1) (hW:Below w.heap.size w W)=>slotOf_any k gen A c s.get W hk1 hk2 h0 (by omega) (h.up hW)
 have so0:=fun (W:World) (hW:Below w.heap.size w W)=>so W 0 (by omega) (by omega) hW
 have so1:=fun (W:World) (hW:Below w.heap.size w W)=>so W 1 (by omega) (by omega) hW
 rw [slots_0] at so0
 rw [slots_1] at so1
 have hin:∀ q y,y∈slots s.get (sl k) q→q≤1→y.length≤600:=fun q y hy hq=>by
  simp only [slots,List.mem_map,List.mem_range] at hy
  obtain ⟨j,hj,rfl⟩:=hy
  refine hlen _ ?_
  simp only [ofS,List.mem_map,List.mem_range]
  refine ⟨q*sl k+j,?_,rfl⟩
  rcases (by omega:q=0∨q=1) with rfl | rfl <;> omega
 have be:=fun (A1 A2:Option Addr) (c1 c2:Nat) (W:World) (h1:Sls W W.heap.size (.slice A1 (sl k) c1) (slots s.get (sl k) 0)) (h2:Sls W W.heap.size (.slice A2 (sl k) c2) (slots s.get (sl k) 1)) (n1:A1≠none) (n2:A2≠none) =>
  better_any A1 A2 (sl k) (sl k) c1 c2 _ _ W h1 h2 (by omega) (by omega) (fun e=>absurd e n1) (fun e=>absurd e n2) (fun y hy=>hin 0 y hy (by omega)) (fun y hy=>hin 1 y hy (by omega))
 have nw:=fun (W:World) (hW:Below w.heap.size w W)=>isNew_any k A c s.get W hk1 hk2 (h.up hW)
 have ly:=fun (W:World) (hW:Below w.heap.size w W)=>lay_any x g bs bw k s v 1 none 0 0 [] W (hw.up hW) (hd.below hW) hk1 hk2 (by omega) (by omega) (sl_nil _ _) rfl (first_ok v.mark hm0 hm1 (sl k) hs1)
 have hbo:theBase s.get k=better (slots s.get (sl k) 0) (slots s.get (sl k) 1):=rfl
 have hnd:newD s.get k=newTo s.get (slotAt (sl k) 1) (slotAt (sl k) 1+sl k) k:=rfl
 have hfp:firstP s k v.mark=writes s (slotAt (sl k) 1) (secL (bP 1 v.mark) []):=rfl
 rw [← hnd] at nw
 rw [← hfp] at ly
 clear hnd hfp so
 generalize slots s.get (sl k) 0=S0 at *
 generalize slots s.get (sl k) 1=S1 at *
 rw [← hbo] at be
 obtain ⟨o,ho⟩:∃ o,o=theBase s.get k:=⟨_,rfl⟩
 rw [← ho] at be
 obtain ⟨nd,hnd⟩:∃ nd,nd=newD s.get k:=⟨_,rfl⟩
 rw [← hnd] at nw
 obtain ⟨R,hR⟩:∃ R,R=firstP s k v.mark:=⟨_,rfl⟩
 rw [← hR] at ly
 have HO:=Lib.hid ho;clear ho
 have HND:=Lib.hid hnd;clear hnd
 have HR:=Lib.hid hR;clear hR
 have SO0:=Lib.hid so0;clear so0
 have SO1:=Lib.hid so1;clear so1
 have BE:=Lib.hid be;clear be
 have NW:=Lib.hid nw;clear nw
 have LY:=Lib.hid ly;clear ly
 have c1:=(hw.up hb1).c1
 have c2:=(hw.up hb1).c2
 have c3:=(hw.up hb1).c3
 have hx:=(hw.up hb1).lt
 have hkp:=kp.lt
 have HW:=Lib.hid hw;clear hw
 have HD:=Lib.hid hd;clear hd
 have HA:=Lib.hid hA;clear hA
 have HB1:=Lib.hid hb1;clear hb1
 have KP:=Lib.hid kp;clear kp
 clear hbo hin hlen h hs16 hs1 hk
 go_enter Tryz.func70,Tryz.ntmps70
 go_wp2
 generalize hw1:w.alloc zB=w1 at *
 have hg1:w.heap.size<w1.heap.size:=hkp
 clear hw1
 go_cut [6,7] from 8 to 23 (fun s6 s7 wx=>BM w o s6 s7 wx)
 case first =>
  go_region_held3 (fun W=>W.cell? ⟨x,1,none⟩=some (.int .i64 (sl k:Nat))∧W.cell? ⟨x,2,none⟩=some (.int .i64 (2*(sl k:Nat)))∧W.cell? ⟨x,3,none⟩=some (.int .i64 (lg k:Nat)))
   (first
    | with_reducible exact ⟨c1,c2,c3⟩
    | with_reducible exact ⟨e1,e2,e3⟩
    | with_reducible exact ⟨f1,f2,f3⟩
    | with_reducible exact ⟨m1,m2,m3⟩
    | (with_reducible refine ⟨(set2_keep ?_).trans m1,(set2_keep ?_).trans m2,(set2_keep ?_).trans m3⟩ <;> omega)
    | go_keep)
   (first
    | (go_at_call 119;first
     | ((with_reducible refine (SO0.out _ (by with_reducible exact bl1 HB1.out)).mono ?_);rintro e w2 ⟨A2,c2',rfl,hs2,hn2,hb2⟩;have hb2:=undrew hb2;have KP2:=Lib.hid (KP.out.below hb2 hkp);have HB2:=Lib.hid (HB1.out.trans (hb2.mono HB1.out.size));have hw2:=HW.out.up HB2.out;have e1:=hw2.c1;have e2:=hw2.c2;have e3:=hw2.c3;have hx2:=hw2.lt;have hg2:=Nat.lt_of_lt_of_le hg1 hb2.size;have HS2:=Lib.hid hs2;have HN2:=Lib.hid (fun e=>HA.out (hn2 e));clear hs2 hn2 hb2 hw2)
     | ((with_reducible refine (SO0.out _ (by with_reducible exact bl2 HB1.out zB)).mono ?_);rintro e w2 ⟨A2,c2',rfl,hs2,hn2,hb2⟩;have hb2:=undrew hb2;have K62:=Lib.hid ((Blk.new w1 140 #[.int .i64 0,.slice none 0 0]).below hb2 (by simp));have KP2:=Lib.hid ((KP.out.alloc zB).below hb2 (by simp;omega));have HB2:=Lib.hid ((palloc HB1.out zB).trans (hb2.mono (palloc HB1.out zB).size));have hw2:=HW.out.up HB2.out;have e1:=hw2.c1;have e2:=hw2.c2;have e3:=hw2.c3;have hx2:=hw2.lt;have hg2:w.heap.size<w2.heap.size:=KP2.out.lt;have HS2:=Lib.hid hs2;have HN2:=Lib.hid (fun e=>HA.out (hn2 e));clear hs2 hn2 hb2 hw2))
    | (go_at_call 119;first
     | (have K62':=K62;(with_reducible refine (SO1.out _ (by with_reducible exact HB2.out)).mono ?_);rintro e w3 ⟨A3,c3',rfl,hs3,hn3,hb3⟩;have K63:=Lib.hid (K62.out.below hb3 K62.out.lt);have KP3:=Lib.hid (KP2.out.below hb3 KP2.out.lt);have HB3:=Lib.hid (HB2.out.trans (hb3.mono HB2.out.size));have hw3:=HW.out.up HB3.out;have f1:=hw3.c1;have f2:=hw3.c2;have f3:=hw3.c3;have hx3:=hw3.lt;have hg3:=Nat.lt_of_lt_of_le hg2 hb3.size;have HS23:=Lib.hid (HS2.out.up hb3);have HS3:=Lib.hid hs3;have HN3:=Lib.hid (fun e=>HA.out (hn3 e));clear hs3 hn3 hb3 hw3)
     | ((with_reducible refine (SO1.out _ (by with_reducible exact palloc HB2.out zB)).mono ?_);rintro e w3 ⟨A3,c3',rfl,hs3,hn3,hb3⟩;have K63:=Lib.hid ((Blk.new w2 140 #[.int .i64 0,.slice none 0 0]).below hb3 (by simp));have KP3:=Lib.hid ((KP2.out.alloc zB).below hb3 (by simp;omega));have HB3:=Lib.hid ((palloc HB2.out zB).trans (hb3.mono (palloc HB2.out zB).size));have hw3:=HW.out.up HB3.out;have f1:=hw3.c1;have f2:=hw3.c2;have f3:=hw3.c3;have hx3:=hw3.lt;have hg3:w.heap.size<w3.heap.size:=KP3.out.lt;have HS23:=Lib.hid ((HS2.out.up (palloc (Below.refl _ _) zB)).up hb3);have HS3:=Lib.hid hs3;have HN3:=Lib.hid (fun e=>HA.out (hn3 e));clear hs3 hn3 hb3 hw3)
     | ((with_reducible refine (SO1.out _ (by with_reducible exact HB2.out)).mono ?_);rintro e w3 ⟨A3,c3',rfl,hs3,hn3,hb3⟩;have KP3:=Lib.hid (KP2.out.below hb3 KP2.out.lt);have HB3:=Lib.hid (HB2.out.trans (hb3.mono HB2.out.size));have hw3:=HW.out.up HB3.out;have f1:=hw3.c1;have f2:=hw3.c2;have f3:=hw3.c3;have hx3:=hw3.lt;have hg3:=Nat.lt_of_lt_of_le hg2 hb3.size;have HS23:=Lib.hid (HS2.out.up hb3);have HS3:=Lib.hid hs3;have HN3:=Lib.hid (fun e=>HA.out (hn3 e));clear hs3 hn3 hb3 hw3))
    | (go_at_call 118;first
     | (have K63':=K63;(with_reducible refine (BE.out A2 A3 c2' c3' _ (by with_reducible exact HS23.out) (by with_reducible exact HS3.out) HN2.out HN3.out).mono ?_);rintro e w4 ⟨v4,rfl,⟨vb,rfl,A4,n4,c4,rfl,ht4⟩,hb4⟩;have K64:=Lib.hid (K63.out.below hb4 K63.out.lt);have KP4:=Lib.hid (KP3.out.below hb4 KP3.out.lt);have HB4:=Lib.hid (HB3.out.trans (hb4.mono HB3.out.size));have HT4:=Lib.hid (show BtsC w4 w4.heap.size A4 n4 c4 _ from ht4);have z0:=K64.out.cell 0;have z1:=K64.out.cell 1;have z2:=K64.out.frozen 0;have z3:=K64.out.frozen 1;have z4:=K64.out.lt;simp at z0 z1;have hg4:=KP4.out.lt;have hw4:=HW.out.up HB4.out;have m1:=hw4.c1;have m2:=hw4.c2;have m3:=hw4.c3;clear ht4 hb4 hw4)
     | ((with_reducible refine (BE.out A2 A3 c2' c3' _ (by with_reducible exact (HS23.out.up (palloc (Below.refl _ _) zB))) (by with_reducible exact (HS3.out.up (palloc (Below.refl _ _) zB))) HN2.out HN3.out).mono ?_);rintro e w4 ⟨v4,rfl,⟨vb,rfl,A4,n4,c4,rfl,ht4⟩,hb4⟩;have K64:=Lib.hid ((Blk.new w3 140 #[.int .i64 0,.slice none 0 0]).below hb4 (by simp));have KP4:=Lib.hid ((KP3.out.alloc zB).below hb4 (by simp;omega));have HB4:=Lib.hid ((palloc HB3.out zB).trans (hb4.mono (palloc HB3.out zB).size));have HT4:=Lib.hid (show BtsC w4 w4.heap.size A4 n4 c4 _ from ht4);have z0:=K64.out.cell 0;have z1:=K64.out.cell 1;have z2:=K64.out.frozen 0;have z3:=K64.out.frozen 1;have z4:=K64.out.lt;simp at z0 z1;have hg4:=KP4.out.lt;have hw4:=HW.out.up HB4.out;have m1:=hw4.c1;have m2:=hw4.c2;have m3:=hw4.c3;clear ht4 hb4 hw4)
     | ((with_reducible refine (BE.out A2 A3 c2' c3' _ (by with_reducible exact HS23.out) (by with_reducible exact HS3.out) HN2.out HN3.out).mono ?_);rintro e w4 ⟨v4,rfl,⟨vb,rfl,A4,n4,c4,rfl,ht4⟩,hb4⟩;have KP4:=Lib.hid (KP3.out.below hb4 KP3.out.lt);have HB4:=Lib.hid (HB3.out.trans (hb4.mono HB3.out.size));have HT4:=Lib.hid (show BtsC w4 w4.heap.size A4 n4 c4 _ from ht4);have hg4:=KP4.out.lt;have hw4:=HW.out.up HB4.out;have m1:=hw4.c1;have m2:=hw4.c2;have m3:=hw4.c3;clear ht4 hb4 hw4)))
  all_goals
   go_wp2_with fail
   go_meet
   case rel =>
    first
     | (with_reducible exact bm_set K64.out KP4.out HB4.out HT4.out (by omega))
     | (with_reducible exact bm_new rfl KP4.out HB4.out HT4.out hg4)
 case rest =>
  obtain ⟨y,A4,n4,c4,rfl,rfl,hy,ht,hkw,hbw,hlt⟩:=hcut
  clear SO0 SO1 BE c1 c2 c3 hx KP HB1 hkp hg1
  have HY:=Lib.hid hy;clear hy
  have HKW:=Lib.hid hkw;clear hkw
  have HBW:=Lib.hid hbw;clear hbw
  have HT:=Lib.hid ht;clear ht
  have y0:=HY.out.cell 0
  have y1:=HY.out.cell 1
  have y2:=HY.out.lt
  have y3:=HY.out.frozen 0
  have y4:=HY.out.frozen 1
  have p0:=HKW.out.cell 0
  have p1:=HKW.out.cell 1
  have p2:=HKW.out.lt
  have p3:=HKW.out.frozen 0
  have p4:=HKW.out.frozen 1
  simp at y0 y1 p0 p1
  have hny:y≠w.heap.size:=by omega
  have hwc:=HW.out.up HBW.out
  have m1:=hwc.c1
  have m2:=hwc.c2
  have m3:=hwc.c3
  have m4:=hwc.lt
  clear hwc
  cases o with
  | some q =>
   go_wp2
   have hgr:=set2_grown wc w.heap.size (.int .i64 q.1) (.slice A4 n4 c4)
   refine bodyPost_ret (v:=.tuple #[.agg #[.int .i64 q.1,.slice A4 n4 c4],.int .i64 0]) ?_ rfl (.inl ⟨q,A4,n4,c4,HO.out.symm,rfl,(btc_by HT.out hgr (Nat.le_refl _) (noBy_blk2 HKW.out)).more hgr.size,HBW.out.grown hgr HBW.out.size (fun q hq=>by cases hq;exact Nat.le_refl _)⟩)
   simp [results,Tryz.results70,go_sem,p0,p1,p2]
  | none =>
   cases nd with
   | false =>
    go_wp2_with (go_at_call 120;refine (NW.out _ HBW.out).mono ?_;rintro e w5 ⟨rfl,hb5⟩;have kw5:=HKW.out.below hb5 p2;have q0:=kw5.cell 0;have q1:=kw5.cell 1;have q2:=kw5.lt;have q3:=kw5.frozen 0;have q4:=kw5.frozen 1;simp at q0 q1;have HB5:=Lib.hid (HBW.out.trans (hb5.mono HBW.out.size));clear hb5 kw5)
    have hgr:=set2_grown w5 w.heap.size (.int .i64 0) (.slice none 0 0)
    refine bodyPost_ret (v:=.tuple #[.agg #[.int .i64 0,.slice none 0 0],.int .i64 8]) ?_ rfl (.inr (.inl ⟨HO.out.symm,HND.out.symm,rfl,HB5.out.grown hgr HB5.out.size (fun q hq=>by cases hq;exact Nat.le_refl _)⟩))
    simp [results,Tryz.results70,go_sem,q0,q1,q2]
   | true =>
    obtain ⟨s',e'⟩:=R
    simp only at LY
    go_wp2_with (go_at_call 120;refine (NW.out _ HBW.out).mono ?_;rintro e w5 ⟨rfl,hb5⟩;have kw5:=HKW.out.below hb5 p2;have ky5:=HY.out.below hb5 y2;have q0:=ky5.cell 0;have q1:=ky5.cell 1;have q2:=ky5.lt;have q3:=ky5.frozen 0;have q4:=ky5.frozen 1;simp at q0 q1;have HB5:=Lib.hid (HBW.out.trans (hb5.mono HBW.out.size));have KW5:=Lib.hid kw5;have KY5:=Lib.hid ky5;clear hb5 kw5 ky5)
    have hgr:=set2_grown w5 y (.int .i64 1) (.slice none 0 0)
    have ky6:=(KY5.out.set_ 0 (.int .i64 1)).set_ 1 (.slice none 0 0)
    simp only [Array.setIfInBounds] at ky6
    have kw6:=KW5.out.grown hgr (by simp;omega)
    have hb6:=HB5.out.grown hgr HB5.out.size (fun q hq=>by cases hq;omega)
    have HB6:=Lib.hid hb6;clear hb6
    have KW6:=Lib.hid kw6;clear kw6
    have KY6:=Lib.hid ky6;clear ky6
    clear hgr q0 q1 q2 q3 q4
    generalize (w5.setCell ⟨y,0,none⟩ (.int .i64 1)).setCell ⟨y,1,none⟩ (.slice none 0 0)=w6 at *
    have q0:w6.cell? ⟨y,0,none⟩=some (.int .i64 1):=by rw [KY6.out.cell];rfl
    have q1:w6.cell? ⟨y,1,none⟩=some (.slice none 0 0):=by rw [KY6.out.cell];rfl
    have q2:=KY6.out.lt
    have q5:=KW6.out.lt
    obtain ⟨d1,d2,d3⟩:=HD.out.lt
    have d4:=HW.out.lt
    have hyS:y ∉ [x,g,bs,bw]:=by simp;omega
    have hwS:w.heap.size ∉ [x,g,bs,bw]:=by simp;omega
    have HYS:=Lib.hid hyS;clear hyS
    have HWS:=Lib.hid hwS;clear hwS
    go_region_held3 (fun W=>W.cell? ⟨y,0,none⟩=some (.int .i64 1)∧W.cell? ⟨y,1,none⟩=some (.slice none 0 0))
     (first
      | with_reducible exact ⟨q0,q1⟩
      | with_reducible exact ⟨r0,r1⟩
      | (with_reducible refine ⟨(set2_keep ?_).trans r0,(set2_keep ?_).trans r1⟩ <;> omega)
      | (with_reducible refine ⟨(set2_keep ?_).trans q0,(set2_keep ?_).trans q1⟩ <;> omega)
      | go_keep)
     (first
      | (go_at_call 121;refine (LY.out _ (by exact HB6.out.drew)).mono ?_;rintro e w7 ⟨rfl,hw7,hd7,hk7⟩;have hk7:KeptBut w6 w7 [x,g,bs,bw]:=⟨hk7.os,hk7.tape,hk7.output,hk7.size,hk7.block⟩;have ky7:=hk7.blk KY6.out HYS.out;have kw7:=hk7.blk KW6.out HWS.out;have r0:=ky7.cell 0;have r1:=ky7.cell 1;simp at r0 r1;have r2:=kw7.cell 0;have r3:=kw7.cell 1;have r4:=kw7.lt;have r5:=kw7.frozen 0;have r6:=kw7.frozen 1;simp at r2 r3;have HW7:=Lib.hid hw7;have HD7:=Lib.hid hd7;have HK7:=Lib.hid ((kept_of_below (S:=[x,g,bs,bw]) HB6.out (Nat.le_refl _)).trans hk7);clear hw7 hd7 hk7 ky7 kw7))
    go_wp2
    have hgr:=set2_grown w7 w.heap.size (.int .i64 1) (.slice none 0 0)
    have hk8:=kept_of_grown (S:=[w.heap.size]) hgr (by simp)
    refine bodyPost_ret (v:=.tuple #[.agg #[.int .i64 1,.slice none 0 0],.int .i64 e']) ?_ rfl (.inr (.inr ⟨HO.out.symm,HND.out.symm,by rw [← HR.out],by rw [← HR.out];exact HW7.out.kept hk8 (by simp;omega),by rw [← HR.out];exact HD7.out.kept hk8 (by simp;omega) (by simp;omega) (by simp;omega),kept_above HK7.out hgr (fun q hq=>by cases hq;exact Nat.le_refl _)⟩))
    simp [results,Tryz.results70,go_sem,r2,r3,r4]
end Go.Proofs.YtplpmemlaohlaaaGreat.Wl
namespace Go.Proofs.YtplpmemlaohlaaaGreat.Wl
open Go.RowKit Mem Pg Rcd Slt
open Dsk (KeptBut SMap DiskAt St ptr kept_of_below kept_of_grown kept_drew IsSec NoneAt)
open Plt (sl plV sl_le sl_pos)
set_option linter.unusedVariables false
set_option linter.unusedSimpArgs false
structure Opened where
 st:St
 ok:Option Wn
 b:List Nat
 recs:List (List Nat)
 e:Int
def recsS (s:St) (g:Int):List (List Nat) × Nat:=recsOf (logF s.get (2*sl s.n) g) (lg s.n)
def openP (s:St):Opened :=
 if s.n<6 then ⟨s,none,[],[],1⟩ else if s.dead=true then ⟨s,none,[],[],7⟩ else if 2147483648<openMark s then ⟨s,none,[],[],4⟩ else
  match theBase s.get s.n with
  | some y=>⟨s,some ⟨y.1,openMark s,(recsS s y.1).2,false⟩,y.2,(recsS s y.1).1,0⟩
  | none=>if newD s.get s.n=true then
    (if (firstP s s.n (openMark s)).2=0 then ⟨(firstP s s.n (openMark s)).1,some ⟨1,openMark s,0,false⟩,[],[],0⟩ else ⟨(firstP s s.n (openMark s)).1,none,[],[],(firstP s s.n (openMark s)).2⟩)
   else ⟨s,none,[],[],8⟩
theorem new_recs {s:St} {g:Int} (h:newD s.get s.n=true) (hn:6≤s.n):recsS s g=([],0):=by
 have hs:=sl_le s.n
 have hp:=sl_pos (k:=s.n) (by omega)
 have hx:logF s.get (2*sl s.n) g 0=none:=by
  unfold newD newTo at h
  rw [List.all_eq_true] at h
  have h1:=h (2*sl s.n+0) (by rw [List.mem_range];omega)
  have e1:slotAt (sl s.n) 1=sl s.n:=by unfold slotAt;simp
  rw [e1,decide_eq_false (by omega:¬ 2*sl s.n+0<sl s.n+sl s.n),Bool.and_false,Bool.false_or,decide_eq_true_eq] at h1
  unfold logF
  rw [h1]
  have:got Pg.noughts=none:=got_blank
  rw [this]
  rfl
 unfold recsS recsOf
 refine tail_none ?_
 obtain ⟨m,hm⟩:∃ m,lg s.n - 0=m+1:=⟨lg s.n - 1,by unfold lg;omega⟩
 rw [hm,run_none hx]
 exact joined_nil rfl
theorem get_sec {w:World} {g bs bw:Nat} {s:St} (h:DiskAt w g bs bw s) (i:Nat):IsSec (s.get i):=by
 unfold St.get
 cases e:s.fw i with
 | some xs=>exact (h.2.2.1.sec e).1
 | none =>
  rw [Option.none_or]
  cases e2:s.fs i with
  | some xs=>exact (h.2.1.sec e2).1
  | none=>exact Dsk.isSec_noughts
theorem get_600 {w:World} {g bs bw:Nat} {s:St} (h:DiskAt w g bs bw s) (k:Nat):∀ y∈ofS s.get k,y.length≤600:=by
 intro y hy
 obtain ⟨i,_,rfl⟩:=ofS_mem hy
 have:=(get_sec h i).1
 omega
def OpenOut (w:World) (g bs bw:Nat) (s:St) (e:Ending) (w':World):Prop:=∃ (vw:Value) (A:Option Addr) (n c:Nat) (vr:Value),e=.returned (.tuple #[vw,.slice A n c,vr,.int .i64 (openP s).e])∧DiskAt w' g bs bw (openP s).st∧KeptBut w w' [g,bs,bw] ∧
 BtsC w' w'.heap.size A n c (openP s).b∧Sls w' w'.heap.size vr (openP s).recs∧((openP s).ok=none→vw=.pointer none)∧∀ v,(openP s).ok=some v→∃ x,vw=ptr x∧w.heap.size≤x∧WalAt w' x g s.n v
theorem out_none {w w':World} {g bs bw:Nat} {s:St} (ho:(openP s).ok=none) (hb:(openP s).b=[]) (hr:(openP s).recs=[]) (hd:DiskAt w' g bs bw (openP s).st) (hk:KeptBut w w' [g,bs,bw]) :
  OpenOut w g bs bw s (.returned (.tuple #[.pointer none,.slice none 0 0,.slice none 0 0,.int .i64 (openP s).e])) w' :=
 ⟨_,_,_,_,_,rfl,hd,hk,by rw [hb];exact btc_nil _ _,by rw [hr];exact sls_nil _ _,fun _=>rfl,fun v hv=>by rw [ho] at hv;cases hv⟩
theorem make_k (k:Nat) (w:World) (h:6≤k) (h2:k≤1024) :
  Calls Tryz.prog 67 #[.int .i64 k] w fun e w'=>e=.returned (.tuple #[plV (sl k:Nat) (2*(sl k:Nat)) (lg k:Nat),.int .i64 0])∧Below w.heap.size w w':=by
 have:=Plt.make_yes k w h h2
 rw [lg_eq] at this
 exact this
set_option maxRecDepth 20000 in
set_option maxHeartbeats 2000000 in
theorem open_small (g bs bw:Nat) (s:St) (w:World) (h:DiskAt w g bs bw s) (hn:s.n<6) :
  Calls Tryz.prog 31 #[ptr g] w (OpenOut w g bs bw s):=by
 have c:=Dsk.size_any g bs bw s w h
 have mk:=fun (W:World)=>Plt.make_no (s.n:Nat) W (by omega)
 have e0:openP s=⟨s,none,[],[],1⟩:=by unfold openP;rw [if_pos hn]
 have HO:=Lib.hid (fun (w':World) (hb:Below w.heap.size w w')=>out_none (w:=w) (w':=w') (g:=g) (bs:=bs) (bw:=bw) (s:=s) (by rw [e0]) (by rw [e0]) (by rw [e0]) (by rw [e0];exact h.below hb) (kept_of_below hb (Nat.le_refl _)))
 have E0:=Lib.hid (show (openP s).e=1 by rw [e0])
 generalize s.n=k at *
 have C:=Lib.hid c;clear c
 have MK:=Lib.hid mk;clear mk
 clear h e0 hn
 go_enter Tryz.func31,Tryz.ntmps31
 go_wp2_with (first
  | (go_at_call 49;refine (C.out).mono ?_;rintro e w' ⟨rfl,rfl⟩)
  | (go_at_call 67;refine (MK.out _).mono ?_;rintro e w1 ⟨rfl,hb⟩;have HB:=Lib.hid hb;clear hb))
 have ho:=HO.out _ (palloc HB.out (.cells #[.int .i64 0,.int .i64 0,.int .i64 0] 37))
 rw [E0.out] at ho
 exact bodyPost_ret (v:=.tuple #[.pointer none,.slice none 0 0,.slice none 0 0,.int .i64 1]) (by simp [results,Tryz.results31,go_sem]) rfl ho
theorem mark_bounds (ss:List (List Nat)):0≤markOf ss∧markOf ss≤2147483648:=by
 refine ⟨?_,mark_le (by omega) fun y hy p hp=>(win_yes ((may_iff p).1 (got_may hp).1).m).2⟩
 have:∀ (l:List (List Nat)) (m:Int),0≤m→0≤l.foldl markStep m:=by
  intro l
  induction l with
  | nil=>exact fun m h=>h
  | cons y r ih =>
   intro m h
   rw [List.foldl_cons]
   refine ih _ ?_
   unfold markStep
   cases got y with
   | none=>exact h
   | some q=>show 0≤max m q.mark;omega
 exact this ss 0 (Int.le_refl _)
abbrev plC (k:Nat):Obj:=.cells #[.int .i64 (sl k:Nat),.int .i64 (2*(sl k:Nat)),.int .i64 (lg k:Nat)] 37
set_option maxRecDepth 20000 in
set_option maxHeartbeats 2000000 in
theorem open_dead (g bs bw:Nat) (s:St) (w:World) (h:DiskAt w g bs bw s) (hn:6≤s.n) (hn2:s.n≤1000) (hd:s.dead=true) :
  Calls Tryz.prog 31 #[ptr g] w (OpenOut w g bs bw s):=by
 have c:=Dsk.size_any g bs bw s w h
 have mk:=fun (W:World)=>make_k s.n W hn (by omega)
 have rd:=fun (W:World) (hW:Below w.heap.size w W)=>wread_dead g bs bw s W (h.below hW) hd hn2
 have e0:openP s=⟨s,none,[],[],7⟩:=by unfold openP;rw [if_neg (by omega),if_pos hd]
 have HO:=Lib.hid (fun (w':World) (hb:Below w.heap.size w w')=>out_none (w:=w) (w':=w') (g:=g) (bs:=bs) (bw:=bw) (s:=s) (by rw [e0]) (by rw [e0]) (by rw [e0]) (by rw [e0];exact h.below hb) (kept_of_below hb (Nat.le_refl _)))
 have E0:=Lib.hid (show (openP s).e=7 by rw [e0])
 generalize s.n=k at *
 have C:=Lib.hid c;clear c
 have MK:=Lib.hid mk;clear mk
 have RD:=Lib.hid rd;clear rd
 clear h e0 hn hn2 hd
 go_enter Tryz.func31,Tryz.ntmps31
 go_wp2_with (first
  | (go_at_call 49;refine (C.out).mono ?_;rintro e w' ⟨rfl,rfl⟩)
  | (go_at_call 67;refine (MK.out _).mono ?_;rintro e w1 ⟨rfl,hb⟩;have HB:=Lib.hid (palloc hb (plC k));clear hb)
  | (go_at_call 68;refine (RD.out _ HB.out).mono ?_;rintro e w2 ⟨rfl,hb⟩;have HB2:=Lib.hid (HB.out.trans (hb.mono HB.out.size));clear hb))
 have ho:=HO.out _ HB2.out
 rw [E0.out] at ho
 exact bodyPost_ret (v:=.tuple #[.pointer none,.slice none 0 0,.slice none 0 0,.int .i64 7]) (by simp [results,Tryz.results31,go_sem]) rfl ho
set_option maxRecDepth 20000 in
set_option maxHeartbeats 2000000 in
theorem open_full (g bs bw:Nat) (s:St) (w:World) (h:DiskAt w g bs bw s) (hn:6≤s.n) (hn2:s.n≤1000) (hd:s.dead=false) (hm:2147483648<openMark s) :
  Calls Tryz.prog 31 #[ptr g] w (OpenOut w g bs bw s):=by
 have c:=Dsk.size_any g bs bw s w h
 have mk:=fun (W:World)=>make_k s.n W hn (by omega)
 have rd:=fun (W:World) (hW:Below w.heap.size w W)=>wread_ok g bs bw s W (h.below hW) hd hn2
 have e0:openP s=⟨s,none,[],[],4⟩:=by unfold openP;rw [if_neg (by omega),if_neg (by rw [hd];simp),if_pos hm]
 have HO:=Lib.hid (fun (w':World) (hb:Below w.heap.size w w')=>out_none (w:=w) (w':=w') (g:=g) (bs:=bs) (bw:=bw) (s:=s) (by rw [e0]) (by rw [e0]) (by rw [e0]) (by rw [e0];exact h.below hb) (kept_of_below hb (Nat.le_refl _)))
 have E0:=Lib.hid (show (openP s).e=4 by rw [e0])
 have ma:=fun (b:Nat) (W:World) (hS:Sls W W.heap.size (.slice (some ⟨b,0,none⟩) s.n s.n) (ofS s.get s.n))=>mark_any _ s.n s.n _ W hS hn2 (get_600 h s.n)
 obtain ⟨hm0,hm1⟩:=mark_bounds (ofS s.get s.n)
 have hom:openMark s=markOf (ofS s.get s.n)+1:=rfl
 rw [hom] at hm
 generalize markOf (ofS s.get s.n)=m at *
 generalize ofS s.get s.n=L at *
 generalize s.n=k at *
 have hdm:decide (2147483648<m+1)=true:=by simpa using hm
 have C:=Lib.hid c;clear c
 have MK:=Lib.hid mk;clear mk
 have RD:=Lib.hid rd;clear rd
 have MA:=Lib.hid ma;clear ma
 clear h e0 hn hn2 hd hom hm
 go_enter Tryz.func31,Tryz.ntmps31
 go_wp2_with (first
  | (go_at_call 49;refine (C.out).mono ?_;rintro e w' ⟨rfl,rfl⟩)
  | (go_at_call 67;refine (MK.out _).mono ?_;rintro e w1 ⟨rfl,hb⟩;have HB:=Lib.hid (palloc hb (plC k));clear hb)
  | (go_at_call 68;refine (RD.out _ HB.out).mono ?_;rintro e w2 ⟨b0,rfl,hs,hb⟩;have HS2:=Lib.hid hs;have HB2:=Lib.hid (HB.out.trans (hb.mono HB.out.size));clear hb hs)
  | (go_at_call 69;refine (MA.out b0 _ HS2.out).mono ?_;rintro e w3 ⟨rfl,hb⟩;have HB3:=Lib.hid (HB2.out.trans (hb.mono HB2.out.size));clear hb))
 have ho:=HO.out _ HB3.out
 rw [E0.out] at ho
 exact bodyPost_ret (v:=.tuple #[.pointer none,.slice none 0 0,.slice none 0 0,.int .i64 4]) (by simp [results,Tryz.results31,go_sem]) rfl ho
section
variable {w:World} {x g bs bw k:Nat} {s:St} {v:Wn} {A:Option Addr} {c:Nat}
theorem base_some {y:Bs} (h:Calls Tryz.prog 70 #[ptr x,.slice A k c] w (BaseOut w x g bs bw k s v)) (hy:theBase s.get k=some y) :
  Calls Tryz.prog 70 #[ptr x,.slice A k c] w fun e w'=>∃ A n c,e=.returned (.tuple #[.agg #[.int .i64 y.1,.slice A n c],.int .i64 0])∧BtsC w' w'.heap.size A n c y.2∧Below w.heap.size w w':=by
 refine h.mono ?_
 rintro e w' (⟨y',A,n,c,h1,h2,h3,h4⟩ | ⟨h1,_⟩ | ⟨h1,_⟩)
 ·rw [hy] at h1
  cases h1
  exact ⟨A,n,c,h2,h3,h4⟩
 ·rw [hy] at h1;cases h1
 ·rw [hy] at h1;cases h1
theorem base_bad (h:Calls Tryz.prog 70 #[ptr x,.slice A k c] w (BaseOut w x g bs bw k s v)) (hy:theBase s.get k=none) (hn:newD s.get k=false) :
  Calls Tryz.prog 70 #[ptr x,.slice A k c] w fun e w'=>e=.returned (.tuple #[.agg #[.int .i64 0,.slice none 0 0],.int .i64 8])∧Below w.heap.size w w':=by
 refine h.mono ?_
 rintro e w' (⟨y',A,n,c,h1,h2,h3,h4⟩ | ⟨h1,h2,h3,h4⟩ | ⟨h1,h2,_⟩)
 ·rw [hy] at h1;cases h1
 ·exact ⟨h3,h4⟩
 ·rw [hn] at h2;cases h2
theorem base_new (h:Calls Tryz.prog 70 #[ptr x,.slice A k c] w (BaseOut w x g bs bw k s v)) (hy:theBase s.get k=none) (hn:newD s.get k=true) :
  Calls Tryz.prog 70 #[ptr x,.slice A k c] w fun e w'=>e=.returned (.tuple #[.agg #[.int .i64 1,.slice none 0 0],.int .i64 (firstP s k v.mark).2])∧WalAt w' x g k (v.brk (firstP s k v.mark).2)∧DiskAt w' g bs bw (firstP s k v.mark).1∧KeptBut w w' [x,g,bs,bw]:=by
 refine h.mono ?_
 rintro e w' (⟨y',A,n,c,h1,h2,h3,h4⟩ | ⟨h1,h2,h3,h4⟩ | ⟨h1,h2,h3,h4,h5,h6⟩)
 ·rw [hy] at h1;cases h1
 ·rw [hn] at h2;cases h2
 ·exact ⟨h3,h4,h5,h6⟩
end
set_option maxRecDepth 20000 in
set_option maxHeartbeats 4000000 in
theorem open_bad (g bs bw:Nat) (s:St) (w:World) (h:DiskAt w g bs bw s) (hn:6≤s.n) (hn2:s.n≤1000) (hd:s.dead=false) (hm:¬ 2147483648<openMark s) (hy:theBase s.get s.n=none) (hnd:newD s.get s.n=false) :
  Calls Tryz.prog 31 #[ptr g] w (OpenOut w g bs bw s):=by
 have c:=Dsk.size_any g bs bw s w h
 have mk:=fun (W:World)=>make_k s.n W hn (by omega)
 have rd:=fun (W:World) (hW:Below w.heap.size w W)=>wread_ok g bs bw s W (h.below hW) hd hn2
 have e0:openP s=⟨s,none,[],[],8⟩:=by unfold openP;rw [if_neg (by omega),if_neg (by rw [hd];simp),if_neg hm,hy];simp only;rw [if_neg (by rw [hnd];simp)]
 have HO:=Lib.hid (fun (w':World) (hb:Below w.heap.size w w')=>out_none (w:=w) (w':=w') (g:=g) (bs:=bs) (bw:=bw) (s:=s) (by rw [e0]) (by rw [e0]) (by rw [e0]) (by rw [e0];exact h.below hb) (kept_of_below hb (Nat.le_refl _)))
 have E0:=Lib.hid (show (openP s).e=8 by rw [e0])
 have ma:=fun (b:Nat) (W:World) (hS:Sls W W.heap.size (.slice (some ⟨b,0,none⟩) s.n s.n) (ofS s.get s.n))=>mark_any _ s.n s.n _ W hS hn2 (get_600 h s.n)
 obtain ⟨hm0,hm1⟩:=mark_bounds (ofS s.get s.n)
 have hom:openMark s=markOf (ofS s.get s.n)+1:=rfl
 rw [hom] at hm
 have ba:=fun (b x:Nat) (W:World) (hW:Below w.heap.size w W) (hw:WalAt W x g s.n ⟨0,openMark s,0,false⟩) (hS:Sls W W.heap.size (.slice (some ⟨b,0,none⟩) s.n s.n) (ofS s.get s.n)) =>
  base_bad (base_any x g bs bw s.n s ⟨0,openMark s,0,false⟩ _ s.n W hw (h.below hW) rfl hn hn2 (by simp only;omega) (by simp only;omega) (by simp) hS (get_600 h s.n)) hy hnd
 rw [hom] at ba
 generalize markOf (ofS s.get s.n)=m at *
 generalize ofS s.get s.n=L at *
 generalize s.n=k at *
 have hdm:decide (2147483648<m+1)=false:=by simpa using hm
 have C:=Lib.hid c;clear c
 have MK:=Lib.hid mk;clear mk
 have RD:=Lib.hid rd;clear rd
 have MA:=Lib.hid ma;clear ma
 have BA:=Lib.hid ba;clear ba
 clear h e0 hn hn2 hd hom hm hy hnd
 go_enter Tryz.func31,Tryz.ntmps31
 go_wp2_with (first
  | (go_at_call 49;refine (C.out).mono ?_;rintro e w' ⟨rfl,rfl⟩)
  | (go_at_call 67;refine (MK.out _).mono ?_;rintro e w1 ⟨rfl,hb⟩;have KP:=Lib.hid (Blk.new w1 37 #[.int .i64 (sl k:Nat),.int .i64 (2*(sl k:Nat)),.int .i64 (lg k:Nat)]);have HB:=Lib.hid (palloc hb (plC k));clear hb)
  | (go_at_call 68;refine (RD.out _ HB.out).mono ?_;rintro e w2 ⟨b0,rfl,hs,hb⟩;have KP2:=Lib.hid (KP.out.below hb KP.out.lt);have HS2:=Lib.hid hs;have HB2:=Lib.hid (HB.out.trans (hb.mono HB.out.size));clear hb hs)
  | (go_at_call 69;refine (MA.out b0 _ HS2.out).mono ?_;rintro e w3 ⟨rfl,hb⟩;have kp3:=KP2.out.below hb KP2.out.lt;have p0:=kp3.cell 0;have p1:=kp3.cell 1;have p2:=kp3.cell 2;have p3:=kp3.lt;simp at p0 p1 p2;have HS3:=Lib.hid (HS2.out.up (palloc hb (.cells (walCs g k ⟨0,m+1,0,false⟩) 138)));have HB3:=Lib.hid (palloc (HB2.out.trans (hb.mono HB2.out.size)) (.cells (walCs g k ⟨0,m+1,0,false⟩) 138));have HW3:=Lib.hid (Blk.new w3 138 (walCs g k ⟨0,m+1,0,false⟩));clear hb kp3)
  | (go_at_call 70;refine (BA.out b0 _ _ HB3.out HW3.out HS3.out).mono ?_;rintro e w5 ⟨rfl,hb⟩;have HB5:=Lib.hid (HB3.out.trans (hb.mono HB3.out.size));clear hb))
 have ho:=HO.out _ (palloc HB5.out zB)
 rw [E0.out] at ho
 exact bodyPost_ret (v:=.tuple #[.pointer none,.slice none 0 0,.slice none 0 0,.int .i64 8]) (by simp [results,Tryz.results31,go_sem]) rfl ho
end Go.Proofs.YtplpmemlaohlaaaGreat.Wl
namespace Go.Proofs.YtplpmemlaohlaaaGreat.Wl
open Go.RowKit Mem Pg Rcd Slt
open Dsk (KeptBut SMap DiskAt St ptr kept_of_below kept_of_grown kept_drew)
open Plt (sl plV sl_le sl_pos)
set_option linter.unusedVariables false
set_option linter.unusedSimpArgs false
section
variable (x g k:Nat) (v:Wn) (w:World)
set_option maxHeartbeats 1000000 in
theorem wIsNone_no (h:WalAt w x g k v):Calls Tryz.prog 110 #[ptr x] w fun e w'=>e=.returned (.bool false)∧w=w':=by
 have c0:=h.c0
 have hx:=h.lt
 clear h
 go_enter Tryz.func110,Tryz.ntmps110
 go_wp2
 go_ret
 exact ⟨rfl,rfl⟩
set_option maxHeartbeats 1000000 in
theorem broken_any (h:WalAt w x g k v):Calls Tryz.prog 57 #[ptr x] w fun e w'=>e=.returned (.bool v.br)∧w=w':=by
 have C:=Lib.hid (wIsNone_no x g k v w h)
 have c7:=h.c7
 have hx:=h.lt
 clear h
 go_enter Tryz.func57,Tryz.ntmps57
 go_wp2_with (go_at_call 110;refine (C.out).mono ?_;rintro e w' ⟨rfl,rfl⟩)
 go_ret
 exact ⟨rfl,rfl⟩
set_option maxHeartbeats 1000000 in
theorem gen_any (h:WalAt w x g k v):Calls Tryz.prog 56 #[ptr x] w fun e w'=>e=.returned (.int .i64 v.gen)∧w=w':=by
 have C:=Lib.hid (wIsNone_no x g k v w h)
 have c7:=h.c4
 have hx:=h.lt
 clear h
 go_enter Tryz.func56,Tryz.ntmps56
 go_wp2_with (go_at_call 110;refine (C.out).mono ?_;rintro e w' ⟨rfl,rfl⟩)
 go_ret
 exact ⟨rfl,rfl⟩
set_option maxHeartbeats 1000000 in
theorem free_any (h:WalAt w x g k v) (hk:k≤1024) (hn:v.next≤1024):Calls Tryz.prog 98 #[ptr x] w fun e w'=>e=.returned (.int .i64 ((lg k:Nat) - (v.next:Nat):Int))∧∃ m,w'=w.drewN m:=by
 have C:=Lib.hid (wIsNone_no x g k v w h)
 have c3:=h.c3
 have c6:=h.c6
 have hx:=h.lt
 have hl:lg k≤1024:=by unfold lg;omega
 have hw:IntKind.i64.wrap ((lg k:Nat) - (v.next:Nat):Int)=(lg k:Nat) - (v.next:Nat):=by rw [IntKind.wrap_i64];omega
 clear h
 generalize lg k=l at *
 generalize v.next=n at *
 go_enter Tryz.func98,Tryz.ntmps98
 go_wp2_with (go_at_call 110;refine (C.out).mono ?_;rintro e w' ⟨rfl,rfl⟩)
 go_quiet (fail)
 go_wp2
 go_ret
 exact ⟨rfl,_,rfl⟩
end
section
variable (z:Value) (w:World)
end
structure WnOk (k:Nat) (v:Wn):Prop where
 g0:0≤v.gen
 g1:v.gen≤2147483648
 m0:0≤v.mark
 m1:v.mark≤2147483648
 nx:v.next≤lg k
def commitP (k:Nat) (s:St) (v:Wn) (b:List Nat):St × Wn × Int :=
 if v.br=true then (s,v,6) else if lg k<v.next+parts b.length then (s,v,4) else
  ((writes s (2*sl k+v.next) (secL (lP v.gen v.mark v.next) b)).1,(if (writes s (2*sl k+v.next) (secL (lP v.gen v.mark v.next) b)).2=0 then ⟨v.gen,v.mark,v.next+parts b.length,false⟩ else ⟨v.gen,v.mark,v.next,true⟩),(writes s (2*sl k+v.next) (secL (lP v.gen v.mark v.next) b)).2)
def turnP (k:Nat) (s:St) (v:Wn) (b:List Nat):St × Wn × Int :=
 if v.br=true then (s,v,6) else if sl k<parts b.length then (s,v,5) else if v.gen=2147483648 then (s,v,4) else
  ((writes s (slotAt (sl k) (v.gen+1)) (secL (bP (v.gen+1) v.mark) b)).1,(if (writes s (slotAt (sl k) (v.gen+1)) (secL (bP (v.gen+1) v.mark) b)).2=0 then ⟨v.gen+1,v.mark,0,false⟩ else ⟨v.gen,v.mark,v.next,true⟩),(writes s (slotAt (sl k) (v.gen+1)) (secL (bP (v.gen+1) v.mark) b)).2)
def ActOut (w:World) (x g bs bw k:Nat) (r:St × Wn × Int) (e:Ending) (w':World):Prop:=e=.returned (.int .i64 r.2.2)∧WalAt w' x g k r.2.1∧DiskAt w' g bs bw r.1∧KeptBut w w' [x,g,bs,bw]
end Go.Proofs.YtplpmemlaohlaaaGreat.Wl
namespace Go.Proofs.YtplpmemlaohlaaaGreat.Wl
open Go.RowKit Mem Pg Rcd Slt
open Dsk (St noughts)
open Plt (sl sl_le sl_pos)
set_option linter.unusedVariables false
set_option linter.unusedSimpArgs false
section
variable {s:St} {k e:Nat} {g mk:Int} {base:List Nat} {recs:List (List Nat)}
theorem openP_ready (h:Ready s (sl s.n) (lg s.n) g mk e base recs) (hn:6≤s.n) (hm:openMark s≤2147483648):openP s=⟨s,some ⟨g,openMark s,e,false⟩,base,recs,0⟩:=by
 have hb:theBase s.get s.n=some (g,base):=better_inv h.inv
 have ht:recsS s g=(recs,e):=h.inv.log.tail_eq (k:=lg s.n) (Nat.le_refl _)
 unfold openP
 rw [if_neg (by omega),if_neg (by rw [h.live];simp),if_neg (by omega),hb]
 simp only [ht]
theorem ready_gen {sl' log:Nat} (h:Ready s sl' log g mk e base recs):1≤g∧g≤2147483648:=by
 refine ⟨h.inv.g1,?_⟩
 obtain ⟨q,r,b,n,hl,hj,hk,hi,hy⟩:=loadR_joined h.inv.cur
 have h1:=(run_get (f:=slotF s.get (slotAt sl' g)) (k:=sl') (i:=0) (j:=0) (p:=q) (by rw [hl];rfl)).1
 unfold slotF at h1
 have h2:=win_yes ((may_iff q).1 (got_may h1).1).g
 have h3:g=q.gen:=congrArg Prod.fst hy
 omega
theorem ready_left {sl' log:Nat} (h:Ready s sl' log g mk e base recs) (l:Int):Ready { s with left:=l } sl' log g mk e base recs:=⟨h.live,h.calm,h.size,h.far,h.inv,h.mks⟩
end
theorem write_calm {s:St} {i:Nat} {x:List Nat} (hd:s.dead=false) (hl:s.left<0) (hi:i<s.n) (hx:x.length=512) :
  (s.write (i:Int) x).2=0∧(s.write (i:Int) x).1.dead=false∧(s.write (i:Int) x).1.left=s.left∧(s.write (i:Int) x).1.n=s.n:=by
 unfold St.write
 rw [if_neg (by rw [hd];simp),if_pos ⟨by omega,by omega,hx⟩]
 have h0:¬ s.left=0:=by omega
 have h1:¬ 0<s.left:=by omega
 unfold St.act
 rw [if_neg h0,if_pos rfl]
 exact ⟨rfl,hd,by simp only;rw [if_neg h1],rfl⟩
theorem writes_calm {l:List (List Nat)} {s:St} {i:Nat} (hd:s.dead=false) (hl:s.left<0) (hi:i+l.length≤s.n) (hx:∀ x∈l,x.length=512):(writes s i l).2=0∧(writes s i l).1.left=s.left:=by
 induction l generalizing s i with
 | nil =>
  rw [writes_nil]
  unfold St.flush
  rw [if_neg (by rw [hd];simp)]
  have h0:¬ s.left=0:=by omega
  have h1:¬ 0<s.left:=by omega
  unfold St.act
  rw [if_neg h0,if_pos rfl]
  exact ⟨rfl,by simp only;rw [if_neg h1]⟩
 | cons x r ih =>
  rw [List.length_cons] at hi
  obtain ⟨h1,h2,h3,h4⟩:=write_calm (x:=x) hd hl (by omega:i<s.n) (hx x (by simp))
  rw [writes_ok h1]
  obtain ⟨h5,h6⟩:=ih (s:=(s.write (i:Int) x).1) (i:=i+1) h2 (by rw [h3];exact hl) (by rw [h4];omega) (fun y hy=>hx y (by simp [hy]))
  exact ⟨h5,by rw [h6,h3]⟩
theorem writes_n {l:List (List Nat)} {s:St} {i:Nat}:(writes s i l).1.n=s.n:=by
 have hf:∀ t:St,t.flush.1.n=t.n:=fun t=>by
  unfold St.flush St.act
  split
  ·rfl
  ·split <;> (split <;> rfl)
 have hw:∀ (t:St) (j:Int) (x:List Nat),(t.write j x).1.n=t.n:=fun t j x=>by
  unfold St.write St.act
  split
  ·rfl
  ·split
   ·split <;> (split <;> rfl)
   ·rfl
 induction l generalizing s i with
 | nil=>exact hf s
 | cons x r ih =>
  rw [writes]
  split
  ·rw [ih,hw]
  ·exact hw s _ x
theorem new_got (n i:Nat):got ((Dsk.St.new n).get i)=none:=got_blank
theorem new_none (n k:Nat):theBase (Dsk.St.new n).get k=none:=by
 have hl:∀ q,loaded (slots (Dsk.St.new n).get (sl k) q)=none:=fun q=>by
  have h:=loaded_run (Dsk.St.new n).get (q*sl k) (sl k)
  have e:run (slotF (Dsk.St.new n).get (q*sl k)) (sl k) 0=[]:=by
   cases sl k with
   | zero=>rfl
   | succ m=>exact run_none (new_got n _)
  rw [e] at h
  exact h
 unfold theBase better
 rw [hl,hl]
theorem new_new (n k:Nat):newD (Dsk.St.new n).get k=true:=by
 unfold newD newTo
 rw [List.all_eq_true]
 intro i _
 rw [decide_eq_true (show (Dsk.St.new n).get i=Pg.noughts from rfl),Bool.or_true]
theorem new_mark (n:Nat):openMark (Dsk.St.new n)=1:=by
 have h1:=mark_bounds ((List.range (Dsk.St.new n).n).map (Dsk.St.new n).get)
 have h2:markOf ((List.range (Dsk.St.new n).n).map (Dsk.St.new n).get)≤0:=mark_le (Int.le_refl _) fun y hy p hp=>by
  simp only [List.mem_map] at hy
  obtain ⟨i,_,rfl⟩:=hy
  rw [new_got] at hp
  cases hp
 unfold openMark
 omega
theorem open_fresh (n:Nat) (h6:6≤n):∃ s1,openP (Dsk.St.new n)=⟨s1,some ⟨1,1,0,false⟩,[],[],0⟩∧s1.n=n∧s1.left = -1∧Ready s1 (sl n) (lg n) 1 1 0 [] []:=by
 have hs:=sl_le n
 have hp:=sl_pos (k:=n) (by omega)
 have hsa:slotAt (sl n) 1=sl n:=by unfold slotAt;simp
 have hfit:fits (bP 1 1) []=true:=by decide
 have hpl:parts ([]:List Nat).length=1:=by decide
 obtain ⟨h1,h2⟩:=writes_calm (l:=secL (bP 1 1) []) (s:=Dsk.St.new n) (i:=slotAt (sl n) 1) rfl (by show (-1:Int)<0;omega) (by rw [secL_len,hpl,hsa];show sl n+1≤n;omega) (secL_512 hfit)
 refine ⟨(firstP (Dsk.St.new n) n 1).1,?_,writes_n,h2,?_⟩
 ·unfold openP
  rw [if_neg (show ¬ (Dsk.St.new n).n<6 by show ¬ n<6;omega),if_neg (by simp [Dsk.St.new]),new_mark,if_neg (by omega),new_none]
  simp only
  rw [if_pos (new_new n _)]
  have e:(Dsk.St.new n).n=n:=rfl
  rw [e,if_pos (show (firstP (Dsk.St.new n) n 1).2=0 from h1)]
 ·exact keep_new rfl (fun _=>rfl) (by show n=2*sl n+lg n;unfold lg;omega) (new_got n) hp h1
section
variable {s:St} {k e:Nat} {g mk:Int} {base b:List Nat} {recs:List (List Nat)}
theorem commit_ready (h:Ready s (sl k) (lg k) g mk e base recs) (hb:b.length≤7808) (h0:0≤mk) (h1:mk≤2147483648) (hk:lg k≤1000) :
  (lg k<e+parts b.length∧commitP k s ⟨g,mk,e,false⟩ b=(s,⟨g,mk,e,false⟩,4)) ∨
  (∃ s1,commitP k s ⟨g,mk,e,false⟩ b=(s1,⟨g,mk,e+parts b.length,false⟩,0)∧Ready s1 (sl k) (lg k) g mk (e+parts b.length) base (recs++[b])∧s1.n=s.n∧(s.left<0→s1.left=s.left)) ∨
  (∃ s1,commitP k s ⟨g,mk,e,false⟩ b=(s1,⟨g,mk,e,true⟩,7)∧s1.dead=true∧s1.n=s.n∧0≤s.left∧∀ s',Crashed s1 s' →
   (Ready s' (sl k) (lg k) g (openMark s') e base recs∨Ready s' (sl k) (lg k) g (openMark s') (e+parts b.length) base (recs++[b]))∧openMark s'≤mk+1):=by
 have hg:=ready_gen h
 have hel:=h.inv.log.le
 have hfit:fits (lP g mk e) b=true:=fits_ok (by unfold lP;simp) (by unfold lP;simp only;omega) (by unfold lP;simp only;omega) (by unfold lP;simp only;omega) hb
 unfold commitP
 simp only [Bool.false_eq_true,if_false]
 by_cases hl:lg k<e+parts b.length
 ·left
  rw [if_pos hl]
  exact ⟨hl,rfl⟩
 ·right
  rw [if_neg hl]
  have hsz:=h.size
  have hcalm:=fun hneg=>writes_calm (l:=secL (lP g mk e) b) (s:=s) (i:=2*sl k+e) h.live hneg (by rw [secL_len];omega) (secL_512 hfit)
  rcases keep_commit h hfit (by omega) h0 with ⟨r1,r2⟩ | ⟨r1,r2,r3,r4⟩
  ·left
   rw [r1,if_pos rfl]
   exact ⟨_,rfl,r2,writes_n,fun hneg=>(hcalm hneg).2⟩
  ·right
   rw [r1,if_neg (by omega)]
   exact ⟨_,rfl,r2,r3,Int.not_lt.1 fun hneg=>by have:=(hcalm hneg).1;omega,r4⟩
theorem turn_ready (h:Ready s (sl k) (lg k) g mk e base recs) (hb:b.length≤7808) (h0:0≤mk) (h1:mk≤2147483648) :
  (∃ er,(er=5∨er=4)∧turnP k s ⟨g,mk,e,false⟩ b=(s,⟨g,mk,e,false⟩,er)) ∨
  (∃ s1,turnP k s ⟨g,mk,e,false⟩ b=(s1,⟨g+1,mk,0,false⟩,0)∧Ready s1 (sl k) (lg k) (g+1) mk 0 b []∧s1.n=s.n∧(s.left<0→s1.left=s.left)) ∨
  (∃ s1,turnP k s ⟨g,mk,e,false⟩ b=(s1,⟨g,mk,e,true⟩,7)∧s1.dead=true∧s1.n=s.n∧0≤s.left∧∀ s',Crashed s1 s' →
   (Ready s' (sl k) (lg k) g (openMark s') e base recs∨Ready s' (sl k) (lg k) (g+1) (openMark s') 0 b [])∧openMark s'≤mk+1):=by
 have hg:=ready_gen h
 unfold turnP
 simp only [Bool.false_eq_true,if_false]
 by_cases hl:sl k<parts b.length
 ·left
  rw [if_pos hl]
  exact ⟨5,.inl rfl,rfl⟩
 ·rw [if_neg hl]
  by_cases hm:g=2147483648
  ·left
   rw [if_pos hm]
   exact ⟨4,.inr rfl,rfl⟩
  ·right
   rw [if_neg hm]
   have hfit:fits (bP (g+1) mk) b=true:=fits_ok (by unfold bP;simp) (by unfold bP;simp only;omega) (by unfold bP;simp only;omega) (by unfold bP;simp) hb
   have hsz:=h.size
   have hp:=parts_pos hb
   have hsa:=slotAt_lt (sl:=sl k) (g:=g+1) (j:=parts b.length - 1) (by omega)
   have hcalm:=fun hneg=>writes_calm (l:=secL (bP (g+1) mk) b) (s:=s) (i:=slotAt (sl k) (g+1)) h.live hneg (by rw [secL_len];omega) (secL_512 hfit)
   rcases keep_turn h hfit (by omega) h0 with ⟨r1,r2⟩ | ⟨r1,r2,r3,r4⟩
   ·left
    rw [r1,if_pos rfl]
    exact ⟨_,rfl,r2,writes_n,fun hneg=>(hcalm hneg).2⟩
   ·right
    rw [r1,if_neg (by omega)]
    exact ⟨_,rfl,r2,r3,Int.not_lt.1 fun hneg=>by have:=(hcalm hneg).1;omega,r4⟩
end
end Go.Proofs.YtplpmemlaohlaaaGreat.Wl
namespace Go.Proofs.YtplpmemlaohlaaaGreat.Wl
open Go.RowKit Mem Pg Rcd Slt
open Dsk (KeptBut SMap DiskAt St ptr kept_of_below kept_of_grown kept_drew IsSec NoneAt)
open Plt (sl plV sl_le sl_pos)
set_option linter.unusedVariables false
set_option linter.unusedSimpArgs false
theorem ofS_shift (D:Nat→List Nat) (m:Nat) (g:Int):(ofLog (fun i=>got (D (m+i))) g)=logF D m g:=rfl
theorem out_some {w w':World} {g bs bw x n c:Nat} {s:St} {v:Wn} {A:Option Addr} {vr:Value} (ho:(openP s).ok=some v) (he:(openP s).e=0) (hd:DiskAt w' g bs bw (openP s).st) (hk:KeptBut w w' [g,bs,bw])
  (hb:BtsC w' w'.heap.size A n c (openP s).b) (hr:Sls w' w'.heap.size vr (openP s).recs) (hx:w.heap.size≤x) (hw:WalAt w' x g s.n v):OpenOut w g bs bw s (.returned (.tuple #[ptr x,.slice A n c,vr,.int .i64 0])) w' :=
 ⟨ptr x,A,n,c,vr,by rw [he],hd,hk,hb,hr,(fun e=>by rw [ho] at e;cases e),(fun v' hv=>by rw [ho] at hv;cases hv;exact ⟨x,rfl,hx,hw⟩)⟩
theorem out_drewN {w w':World} {g bs bw:Nat} {s:St} {e:Ending} (h:OpenOut w g bs bw s e w') (n:Nat):OpenOut w g bs bw s e (w'.drewN n):=by
 obtain ⟨vw,A,n',c,vr,h1,h2,h3,h4,h5,h6,h7⟩:=h
 have hk:Below w'.heap.size w' (w'.drewN n):=below_drewN (Below.refl _ _) n
 refine ⟨vw,A,n',c,vr,h1,h2.below hk,h3.trans (kept_of_below hk (Nat.le_refl _)),btc_up h4 hk,h5.up hk,h6,fun v hv=>?_⟩
 obtain ⟨x,a1,a2,a3⟩:=h7 v hv
 exact ⟨x,a1,a2,a3.up hk⟩
set_option maxRecDepth 20000 in
set_option maxHeartbeats 8000000 in
theorem open_old (g bs bw:Nat) (s:St) (w:World) (h:DiskAt w g bs bw s) (hn:6≤s.n) (hn2:s.n≤1000) (hd:s.dead=false) (hm:¬ 2147483648<openMark s) (y:Bs) (hy:theBase s.get s.n=some y) :
  Calls Tryz.prog 31 #[ptr g] w (OpenOut w g bs bw s):=by
 have c:=Dsk.size_any g bs bw s w h
 have mk:=fun (W:World)=>make_k s.n W hn (by omega)
 have rd:=fun (W:World) (hW:Below w.heap.size w W)=>wread_ok g bs bw s W (h.below hW) hd hn2
 have e0:openP s=⟨s,some ⟨y.1,openMark s,(recsS s y.1).2,false⟩,y.2,(recsS s y.1).1,0⟩:=by unfold openP;rw [if_neg (by omega),if_neg (by rw [hd];simp),if_neg hm,hy]
 have ma:=fun (b:Nat) (W:World) (hS:Sls W W.heap.size (.slice (some ⟨b,0,none⟩) s.n s.n) (ofS s.get s.n))=>mark_any _ s.n s.n _ W hS hn2 (get_600 h s.n)
 obtain ⟨hm0,hm1⟩:=mark_bounds (ofS s.get s.n)
 have hom:openMark s=markOf (ofS s.get s.n)+1:=rfl
 rw [hom] at hm
 have hlk:lg s.n≤1000:=by unfold lg;omega
 have ba:=fun (b x:Nat) (W:World) (hW:Below w.heap.size w W) (hw:WalAt W x g s.n ⟨0,openMark s,0,false⟩) (hS:Sls W W.heap.size (.slice (some ⟨b,0,none⟩) s.n s.n) (ofS s.get s.n)) =>
  base_some (base_any x g bs bw s.n s ⟨0,openMark s,0,false⟩ _ s.n W hw (h.below hW) rfl hn hn2 (by simp only;omega) (by simp only;omega) (by simp) hS (get_600 h s.n)) hy
 have lo:=fun (b:Nat) (W:World) (hS:Sls W W.heap.size (.slice (some ⟨b,0,none⟩) s.n s.n) (ofS s.get s.n))=>log_any s.n _ s.n s.get W hn hn2 hS
 have re:=fun (b:Nat) (W:World) (hS:Sls W W.heap.size (.slice (some ⟨b,0,none⟩) (lg s.n) (lg s.n)) (ofS (fun i=>s.get (2*sl s.n+i)) (lg s.n)))=>records_any _ (lg s.n) (lg s.n) (fun i=>s.get (2*sl s.n+i)) y.1 W hS hlk (fun y hy=>by
  obtain ⟨i,_,rfl⟩:=ofS_mem hy
  have:=(get_sec h (2*sl s.n+i)).1
  omega)
 rw [ofS_shift] at re
 have hTT:recsOf (logF s.get (2*sl s.n) y.1) (lg s.n)=recsS s y.1:=rfl
 rw [hTT] at re
 obtain ⟨T,hT⟩:∃ T,T=recsS s y.1:=⟨_,rfl⟩
 rw [← hT] at re e0
 have HO:=Lib.hid (fun (w':World) (x:Nat) (A:Option Addr) (n c:Nat) (vr:Value) (h1:DiskAt w' g bs bw s) (h2:KeptBut w w' [g,bs,bw]) (h3:BtsC w' w'.heap.size A n c y.2) (h4:Sls w' w'.heap.size vr T.1) (h5:w.heap.size≤x) (h6:WalAt w' x g s.n ⟨y.1,openMark s,T.2,false⟩) =>
  out_some (w:=w) (w':=w') (g:=g) (bs:=bs) (bw:=bw) (x:=x) (n:=n) (c:=c) (s:=s) (A:=A) (vr:=vr) (v:=⟨y.1,openMark s,T.2,false⟩) (by rw [e0]) (by rw [e0]) (by rw [e0];exact h1) h2 (by rw [e0];exact h3) (by rw [e0];exact h4) h5 h6)
 clear e0 hT hy
 obtain ⟨G,B⟩:=y
 simp only at ba re HO lo hTT
 rw [hom] at ba HO
 generalize markOf (ofS s.get s.n)=m at *
 have hodd:=odd_disk h
 have hlt:=h.lt
 have hdw:=fun (W:World) (hW:Below w.heap.size w W)=>h.below hW
 have hdm:decide (2147483648<m+1)=false:=by simpa using hm
 generalize hL2:ofS (fun i=>s.get (2*sl s.n+i)) (lg s.n)=L2 at *
 generalize ofS s.get s.n=L at *
 generalize s.n=k at *
 have C:=Lib.hid c;clear c
 have MK:=Lib.hid mk;clear mk
 have RD:=Lib.hid rd;clear rd
 have MA:=Lib.hid ma;clear ma
 have BA:=Lib.hid ba;clear ba
 have LO:=Lib.hid lo;clear lo
 have RE:=Lib.hid re;clear re
 have HLT:=Lib.hid hlt;clear hlt
 have HDW:=Lib.hid hdw;clear hdw
 have HODD:=Lib.hid hodd;clear hodd
 clear h hom hTT hn hn2 hd hm hL2 hlk
 go_enter Tryz.func31,Tryz.ntmps31
 go_wp2_with (first
  | (go_at_call 49;refine (C.out).mono ?_;rintro e w' ⟨rfl,rfl⟩)
  | (go_at_call 67;refine (MK.out _).mono ?_;rintro e w1 ⟨rfl,hb⟩;have HP1:=Lib.hid hb.size;have KP:=Lib.hid (Blk.new w1 37 #[.int .i64 (sl k:Nat),.int .i64 (2*(sl k:Nat)),.int .i64 (lg k:Nat)]);have HB:=Lib.hid (palloc hb (plC k));clear hb)
  | (go_at_call 68;refine (RD.out _ HB.out).mono ?_;rintro e w2 ⟨b0,rfl,hs,hb⟩;have KP2:=Lib.hid (KP.out.below hb KP.out.lt);have HS2:=Lib.hid hs;have HB2:=Lib.hid (HB.out.trans (hb.mono HB.out.size));clear hb hs)
  | (go_at_call 69;refine (MA.out b0 _ HS2.out).mono ?_;rintro e w3 ⟨rfl,hb⟩;have kp3:=KP2.out.below hb KP2.out.lt;have p0:=kp3.cell 0;have p1:=kp3.cell 1;have p2:=kp3.cell 2;have p3:=kp3.lt;simp at p0 p1 p2;have HX:=Lib.hid (Nat.le_trans HB2.out.size hb.size);have KP3:=Lib.hid (kp3.alloc (.cells (walCs g k ⟨0,m+1,0,false⟩) 138));have HS3:=Lib.hid (HS2.out.up (palloc hb (.cells (walCs g k ⟨0,m+1,0,false⟩) 138)));have HB3:=Lib.hid (palloc (HB2.out.trans (hb.mono HB2.out.size)) (.cells (walCs g k ⟨0,m+1,0,false⟩) 138));have HW3:=Lib.hid (Blk.new w3 138 (walCs g k ⟨0,m+1,0,false⟩));clear hb kp3)
  | (go_at_call 70;refine (BA.out b0 _ _ HB3.out HW3.out HS3.out).mono ?_;rintro e w5 ⟨A5,n5,c5,rfl,ht,hb⟩;have hw5:=WalAt.up HW3.out hb;have c4:=hw5.c4;have f4:=hw5.fz 4;have hxl5:=hw5.lt;have HW5:=Lib.hid hw5;have KP5:=Lib.hid (KP3.out.below hb KP3.out.lt);have HS5:=Lib.hid (HS3.out.up hb);have HT5:=Lib.hid ht;have HD5:=Lib.hid (HDW.out _ (HB3.out.trans (hb.mono HB3.out.size)));have HK5:=Lib.hid (kept_of_below (S:=[g,bs,bw]) (HB3.out.trans (hb.mono HB3.out.size)) (Nat.le_refl _));clear hb ht hw5))
 generalize hxx:w3.heap.size=x at *
 have HXX:=Lib.hid hxx;clear hxx
 clear p0 p1 p2 p3
 obtain ⟨l1,l2,l3⟩:=HLT.out
 have n1:x≠g:=by have:=HX.out;omega
 have n2:x≠bs:=by have:=HX.out;omega
 have n3:x≠bw:=by have:=HX.out;omega
 have hxl:=HW5.out.lt
 have hpx:w1.heap.size≠x:=fun e=>by
  have h1:=Blk.ne_ KP5.out HW5.out (by decide)
  exact h1 e
 have hks:=kept_set1 (w:=w5) (x:=x) (i:=4) (.int .i64 G)
 have ha:=palloc (Below.refl (w5.setCell ⟨x,4,none⟩ (.int .i64 G)).heap.size (w5.setCell ⟨x,4,none⟩ (.int .i64 G))) (.cells #[.int .i64 G,.slice A5 n5 c5] 140)
 have hsz:(w5.setCell ⟨x,4,none⟩ (.int .i64 G)).heap.size=w5.heap.size:=by simp
 have HW6:=Lib.hid ((HW5.out.set_gen G).up ha)
 have KP6:=Lib.hid ((KP5.out.far (p:=⟨x,4,none⟩) hpx (.int .i64 G)).alloc (.cells #[.int .i64 G,.slice A5 n5 c5] 140))
 have kq6:=Blk.new (w5.setCell ⟨x,4,none⟩ (.int .i64 G)) 140 #[.int .i64 G,.slice A5 n5 c5]
 rw [hsz] at kq6
 have KQ6:=Lib.hid kq6
 have HS6:=Lib.hid (((sls_kept HS5.out hks (odd_wal HW5.out) (Nat.le_refl _)).more hks.size).up ha)
 have HT6:=Lib.hid (btc_up ((btc_kept HT5.out hks (odd_wal HW5.out) (Nat.le_refl _)).more hks.size) ha)
 have HD6:=Lib.hid ((DiskAt.set_far (i:=4) HD5.out (.int .i64 G) n1 n2 n3).below ha)
 have HK6:=Lib.hid ((kept_above HK5.out (grown_set w5 ⟨x,4,none⟩ (.int .i64 G)) (fun q hq=>by cases hq;exact HX.out)).trans (kept_of_below ha (Nat.le_refl _)))
 have hqx:w5.heap.size≠x:=by omega
 clear ha hks HW5 KP5 HS5 HT5 HD5 HK5 hxl f4 c4 hxl5 kq6 hsz
 generalize (w5.setCell ⟨x,4,none⟩ (.int .i64 G)).alloc (.cells #[.int .i64 G,.slice A5 n5 c5] 140)=w6 at *
 generalize w5.heap.size=q at *
 generalize w1.heap.size=p at *
 have p0:=KP6.out.cell 0
 have p1:=KP6.out.cell 1
 have p2:=KP6.out.cell 2
 have q0:=KQ6.out.cell 0
 have q1:=KQ6.out.cell 1
 simp at p0 p1 p2 q0 q1
 have hpl:=KP6.out.lt
 have hql:=KQ6.out.lt
 go_region_held3 (fun W=>W.cell? ⟨p,0,none⟩=some (.int .i64 (sl k:Nat))∧W.cell? ⟨p,1,none⟩=some (.int .i64 (2*(sl k:Nat)))∧W.cell? ⟨p,2,none⟩=some (.int .i64 (lg k:Nat))∧W.cell? ⟨q,0,none⟩=some (.int .i64 G))
  (first
   | with_reducible exact ⟨p0,p1,p2,q0⟩
   | with_reducible exact ⟨r0,r1,r2,r3⟩
   | with_reducible exact ⟨t0,t1,t2,t3⟩
   | go_keep)
  (first
   | (go_at_call 72;refine (LO.out b0 _ (by exact HS6.out)).mono ?_;rintro e w7 ⟨b1,rfl,hs,hb⟩;have hb:=undrew hb;have hb:Below w6.heap.size w6 w7:=hb;have kp:=KP6.out.below hb hpl;have kq:=KQ6.out.below hb hql;have r0:=kp.cell 0;have r1:=kp.cell 1;have r2:=kp.cell 2;have r3:=kq.cell 0;have r4:=kp.lt;have r5:=kq.lt;simp at r0 r1 r2 r3;have KP7:=Lib.hid kp;have KQ7:=Lib.hid kq;have HS7:=Lib.hid hs;have HB7:=Lib.hid hb;clear kp kq hs hb)
   | (go_at_call 71;refine (RE.out b1 _ (by exact HS7.out)).mono ?_;rintro e w8 ⟨v8,rfl,hs,hb⟩;have kp:=KP7.out.below hb r4;have kq:=KQ7.out.below hb r5;have t0:=kp.cell 0;have t1:=kp.cell 1;have t2:=kp.cell 2;have t3:=kq.cell 0;have t4:=kq.cell 1;have t5:=kq.lt;simp at t0 t1 t2 t3 t4;have HS8:=Lib.hid hs;have HB8:=Lib.hid (HB7.out.trans (hb.mono HB7.out.size));clear kp kq hs hb))
 have hw8:=HW6.out.up HB8.out
 have c6:=hw8.c6
 have f6:=hw8.fz 6
 have hx8:=hw8.lt
 obtain ⟨A9,n9,c9,rfl,_⟩:=id HS8.out
 clear p0 p1 p2 q0 q1 hpl hql
 go_wp2
 go_quiet (fail)
 go_wp2
 have hks:=kept_set1 (w:=w8) (x:=x) (i:=6) (.int .i64 (T.2:Nat))
 have ho:=HO.out (w8.setCell ⟨x,6,none⟩ (.int .i64 (T.2:Nat))) x A5 n5 c5 (.slice A9 n9 c9) (DiskAt.set_far (i:=6) (HD6.out.below HB8.out) (.int .i64 (T.2:Nat)) n1 n2 n3)
  (kept_above (HK6.out.trans (kept_of_below HB8.out (Nat.le_refl _))) (grown_set w8 ⟨x,6,none⟩ (.int .i64 (T.2:Nat))) (fun q hq=>by cases hq;exact HX.out))
  ((btc_kept (btc_up HT6.out HB8.out) hks (odd_wal hw8) (Nat.le_refl _)).more hks.size) ((sls_kept HS8.out hks (odd_wal hw8) (Nat.le_refl _)).more hks.size) HX.out (hw8.set_next T.2)
 exact bodyPost_ret (v:=.tuple #[ptr x,.slice A5 n5 c5,.slice A9 n9 c9,.int .i64 0]) (by simp [results,Tryz.results31,go_sem]) rfl (out_drewN ho _)
theorem kept_drop {w w3 w5:World} {x g bs bw:Nat} (hb:Below w.heap.size w w3) (hx:w.heap.size≤x) (hk:KeptBut w3 w5 [x,g,bs,bw]):KeptBut w w5 [g,bs,bw] :=
 ⟨hk.os.trans hb.os,hk.tape.trans hb.tape,hk.output.trans hb.output,Nat.le_trans hb.size hk.size,fun q hq hn=>(hk.block q (Nat.lt_of_lt_of_le hq hb.size) (by
  simp only [List.mem_cons,not_or] at hn ⊢
  exact ⟨by omega,hn⟩)).trans (hb.block q hq)⟩
theorem new_sep {w w1 W:World} {x g bs bw k:Nat} {s:St} {v:Wn} {cs:Array Value} (hx:w.heap.size≤x) (hd:DiskAt W g bs bw s) (hl:g<w.heap.size∧bs<w.heap.size∧bw<w.heap.size) (hp:w.heap.size≤w1.heap.size) (hk:Blk W w1.heap.size 37 cs) (hw:WalAt W x g k v):w1.heap.size ∉ [x,g,bs,bw]:=by
 have h1:=Blk.ne_ hk hw (by decide)
 simp only [List.mem_cons,not_or,List.not_mem_nil,not_false_eq_true,and_true]
 exact ⟨h1,by omega,by omega,by omega⟩
set_option maxRecDepth 20000 in
set_option maxHeartbeats 8000000 in
theorem open_new (g bs bw:Nat) (s:St) (w:World) (h:DiskAt w g bs bw s) (hn:6≤s.n) (hn2:s.n≤1000) (hd:s.dead=false) (hm:¬ 2147483648<openMark s) (hy:theBase s.get s.n=none) (hnd:newD s.get s.n=true) (he:(firstP s s.n (openMark s)).2=0) :
  Calls Tryz.prog 31 #[ptr g] w (OpenOut w g bs bw s):=by
 have c:=Dsk.size_any g bs bw s w h
 have mk:=fun (W:World)=>make_k s.n W hn (by omega)
 have rd:=fun (W:World) (hW:Below w.heap.size w W)=>wread_ok g bs bw s W (h.below hW) hd hn2
 have e0:openP s=⟨(firstP s s.n (openMark s)).1,some ⟨1,openMark s,0,false⟩,[],[],0⟩:=by unfold openP;rw [if_neg (by omega),if_neg (by rw [hd];simp),if_neg hm,hy];simp only;rw [if_pos hnd,if_pos he]
 have ma:=fun (b:Nat) (W:World) (hS:Sls W W.heap.size (.slice (some ⟨b,0,none⟩) s.n s.n) (ofS s.get s.n))=>mark_any _ s.n s.n _ W hS hn2 (get_600 h s.n)
 obtain ⟨hm0,hm1⟩:=mark_bounds (ofS s.get s.n)
 have hom:openMark s=markOf (ofS s.get s.n)+1:=rfl
 rw [hom] at hm
 have hlk:lg s.n≤1000:=by unfold lg;omega
 have ba:=fun (b x:Nat) (W:World) (hW:Below w.heap.size w W) (hw:WalAt W x g s.n ⟨0,openMark s,0,false⟩) (hS:Sls W W.heap.size (.slice (some ⟨b,0,none⟩) s.n s.n) (ofS s.get s.n)) =>
  base_new (base_any x g bs bw s.n s ⟨0,openMark s,0,false⟩ _ s.n W hw (h.below hW) rfl hn hn2 (by simp only;omega) (by simp only;omega) (by simp) hS (get_600 h s.n)) hy hnd
 have lo:=fun (b:Nat) (W:World) (hS:Sls W W.heap.size (.slice (some ⟨b,0,none⟩) s.n s.n) (ofS s.get s.n))=>log_any s.n _ s.n s.get W hn hn2 hS
 have re:=fun (b:Nat) (W:World) (hS:Sls W W.heap.size (.slice (some ⟨b,0,none⟩) (lg s.n) (lg s.n)) (ofS (fun i=>s.get (2*sl s.n+i)) (lg s.n)))=>records_any _ (lg s.n) (lg s.n) (fun i=>s.get (2*sl s.n+i)) 1 W hS hlk (fun y hy=>by
  obtain ⟨i,_,rfl⟩:=ofS_mem hy
  have:=(get_sec h (2*sl s.n+i)).1
  omega)
 rw [ofS_shift] at re
 have hTT:recsOf (logF s.get (2*sl s.n) 1) (lg s.n)=recsS s 1:=rfl
 rw [hTT] at re
 obtain ⟨T,hT⟩:∃ T,T=recsS s 1:=⟨_,rfl⟩
 rw [← hT] at re
 have hT0:T=([],0):=by rw [hT];exact new_recs hnd hn
 subst hT0
 have HO:=Lib.hid (fun (w':World) (x:Nat) (A:Option Addr) (n c:Nat) (vr:Value) (h1:DiskAt w' g bs bw (firstP s s.n (openMark s)).1) (h2:KeptBut w w' [g,bs,bw]) (h3:BtsC w' w'.heap.size A n c []) (h4:Sls w' w'.heap.size vr []) (h5:w.heap.size≤x) (h6:WalAt w' x g s.n ⟨1,openMark s,0,false⟩) =>
  out_some (w:=w) (w':=w') (g:=g) (bs:=bs) (bw:=bw) (x:=x) (n:=n) (c:=c) (s:=s) (A:=A) (vr:=vr) (v:=⟨1,openMark s,0,false⟩) (by rw [e0]) (by rw [e0]) (by rw [e0];exact h1) h2 (by rw [e0];exact h3) (by rw [e0];exact h4) h5 h6)
 have hfe:(firstP s s.n (openMark s)).2=0:=he
 simp only [hfe] at ba
 have hb0:(⟨0,openMark s,0,false⟩:Wn).brk 0=⟨0,openMark s,0,false⟩:=rfl
 rw [hb0] at ba
 obtain ⟨F,hF⟩:∃ F,F=(firstP s s.n (openMark s)).1:=⟨_,rfl⟩
 rw [← hF] at ba HO
 clear e0 hT hy hnd he hfe hb0 hF
 rw [hom] at ba HO
 generalize markOf (ofS s.get s.n)=m at *
 have hodd:=odd_disk h
 have hlt:=h.lt
 have hdw:=fun (W:World) (hW:Below w.heap.size w W)=>h.below hW
 have hdm:decide (2147483648<m+1)=false:=by simpa using hm
 generalize hL2:ofS (fun i=>s.get (2*sl s.n+i)) (lg s.n)=L2 at *
 generalize ofS s.get s.n=L at *
 generalize s.n=k at *
 have C:=Lib.hid c;clear c
 have MK:=Lib.hid mk;clear mk
 have RD:=Lib.hid rd;clear rd
 have MA:=Lib.hid ma;clear ma
 have BA:=Lib.hid ba;clear ba
 have LO:=Lib.hid lo;clear lo
 have RE:=Lib.hid re;clear re
 have HLT:=Lib.hid hlt;clear hlt
 have HDW:=Lib.hid hdw;clear hdw
 have HODD:=Lib.hid hodd;clear hodd
 clear h hom hTT hn hn2 hd hm hL2 hlk
 go_enter Tryz.func31,Tryz.ntmps31
 go_wp2_with (first
  | (go_at_call 49;refine (C.out).mono ?_;rintro e w' ⟨rfl,rfl⟩)
  | (go_at_call 67;refine (MK.out _).mono ?_;rintro e w1 ⟨rfl,hb⟩;have HP1:=Lib.hid hb.size;have KP:=Lib.hid (Blk.new w1 37 #[.int .i64 (sl k:Nat),.int .i64 (2*(sl k:Nat)),.int .i64 (lg k:Nat)]);have HB:=Lib.hid (palloc hb (plC k));clear hb)
  | (go_at_call 68;refine (RD.out _ HB.out).mono ?_;rintro e w2 ⟨b0,rfl,hs,hb⟩;have KP2:=Lib.hid (KP.out.below hb KP.out.lt);have HS2:=Lib.hid hs;have HB2:=Lib.hid (HB.out.trans (hb.mono HB.out.size));clear hb hs)
  | (go_at_call 69;refine (MA.out b0 _ HS2.out).mono ?_;rintro e w3 ⟨rfl,hb⟩;have kp3:=KP2.out.below hb KP2.out.lt;have p0:=kp3.cell 0;have p1:=kp3.cell 1;have p2:=kp3.cell 2;have p3:=kp3.lt;simp at p0 p1 p2;have HX:=Lib.hid (Nat.le_trans HB2.out.size hb.size);have KP3:=Lib.hid (kp3.alloc (.cells (walCs g k ⟨0,m+1,0,false⟩) 138));have HS3:=Lib.hid (HS2.out.up (palloc hb (.cells (walCs g k ⟨0,m+1,0,false⟩) 138)));have HB3:=Lib.hid (palloc (HB2.out.trans (hb.mono HB2.out.size)) (.cells (walCs g k ⟨0,m+1,0,false⟩) 138));have HW3:=Lib.hid (Blk.new w3 138 (walCs g k ⟨0,m+1,0,false⟩));clear hb kp3)
  | (go_at_call 70;refine (BA.out b0 _ _ HB3.out HW3.out HS3.out).mono ?_;rintro e w5 ⟨rfl,hw5,hd5,hk5⟩;obtain ⟨A5,n5,c5,ha5,hn5,hc5⟩:∃ (A5:Option Addr) (n5 c5:Nat),A5=none∧n5=0∧c5=0:=⟨_,_,_,rfl,rfl,rfl⟩;have c4:=hw5.c4;have f4:=hw5.fz 4;have hxl5:=hw5.lt;have HW5:=Lib.hid hw5;have hd0:=HDW.out _ HB3.out;have hns:=new_sep HX.out hd0 HLT.out HP1.out KP3.out HW3.out;have KP5:=Lib.hid (hk5.blk KP3.out hns);have HS5:=Lib.hid ((sls_kept HS3.out hk5 (odd_both HW3.out hd0) (Nat.le_refl _)).more hk5.size);have HT5:=Lib.hid (btc_nil w5 w5.heap.size);have HD5:=Lib.hid hd5;have HK5:=Lib.hid (kept_drop HB3.out HX.out hk5);clear hw5 hd5 hk5 hd0 hns ha5 hn5 hc5 A5 n5 c5))
 generalize hxx:w3.heap.size=x at *
 have HXX:=Lib.hid hxx;clear hxx
 clear p0 p1 p2 p3
 obtain ⟨l1,l2,l3⟩:=HLT.out
 have n1:x≠g:=by have:=HX.out;omega
 have n2:x≠bs:=by have:=HX.out;omega
 have n3:x≠bw:=by have:=HX.out;omega
 have hxl:=HW5.out.lt
 have hpx:w1.heap.size≠x:=fun e=>by
  have h1:=Blk.ne_ KP5.out HW5.out (by decide)
  exact h1 e
 have hks:=kept_set1 (w:=w5) (x:=x) (i:=4) (.int .i64 1)
 have ha:=palloc (Below.refl (w5.setCell ⟨x,4,none⟩ (.int .i64 1)).heap.size (w5.setCell ⟨x,4,none⟩ (.int .i64 1))) (.cells #[.int .i64 1,.slice none 0 0] 140)
 have hsz:(w5.setCell ⟨x,4,none⟩ (.int .i64 1)).heap.size=w5.heap.size:=by simp
 have HW6:=Lib.hid ((HW5.out.set_gen 1).up ha)
 have KP6:=Lib.hid ((KP5.out.far (p:=⟨x,4,none⟩) hpx (.int .i64 1)).alloc (.cells #[.int .i64 1,.slice none 0 0] 140))
 have kq6:=Blk.new (w5.setCell ⟨x,4,none⟩ (.int .i64 1)) 140 #[.int .i64 1,.slice none 0 0]
 rw [hsz] at kq6
 have KQ6:=Lib.hid kq6
 have HS6:=Lib.hid (((sls_kept HS5.out hks (odd_wal HW5.out) (Nat.le_refl _)).more hks.size).up ha)
 have HT6:=Lib.hid (btc_up ((btc_kept HT5.out hks (odd_wal HW5.out) (Nat.le_refl _)).more hks.size) ha)
 have HD6:=Lib.hid ((DiskAt.set_far (i:=4) HD5.out (.int .i64 1) n1 n2 n3).below ha)
 have HK6:=Lib.hid ((kept_above HK5.out (grown_set w5 ⟨x,4,none⟩ (.int .i64 1)) (fun q hq=>by cases hq;exact HX.out)).trans (kept_of_below ha (Nat.le_refl _)))
 have hqx:w5.heap.size≠x:=by omega
 clear ha hks HW5 KP5 HS5 HT5 HD5 HK5 hxl f4 c4 hxl5 kq6 hsz
 generalize (w5.setCell ⟨x,4,none⟩ (.int .i64 1)).alloc (.cells #[.int .i64 1,.slice none 0 0] 140)=w6 at *
 generalize w5.heap.size=q at *
 generalize w1.heap.size=p at *
 have p0:=KP6.out.cell 0
 have p1:=KP6.out.cell 1
 have p2:=KP6.out.cell 2
 have q0:=KQ6.out.cell 0
 have q1:=KQ6.out.cell 1
 simp at p0 p1 p2 q0 q1
 have hpl:=KP6.out.lt
 have hql:=KQ6.out.lt
 go_region_held3 (fun W=>W.cell? ⟨p,0,none⟩=some (.int .i64 (sl k:Nat))∧W.cell? ⟨p,1,none⟩=some (.int .i64 (2*(sl k:Nat)))∧W.cell? ⟨p,2,none⟩=some (.int .i64 (lg k:Nat))∧W.cell? ⟨q,0,none⟩=some (.int .i64 1))
  (first
   | with_reducible exact ⟨p0,p1,p2,q0⟩
   | with_reducible exact ⟨r0,r1,r2,r3⟩
   | with_reducible exact ⟨t0,t1,t2,t3⟩
   | go_keep)
  (first
   | (go_at_call 72;refine (LO.out b0 _ (by exact HS6.out)).mono ?_;rintro e w7 ⟨b1,rfl,hs,hb⟩;have hb:=undrew hb;have hb:Below w6.heap.size w6 w7:=hb;have kp:=KP6.out.below hb hpl;have kq:=KQ6.out.below hb hql;have r0:=kp.cell 0;have r1:=kp.cell 1;have r2:=kp.cell 2;have r3:=kq.cell 0;have r4:=kp.lt;have r5:=kq.lt;simp at r0 r1 r2 r3;have KP7:=Lib.hid kp;have KQ7:=Lib.hid kq;have HS7:=Lib.hid hs;have HB7:=Lib.hid hb;clear kp kq hs hb)
   | (go_at_call 71;refine (RE.out b1 _ (by exact HS7.out)).mono ?_;rintro e w8 ⟨v8,rfl,hs,hb⟩;have kp:=KP7.out.below hb r4;have kq:=KQ7.out.below hb r5;have t0:=kp.cell 0;have t1:=kp.cell 1;have t2:=kp.cell 2;have t3:=kq.cell 0;have t4:=kq.cell 1;have t5:=kq.lt;simp at t0 t1 t2 t3 t4;have HS8:=Lib.hid hs;have HB8:=Lib.hid (HB7.out.trans (hb.mono HB7.out.size));clear kp kq hs hb))
 have hw8:=HW6.out.up HB8.out
 have c6:=hw8.c6
 have f6:=hw8.fz 6
 have hx8:=hw8.lt
 obtain ⟨A9,n9,c9,rfl,_⟩:=id HS8.out
 clear p0 p1 p2 q0 q1 hpl hql
 go_wp2
 go_quiet (fail)
 go_wp2
 have hks:=kept_set1 (w:=w8) (x:=x) (i:=6) (.int .i64 0)
 have ho:=HO.out (w8.setCell ⟨x,6,none⟩ (.int .i64 0)) x none 0 0 (.slice A9 n9 c9) (DiskAt.set_far (i:=6) (HD6.out.below HB8.out) (.int .i64 0) n1 n2 n3)
  (kept_above (HK6.out.trans (kept_of_below HB8.out (Nat.le_refl _))) (grown_set w8 ⟨x,6,none⟩ (.int .i64 0)) (fun q hq=>by cases hq;exact HX.out))
  ((btc_kept (btc_up HT6.out HB8.out) hks (odd_wal hw8) (Nat.le_refl _)).more hks.size) ((sls_kept HS8.out hks (odd_wal hw8) (Nat.le_refl _)).more hks.size) HX.out (hw8.set_next 0)
 exact bodyPost_ret (v:=.tuple #[ptr x,.slice none 0 0,.slice A9 n9 c9,.int .i64 0]) (by simp [results,Tryz.results31,go_sem]) rfl (out_drewN ho _)
set_option maxRecDepth 20000 in
set_option maxHeartbeats 4000000 in
theorem open_dies (g bs bw:Nat) (s:St) (w:World) (h:DiskAt w g bs bw s) (hn:6≤s.n) (hn2:s.n≤1000) (hd:s.dead=false) (hm:¬ 2147483648<openMark s) (hy:theBase s.get s.n=none) (hnd:newD s.get s.n=true) (he:(firstP s s.n (openMark s)).2≠0) :
  Calls Tryz.prog 31 #[ptr g] w (OpenOut w g bs bw s):=by
 have c:=Dsk.size_any g bs bw s w h
 have mk:=fun (W:World)=>make_k s.n W hn (by omega)
 have rd:=fun (W:World) (hW:Below w.heap.size w W)=>wread_ok g bs bw s W (h.below hW) hd hn2
 have e0:openP s=⟨(firstP s s.n (openMark s)).1,none,[],[],(firstP s s.n (openMark s)).2⟩:=by unfold openP;rw [if_neg (by omega),if_neg (by rw [hd];simp),if_neg hm,hy];simp only;rw [if_pos hnd,if_neg he]
 have HO:=Lib.hid (fun (w':World) (h1:DiskAt w' g bs bw (firstP s s.n (openMark s)).1) (h2:KeptBut w w' [g,bs,bw])=>out_none (w:=w) (w':=w') (g:=g) (bs:=bs) (bw:=bw) (s:=s) (by rw [e0]) (by rw [e0]) (by rw [e0]) (by rw [e0];exact h1) h2)
 have E0:=Lib.hid (show (openP s).e=(firstP s s.n (openMark s)).2 by rw [e0])
 have ma:=fun (b:Nat) (W:World) (hS:Sls W W.heap.size (.slice (some ⟨b,0,none⟩) s.n s.n) (ofS s.get s.n))=>mark_any _ s.n s.n _ W hS hn2 (get_600 h s.n)
 obtain ⟨hm0,hm1⟩:=mark_bounds (ofS s.get s.n)
 have hom:openMark s=markOf (ofS s.get s.n)+1:=rfl
 rw [hom] at hm
 have ba:=fun (b x:Nat) (W:World) (hW:Below w.heap.size w W) (hw:WalAt W x g s.n ⟨0,openMark s,0,false⟩) (hS:Sls W W.heap.size (.slice (some ⟨b,0,none⟩) s.n s.n) (ofS s.get s.n)) =>
  base_new (base_any x g bs bw s.n s ⟨0,openMark s,0,false⟩ _ s.n W hw (h.below hW) rfl hn hn2 (by simp only;omega) (by simp only;omega) (by simp) hS (get_600 h s.n)) hy hnd
 rw [hom] at ba HO E0 he
 simp only at ba
 obtain ⟨F,hF⟩:∃ F,F=firstP s s.n (markOf (ofS s.get s.n)+1):=⟨_,rfl⟩
 rw [← hF] at ba HO E0 he
 obtain ⟨F1,F2⟩:=F
 simp only at ba HO E0 he
 have hne:(F2 != 0)=true:=bne_iff_ne.2 he
 generalize markOf (ofS s.get s.n)=m at *
 generalize ofS s.get s.n=L at *
 generalize s.n=k at *
 have hdm:decide (2147483648<m+1)=false:=by simpa using hm
 have C:=Lib.hid c;clear c
 have MK:=Lib.hid mk;clear mk
 have RD:=Lib.hid rd;clear rd
 have MA:=Lib.hid ma;clear ma
 have BA:=Lib.hid ba;clear ba
 clear h e0 hn hn2 hd hom hm hy hnd he hF
 go_enter Tryz.func31,Tryz.ntmps31
 go_wp2_with (first
  | (go_at_call 49;refine (C.out).mono ?_;rintro e w' ⟨rfl,rfl⟩)
  | (go_at_call 67;refine (MK.out _).mono ?_;rintro e w1 ⟨rfl,hb⟩;have KP:=Lib.hid (Blk.new w1 37 #[.int .i64 (sl k:Nat),.int .i64 (2*(sl k:Nat)),.int .i64 (lg k:Nat)]);have HB:=Lib.hid (palloc hb (plC k));clear hb)
  | (go_at_call 68;refine (RD.out _ HB.out).mono ?_;rintro e w2 ⟨b0,rfl,hs,hb⟩;have KP2:=Lib.hid (KP.out.below hb KP.out.lt);have HS2:=Lib.hid hs;have HB2:=Lib.hid (HB.out.trans (hb.mono HB.out.size));clear hb hs)
  | (go_at_call 69;refine (MA.out b0 _ HS2.out).mono ?_;rintro e w3 ⟨rfl,hb⟩;have kp3:=KP2.out.below hb KP2.out.lt;have p0:=kp3.cell 0;have p1:=kp3.cell 1;have p2:=kp3.cell 2;have p3:=kp3.lt;simp at p0 p1 p2;have HX:=Lib.hid (Nat.le_trans HB2.out.size hb.size);have HS3:=Lib.hid (HS2.out.up (palloc hb (.cells (walCs g k ⟨0,m+1,0,false⟩) 138)));have HB3:=Lib.hid (palloc (HB2.out.trans (hb.mono HB2.out.size)) (.cells (walCs g k ⟨0,m+1,0,false⟩) 138));have HW3:=Lib.hid (Blk.new w3 138 (walCs g k ⟨0,m+1,0,false⟩));clear hb kp3)
  | (go_at_call 70;refine (BA.out b0 _ _ HB3.out HW3.out HS3.out).mono ?_;rintro e w5 ⟨rfl,hw5,hd5,hk5⟩;have HD5:=Lib.hid hd5;have HK5:=Lib.hid (kept_drop HB3.out HX.out hk5);clear hw5 hd5 hk5))
 have ha:=palloc (Below.refl w5.heap.size w5) (.cells #[.int .i64 1,.slice none 0 0] 140)
 have ho:=HO.out _ (HD5.out.below ha) (HK5.out.trans (kept_of_below ha (Nat.le_refl _)))
 rw [E0.out] at ho
 exact bodyPost_ret (v:=.tuple #[.pointer none,.slice none 0 0,.slice none 0 0,.int .i64 F2]) (by simp [results,Tryz.results31,go_sem]) rfl ho
theorem open_any (g bs bw:Nat) (s:St) (w:World) (h:DiskAt w g bs bw s) (hn2:s.n≤1000):Calls Tryz.prog 31 #[ptr g] w (OpenOut w g bs bw s):=by
 by_cases hn:s.n<6
 ·exact open_small g bs bw s w h hn
 ·cases hd:s.dead with
  | true=>exact open_dead g bs bw s w h (by omega) hn2 hd
  | false =>
   by_cases hm:2147483648<openMark s
   ·exact open_full g bs bw s w h (by omega) hn2 hd hm
   ·cases hy:theBase s.get s.n with
    | some y=>exact open_old g bs bw s w h (by omega) hn2 hd hm y hy
    | none =>
     cases hnd:newD s.get s.n with
     | false=>exact open_bad g bs bw s w h (by omega) hn2 hd hm hy hnd
     | true =>
      by_cases he:(firstP s s.n (openMark s)).2=0
      ·exact open_new g bs bw s w h (by omega) hn2 hd hm hy hnd he
      ·exact open_dies g bs bw s w h (by omega) hn2 hd hm hy hnd he
end Go.Proofs.YtplpmemlaohlaaaGreat.Wl
namespace Go.Proofs.YtplpmemlaohlaaaGreat.Wl
open Go.RowKit Mem Pg Rcd Slt
open Dsk (KeptBut SMap DiskAt St ptr kept_of_below kept_of_grown kept_drew)
open Plt (sl plV sl_le sl_pos)
set_option linter.unusedVariables false
set_option linter.unusedSimpArgs false
section
variable (x g bs bw k:Nat) (s:St) (v:Wn) (A:Option Addr) (n c:Nat) (b:List Nat) (w:World)
set_option maxHeartbeats 2000000 in
theorem commit_br (hw:WalAt w x g k v) (hd:DiskAt w g bs bw s) (hbr:v.br=true):Calls Tryz.prog 42 #[ptr x,.slice A n c] w (ActOut w x g bs bw k (commitP k s v b)):=by
 have C:=broken_any x g k v w hw
 rw [hbr] at C
 have C:=Lib.hid C
 have ho:ActOut w x g bs bw k (commitP k s v b) (.returned (.int .i64 6)) w:=by
  unfold commitP
  rw [if_pos hbr]
  exact ⟨rfl,hw,hd,KeptBut.refl _ _⟩
 have HO:=Lib.hid ho;clear ho hw hd hbr
 go_enter Tryz.func42,Tryz.ntmps42
 go_wp2_with (go_at_call 57;refine (C.out).mono ?_;rintro e w' ⟨rfl,rfl⟩)
 go_ret
 exact HO.out
def PM (w:World) (gen mark:Int) (next:Nat) (s5:Value) (wx:World):Prop:=∃ y,s5=.pointer (some ⟨y,0,none⟩)∧Blk wx y 125 #[.int .i64 2,.int .i64 gen,.int .i64 mark,.int .i64 (next:Nat),.int .i64 0,.int .i64 0,.slice none 0 0]∧Below w.heap.size w wx
theorem pm_new {w w1:World} {gen mark:Int} {next y:Nat} (hy:y=w1.heap.size) (hb:Below w.heap.size w w1) :
  PM w gen mark next (.pointer (some ⟨y,0,none⟩)) (w1.alloc (.cells #[.int .i64 2,.int .i64 gen,.int .i64 mark,.int .i64 (next:Nat),.int .i64 0,.int .i64 0,.slice none 0 0] 125)):=by
 subst hy
 exact ⟨_,rfl,Blk.new _ _ _,palloc hb _⟩
set_option maxRecDepth 20000 in
set_option maxHeartbeats 4000000 in
theorem commit_full (hw:WalAt w x g k v) (hd:DiskAt w g bs bw s) (hk1:6≤k) (hk2:k≤1000) (hv:WnOk k v) (hbr:v.br=false) (hb:Sl w w.heap.size (.slice A n c) b) (hbn:b.length=n) (hn:n≤7808) (hp:lg k<v.next+parts n) :
  Calls Tryz.prog 42 #[ptr x,.slice A n c] w (ActOut w x g bs bw k (commitP k s v b)):=by
 obtain ⟨hg0,hg1,hm0,hm1,hnx⟩:=hv
 have hlk:lg k≤1000:=by unfold lg;omega
 have ho:∀ w':World,Below w.heap.size w w'→ActOut w x g bs bw k (commitP k s v b) (.returned (.int .i64 4)) w':=fun w' hb'=>by
  unfold commitP
  rw [if_neg (by rw [hbr];simp),if_pos (by rw [hbn];exact hp)]
  exact ⟨rfl,hw.up hb',hd.below hb',kept_of_below hb' (Nat.le_refl _)⟩
 have HO:=Lib.hid ho;clear ho
 have C:=broken_any x g k v w hw
 rw [hbr] at C
 have C:=Lib.hid C
 have fr:=fun (W:World) (hW:Below w.heap.size w W)=>free_any x g k v W (hw.up hW) (by omega) (by omega)
 have FR:=Lib.hid fr;clear fr
 have hfit:=fits_ok (p:=lP v.gen v.mark v.next) (b:=b) (by unfold lP;simp) ⟨hg0,hg1⟩ ⟨hm0,hm1⟩ (by unfold lP;simp only;omega) (by omega)
 have sp:=fun (W:World) (hW:Below w.heap.size w W)=>split_any (lP v.gen v.mark v.next) (.slice none 0 0) A n c b W (sl_up hb hW) hbn (by unfold In64 lP;simp only;omega)
 rw [if_neg (by omega:¬ 7808<n),if_pos hfit,if_pos hfit] at sp
 have e0:pgV (lP v.gen v.mark v.next) (.slice none 0 0)=.agg #[.int .i64 2,.int .i64 v.gen,.int .i64 v.mark,.int .i64 (v.next:Nat),.int .i64 0,.int .i64 0,.slice none 0 0]:=rfl
 rw [e0] at sp
 have hpl:=pages_length (lP v.gen v.mark v.next) b
 rw [hbn] at hpl
 have HPL:=Lib.hid hpl;clear hpl
 have SP:=Lib.hid sp;clear sp
 have c4:=hw.c4
 have c5:=hw.c5
 have c6:=hw.c6
 have hx:=hw.lt
 clear e0 hw hd hb hbr hfit hbn
 generalize hps:pages (lP v.gen v.mark v.next) b=ps at *
 clear hps
 generalize parts n=m at *
 generalize lg k=l at *
 obtain ⟨gen,mark,next,br⟩:=v
 simp only at *
 have hd1:decide ((l:Int) - (next:Int)<(m:Int))=true:=by simp;omega
 go_enter Tryz.func42,Tryz.ntmps42
 go_wp2_with (go_at_call 57;refine (C.out).mono ?_;rintro e w' ⟨rfl,rfl⟩)
 go_cut [5] from 14 to 26 (fun s5 wx=>PM w gen mark next s5 wx)
 case first =>
  go_region_held3 (fun W=>W.cell? ⟨x,4,none⟩=some (.int .i64 gen)∧W.cell? ⟨x,5,none⟩=some (.int .i64 mark)∧W.cell? ⟨x,6,none⟩=some (.int .i64 (next:Nat)))
   (first
    | with_reducible exact ⟨c4,c5,c6⟩
    | go_keep)
   (first | (fail))
  all_goals
   go_wp2_with fail
   go_meet
   case rel=>first | exact pm_new rfl (Below.refl _ _).drew
 case rest =>
  obtain ⟨y,rfl,hy,hbw⟩:=hcut
  have HBW:=Lib.hid hbw;clear hbw
  have y0:=hy.cell 0
  have y1:=hy.cell 1
  have y2:=hy.cell 2
  have y3:=hy.cell 3
  have y4:=hy.cell 4
  have y5:=hy.cell 5
  have y6:=hy.cell 6
  have hyl:=hy.lt
  simp at y0 y1 y2 y3 y4 y5 y6
  clear hy c4 c5 c6 hx
  go_wp2_with (first
   | (go_at_call 97;refine (SP.out _ HBW.out).mono ?_;rintro e w2 ⟨v2,rfl,hp2,hb2⟩;obtain ⟨A2,n2,c2,rfl,_⟩:=id hp2;obtain rfl:n2=m:=(by have h1:=(pgs_len hp2).1;have:=HPL.out;omega);have HB2:=Lib.hid (HBW.out.trans (hb2.mono HBW.out.size));clear hp2 hb2)
   | (go_at_call 98;refine (FR.out _ HB2.out).mono ?_;rintro e w3 ⟨rfl,q,rfl⟩))
  go_ret
  exact HO.out _ (below_drewN HB2.out _)
set_option maxRecDepth 20000 in
set_option maxHeartbeats 8000000 in
theorem commit_goes (hw:WalAt w x g k v) (hd:DiskAt w g bs bw s) (hk1:6≤k) (hk2:k≤1000) (hv:WnOk k v) (hbr:v.br=false) (hb:Sl w w.heap.size (.slice A n c) b) (hbn:b.length=n) (hn:n≤7808) (hp:¬ lg k<v.next+parts n) :
  Calls Tryz.prog 42 #[ptr x,.slice A n c] w (ActOut w x g bs bw k (commitP k s v b)):=by
 obtain ⟨hg0,hg1,hm0,hm1,hnx⟩:=hv
 have hlk:lg k≤1000:=by unfold lg;omega
 have hpp:=parts_pos hn
 have hp16:=parts_le n
 have C:=broken_any x g k v w hw
 rw [hbr] at C
 have C:=Lib.hid C
 have fr:=fun (W:World) (hW:Below w.heap.size w W)=>free_any x g k v W (hw.up hW) (by omega) (by omega)
 have FR:=Lib.hid fr;clear fr
 have hfit:=fits_ok (p:=lP v.gen v.mark v.next) (b:=b) (by unfold lP;simp) ⟨hg0,hg1⟩ ⟨hm0,hm1⟩ (by unfold lP;simp only;omega) (by omega)
 have sp:=fun (W:World) (hW:Below w.heap.size w W)=>split_any (lP v.gen v.mark v.next) (.slice none 0 0) A n c b W (sl_up hb hW) hbn (by unfold In64 lP;simp only;omega)
 rw [if_neg (by omega:¬ 7808<n),if_pos hfit,if_pos hfit] at sp
 have e0:pgV (lP v.gen v.mark v.next) (.slice none 0 0)=.agg #[.int .i64 2,.int .i64 v.gen,.int .i64 v.mark,.int .i64 (v.next:Nat),.int .i64 0,.int .i64 0,.slice none 0 0]:=rfl
 rw [e0] at sp
 have hpl:=pages_length (lP v.gen v.mark v.next) b
 have hmay:=fun i (hi:i<parts n)=>fits_may (q:=lP v.gen v.mark v.next) (b:=b) (i:=i) hfit (by rw [hbn];exact hi)
 have hpg:=fun i (hi:i<parts n)=>pages_getD (lP v.gen v.mark v.next) b i (by rw [hbn];exact hi)
 have hsl:=secL_len (lP v.gen v.mark v.next) b
 have hsg:=fun i (hi:i<parts n)=>secL_get (lP v.gen v.mark v.next) b i (by rw [hbn];exact hi)
 have at_:=fun (W:World)=>at_k k v.next W hk1 (by omega) (by omega)
 rw [hbn] at hpl hmay hpg hsl hsg
 have e1:commitP k s v b=((writes s (2*sl k+v.next) (secL (lP v.gen v.mark v.next) b)).1,(if (writes s (2*sl k+v.next) (secL (lP v.gen v.mark v.next) b)).2=0 then ⟨v.gen,v.mark,v.next+parts n,false⟩ else ⟨v.gen,v.mark,v.next,true⟩),(writes s (2*sl k+v.next) (secL (lP v.gen v.mark v.next) b)).2):=by
  unfold commitP
  rw [if_neg (by rw [hbr];simp),if_neg (by rw [hbn];exact hp),hbn]
 have hs16:=sl_le k
 obtain ⟨f,hf⟩:∃ f,f=2*sl k+v.next:=⟨_,rfl⟩
 have hf2:f≤2000:=by omega
 rw [← hf] at at_ e1
 obtain ⟨L,hL⟩:∃ L,L=secL (lP v.gen v.mark v.next) b:=⟨_,rfl⟩
 rw [← hL] at hsl hsg e1
 have wr:=fun (A1:Option Addr) (n1 c1:Nat) (W:World) (hW:Below w.heap.size w W) (h3:Sls W W.heap.size (.slice A1 n1 c1) L)=>wwrite_any x g bs bw k s v f A1 n1 c1 L W (hw.up hW) (hd.below hW) h3 (by have:=(sls_len h3).1;omega) hf2
 obtain ⟨R,hR⟩:∃ R,R=writes s f L:=⟨_,rfl⟩
 rw [← hR] at wr e1
 obtain ⟨s',e'⟩:=R
 simp only at wr e1
 have HO:Hid (∀ (w':World) (v':Wn),v'=(if e'=0 then ⟨v.gen,v.mark,v.next+parts n,false⟩ else ⟨v.gen,v.mark,v.next,true⟩)→WalAt w' x g k v'→DiskAt w' g bs bw s'→KeptBut w w' [x,g,bs,bw]→ActOut w x g bs bw k (commitP k s v b) (.returned (.int .i64 e')) w'):=Lib.hid (fun w' v' h1 h2 h3 h4=>by
  subst h1
  rw [e1]
  exact ⟨rfl,h2,h3,h4⟩)
 have hw0:=hw
 obtain ⟨n1,n2,n3⟩:=wal_ne hw hd
 have HWU:=Lib.hid (fun (W:World) (hW:Below w.heap.size w W)=>hw0.up hW)
 have HPL:=Lib.hid hpl;clear hpl
 have HMAY:=Lib.hid hmay;clear hmay
 have HPG:=Lib.hid hpg;clear hpg
 have HSL:=Lib.hid hsl;clear hsl
 have HSG:=Lib.hid hsg;clear hsg
 have SP:=Lib.hid sp;clear sp
 have AT:=Lib.hid at_;clear at_
 have WR:=Lib.hid wr;clear wr
 have c4:=hw.c4
 have c5:=hw.c5
 have c6:=hw.c6
 have hx:=hw.lt
 obtain ⟨F,hF⟩:∃ F:Nat→List Nat,F=fun i=>(nth (lP v.gen v.mark v.next) b (parts n) i).sector:=⟨_,rfl⟩
 have HF:=Lib.hid hF;clear hF
 generalize hps:pages (lP v.gen v.mark v.next) b=ps at *
 clear e0 e1 hw hd hb hw0 hfit hbn hps hL hR hf hs16
 have hbr2:({ v with br:=false }:Wn)=v:=by obtain ⟨a,b',c',d⟩:=v;simp only at hbr;rw [hbr]
 have HBR2:=Lib.hid hbr2;clear hbr2 hbr
 generalize hmm:parts n=m at *
 have HMM:=Lib.hid hmm;clear hmm
 have hd1:decide ((lg k:Int) - (v.next:Int)<(m:Int))=false:=by simp;omega
 have hmk:=fun (W:World)=>make_slices m (by omega) W
 have hmp:0<m:=by omega
 obtain ⟨gen,hgen⟩:∃ gen,gen=v.gen:=⟨_,rfl⟩
 obtain ⟨mark,hmark⟩:∃ mark,mark=v.mark:=⟨_,rfl⟩
 obtain ⟨next,hnext⟩:∃ next,next=v.next:=⟨_,rfl⟩
 rw [← hgen,← hmark,← hnext] at SP HMAY HPG HSG HF
 rw [← hgen] at c4
 rw [← hmark] at c5
 rw [← hnext] at c6 hd1 FR AT hnx hp
 have HGEN:=Lib.hid hgen;clear hgen
 have HMARK:=Lib.hid hmark;clear hmark
 have HNEXT:=Lib.hid hnext;clear hnext
 go_enter Tryz.func42,Tryz.ntmps42
 go_wp2_with (go_at_call 57;refine (C.out).mono ?_;rintro e w' ⟨rfl,rfl⟩)
 go_cut [5] from 14 to 26 (fun s5 wx=>PM w gen mark next s5 wx)
 case first =>
  go_region_held3 (fun W=>W.cell? ⟨x,4,none⟩=some (.int .i64 gen)∧W.cell? ⟨x,5,none⟩=some (.int .i64 mark)∧W.cell? ⟨x,6,none⟩=some (.int .i64 (next:Nat)))
   (first
    | with_reducible exact ⟨c4,c5,c6⟩
    | go_keep)
   (first | (fail))
  all_goals
   go_wp2_with fail
   go_meet
   case rel=>first | exact pm_new rfl (Below.refl _ _).drew
 case rest =>
  obtain ⟨y,rfl,hy,hbw⟩:=hcut
  have HBW:=Lib.hid hbw;clear hbw
  have y0:=hy.cell 0
  have y1:=hy.cell 1
  have y2:=hy.cell 2
  have y3:=hy.cell 3
  have y4:=hy.cell 4
  have y5:=hy.cell 5
  have y6:=hy.cell 6
  have hyl:=hy.lt
  simp at y0 y1 y2 y3 y4 y5 y6
  clear hy c4 c5 c6 hx
  go_wp2_with (first
   | (go_at_call 97;refine (SP.out _ HBW.out).mono ?_;rintro e w2 ⟨v2,rfl,hp2,hb2⟩;obtain ⟨A2,n2',c2,rfl,_⟩:=id hp2;obtain rfl:n2'=m:=(by have h1:=(pgs_len hp2).1;have:=HPL.out;omega);have HP2:=Lib.hid hp2;have HB2:=Lib.hid (HBW.out.trans (hb2.mono HBW.out.size));clear hp2 hb2)
   | (go_at_call 98;refine (FR.out _ HB2.out).mono ?_;rintro e w3 ⟨rfl,q,hq⟩;have hb3:Below w2.heap.size w2 w3:=(by rw [hq];exact below_drewN (Below.refl _ _) q);have HP3:=Lib.hid ((HP2.out.below hb3 (Nat.le_refl _)).more hb3.size);have HB3:=Lib.hid (HB2.out.trans (hb3.mono HB2.out.size));clear hq hb3))
  have hmd:=made_new w3 n2' F
  have hbm:=palloc (Below.refl w3.heap.size w3) (Obj.cells (List.replicate n2' (Value.slice none 0 0)).toArray 74)
  have HMD:=Lib.hid hmd;clear hmd
  have HBM:=Lib.hid hbm;clear hbm
  go_loopw [46] (fun i wr=>∃ j:Nat,j≤n2'∧i=.int .i64 j∧Made wr w3.heap.size n2' j F∧Below w3.heap.size w3 wr) (fun i _=>n2' - (intOf i).toNat)
  case atStart=>exact ⟨0,Nat.zero_le _,rfl,HMD.out,HBM.out⟩
  case round =>
   obtain ⟨j,hj,rfl,hmd,hbw⟩:=hrel
   have HB:=Lib.hid hbw;clear hbw
   have HMK:=Lib.hid hmd;clear hmd
   by_cases hlt:j<n2'
   ·obtain ⟨b0,off,rfl,hb,hc⟩:=pgs_at HP3.out (by omega)
    obtain ⟨v1,hr1,hs1⟩:=hc j hlt
    rw [HPG.out j hlt] at hr1 hs1
    have hmy:=HMAY.out j hlt
    have hfk:F j=(nth (lP gen mark next) b n2' j).sector:=by rw [HF.out]
    obtain ⟨q1,hq1⟩:∃ q,q=nth (lP gen mark next) b n2' j:=⟨_,rfl⟩
    rw [← hq1] at hr1 hs1 hmy hfk
    clear hq1 hc
    obtain ⟨A1,n1',c1,rfl,hbt1⟩:=hs1
    have HR1:=Lib.hid hr1;clear hr1
    have HFK:=Lib.hid hfk;clear hfk
    have pu:=put_ok q1 (.slice A1 n1' c1) (wr.alloc (.cells #[.int .i64 q1.kind,.int .i64 q1.gen,.int .i64 q1.mark,.int .i64 q1.index,.int .i64 q1.part,.int .i64 q1.parts,.slice A1 n1' c1] 125)) hmy ⟨A1,n1',c1,rfl,(hbt1.below (palloc HB.out _) (Nat.le_refl _)).more (palloc HB.out _).size⟩
    unfold pgV at pu
    have PU:=Lib.hid pu;clear pu hbt1
    go_wp2_with (first
     | (refine wpList_load_mid rfl 125 (.tmp 49) rfl b0 (off+j*7) rfl [.int .i64 q1.kind,.int .i64 q1.gen,.int .i64 q1.mark,.int .i64 q1.index,.int .i64 q1.part,.int .i64 q1.parts,.slice A1 n1' c1] _ (rangeAt_below HR1.out HB.out hb) Tryz.underlying125 rfl (by rw [size24];rfl) ?_)
     | (go_at_call 99;refine (PU.out).mono ?_;rintro e w4 ⟨v4,rfl,hs4,hb4⟩;obtain ⟨A4,n4,c4',rfl,_⟩:=id hs4;have HS4:=Lib.hid hs4;have hbr:=(palloc (Below.refl wr.heap.size wr) (Obj.cells #[.int .i64 q1.kind,.int .i64 q1.gen,.int .i64 q1.mark,.int .i64 q1.index,.int .i64 q1.part,.int .i64 q1.parts,.slice A1 n1' c1] 125)).trans (hb4.mono (by simp));have HM4:=Lib.hid (HMK.out.below hbr);have HB4:=Lib.hid (HB.out.trans (hbr.mono HB.out.size));obtain ⟨⟨uk,huk,huo⟩,hfk4,hg4⟩:=HM4.out.cell hlt;clear hbr hb4 hs4))
    go_roundw
    case rel=>exact ⟨j+1,by omega,by go_num,HM4.out.step hlt (by rw [HFK.out];exact HS4.out),HB4.out.grown (grown_set w4 ⟨w3.heap.size,j,none⟩ _) HB4.out.size (fun q hq=>by cases hq;exact Nat.le_refl _)⟩
    case measure=>simp [intOf];omega
   ·obtain rfl:j=n2':=by omega
    have hsls:=HMK.out.sls (ss:=L) (by unfold maxLen;omega) HSL.out (fun i hi=>by rw [HSG.out i hi,HF.out])
    have HSLS:=Lib.hid hsls;clear hsls
    have HB5:=Lib.hid (HB3.out.trans (HB.out.mono HB3.out.size))
    have hw5:=HWU.out _ HB5.out
    have m1:=hw5.c1
    have m2:=hw5.c2
    have m3:=hw5.c3
    have m6:=hw5.c6
    rw [← HNEXT.out] at m6
    have hx5:=hw5.lt
    clear hw5
    go_wp2
    by_cases he:e'=0
    ·subst he
     simp only [if_pos] at HO
     go_region_held3 (fun W=>W.cell? ⟨x,1,none⟩=some (.int .i64 (sl k:Nat))∧W.cell? ⟨x,2,none⟩=some (.int .i64 (2*(sl k:Nat)))∧W.cell? ⟨x,3,none⟩=some (.int .i64 (lg k:Nat))∧W.cell? ⟨x,6,none⟩=some (.int .i64 (next:Nat)))
      (first
       | with_reducible exact ⟨m1,m2,m3,m6⟩
       | with_reducible exact ⟨r1,r2,r3,r6⟩
       | with_reducible exact ⟨t1,t2,t3,t6⟩
       | go_keep)
      (first
       | (go_at_call 101;refine (AT.out _).mono ?_;rintro e w6 ⟨rfl,hb⟩;have hb:Below wr.heap.size wr w6:=undrew hb;have HB6:=Lib.hid (HB5.out.trans (hb.mono HB5.out.size));have hw6:=HWU.out _ HB6.out;have r1:=hw6.c1;have r2:=hw6.c2;have r3:=hw6.c3;have r6:=hw6.c6;rw [← HNEXT.out] at r6;have hx6:=hw6.lt;have HS6:=Lib.hid (HSLS.out.up hb);clear hb hw6)
       | (go_at_call 100;refine (WR.out _ _ _ _ (by exact HB6.out) (by exact HS6.out)).mono ?_;rintro e w7 ⟨rfl,hw7,hd7,hk7⟩;have t1:=hw7.c1;have t2:=hw7.c2;have t3:=hw7.c3;have t6:=hw7.c6;have hx7:=hw7.lt;have t7:=hw7.fz 6;have ev:(v.brk 0).next=next:=HNEXT.out.symm;rw [ev] at t6;have HW7:=Lib.hid hw7;have HD7:=Lib.hid hd7;have HK7:=Lib.hid ((kept_of_below (S:=[x,g,bs,bw]) HB6.out (Nat.le_refl _)).trans hk7);clear hw7 hd7 hk7 ev))
     go_wp2
     have hlen:((next:Int)+(j:Int))=((next+j:Nat):Int):=by omega
     go_ret
     have hv0:v.brk 0=v:=HBR2.out
     have hw8:=HW7.out
     rw [hv0] at hw8
     have hd8:=DiskAt.set_far (i:=6) HD7.out (.int .i64 ((next:Int)+(j:Int))) n1 n2 n3
     have hk8:=HK7.out.trans ((kept_set1 (x:=x) (i:=6) (.int .i64 ((next:Int)+(j:Int)))).more (fun y hy=>by simp at hy;simp [hy]))
     have hw9:=hw8.set_next (v.next+j)
     have hbf:false=v.br:=congrArg Wn.br HBR2.out
     have hv1:({ v with next:=v.next+j }:Wn)=⟨v.gen,v.mark,v.next+j,false⟩:=by rw [← hbf]
     rw [hv1,← HNEXT.out,← hlen] at hw9
     exact HO.out _ _ (by rw [← HNEXT.out]) hw9 hd8 hk8
    ·have hne:(e' != 0)=true:=bne_iff_ne.2 he
     simp only [if_neg he] at HO
     have hbv:=brk_n v he
     have HBV:=Lib.hid hbv;clear hbv he
     go_region_held3 (fun W=>W.cell? ⟨x,1,none⟩=some (.int .i64 (sl k:Nat))∧W.cell? ⟨x,2,none⟩=some (.int .i64 (2*(sl k:Nat)))∧W.cell? ⟨x,3,none⟩=some (.int .i64 (lg k:Nat))∧W.cell? ⟨x,6,none⟩=some (.int .i64 (next:Nat)))
      (first
       | with_reducible exact ⟨m1,m2,m3,m6⟩
       | with_reducible exact ⟨r1,r2,r3,r6⟩
       | with_reducible exact ⟨t1,t2,t3,t6⟩
       | go_keep)
      (first
       | (go_at_call 101;refine (AT.out _).mono ?_;rintro e w6 ⟨rfl,hb⟩;have hb:Below wr.heap.size wr w6:=undrew hb;have HB6:=Lib.hid (HB5.out.trans (hb.mono HB5.out.size));have hw6:=HWU.out _ HB6.out;have r1:=hw6.c1;have r2:=hw6.c2;have r3:=hw6.c3;have r6:=hw6.c6;rw [← HNEXT.out] at r6;have hx6:=hw6.lt;have HS6:=Lib.hid (HSLS.out.up hb);clear hb hw6)
       | (go_at_call 100;refine (WR.out _ _ _ _ (by exact HB6.out) (by exact HS6.out)).mono ?_;rintro e w7 ⟨rfl,hw7,hd7,hk7⟩;have t1:=hw7.c1;have t2:=hw7.c2;have t3:=hw7.c3;have t6:=hw7.c6;have hx7:=hw7.lt;have t7:=hw7.fz 6;have ev:(v.brk e').next=next:=HNEXT.out.symm;rw [ev] at t6;have HW7:=Lib.hid hw7;have HD7:=Lib.hid hd7;have HK7:=Lib.hid ((kept_of_below (S:=[x,g,bs,bw]) HB6.out (Nat.le_refl _)).trans hk7);clear hw7 hd7 hk7 ev))
     go_wp2
     go_ret
     have hw8:=HW7.out
     rw [HBV.out] at hw8
     exact HO.out _ _ rfl hw8 HD7.out HK7.out
theorem commit_any (hw:WalAt w x g k v) (hd:DiskAt w g bs bw s) (hk1:6≤k) (hk2:k≤1000) (hv:WnOk k v) (hb:Sl w w.heap.size (.slice A n c) b) (hbn:b.length=n) (hn:n≤7808) :
  Calls Tryz.prog 42 #[ptr x,.slice A n c] w (ActOut w x g bs bw k (commitP k s v b)):=by
 cases hbr:v.br with
 | true=>exact commit_br x g bs bw k s v A n c b w hw hd hbr
 | false =>
  by_cases hp:lg k<v.next+parts n
  ·exact commit_full x g bs bw k s v A n c b w hw hd hk1 hk2 hv hbr hb hbn hn hp
  ·exact commit_goes x g bs bw k s v A n c b w hw hd hk1 hk2 hv hbr hb hbn hn hp
end
end Go.Proofs.YtplpmemlaohlaaaGreat.Wl
namespace Go.Proofs.YtplpmemlaohlaaaGreat.Wl
open Go.RowKit Mem Pg Rcd Slt
open Dsk (KeptBut SMap DiskAt St ptr kept_of_below kept_of_grown kept_drew)
open Plt (sl plV sl_le sl_pos)
set_option linter.unusedVariables false
set_option linter.unusedSimpArgs false
section
variable (x g bs bw k:Nat) (s:St) (v:Wn) (A:Option Addr) (n c:Nat) (b:List Nat) (w:World)
set_option maxHeartbeats 2000000 in
theorem turn_br (hw:WalAt w x g k v) (hd:DiskAt w g bs bw s) (hbr:v.br=true):Calls Tryz.prog 103 #[ptr x,.slice A n c] w (ActOut w x g bs bw k (turnP k s v b)):=by
 have C:=broken_any x g k v w hw
 rw [hbr] at C
 have C:=Lib.hid C
 have ho:ActOut w x g bs bw k (turnP k s v b) (.returned (.int .i64 6)) w:=by
  unfold turnP
  rw [if_pos hbr]
  exact ⟨rfl,hw,hd,KeptBut.refl _ _⟩
 have HO:=Lib.hid ho;clear ho hw hd hbr
 go_enter Tryz.func103,Tryz.ntmps103
 go_wp2_with (go_at_call 57;refine (C.out).mono ?_;rintro e w' ⟨rfl,rfl⟩)
 go_ret
 exact HO.out
set_option maxHeartbeats 2000000 in
theorem turn_big (hw:WalAt w x g k v) (hd:DiskAt w g bs bw s) (hbr:v.br=false) (hbn:b.length=n) (hn:n≤7808) (hp:sl k<parts n):Calls Tryz.prog 103 #[ptr x,.slice A n c] w (ActOut w x g bs bw k (turnP k s v b)):=by
 have C:=broken_any x g k v w hw
 rw [hbr] at C
 have C:=Lib.hid C
 have p:=fun (W:World)=>parts_any (n:Int) W
 rw [partsI_nat] at p
 have P:=Lib.hid p;clear p
 have c1:=hw.c1
 have hx:=hw.lt
 have h1:=parts_pos hn
 have ho:ActOut w x g bs bw k (turnP k s v b) (.returned (.int .i64 5)) w:=by
  unfold turnP
  rw [if_neg (by rw [hbr];simp),if_pos (by rw [hbn];exact hp)]
  exact ⟨rfl,hw,hd,KeptBut.refl _ _⟩
 have HO:=Lib.hid ho;clear ho hw hd hbr hbn
 generalize parts n=m at *
 generalize sl k=l at *
 have hd1:((m:Int) == 0)=false:=by rw [beq_eq_false_iff_ne];omega
 have hd2:decide (l<m)=true:=by simpa using hp
 go_enter Tryz.func103,Tryz.ntmps103
 go_wp2_with (first
  | (go_at_call 57;refine (C.out).mono ?_;rintro e w' ⟨rfl,rfl⟩)
  | (go_at_call 151;refine (P.out _).mono ?_;rintro e w' ⟨rfl,rfl⟩))
 go_ret
 exact HO.out
set_option maxHeartbeats 2000000 in
theorem turn_full (hw:WalAt w x g k v) (hd:DiskAt w g bs bw s) (hbr:v.br=false) (hbn:b.length=n) (hn:n≤7808) (hp:¬ sl k<parts n) (hg:v.gen=2147483648):Calls Tryz.prog 103 #[ptr x,.slice A n c] w (ActOut w x g bs bw k (turnP k s v b)):=by
 have C:=broken_any x g k v w hw
 rw [hbr] at C
 have C:=Lib.hid C
 have p:=fun (W:World)=>parts_any (n:Int) W
 rw [partsI_nat] at p
 have P:=Lib.hid p;clear p
 have c1:=hw.c1
 have c4:=hw.c4
 rw [hg] at c4
 have hx:=hw.lt
 have h1:=parts_pos hn
 have ho:ActOut w x g bs bw k (turnP k s v b) (.returned (.int .i64 4)) w:=by
  unfold turnP
  rw [if_neg (by rw [hbr];simp),if_neg (by rw [hbn];exact hp),if_pos hg]
  exact ⟨rfl,hw,hd,KeptBut.refl _ _⟩
 have HO:=Lib.hid ho;clear ho hw hd hbr hbn hg
 generalize parts n=m at *
 generalize sl k=l at *
 have hd1:((m:Int) == 0)=false:=by rw [beq_eq_false_iff_ne];omega
 have hd2:decide (l<m)=false:=by simpa using hp
 go_enter Tryz.func103,Tryz.ntmps103
 go_wp2_with (first
  | (go_at_call 57;refine (C.out).mono ?_;rintro e w' ⟨rfl,rfl⟩)
  | (go_at_call 151;refine (P.out _).mono ?_;rintro e w' ⟨rfl,rfl⟩))
 go_ret
 exact HO.out
set_option maxRecDepth 20000 in
set_option maxHeartbeats 4000000 in
theorem turn_goes (hw:WalAt w x g k v) (hd:DiskAt w g bs bw s) (hk1:6≤k) (hk2:k≤1000) (hv:WnOk k v) (hbr:v.br=false) (hb:Sl w w.heap.size (.slice A n c) b) (hbn:b.length=n) (hn:n≤7808) (hp:¬ sl k<parts n) (hg:v.gen≠2147483648) :
  Calls Tryz.prog 103 #[ptr x,.slice A n c] w (ActOut w x g bs bw k (turnP k s v b)):=by
 obtain ⟨hg0,hg1,hm0,hm1,hnx⟩:=hv
 have C:=broken_any x g k v w hw
 rw [hbr] at C
 have C:=Lib.hid C
 have p:=fun (W:World)=>parts_any (n:Int) W
 rw [partsI_nat] at p
 have P:=Lib.hid p;clear p
 have c1:=hw.c1
 have c4:=hw.c4
 have hx:=hw.lt
 have h1:=parts_pos hn
 have ly:=fun (W:World) (hW:Below w.heap.size w W)=>lay_any x g bs bw k s v (v.gen+1) A n c b W (hw.up hW) (hd.below hW) hk1 hk2 (by omega) (by omega) (sl_up hb hW) hbn (err_ok (by omega) ⟨hm0,hm1⟩ (by omega) (by rw [hbn];omega))
 have e0:turnP k s v b=((writes s (slotAt (sl k) (v.gen+1)) (secL (bP (v.gen+1) v.mark) b)).1,(if (writes s (slotAt (sl k) (v.gen+1)) (secL (bP (v.gen+1) v.mark) b)).2=0 then ⟨v.gen+1,v.mark,0,false⟩ else ⟨v.gen,v.mark,v.next,true⟩),(writes s (slotAt (sl k) (v.gen+1)) (secL (bP (v.gen+1) v.mark) b)).2):=by
  unfold turnP
  rw [if_neg (by rw [hbr];simp),if_neg (by rw [hbn];exact hp),if_neg hg]
 obtain ⟨R,hR⟩:∃ R,R=writes s (slotAt (sl k) (v.gen+1)) (secL (bP (v.gen+1) v.mark) b):=⟨_,rfl⟩
 rw [← hR] at ly e0
 obtain ⟨s',e'⟩:=R
 simp only at ly e0
 have HO:Hid (∀ (w':World) (v':Wn),v'=(if e'=0 then ⟨v.gen+1,v.mark,0,false⟩ else ⟨v.gen,v.mark,v.next,true⟩)→WalAt w' x g k v'→DiskAt w' g bs bw s'→KeptBut w w' [x,g,bs,bw]→ActOut w x g bs bw k (turnP k s v b) (.returned (.int .i64 e')) w'):=Lib.hid (fun w' v' h1 h2 h3 h4=>by
  subst h1
  rw [e0]
  exact ⟨rfl,h2,h3,h4⟩)
 have kb:=Blk.new w 140 #[.int .i64 (v.gen+1),.slice A n c]
 have HB0:=Lib.hid (palloc (Below.refl w.heap.size w) (.cells #[.int .i64 (v.gen+1),.slice A n c] 140))
 have KB:=Lib.hid kb;clear kb
 have LY:=Lib.hid ly;clear ly
 obtain ⟨n1,n2,n3⟩:=wal_ne hw hd
 have hlt:=hd.lt
 have HSEP:=Lib.hid (show w.heap.size ∉ [x,g,bs,bw] by simp;omega)
 have hbw:({ v with br:=false }:Wn)=v:=by obtain ⟨a,b',c',d⟩:=v;simp only at hbr;rw [hbr]
 have HV:=Lib.hid (show (v.brk 0)=v by rw [brk_0];exact hbw)
 have HLT:=Lib.hid hlt;clear hlt
 clear hw hd hbn e0 hR hbw hb
 have hgf:(v.gen == 2147483648)=false:=by rw [beq_eq_false_iff_ne];exact hg
 clear hg
 generalize parts n=m at *
 generalize hll:sl k=l at *
 clear hll
 have hd1:((m:Int) == 0)=false:=by rw [beq_eq_false_iff_ne];omega
 have hd2:decide (l<m)=false:=by simpa using hp
 by_cases he:e'=0
 ·subst he
  simp only [if_pos] at HO
  rw [HV.out] at LY
  obtain ⟨gen,mark,next,br⟩:=v
  simp only at c4 LY HO HV hg0 hg1 hgf HB0 KB hm0 hm1 hnx ⊢
  clear HV
  go_enter Tryz.func103,Tryz.ntmps103
  go_wp2_with (first
   | (go_at_call 57;refine (C.out).mono ?_;rintro e w' ⟨rfl,rfl⟩)
   | (go_at_call 151;refine (P.out _).mono ?_;rintro e w' ⟨rfl,rfl⟩)
   | (go_at_call 121;refine (LY.out _ HB0.out).mono ?_;rintro e w2 ⟨rfl,hw2,hd2,hk2⟩;have kb2:=hk2.blk KB.out HSEP.out;have q0:=kb2.cell 0;have q2:=kb2.lt;simp at q0;have d4:=hw2.c4;have d6:=hw2.c6;have f4:=hw2.fz 4;have f6:=hw2.fz 6;have hx2:=hw2.lt;have HW2:=Lib.hid hw2;have HD2:=Lib.hid hd2;have HK2:=Lib.hid ((kept_of_below (S:=[x,g,bs,bw]) HB0.out (Nat.le_refl _)).trans hk2);have hwx:w.heap.size≠x:=(by have:=HSEP.out;simp at this;omega);clear hw2 hd2 hk2 kb2))
  go_ret
  have hw3:=HW2.out.set_gen (gen+1)
  have hw4:=hw3.set_next 0
  have hd3:=DiskAt.set_far (i:=4) HD2.out (.int .i64 (gen+1)) n1 n2 n3
  have hd4:=DiskAt.set_far (i:=6) hd3 (.int .i64 0) n1 n2 n3
  have hk3:=HK2.out.trans ((kept_set1 (x:=x) (i:=4) (.int .i64 (gen+1))).more (fun y hy=>by simp at hy;simp [hy]))
  have hk4:=hk3.trans ((kept_set1 (x:=x) (i:=6) (.int .i64 0)).more (fun y hy=>by simp at hy;simp [hy]))
  subst hbr
  exact HO.out _ _ rfl hw4 hd4 hk4
 ·have hne:(e' != 0)=true:=bne_iff_ne.2 he
  simp only [if_neg he] at HO
  have hbv:=brk_n v he
  rw [hbv] at LY
  clear HV he hbv
  obtain ⟨gen,mark,next,br⟩:=v
  simp only at c4 LY HO hg0 hg1 hgf HB0 KB hm0 hm1 hnx ⊢
  go_enter Tryz.func103,Tryz.ntmps103
  go_wp2_with (first
   | (go_at_call 57;refine (C.out).mono ?_;rintro e w' ⟨rfl,rfl⟩)
   | (go_at_call 151;refine (P.out _).mono ?_;rintro e w' ⟨rfl,rfl⟩)
   | (go_at_call 121;refine (LY.out _ HB0.out).mono ?_;rintro e w2 ⟨rfl,hw2,hd2,hk2⟩;have HW2:=Lib.hid hw2;have HD2:=Lib.hid hd2;have HK2:=Lib.hid ((kept_of_below (S:=[x,g,bs,bw]) HB0.out (Nat.le_refl _)).trans hk2);clear hw2 hd2 hk2))
  go_ret
  exact HO.out _ _ rfl HW2.out HD2.out HK2.out
theorem turn_any (hw:WalAt w x g k v) (hd:DiskAt w g bs bw s) (hk1:6≤k) (hk2:k≤1000) (hv:WnOk k v) (hb:Sl w w.heap.size (.slice A n c) b) (hbn:b.length=n) (hn:n≤7808) :
  Calls Tryz.prog 103 #[ptr x,.slice A n c] w (ActOut w x g bs bw k (turnP k s v b)):=by
 cases hbr:v.br with
 | true=>exact turn_br x g bs bw k s v A n c b w hw hd hbr
 | false =>
  by_cases hp:sl k<parts n
  ·exact turn_big x g bs bw k s v A n c b w hw hd hbr hbn hn hp
  ·by_cases hg:v.gen=2147483648
   ·exact turn_full x g bs bw k s v A n c b w hw hd hbr hbn hn hp hg
   ·exact turn_goes x g bs bw k s v A n c b w hw hd hk1 hk2 hv hbr hb hbn hn hp hg
end
end Go.Proofs.YtplpmemlaohlaaaGreat.Wl
namespace Go.Proofs.YtplpmemlaohlaaaGreat.Wl
open Go.RowKit Mem Pg Rcd Slt
open Dsk (KeptBut SMap DiskAt St ptr kept_of_below kept_of_grown kept_drew IsSec NoneAt TearsAt)
open Plt (sl plV sl_le sl_pos)
set_option linter.unusedVariables false
set_option linter.unusedSimpArgs false
theorem crashed_nil (s:St):Crashed s (s.crash []):=by
 have e:(s.crash []).fs=s.fs:=by unfold St.crash;simp [St.tears]
 have en:(s.crash []).n=s.n:=by unfold St.crash;simp [St.tears]
 have eg:∀ i,(s.crash []).get i=(s.fs i).getD Dsk.noughts:=fun i=>by
  unfold St.get
  rw [e]
  rfl
 exact ⟨en,rfl,fun _=>rfl,fun i _=>eg i,fun i y _=>.inr (.inl (eg i))⟩
theorem lg20:lg 20=10:=rfl
theorem kept_low {w w1 w2:World} {S:List Nat} (hb:Below w.heap.size w w1) (hk:KeptBut w1 w2 S) (hS:∀ g∈S,w.heap.size≤g):Below w.heap.size w w2:=hb.trans (hk.below hS hb.size)
end Go.Proofs.YtplpmemlaohlaaaGreat.Wl
namespace Go.Proofs.YtplpmemlaohlaaaGreat.Wl
open Go.RowKit Mem Pg Rcd Slt
open Dsk (KeptBut SMap DiskAt St ptr kept_of_below kept_of_grown kept_drew TearsAt KeepRow)
set_option linter.unusedVariables false
set_option linter.unusedSimpArgs false
theorem crash_get (s:St) (l:List (Int × List Nat)) (i:Nat):(s.crash l).get i=((s.crash l).fs i).getD Dsk.noughts:=rfl
theorem crash_n (s:St) (l:List (Int × List Nat)):(s.crash l).n=s.n:=(Dsk.tears_same (s.waiting.zip l) s).1
theorem lost_get (s:St) (i:Nat):(s.crash []).get i=(s.fs i).getD Dsk.noughts:=by
 have e:(s.crash []).fs=s.fs:=by unfold St.crash;simp [St.tears]
 rw [crash_get,e]
def allKept (s:St):List (Int × List Nat):=List.replicate s.waiting.length (1,[])
theorem kept_get {s:St} {i:Nat} {x:List Nat} (hi:i<s.n) (h:s.fw i=some x):(s.crash (allKept s)).get i=x:=by
 have h1:=Dsk.wt_at (s:=s) (k:=i) (by rw [h];rfl) hi
 have h2:=(List.getElem?_eq_some_iff.1 h1).1
 rw [crash_get,Dsk.crash_at (by rw [h];rfl) hi (allKept s) (1,[]) (by unfold allKept;rw [List.getElem?_replicate,if_pos h2]),Dsk.tear_one,h]
 rfl
def TellsAt (s:St) (l:List (Int × List Nat)) (i:Nat):Prop:=got ((s.crash l).get i)=none∨(s.crash l).get i=(s.crash []).get i∨(s.crash l).get i=(s.crash (allKept s)).get i
theorem told_crashed {s:St} {l:List (Int × List Nat)} (hf:∀ i,s.n≤i→s.fw i=none) (h:∀ j,j<s.waiting.length→TellsAt s l (s.waiting.getD j 0)):Crashed s (s.crash l):=by
 refine ⟨crash_n s l,rfl,fun _=>rfl,fun i hi=>?_,fun i y hy=>?_⟩
 ·rw [crash_get,Dsk.crash_no hi]
 ·have hi:i<s.n:=Nat.lt_of_not_le fun hh=>by rw [hf i hh] at hy;cases hy
  have h1:=Dsk.wt_at (s:=s) (k:=i) (by rw [hy];rfl) hi
  have h2:=(List.getElem?_eq_some_iff.1 h1).1
  have h3:=h _ h2
  have e:s.waiting.getD (Dsk.wt s i).length 0=i:=by simp [List.getD,h1]
  rw [e] at h3
  unfold TellsAt at h3
  rw [lost_get,kept_get hi hy] at h3
  exact h3
def one:List Value:=[.int .i64 1,.slice none 0 0]
def ones (n:Nat):List Value:=(List.replicate n one).flatten
theorem ones_succ (n:Nat):ones (n+1)=ones n++one:=by
 unfold ones
 rw [List.replicate_succ',List.flatten_append]
 simp
theorem ones_len (n:Nat):(ones n).length=2*n:=by
 induction n with
 | zero=>rfl
 | succ n ih=>rw [ones_succ,List.length_append,ih];unfold one;simp;omega
theorem ones_at (n:Nat):∀ i,i<n→(ones n)[2*i]?=some (.int .i64 1)∧(ones n)[2*i+1]?=some (.slice none 0 0):=by
 induction n with
 | zero=>intro i hi;omega
 | succ n ih =>
  intro i hi
  rw [ones_succ]
  by_cases h:i<n
  ·rw [List.getElem?_append_left (by rw [ones_len];omega),List.getElem?_append_left (by rw [ones_len];omega)]
   exact ih i h
  ·obtain rfl:i=n:=by omega
   rw [List.getElem?_append_right (by rw [ones_len];omega),List.getElem?_append_right (by rw [ones_len];omega),ones_len]
   simp [one]
theorem own_keep {w:World} {base n:Nat} {v:Value} {S:List Nat} (h:OwnN w base 110 2 v n (ones n)) (hn:n≤1000000) (hS:∀ x∈S,x<base):KeepRow w S v n:=by
 rcases h.1.2 with ⟨rfl,h0⟩ | ⟨g,cap,cur,rfl,hg,hh,hnc,hm,hs,ht⟩
 ·exact ⟨none,0,by first | rfl | simp_all,hn,fun h1=>by first | omega | (simp_all)⟩
 ·refine ⟨_,cap,rfl,hn,fun _=>⟨g,0,rfl,(h.1.lt g rfl).2,fun hm=>by have:=hS g hm;omega,fun i hi=>?_⟩⟩
  obtain ⟨a1,a2⟩:=ones_at n i hi
  have e1:=h.1.cellAt (i*2) (by omega)
  have e2:=h.1.cellAt (i*2+1) (by omega)
  rw [Nat.zero_add]
  rw [e1,e2,Nat.mul_comm i 2]
  exact ⟨a1,a2⟩
def zTr:Value:=.agg #[.int .i64 0,.slice none 0 0]
theorem infoT:(Tryz.prog.info? 110).map (fun i=>(i.zero,i.size,i.bytes))=some (some zTr,2,32):=by kernel_rfl
theorem one_one:∀ u∈one,u.oneCell'=true:=by unfold one;simp [Value.oneCell']
theorem one_nob:∀ u∈one,isBy u=false:=by unfold one;simp [isBy]
theorem zTr_nob:∀ u∈zTr.cells.toList,isBy u=false:=by unfold zTr;simp [Value.cells,isBy]
theorem reads_one (w:World) (g:Nat) (hg:g=w.heap.size):Reads (w.alloc (.cells #[.int .i64 1,.slice none 0 0] 110)) (w.heap.size+1) 2 (some ⟨g,0,none⟩) 1 one:=by
 subst hg
 refine ⟨by simp [one],fun _=>⟨_,rfl,Nat.lt_succ_self _,fun j u hu=>?_⟩⟩
 have hk:=Blk.new w 110 #[.int .i64 1,.slice none 0 0]
 rw [add_plain,Nat.zero_add,hk.cell]
 simpa [one] using hu
def Trio (w W:World) (g1 s1 b1 g2 s2 b2 g3 s3 b3:Nat):Prop:=(∀ x∈[g1,s1,b1],w.heap.size≤x)∧(∀ x∈[g2,s2,b2],w.heap.size≤x)∧(∀ x∈[g3,s3,b3],w.heap.size≤x)∧(∀ x∈[g1,s1,b1],x ∉ [g2,s2,b2])∧(∀ x∈[g1,s1,b1],x ∉ [g3,s3,b3])∧(∀ x∈[g2,s2,b2],x ∉ [g3,s3,b3])∧(∀ x∈[g1,s1,b1],x<W.heap.size)∧(∀ x∈[g2,s2,b2],x<W.heap.size)∧(∀ x∈[g3,s3,b3],x<W.heap.size)
theorem trio_of {w w1 w2 w3:World} {g1 s1 b1 g2 s2 b2 g3 s3 b3:Nat} {s:St} (h1:∀ x∈[g1,s1,b1],w.heap.size≤x) (h2:∀ x∈[g2,s2,b2],w1.heap.size≤x) (h3:∀ x∈[g3,s3,b3],w2.heap.size≤x)
  (d1:DiskAt w1 g1 s1 b1 s) (d2:DiskAt w2 g2 s2 b2 s) (d3:DiskAt w3 g3 s3 b3 s) (l1:w.heap.size≤w1.heap.size) (l2:w1.heap.size≤w2.heap.size) (l3:w2.heap.size≤w3.heap.size):Trio w w3 g1 s1 b1 g2 s2 b2 g3 s3 b3:=by
 have:=d1.lt
 have:=d2.lt
 have:=d3.lt
 simp only [List.mem_cons,List.not_mem_nil,or_false,forall_eq_or_imp,forall_eq,Trio] at *
 omega
theorem off_l {W W':World} {g s1 b1 a b c:Nat} {s:St} (h:DiskAt W g s1 b1 s) (hk:KeptBut W W' [a,b,c]) (hne:∀ x∈[g,s1,b1],x ∉ [a,b,c]):DiskAt W' g s1 b1 s :=
 h.kept hk (hne _ (by simp)) (hne _ (by simp)) (hne _ (by simp))
theorem off_r {W W':World} {g s1 b1 a b c:Nat} {s:St} (h:DiskAt W g s1 b1 s) (hk:KeptBut W W' [a,b,c]) (hne:∀ x∈[a,b,c],x ∉ [g,s1,b1]):DiskAt W' g s1 b1 s :=
 h.kept hk (fun hm=>hne _ hm (by simp)) (fun hm=>hne _ hm (by simp)) (fun hm=>hne _ hm (by simp))
theorem off_cell {w W W':World} {a b c:Nat} {m b4:Nat} {ws:List Nat} (hk:KeptBut W W' [a,b,c]) (hb:b4<W.heap.size) (hn:∀ x∈[a,b,c],x<b4) (hc:∀ i,i<m→W.cell? ⟨b4,i,none⟩=some (.int .i64 (ws.getD i 0:Nat))):∀ i,i<m→W'.cell? ⟨b4,i,none⟩=some (.int .i64 (ws.getD i 0:Nat)) :=
 fun i hi=>(hk.cell (p:=⟨b4,i,none⟩) hb (fun hm=>by have:=hn _ hm;simp at this)).trans (hc i hi)
def WaitRow (w:World) (lo:Nat) (A:Option Addr) (m:Nat) (ws:List Nat):Prop:=0<m→∃ b,A=some ⟨b,0,none⟩∧lo≤b∧b<w.heap.size∧∀ i,i<m→w.cell? ⟨b,i,none⟩=some (.int .i64 (ws.getD i 0:Nat))
theorem WaitRow.below {w w':World} {lo m:Nat} {A:Option Addr} {ws:List Nat} (h:WaitRow w lo A m ws) (hb:Below w.heap.size w w'):WaitRow w' lo A m ws:=fun h0=>by
 obtain ⟨b,e,h1,h2,h3⟩:=h h0
 exact ⟨b,e,h1,Nat.lt_of_lt_of_le h2 hb.size,fun i hi=>(hb.cell (p:=⟨b,i,none⟩) h2).trans (h3 i hi)⟩
theorem WaitRow.kept {w w':World} {lo m a c d:Nat} {A:Option Addr} {ws:List Nat} (h:WaitRow w lo A m ws) (hk:KeptBut w w' [a,c,d]) (hn:∀ x∈[a,c,d],x<lo):WaitRow w' lo A m ws:=fun h0=>by
 obtain ⟨b,e,h1,h2,h3⟩:=h h0
 exact ⟨b,e,h1,Nat.lt_of_lt_of_le h2 hk.size,off_cell (w:=w) hk h2 (fun x hx=>Nat.lt_of_lt_of_le (hn x hx) h1) h3⟩
set_option maxRecDepth 20000 in
set_option maxHeartbeats 8000000 in
theorem told_any (g bs bw B:Nat) (s:St) (At:Option Addr) (nt ct:Nat) (l:List (Int × List Nat)) (w:World) (h:DiskAt w g bs bw s) (hv:TearsAt w B (.slice At nt ct) l) (hB:B≤w.heap.size) :
  Calls Tryz.prog 27 #[ptr g,.slice At nt ct] w fun e w'=>∃ t,e=.returned (.bool t)∧(t=true→Crashed s (s.crash l))∧Below w.heap.size w w':=by
 have hf:=h.2.2.2.2.2.2.2.2
 have hn1024:=h.2.2.2.2.2.1
 have hws:s.waiting.length≤1024:=by
  unfold St.waiting
  have:=List.length_filter_le (fun i=>(s.fw i).isSome) (List.range s.n)
  rw [List.length_range] at this
  omega
 have hwl:=Dsk.waiting_lt s
 have HF:=Lib.hid (fun hh=>told_crashed (l:=l) hf hh);clear hf
 have CL:=Lib.hid (fun (W:World) (hW:DiskAt W g bs bw s)=>Dsk.clone_any g bs bw s W hW)
 have WT:=Lib.hid (fun (W:World) (hW:DiskAt W g bs bw s)=>Dsk.waits_any g bs bw s W hW)
 have CA:=Lib.hid (fun (g' bs' bw' B':Nat) (v:Value) (l':List (Int × List Nat)) (W:World) (hW:DiskAt W g' bs' bw' s) (hT:TearsAt W B' v l') (hB':∀ x∈[g',bs',bw'],B'≤x)=>Dsk.crash_any g' bs' bw' B' s v l' W hW hT hB')
 obtain ⟨ws,hwse⟩:∃ ws,ws=s.waiting:=⟨_,rfl⟩
 obtain ⟨m,hm⟩:∃ m,m=ws.length:=⟨_,rfl⟩
 have hak:allKept s=List.replicate m (1,[]):=by unfold allKept;rw [hm,hwse]
 have CK:=Lib.hid (fun (g' bs' bw':Nat) (v:Value) (W:World) (hW:DiskAt W g' bs' bw' s) (hT:KeepRow W [g',bs',bw'] v m)=>hak ▸ Dsk.crash_kept g' bs' bw' m s v W hW hT);clear hak
 rw [← hwse] at hws hwl HF WT
 rw [← hm] at hws HF WT
 have HM:=Lib.hid hm;clear hm hwse
 have HW:=Lib.hid hwl;clear hwl
 have HH:=Lib.hid h;clear h
 have HV:=Lib.hid hv;clear hv
 obtain ⟨i0,hi,hz0,hz1,hz2⟩:=info_parts infoT
 have HI:=Lib.hid hi;clear hi
 have HZ0:=Lib.hid hz0;clear hz0
 have HZ1:=Lib.hid hz1;clear hz1
 have HZ2:=Lib.hid hz2;clear hz2
 go_enter Tryz.func27,Tryz.ntmps27
 go_wp2_with (first
  | (go_at_call 61;refine (CL.out _ (HH.out.below HB2.out)).mono ?_;rintro e w3 ⟨g3,bs3,bw3,rfl,hd3,hb3,hg3⟩;have HB3:=Lib.hid (HB2.out.trans (hb3.mono HB2.out.size));have HTR:=Lib.hid (trio_of HG1.out HG2.out hg3 HD1.out HD2.out hd3 HB1.out.size HL12.out hb3.size);have HD3:=Lib.hid hd3;have HD13:=Lib.hid (HD12.out.below hb3);have HD23:=Lib.hid (HD2.out.below hb3);clear hd3 hb3 hg3)
  | (go_at_call 61;refine (CL.out _ (HH.out.below HB1.out)).mono ?_;rintro e w2 ⟨g2,bs2,bw2,rfl,hd2,hb2,hg2⟩;have HL12:=Lib.hid hb2.size;have HB2:=Lib.hid (HB1.out.trans (hb2.mono HB1.out.size));have HD2:=Lib.hid hd2;have HG2:=Lib.hid hg2;have HD12:=Lib.hid (HD1.out.below hb2);clear hd2 hb2 hg2)
  | (go_at_call 61;refine (CL.out _ HH.out).mono ?_;rintro e w1 ⟨g1,bs1,bw1,rfl,hd1,hb1,hg1⟩;have HB1:=Lib.hid hb1;have HD1:=Lib.hid hd1;have HG1:=Lib.hid hg1;clear hd1 hb1 hg1)
  | (go_at_call 45;refine (WT.out _ (HH.out.below HB3.out)).mono ?_;rintro e w4 ⟨v4,rfl,hrow,hb4⟩;obtain ⟨A4,c4,rfl,hc4⟩:=Dsk.own_ints hrow HM.out.symm;have HC4:=Lib.hid hc4;have HB4:=Lib.hid (HB3.out.trans (hb4.mono HB3.out.size));have HD14:=Lib.hid (HD13.out.below hb4);have HD24:=Lib.hid (HD23.out.below hb4);have HD34:=Lib.hid (HD3.out.below hb4);have HS34:=Lib.hid hb4.size;clear hrow hc4 hb4))
 go_loopw [9,10] (fun v i wr=>∃ k:Nat,k≤m∧i=.int .i64 k∧OwnN wr w4.heap.size 110 2 v k (ones k)∧Below w4.heap.size w4 wr) (fun _ i _=>m - (intOf i).toNat)
 case atStart=>exact ⟨0,Nat.zero_le _,rfl,ownN_lit w4 _ _ 2 (Nat.le_refl _),palloc (Below.refl _ _) _⟩
 case round =>
  obtain ⟨k,hk,rfl,hrow,hbw⟩:=hrel
  have HB:=Lib.hid hbw;clear hbw
  have HROW:=Lib.hid hrow;clear hrow
  by_cases hlt:k<m
  ·go_wp2_with (at_builtin;refine wpList_append_n _ rfl (.tmp 35) (.tmp 37) 50 rfl w4.heap.size 110 i0 zTr 2 32 Tryz.underlying50 HI.out HZ0.out HZ1.out HZ2.out rfl (by decide) zTr_nob u9 k (ones k) rfl ?own (wr.heap.size+1) (some ⟨wr.heap.size,0,none⟩) 1 1 one ?hx ?hr one_one one_nob ?h63 ?hby ?hbase ?_;(case own=>exact HROW.out.below (palloc (Below.refl _ _) _));(case hx=>first | rfl | simp [Act.eval]);(case hr=>exact reads_one _ _ rfl);(case h63=>(unfold maxLen;omega));(case hby=>omega);(case hbase=>(have:=HB.out.size;simp;omega));intro v5 w5 hown5 hg5 _;have hbw:=palloc (Below.refl wr.heap.size wr) (Obj.cells #[.int .i64 1,.slice none 0 0] 110);have HR5:=Lib.hid hown5;have HB5:=Lib.hid ((HB.out.trans (hbw.mono HB.out.size)).grown hg5 (HB.out.trans (hbw.mono HB.out.size)).size (fun q hq=>(HROW.out.1.lt q hq).1));clear hown5 hg5 hbw)
   go_roundw
   case rel=>exact ⟨k+1,by omega,by go_num,by rw [ones_succ];exact HR5.out,HB5.out⟩
   case measure=>simp [intOf];omega
  ·obtain rfl:k=m:=by omega
   obtain ⟨t1,t2,t3,t4,t5,t6,t7,t8,t9⟩:=HTR.out
   have HR0:Hid (WaitRow wr w3.heap.size A4 k ws):=Lib.hid (WaitRow.below HC4.out HB.out)
   have HK0:=Lib.hid (own_keep (S:=[g1,bs1,bw1,g2,bs2,bw2,g3,bs3,bw3]) HROW.out (by omega) (fun x hx=>by have:=HS34.out;simp only [List.mem_cons,List.not_mem_nil,or_false,forall_eq_or_imp,forall_eq] at t7 t8 t9 hx;omega))
   have HB0:=Lib.hid (HB4.out.trans (HB.out.mono HB4.out.size))
   have HV0:=Lib.hid (HV.out.below HB0.out hB)
   have HE1:=Lib.hid (HD14.out.below HB.out)
   have HE2:=Lib.hid (HD24.out.below HB.out)
   have HE3:=Lib.hid (HD34.out.below HB.out)
   go_wp2_with (first
    | (go_at_call 18;refine (CA.out g1 bs1 bw1 B _ l _ HE1.out HV0.out (fun x hx=>Nat.le_trans hB (t1 x hx))).mono ?_;rintro e w5 ⟨rfl,hd5,hk5⟩;have HE1':=Lib.hid hd5;have HE25:=Lib.hid (off_r HE2.out hk5 t4);have HE35:=Lib.hid (off_r HE3.out hk5 t5);have HR5:=Lib.hid (HR0.out.kept hk5 t7);have HK5:=Lib.hid (HK0.out.kept hk5 (by simp +contextual));have HB5:=Lib.hid (kept_low HB0.out hk5 t1);clear HE1 hd5 hk5)
    | (go_at_call 18;refine (CA.out g2 bs2 bw2 0 _ [] _ HE25.out (Dsk.tears_nil _ 0) (fun x hx=>Nat.zero_le _)).mono ?_;rintro e w6 ⟨rfl,hd6,hk6⟩;have HE26:=Lib.hid hd6;have HE16:=Lib.hid (off_l HE1'.out hk6 t4);have HE36:=Lib.hid (off_r HE35.out hk6 t6);have HR6:=Lib.hid (HR5.out.kept hk6 t8);have HK6:=Lib.hid (HK5.out.kept hk6 (by simp +contextual));have HB6:=Lib.hid (kept_low HB5.out hk6 t2);clear HE25 hd6 hk6)
    | (go_at_call 18;refine (CK.out g3 bs3 bw3 _ _ HE36.out (HK6.out.less (by simp +contextual))).mono ?_;rintro e w7 ⟨rfl,hd7,hk7⟩;have HE37:=Lib.hid hd7;have HE17:=Lib.hid (off_l HE16.out hk7 t5);have HE27:=Lib.hid (off_l HE26.out hk7 t6);have HR7:=Lib.hid (HR6.out.kept hk7 t9);have HB7:=Lib.hid (kept_low HB6.out hk7 t3);clear HE36 hd7 hk7))
   clear t1 t2 t3 t4 t5 t6 t7 t8 t9
   go_loopw [11] (fun i wr=>∃ j:Nat,j≤k∧i=.int .i64 j∧Below w7.heap.size w7 wr∧∀ q,q<j→TellsAt s l (ws.getD q 0)) (fun i _=>k - (intOf i).toNat)
   case atStart=>exact ⟨0,Nat.zero_le _,rfl,Below.refl _ _,fun q hq=>absurd hq (by omega)⟩
   case round =>
    obtain ⟨j,hj,rfl,hbw,hti⟩:=hrel
    have HBW:=Lib.hid hbw;clear hbw
    have HTI:=Lib.hid hti;clear hti
    by_cases hlt2:j<k
    ·obtain ⟨b4,e4,hlo,hb4z,hc4⟩:=HR7.out (by omega)
     subst e4
     have gW:=(HBW.out.cell (p:=⟨b4,j,none⟩) hb4z).trans (hc4 j hlt2)
     have hbz:=Nat.lt_of_lt_of_le hb4z HBW.out.size
     have hi2:=HW.out _ (Dsk.getD_mem (ws:=ws) (k:=j) (by rw [← HM.out];exact hlt2))
     obtain ⟨i,hii⟩:∃ i,i=ws.getD j 0:=⟨_,rfl⟩
     have HTL:Hid (got ((s.crash l).get i)=none∨(s.crash l).get i=(s.crash []).get i∨(s.crash l).get i=(s.crash (allKept s)).get i→TellsAt s l (ws.getD j 0)):=Lib.hid (fun hh=>hii ▸ hh)
     rw [← hii] at gW hi2
     clear hii
     have RD1:=Lib.hid (fun (W:World) (hW:DiskAt W g1 bs1 bw1 (s.crash l))=>Dsk.read_ok g1 bs1 bw1 (s.crash l) i W hW rfl (by rw [crash_n];exact hi2))
     have RD2:=Lib.hid (fun (W:World) (hW:DiskAt W g2 bs2 bw2 (s.crash []))=>Dsk.read_ok g2 bs2 bw2 (s.crash []) i W hW rfl (by rw [crash_n];exact hi2))
     have RD3:=Lib.hid (fun (W:World) (hW:DiskAt W g3 bs3 bw3 (s.crash (allKept s)))=>Dsk.read_ok g3 bs3 bw3 (s.crash (allKept s)) i W hW rfl (by rw [crash_n];exact hi2))
     have hx0l:((s.crash l).get i).length≤1000:=by rw [(get_sec HE17.out i).1];decide
     generalize (s.crash l).get i=x0 at RD1 HTL hx0l
     generalize (s.crash []).get i=x1 at RD2 HTL
     generalize (s.crash (allKept s)).get i=x2 at RD3 HTL
     clear hc4 hlo hb4z
     cases hg:got x0 with
     | none =>
      go_wp2_with (first
       | (go_at_call 62;refine (get_none _ x0 _ HS0c.out hx0l hg).mono ?_;rintro e w11 ⟨A11,n11,c11,rfl,hb11⟩;have HQ11:=Lib.hid (HQ10.out.trans (hb11.mono HQ10.out.size));clear hb11)
       | (go_at_call 50;refine (RD3.out _ (HE37.out.below HQ9.out)).mono ?_;rintro e w10 ⟨v10,rfl,hs10,hb10⟩;obtain ⟨A10,n10,c10,rfl,_⟩:=id hs10;have HS2a:=Lib.hid hs10;have HS1b:=Lib.hid (sl_up HS1a.out hb10);have HS0c:=Lib.hid (sl_up HS0b.out hb10);have HQ10:=Lib.hid (HQ9.out.trans (hb10.mono HQ9.out.size));clear hs10 hb10)
       | (go_at_call 50;refine (RD2.out _ (HE27.out.below HQ8.out)).mono ?_;rintro e w9 ⟨v9,rfl,hs9,hb9⟩;obtain ⟨A9,n9,c9,rfl,_⟩:=id hs9;have HS1a:=Lib.hid hs9;have HS0b:=Lib.hid (sl_up HS0a.out hb9);have HQ9:=Lib.hid (HQ8.out.trans (hb9.mono HQ8.out.size));have gW9:=(hb9.cell (p:=⟨b4,j,none⟩) hbz8).trans gW8;have hbz9:=Nat.lt_of_lt_of_le hbz8 hb9.size;clear hs9 hb9)
       | (go_at_call 50;refine (RD1.out _ (HE17.out.below HBW.out)).mono ?_;rintro e w8 ⟨v8,rfl,hs8,hb8⟩;obtain ⟨A8,n8,c8,rfl,_⟩:=id hs8;have HS0a:=Lib.hid hs8;have HQ8:=Lib.hid (HBW.out.trans (hb8.mono HBW.out.size));have gW8:=(hb8.cell (p:=⟨b4,j,none⟩) hbz).trans gW;have hbz8:=Nat.lt_of_lt_of_le hbz hb8.size;clear hs8 hb8))
      go_roundw
      case rel=>exact ⟨j+1,by omega,by go_num,(palloc HQ11.out _),fun q hq=>by
       by_cases hq2:q<j
       ·exact HTI.out q hq2
       ·obtain rfl:q=j:=by omega
        exact HTL.out (.inl hg)⟩
      case measure=>simp [intOf];omega
     | some p =>
      by_cases h1:x0=x1
      ·go_wp2_with (first
        | (go_at_call 62;refine (get_some _ x0 p _ HS0c.out hx0l hg).mono ?_;rintro e w11 ⟨A11,n11,c11,rfl,hbt11,hb11⟩;have HQ11:=Lib.hid (HQ10.out.trans (hb11.mono HQ10.out.size));have hal:=palloc hb11 (Obj.cells #[.int .i64 p.kind,.int .i64 p.gen,.int .i64 p.mark,.int .i64 p.index,.int .i64 p.part,.int .i64 p.parts,.slice A11 n11 c11] 125);have HQ12:=Lib.hid (HQ10.out.trans (hal.mono HQ10.out.size));have HS0d:=Lib.hid (HS0c.out.below hal (Nat.le_refl _));have HS1d:=Lib.hid (HS1b.out.below hal (Nat.le_refl _));have HS2d:=Lib.hid (HS2a.out.below hal (Nat.le_refl _));clear hbt11 hb11 hal)
        | (go_at_call 50;refine (RD3.out _ (HE37.out.below HQ9.out)).mono ?_;rintro e w10 ⟨v10,rfl,hs10,hb10⟩;obtain ⟨A10,n10,c10,rfl,_⟩:=id hs10;have HS2a:=Lib.hid hs10;have HS1b:=Lib.hid (sl_up HS1a.out hb10);have HS0c:=Lib.hid (sl_up HS0b.out hb10);have HQ10:=Lib.hid (HQ9.out.trans (hb10.mono HQ9.out.size));clear hs10 hb10)
        | (go_at_call 50;refine (RD2.out _ (HE27.out.below HQ8.out)).mono ?_;rintro e w9 ⟨v9,rfl,hs9,hb9⟩;obtain ⟨A9,n9,c9,rfl,_⟩:=id hs9;have HS1a:=Lib.hid hs9;have HS0b:=Lib.hid (sl_up HS0a.out hb9);have HQ9:=Lib.hid (HQ8.out.trans (hb9.mono HQ8.out.size));have gW9:=(hb9.cell (p:=⟨b4,j,none⟩) hbz8).trans gW8;have hbz9:=Nat.lt_of_lt_of_le hbz8 hb9.size;clear hs9 hb9)
        | (go_at_call 50;refine (RD1.out _ (HE17.out.below HBW.out)).mono ?_;rintro e w8 ⟨v8,rfl,hs8,hb8⟩;obtain ⟨A8,n8,c8,rfl,_⟩:=id hs8;have HS0a:=Lib.hid hs8;have HQ8:=Lib.hid (HBW.out.trans (hb8.mono HBW.out.size));have gW8:=(hb8.cell (p:=⟨b4,j,none⟩) hbz).trans gW;have hbz8:=Nat.lt_of_lt_of_le hbz hb8.size;clear hs8 hb8)
        | (go_at_call 51;refine (rsame_any A8 A9 n8 n9 c8 c9 _ _ x0 x1 _ (sl_bts HS0d.out) (sl_bts HS1d.out)).mono ?_;rintro e w13 ⟨rfl,m13,rfl⟩;rw [decide_eq_true h1];have HQ13:=Lib.hid (below_drewN HQ12.out m13);have HF13:=Lib.hid (rfl:(0:Nat)=0)))
       go_roundw
       case rel=>exact ⟨j+1,by omega,by go_num,HQ13.out,fun q hq=>by
        by_cases hq2:q<j
        ·exact HTI.out q hq2
        ·obtain rfl:q=j:=by omega
         exact HTL.out (.inr (.inl h1))⟩
       case measure=>simp [intOf];omega
      ·by_cases h2:x0=x2
       ·go_wp2_with (first
         | (have HF14:=HF13;go_at_call 51;refine (rsame_any A8 A10 n8 n10 c8 c10 _ _ x0 x2 _ ((sl_bts HS0d.out).drewN _) ((sl_bts HS2d.out).drewN _)).mono ?_;rintro e w14 ⟨rfl,m14,rfl⟩;rw [decide_eq_true h2];have HQ14:=Lib.hid (below_drewN HQ12.out (m13+m14)))
         | (go_at_call 62;refine (get_some _ x0 p _ HS0c.out hx0l hg).mono ?_;rintro e w11 ⟨A11,n11,c11,rfl,hbt11,hb11⟩;have HQ11:=Lib.hid (HQ10.out.trans (hb11.mono HQ10.out.size));have hal:=palloc hb11 (Obj.cells #[.int .i64 p.kind,.int .i64 p.gen,.int .i64 p.mark,.int .i64 p.index,.int .i64 p.part,.int .i64 p.parts,.slice A11 n11 c11] 125);have HQ12:=Lib.hid (HQ10.out.trans (hal.mono HQ10.out.size));have HS0d:=Lib.hid (HS0c.out.below hal (Nat.le_refl _));have HS1d:=Lib.hid (HS1b.out.below hal (Nat.le_refl _));have HS2d:=Lib.hid (HS2a.out.below hal (Nat.le_refl _));clear hbt11 hb11 hal)
         | (go_at_call 50;refine (RD3.out _ (HE37.out.below HQ9.out)).mono ?_;rintro e w10 ⟨v10,rfl,hs10,hb10⟩;obtain ⟨A10,n10,c10,rfl,_⟩:=id hs10;have HS2a:=Lib.hid hs10;have HS1b:=Lib.hid (sl_up HS1a.out hb10);have HS0c:=Lib.hid (sl_up HS0b.out hb10);have HQ10:=Lib.hid (HQ9.out.trans (hb10.mono HQ9.out.size));clear hs10 hb10)
         | (go_at_call 50;refine (RD2.out _ (HE27.out.below HQ8.out)).mono ?_;rintro e w9 ⟨v9,rfl,hs9,hb9⟩;obtain ⟨A9,n9,c9,rfl,_⟩:=id hs9;have HS1a:=Lib.hid hs9;have HS0b:=Lib.hid (sl_up HS0a.out hb9);have HQ9:=Lib.hid (HQ8.out.trans (hb9.mono HQ8.out.size));have gW9:=(hb9.cell (p:=⟨b4,j,none⟩) hbz8).trans gW8;have hbz9:=Nat.lt_of_lt_of_le hbz8 hb9.size;clear hs9 hb9)
         | (go_at_call 50;refine (RD1.out _ (HE17.out.below HBW.out)).mono ?_;rintro e w8 ⟨v8,rfl,hs8,hb8⟩;obtain ⟨A8,n8,c8,rfl,_⟩:=id hs8;have HS0a:=Lib.hid hs8;have HQ8:=Lib.hid (HBW.out.trans (hb8.mono HBW.out.size));have gW8:=(hb8.cell (p:=⟨b4,j,none⟩) hbz).trans gW;have hbz8:=Nat.lt_of_lt_of_le hbz hb8.size;clear hs8 hb8)
         | (go_at_call 51;refine (rsame_any A8 A9 n8 n9 c8 c9 _ _ x0 x1 _ (sl_bts HS0d.out) (sl_bts HS1d.out)).mono ?_;rintro e w13 ⟨rfl,m13,rfl⟩;rw [decide_eq_false h1];have HQ13:=Lib.hid (below_drewN HQ12.out m13);have HF13:=Lib.hid (rfl:(0:Nat)=0)))
        go_roundw
        case rel=>exact ⟨j+1,by omega,by go_num,HQ14.out,fun q hq=>by
         by_cases hq2:q<j
         ·exact HTI.out q hq2
         ·obtain rfl:q=j:=by omega
          exact HTL.out (.inr (.inr h2))⟩
        case measure=>simp [intOf];omega
       ·go_wp2_with (first
         | (have HF14:=HF13;go_at_call 51;refine (rsame_any A8 A10 n8 n10 c8 c10 _ _ x0 x2 _ ((sl_bts HS0d.out).drewN _) ((sl_bts HS2d.out).drewN _)).mono ?_;rintro e w14 ⟨rfl,m14,rfl⟩;rw [decide_eq_false h2];have HQ14:=Lib.hid (below_drewN HQ12.out (m13+m14)))
         | (go_at_call 62;refine (get_some _ x0 p _ HS0c.out hx0l hg).mono ?_;rintro e w11 ⟨A11,n11,c11,rfl,hbt11,hb11⟩;have HQ11:=Lib.hid (HQ10.out.trans (hb11.mono HQ10.out.size));have hal:=palloc hb11 (Obj.cells #[.int .i64 p.kind,.int .i64 p.gen,.int .i64 p.mark,.int .i64 p.index,.int .i64 p.part,.int .i64 p.parts,.slice A11 n11 c11] 125);have HQ12:=Lib.hid (HQ10.out.trans (hal.mono HQ10.out.size));have HS0d:=Lib.hid (HS0c.out.below hal (Nat.le_refl _));have HS1d:=Lib.hid (HS1b.out.below hal (Nat.le_refl _));have HS2d:=Lib.hid (HS2a.out.below hal (Nat.le_refl _));clear hbt11 hb11 hal)
         | (go_at_call 50;refine (RD3.out _ (HE37.out.below HQ9.out)).mono ?_;rintro e w10 ⟨v10,rfl,hs10,hb10⟩;obtain ⟨A10,n10,c10,rfl,_⟩:=id hs10;have HS2a:=Lib.hid hs10;have HS1b:=Lib.hid (sl_up HS1a.out hb10);have HS0c:=Lib.hid (sl_up HS0b.out hb10);have HQ10:=Lib.hid (HQ9.out.trans (hb10.mono HQ9.out.size));clear hs10 hb10)
         | (go_at_call 50;refine (RD2.out _ (HE27.out.below HQ8.out)).mono ?_;rintro e w9 ⟨v9,rfl,hs9,hb9⟩;obtain ⟨A9,n9,c9,rfl,_⟩:=id hs9;have HS1a:=Lib.hid hs9;have HS0b:=Lib.hid (sl_up HS0a.out hb9);have HQ9:=Lib.hid (HQ8.out.trans (hb9.mono HQ8.out.size));have gW9:=(hb9.cell (p:=⟨b4,j,none⟩) hbz8).trans gW8;have hbz9:=Nat.lt_of_lt_of_le hbz8 hb9.size;clear hs9 hb9)
         | (go_at_call 50;refine (RD1.out _ (HE17.out.below HBW.out)).mono ?_;rintro e w8 ⟨v8,rfl,hs8,hb8⟩;obtain ⟨A8,n8,c8,rfl,_⟩:=id hs8;have HS0a:=Lib.hid hs8;have HQ8:=Lib.hid (HBW.out.trans (hb8.mono HBW.out.size));have gW8:=(hb8.cell (p:=⟨b4,j,none⟩) hbz).trans gW;have hbz8:=Nat.lt_of_lt_of_le hbz hb8.size;clear hs8 hb8)
         | (go_at_call 51;refine (rsame_any A8 A9 n8 n9 c8 c9 _ _ x0 x1 _ (sl_bts HS0d.out) (sl_bts HS1d.out)).mono ?_;rintro e w13 ⟨rfl,m13,rfl⟩;rw [decide_eq_false h1];have HQ13:=Lib.hid (below_drewN HQ12.out m13);have HF13:=Lib.hid (rfl:(0:Nat)=0)))
        go_ret
        exact ⟨false,rfl,(fun h=>by cases h),HB7.out.trans ((HQ14.out).mono HB7.out.size)⟩
    ·obtain rfl:j=k:=by omega
     go_wp2
     go_ret
     exact ⟨true,rfl,fun _=>HF.out HTI.out,HB7.out.trans (HBW.out.mono HB7.out.size)⟩
end Go.Proofs.YtplpmemlaohlaaaGreat.Wl
