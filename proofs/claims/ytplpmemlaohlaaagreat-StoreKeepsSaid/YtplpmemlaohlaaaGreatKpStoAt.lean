/- A store in memory (layer 12): its block, that of what it keeps, the log's, and the rows of its state; what stays where a disk, a log or what is kept turns; the contracts of its short calls. -/
import Derived.Test.YtplpmemlaohlaaaGreatKpBasCopy
import Derived.Test.YtplpmemlaohlaaaGreatKpRefBas
import Derived.Test.YtplpmemlaohlaaaGreatKpStoKeep
import Derived.Test.YtplpmemlaohlaaaGreatKpStoMem
import Derived.Test.YtplpmemlaohlaaaGreatKpWalAllB
namespace Go.Proofs.YtplpmemlaohlaaaGreat.Sto
open Go.RowKit Mem Oct Lsa Chg Bas Wl
open Dsk (KeptBut SMap DiskAt kept_of_below kept_of_grown kept_drew)
open Plt (sl)
set_option linter.unusedVariables false
set_option linter.unusedSimpArgs false
abbrev ptr (g:Nat):Value:=Dsk.ptr g
def Typ (w:World) (S:List Nat):Prop:=∀ b∈S,∀ cs,¬ Blk w b 80 cs∧¬ Blk w b 195 cs∧¬ Blk w b 118 cs
theorem typ_blk {w:World} {g t:Nat} {cs:Array Value} (h:Blk w g t cs) (h1:80≠t∧195≠t∧118≠t):Typ w [g]:=by
 intro b hb cs'
 obtain rfl:=List.mem_singleton.1 hb
 exact ⟨fun k=>Blk.ne_ k h h1.1 rfl,fun k=>Blk.ne_ k h h1.2.1 rfl,fun k=>Blk.ne_ k h h1.2.2 rfl⟩
theorem typ_map {w:World} {b:Nat} {f:Nat→Option (List Nat)} (h:SMap w b f):Typ w [b]:=by
 intro g hg cs
 obtain rfl:=List.mem_singleton.1 hg
 exact ⟨fun k=>Dsk.smap_ne_blk h k rfl,fun k=>Dsk.smap_ne_blk h k rfl,fun k=>Dsk.smap_ne_blk h k rfl⟩
theorem Typ.app {w:World} {S T:List Nat} (h:Typ w S) (k:Typ w T):Typ w (S++T):=fun b hb=>(List.mem_append.1 hb).elim (h b) (k b)
theorem typ_disk {w:World} {g bs bw:Nat} {d:Dsk.St} (h:DiskAt w g bs bw d):Typ w [g,bs,bw] :=
 ((typ_blk h.1 (by decide)).app (typ_map h.2.1)).app (typ_map h.2.2.1)
theorem typ_wal {w:World} {x g k:Nat} {v:Wn} (h:WalAt w x g k v):Typ w [x]:=typ_blk h (by decide)
theorem typ_both {w:World} {x g bs bw k:Nat} {v:Wn} {d:Dsk.St} (h:WalAt w x g k v) (hd:DiskAt w g bs bw d):Typ w [x,g,bs,bw]:=(typ_wal h).app (typ_disk hd)
section
variable {w w':World} {S:List Nat}
theorem row_kept {base n sz:Nat} {e:TypeId} {v:Value} {xs:List Value} (h:w.ownsRow base e sz v n xs) (hk:KeptBut w w' S) (ht:∀ b∈S,∀ cs,¬ Blk w b e cs):w'.ownsRow base e sz v n xs:=by
 obtain ⟨a1,a2 | ⟨g,cap,cur,rfl,hg,hh,rest⟩⟩:=h
 ·exact ⟨a1,.inl a2⟩
 ·have hlt:g<w.heap.size:=(Array.getElem?_eq_some_iff.1 hh).1
  exact ⟨a1,.inr ⟨g,cap,cur,rfl,hg,(hk.block g hlt (fun hm=>ht g hm _ hh)).trans hh,rest⟩⟩
theorem ownL_kept {base:Nat} {v:Value} {l:List La} (h:OwnL w base v l) (hk:KeptBut w w' S) (ht:Typ w S):OwnL w' base v l:=by
 obtain ⟨us,h1,h2,h3⟩:=h
 refine ⟨us,h1,row_kept h2 hk (fun b hb cs=>(ht b hb cs).1),fun i hi=>?_⟩
 obtain ⟨n,h4⟩:=h3 i hi
 exact ⟨n,row_kept h4 hk (fun b hb cs=>(ht b hb cs).2.1)⟩
theorem ownE_kept {base:Nat} {v:Value} {l:List (Int × Int)} (h:OwnE w base v l) (hk:KeptBut w w' S) (ht:Typ w S):OwnE w' base v l:=row_kept h hk (fun b hb cs=>(ht b hb cs).2.2)
theorem lkS_kept {B0:Nat} {v:Value} {l:List Lk} (h:LkS w B0 v l) (hk:KeptBut w w' S) (ht:Typ w S) (hS:∀ b∈S,B0≤b):LkS w' B0 v l:=by
 obtain ⟨A,n,c,e,h1,h2,h3,h4,h5⟩:=h
 refine ⟨A,n,c,e,h1,h2,h3,h4,fun h0=>?_⟩
 obtain ⟨b,off,e,hs,hbw,hc⟩:=h5 h0
 have hn:b ∉ S:=fun hm=>hs.elim (fun h=>by have:=hS b hm;omega) (fun ⟨cs,hb⟩=>(ht b hm cs).2.1 hb)
 exact ⟨b,off,e,hs.elim .inl (fun ⟨cs,hb⟩=>.inr ⟨cs,hk.blk hb hn⟩),Nat.lt_of_lt_of_le hbw hk.size,fun i hi=>⟨(hk.cell (p:=⟨b,off+i*2,none⟩) hbw hn).trans (hc i hi).1,(hk.cell (p:=⟨b,off+i*2+1,none⟩) hbw hn).trans (hc i hi).2⟩⟩
theorem safeE_kept {B0:Nat} {v:Value} {l:List (Int × Int)} (h:SafeE w B0 v l) (hk:KeptBut w w' S) (ht:Typ w S) (hS:∀ b∈S,B0≤b):SafeE w' B0 v l:=by
 obtain ⟨A,n,c,e,h1,h2,h3,h4,h5⟩:=h
 refine ⟨A,n,c,e,h1,h2,h3,h4,fun h0=>?_⟩
 obtain ⟨b,off,e,hs,hbw,hc⟩:=h5 h0
 have hn:b ∉ S:=fun hm=>hs.elim (fun h=>by have:=hS b hm;omega) (fun ⟨cs,hb⟩=>(ht b hm cs).2.2 hb)
 exact ⟨b,off,e,hs.elim .inl (fun ⟨cs,hb⟩=>.inr ⟨cs,hk.blk hb hn⟩),Nat.lt_of_lt_of_le hbw hk.size,fun i hi=>⟨(hk.cell (p:=⟨b,off+i*2,none⟩) hbw hn).trans (hc i hi).1,(hk.cell (p:=⟨b,off+i*2+1,none⟩) hbw hn).trans (hc i hi).2⟩⟩
theorem safeL_kept {B0:Nat} {v:Value} {l:List La} (h:SafeL w B0 v l) (hk:KeptBut w w' S) (ht:Typ w S) (hS:∀ b∈S,B0≤b):SafeL w' B0 v l:=by
 obtain ⟨A,n,c,e,h1,h2,h3,h4,h5⟩:=h
 refine ⟨A,n,c,e,h1,h2,h3,h4,fun h0=>?_⟩
 obtain ⟨b,off,e,hs,hbw,hc⟩:=h5 h0
 have hn:b ∉ S:=fun hm=>hs.elim (fun h=>by have:=hS b hm;omega) (fun ⟨cs,hb⟩=>(ht b hm cs).1 hb)
 refine ⟨b,off,e,hs.elim .inl (fun ⟨cs,hb⟩=>.inr ⟨cs,hk.blk hb hn⟩),Nat.lt_of_lt_of_le hbw hk.size,fun i hi=>?_⟩
 obtain ⟨u,hr,hu⟩:=hc i hi
 exact ⟨u,fun j x hx=>(hk.cell (p:=⟨b,off+i*3+j,none⟩) hbw hn).trans (hr j x hx),lkS_kept hu hk ht hS⟩
end
theorem blk_cells5 {w:World} {g:Nat} {t:TypeId} {a b c d e:Value} (h:Blk w g t #[a,b,c,d,e]):w.cell? ⟨g,0,none⟩=some a∧w.cell? ⟨g,1,none⟩=some b∧w.cell? ⟨g,2,none⟩=some c∧w.cell? ⟨g,3,none⟩=some d∧w.cell? ⟨g,4,none⟩=some e∧g<w.heap.size :=
 ⟨by rw [h.cell];rfl,by rw [h.cell];rfl,by rw [h.cell];rfl,by rw [h.cell];rfl,by rw [h.cell];rfl,h.lt⟩
def KeepAt (w:World) (q x g k:Nat) (v:Wn) (s:Sta):Prop :=
 (∃ dv ev:Value,Blk w q 92 #[ptr x,dv,.int .i64 s.up,.int .i64 s.bo,ev]∧OwnL w 0 dv s.db∧OwnE w 0 ev s.ep)∧WalAt w x g k v
def StoreAt (w:World) (y q x g k:Nat) (v:Wn) (s:Sta):Prop:=Blk w y 70 #[ptr q]∧KeepAt w q x g k v s
section
variable {w w':World} {y q x g bs bw k:Nat} {v:Wn} {s:Sta} {d:Dsk.St} {S:List Nat}
theorem KeepAt.kept (h:KeepAt w q x g k v s) (hk:KeptBut w w' S) (ht:Typ w S) (h1:q ∉ S) (h2:x ∉ S):KeepAt w' q x g k v s:=by
 obtain ⟨⟨dv,ev,a1,a2,a3⟩,a4⟩:=h
 exact ⟨⟨dv,ev,hk.blk a1 h1,ownL_kept a2 hk ht,ownE_kept a3 hk ht⟩,a4.kept hk h2⟩
theorem StoreAt.kept (h:StoreAt w y q x g k v s) (hk:KeptBut w w' S) (ht:Typ w S) (h0:y ∉ S) (h1:q ∉ S) (h2:x ∉ S):StoreAt w' y q x g k v s:=⟨hk.blk h.1 h0,h.2.kept hk ht h1 h2⟩
theorem StoreAt.up (h:StoreAt w y q x g k v s) (hb:Below w.heap.size w w'):StoreAt w' y q x g k v s:=h.kept (S:=[]) (kept_of_below hb (Nat.le_refl _)) (by intro b hb;simp at hb) (by simp) (by simp) (by simp)
theorem KeepAt.acted {v':Wn} {d':Dsk.St} (h:KeepAt w q x g k v s) (hd:DiskAt w g bs bw d) (hk:KeptBut w w' [x,g,bs,bw]) (hw:WalAt w' x g k v'):KeepAt w' q x g k v' s:=by
 obtain ⟨⟨dv,ev,a1,a2,a3⟩,a4⟩:=h
 have ht:=typ_both a4 hd
 refine ⟨⟨dv,ev,hk.blk a1 ?_,ownL_kept a2 hk ht,ownE_kept a3 hk ht⟩,hw⟩
 have n1:=Blk.ne_ a1 a4 (by decide)
 have n2:=Blk.ne_ a1 hd.1 (by decide)
 have n3:=Dsk.smap_ne_blk hd.2.1 a1
 have n4:=Dsk.smap_ne_blk hd.2.2.1 a1
 simp only [List.mem_cons,List.not_mem_nil,or_false]
 omega
theorem StoreAt.acted {v':Wn} {d':Dsk.St} (h:StoreAt w y q x g k v s) (hd:DiskAt w g bs bw d) (hk:KeptBut w w' [x,g,bs,bw]) (hw:WalAt w' x g k v'):StoreAt w' y q x g k v' s:=by
 refine ⟨hk.blk h.1 ?_,h.2.acted (d':=d) hd hk hw⟩
 have n1:=Blk.ne_ h.1 h.2.2 (by decide)
 have n2:=Blk.ne_ h.1 hd.1 (by decide)
 have n3:=Dsk.smap_ne_blk hd.2.1 h.1
 have n4:=Dsk.smap_ne_blk hd.2.2.1 h.1
 simp only [List.mem_cons,List.not_mem_nil,or_false]
 omega
end
def NoStore (w:World) (z:Value):Prop:=z=.pointer none∨∃ y,z=ptr y∧Blk w y 70 #[.pointer none]
section
variable (y q x g k:Nat) (v:Wn) (s:Sta) (w:World)
set_option maxHeartbeats 1000000 in
theorem sNone_no (h:StoreAt w y q x g k v s):Calls Tryz.prog 54 #[ptr y] w fun e w'=>e=.returned (.bool false)∧w=w':=by
 have c0:w.cell? ⟨y,0,none⟩=some (ptr q):=by rw [h.1.cell];rfl
 have hx:=h.1.lt
 clear h
 go_enter Tryz.func54,Tryz.ntmps54
 go_wp2
 go_ret
 exact ⟨rfl,rfl⟩
theorem StoreAt.c0 {y q x g k:Nat} {v:Wn} {s:Sta} {w:World} (h:StoreAt w y q x g k v s):w.cell? ⟨y,0,none⟩=some (ptr q)∧y<w.heap.size:=⟨by rw [h.1.cell];rfl,h.1.lt⟩
theorem KeepAt.c0 {q x g k:Nat} {v:Wn} {s:Sta} {w:World} (h:KeepAt w q x g k v s):w.cell? ⟨q,0,none⟩=some (ptr x)∧q<w.heap.size:=by
 obtain ⟨⟨dv,ev,a1,_⟩,_⟩:=h
 exact ⟨by rw [a1.cell];rfl,a1.lt⟩
set_option maxHeartbeats 1000000 in
theorem sBroken_any (h:StoreAt w y q x g k v s):Calls Tryz.prog 24 #[ptr y] w fun e w'=>e=.returned (.bool v.br)∧w=w':=by
 have C:=Lib.hid (sNone_no y q x g k v s w h)
 have D:=Lib.hid (broken_any x g k v w h.2.2)
 obtain ⟨c0,c1⟩:=h.c0
 obtain ⟨d0,d1⟩:=h.2.c0
 clear h
 go_enter Tryz.func24,Tryz.ntmps24
 go_wp2_with (first
  | (go_at_call 54;refine (C.out).mono ?_;rintro e w' ⟨rfl,rfl⟩)
  | (go_at_call 57;refine (D.out).mono ?_;rintro e w' ⟨rfl,rfl⟩))
 go_ret
 exact ⟨rfl,rfl⟩
set_option maxHeartbeats 1000000 in
theorem sGen_any (h:StoreAt w y q x g k v s):Calls Tryz.prog 23 #[ptr y] w fun e w'=>e=.returned (.int .i64 v.gen)∧w=w':=by
 have C:=Lib.hid (sNone_no y q x g k v s w h)
 have D:=Lib.hid (gen_any x g k v w h.2.2)
 obtain ⟨c0,c1⟩:=h.c0
 obtain ⟨d0,d1⟩:=h.2.c0
 clear h
 go_enter Tryz.func23,Tryz.ntmps23
 go_wp2_with (first
  | (go_at_call 54;refine (C.out).mono ?_;rintro e w' ⟨rfl,rfl⟩)
  | (go_at_call 56;refine (D.out).mono ?_;rintro e w' ⟨rfl,rfl⟩))
 go_ret
 exact ⟨rfl,rfl⟩
def StateOut (w:World) (s:Sta) (e:Ending) (w':World):Prop:=∃ A n c A' n' c',e=.returned (stV s (.slice A n c) (.slice A' n' c'))∧OwnL w' w.heap.size (.slice A n c) s.db∧OwnE w' w.heap.size (.slice A' n' c') s.ep∧Below w.heap.size w w'
theorem may_len {s:Sta} (h:mayS s=true):s.db.length≤1000∧s.ep.length≤1000∧∀ i,i<s.db.length→(s.db.getD i zeroL).ls.length≤1000:=by
 obtain ⟨l1,l2⟩:=mayS_len h
 refine ⟨by omega,by omega,fun i hi=>?_⟩
 have h1:=dbOk_all (mayS_iff.1 h).1 (s.db.getD i zeroL) (by rw [show s.db.getD i zeroL=s.db[i] by simp [List.getD,List.getElem?_eq_getElem hi]];exact List.getElem_mem _)
 have:=(laOk_iff.1 h1).2.2.1
 omega
set_option maxRecDepth 20000 in
set_option maxHeartbeats 2000000 in
theorem sState_any (h:StoreAt w y q x g k v s) (hm:mayS s=true):Calls Tryz.prog 22 #[ptr y] w (StateOut w s):=by
 have ha:=low1 (Below.refl w.heap.size w) (.cells zSt 43)
 have C:=Lib.hid (sNone_no y q x g k v s _ (h.up ha))
 obtain ⟨c0,c1⟩:=(h.up ha).c0
 obtain ⟨⟨dv,ev,a1,a2,a3⟩,a4⟩:=(h.up ha).2
 have z0:=Blk.new w 43 zSt
 obtain ⟨Ad,nd,cd,rfl⟩:=ownL_sl a2
 obtain ⟨Ae,ne,ce,rfl⟩:=ownE_sl a3
 obtain ⟨d0,d1,d2,d3,d4,d5⟩:=blk_cells5 a1
 obtain ⟨m1,m2,m3⟩:=may_len hm
 have CP:=Lib.hid (scopy_any s (.slice Ad nd cd) (.slice Ae ne ce) _ ⟨a2.las,ownE_lks a3⟩ m1 m2 m3)
 unfold CopyOut at CP
 have HA:=Lib.hid ha;clear ha
 have Z0:=Lib.hid z0;clear z0
 clear h a1 a2 a3 a4 m1 m2 m3 hm
 go_enter Tryz.func22,Tryz.ntmps22
 go_wp2_with (first
  | (go_at_call 54;refine (C.out).mono ?_;rintro e w' ⟨rfl,rfl⟩)
  | (go_at_call 55;refine (CP.out).mono ?_;rintro e w3 ⟨dv,ev,rfl,hd,he,hb⟩;obtain ⟨A1,n1,k1,rfl⟩:=ownL_sl hd;obtain ⟨A2,n2,k2,rfl⟩:=ownE_sl he;have hz:=Z0.out.below hb Z0.out.lt;obtain ⟨z0,z1,z2,z3,z4⟩:=blk_cells4 hz;obtain ⟨f0,f1,f2,f3⟩:=blk_fz4 hz;have HZ:=Lib.hid hz;have HD:=Lib.hid hd;have HE:=Lib.hid he;have HB:=Lib.hid (low_low HA.out hb);clear hb hd he hz))
 have hg:=upd4_grown w3 w.heap.size (.slice A1 n1 k1) (.int .i64 s.up) (.int .i64 s.bo) (.slice A2 n2 k2)
 have hf:StateOut w s (.returned (stV s (.slice A1 n1 k1) (.slice A2 n2 k2))) (upd4 w3 w.heap.size (.slice A1 n1 k1) (.int .i64 s.up) (.int .i64 s.bo) (.slice A2 n2 k2)) :=
  ⟨_,_,_,_,_,_,rfl,ownL_more (HD.out.gr hg (by simp)) (by simp),own_mono (own_gr HE.out hg (by simp)) (by simp),HB.out.grown hg HB.out.size (fun q hq=>by cases hq;exact Nat.le_refl _)⟩
 refine bodyPost_ret (v:=stV s (.slice A1 n1 k1) (.slice A2 n2 k2)) ?_ rfl hf
 simp [results,Tryz.results22,go_sem,z0,z1,z2,z3]
end
end Go.Proofs.YtplpmemlaohlaaaGreat.Sto
