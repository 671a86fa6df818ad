/- DiskAll: the texts Sect, Kept, Meth, Read, Write, Copy, Flush, None, Waits, Tear, Crash, RefW, RefS, RefT, RefU, RefN, RefX, RefF, RefC, Clone, Fine, Ac, Like, Light, LightIn, Ones, CrashKept in one. (Printed by tools/mergeall.py.) -/
import Derived.Test.YtplpmemlaohlaaaGreatKeys
import Derived.Test.YtplpmemlaohlaaaGreatKpLowAll
import Derived.BigQuiet
import Derived.Deep.CutRange
import Derived.Deep.OwnRows
import Derived.Deep.QuietTactic
import Derived.Deep.RegionHeld3
import Derived.Deep.RegionLaw
import Derived.Deep.WholeRow
import Derived.Laws.CopyOwn
import Derived.Maps.Ext
import Derived.Maps.OwnOps
import Derived.Maps.OwnSet
import Derived.Maps.RangeWalk
import Derived.Shelf.Abstract
import Derived.Shelf.SlMaps.Clone
import Derived.StillTailTactics
namespace Go.Proofs.YtplpmemlaohlaaaGreat.Dsk
open Go.RowKit Go.Maps Go.MapKept Go.ChangeMaps Mem
set_option linter.unusedVariables false
set_option linter.unusedSimpArgs false
def IsSec (xs:List Nat):Prop:=xs.length=512∧∀ x∈xs,x<256
abbrev secV (xs:List Nat):Value:=.agg (vals xs).toArray
def noughts:List Nat:=List.replicate 512 0
theorem isSec_noughts:IsSec noughts:=⟨List.length_replicate,fun x hx=>by rw [List.eq_of_mem_replicate hx];decide⟩
def byteOf:Value→Option Nat
 | .int .u8 x=>if 0≤x∧x<256 then some x.toNat else none
 | _=>none
def secOf:Value→Option (List Nat)
 | .agg cs=>cs.toList.mapM byteOf
 | _=>none
def secR (v:Value):Option (DataW (List Nat) × List MemPlace) :=
 match secOf v with
 | some xs=>if xs.length=512 then some (.held xs,[]) else none
 | none=>none
theorem byteOf_mk {x:Nat} (h:x<256):byteOf (.int .u8 (x:Int))=some x:=by
 simp [byteOf]
 omega
theorem byteOf_inv {v:Value} {x:Nat} (h:byteOf v=some x):v=.int .u8 (x:Int)∧x<256:=by
 unfold byteOf at h
 split at h
 ·split at h
  ·rename_i y hy
   injection h with h
   subst h
   refine ⟨by congr 1;omega,by omega⟩
  ·cases h
 ·cases h
theorem mapM_byte:∀ {xs:List Nat},(∀ x∈xs,x<256)→(vals xs).mapM byteOf=some xs
 | [],_=>rfl
 | x::r,h=>by
  have h1:=byteOf_mk (h x (List.mem_cons_self ..))
  have h2:=mapM_byte (xs:=r) (fun y hy=>h y (List.mem_cons_of_mem _ hy))
  simp only [vals,List.map_cons] at h2 ⊢
  simp [h1,h2]
theorem mapM_byte_inv:∀ {l:List Value} {xs:List Nat},l.mapM byteOf=some xs→l=vals xs∧∀ x∈xs,x<256
 | [],xs,h=>by
  simp at h
  subst h
  exact ⟨rfl,by simp⟩
 | v::r,xs,h=>by
  rw [List.mapM_cons] at h
  cases hv:byteOf v with
  | none=>simp [hv] at h
  | some x =>
   cases hr:r.mapM byteOf with
   | none=>simp [hv,hr] at h
   | some ys =>
    simp [hv,hr] at h
    subst h
    obtain ⟨rfl,hx⟩:=byteOf_inv hv
    obtain ⟨rfl,hy⟩:=mapM_byte_inv hr
    exact ⟨rfl,by intro z hz;rcases List.mem_cons.1 hz with rfl | hz;exact hx;exact hy z hz⟩
theorem secR_mk {xs:List Nat} (h:IsSec xs):secR (secV xs)=some (.held xs,[]):=by
 simp [secR,secOf,mapM_byte h.2,h.1]
theorem secR_inv {v:Value} {y:DataW (List Nat) × List MemPlace} (h:secR v=some y):∃ xs,IsSec xs∧v=secV xs∧y=(.held xs,[]):=by
 unfold secR at h
 split at h
 ·rename_i xs hx
  split at h
  ·rename_i hl
   injection h with h
   subst h
   unfold secOf at hx
   split at hx
   ·rename_i cs
    obtain ⟨e,hlt⟩:=mapM_byte_inv hx
    refine ⟨xs,⟨hl,hlt⟩,?_,rfl⟩
    rw [secV,← e]
   ·cases hx
  ·cases h
 ·cases h
theorem keyed:Keyed Tryz.prog 3:=int_keyed Tryz.underlying3
theorem info72:(Tryz.prog.info? 184).map (fun i=>(i.zero,i.size))=some (some (secV noughts),512):=by kernel_rfl
theorem zero72 (w:World):(zeroValue 184).run Tryz.prog w=.ok (secV noughts) w:=(zero_of_info info72).1 w
theorem size72:(Tryz.prog.info? 184).map (·.size)=some 512:=(zero_of_info info72).2
theorem key_mk {i:Nat} (hi:i<1024):keyOf Tryz.prog 3 (.int .i64 (i:Int))=some (.int .i64 (i:Int)) :=
 keyOf_int_mk Tryz.underlying3 (WalkArith.wf_i64 (by omega))
theorem nodup_le:∀ (N:Nat) (l:List Nat),l.Nodup→(∀ x∈l,x<N)→l.length≤N
 | 0,l,_,h=>by
  cases l with
  | nil=>simp
  | cons x r=>exact absurd (h x (List.mem_cons_self ..)) (by omega)
 | N+1,l,hn,h=>by
  have ih:=nodup_le N (l.erase N) (hn.erase N) (fun x hx=>by
   have h1:=(hn.mem_erase_iff).1 hx
   have h2:=h x h1.2
   have h3:=h1.1
   omega)
  rw [List.length_erase] at ih
  split at ih <;> omega
def natKey:Lit→Nat
 | .int _ x=>x.toNat
 | _=>0
theorem size_bound {es:List (Lit × DataW (List Nat))} {N:Nat} (hp:es.Pairwise (fun p q=>p.1≠q.1)) (hk:∀ p∈es,∃ i:Nat,i<N∧p.1=.int .i64 (i:Int)):es.length≤N:=by
 have h:=nodup_le N (es.map fun p=>natKey p.1) (by
  rw [List.Nodup,List.pairwise_map]
  refine List.Pairwise.imp_of_mem (fun {p q} hpm hqm hne he=>hne ?_) hp
  obtain ⟨i,_,hi⟩:=hk p hpm
  obtain ⟨j,_,hj⟩:=hk q hqm
  rw [hi,hj] at he ⊢
  simp [natKey] at he
  rw [he]) (by
  intro x hx
  obtain ⟨p,hpm,rfl⟩:=List.mem_map.1 hx
  obtain ⟨i,hi,e⟩:=hk p hpm
  rw [e]
  simpa [natKey] using hi)
 simpa using h
def SMap (w:World) (b:Nat) (f:Nat→Option (List Nat)):Prop :=
 ∃ (D:DataW (List Nat)) (n:Nat),w.ownsMap Tryz.prog 3 secR b n D∧n≤1024∧(∀ kl,Maps.has D kl=true→∃ i:Nat,i<1024∧kl=.int .i64 (i:Int)) ∧
  ∀ i:Nat,(f i=none∧Maps.has D (.int .i64 (i:Int))=false)∨∃ xs,f i=some xs∧IsSec xs∧∀ zd,D.atKey (.int .i64 (i:Int)) zd=.held xs
theorem owns_size {w:World} {b n:Nat} {D:DataW (List Nat)} (h:w.ownsMap Tryz.prog 3 secR b n D) (hk:∀ kl,Maps.has D kl=true→∃ i:Nat,i<1024∧kl=.int .i64 (i:Int)) :
  w.ownsMap Tryz.prog 3 secR b 1024 D:=by
 obtain ⟨es',hD',hp,hkl⟩:=h.entries keyed
 obtain ⟨es,clock,hb,F,hs,hD⟩:=h
 refine ⟨es,clock,hb,F,?_,hD⟩
 have e1:es'.length=es.size:=by
  rw [hD'] at hD
  injection hD with hD
  rw [hD,length_sorted]
  simp
 rw [← e1]
 refine size_bound hp fun p hpm=>hk _ ?_
 rw [hD',has_eq,List.any_eq_true]
 refine ⟨p,hpm,?_⟩
 have:=hkl p hpm
 obtain ⟨l,d⟩:=p
 cases l <;> simp_all [Lit.sameKey,WideAt.IsKeyLit]
section
variable {w w':World} {b:Nat} {f:Nat→Option (List Nat)}
theorem SMap.made (w:World):SMap (w.alloc (.map #[] 0)) w.heap.size (fun _=>none) :=
 ⟨_,0,World.ownsMap_made w _ _ _,by omega,fun kl h=>by simp [Maps.has] at h,fun i=>.inl ⟨rfl,by simp [Maps.has]⟩⟩
theorem SMap.lt (h:SMap w b f):b<w.heap.size:=by
 obtain ⟨D,n,hown,_⟩:=h
 exact hown.lt
theorem SMap.kept {row:Option Nat} (h:SMap w b f) (hg:w.grownBy w' row) (hne:some b≠row):SMap w' b f:=by
 obtain ⟨D,n,hown,h1⟩:=h
 exact ⟨D,n,hown.kept hg hne,h1⟩
theorem SMap.sec {i:Nat} {xs:List Nat} (h:SMap w b f) (hf:f i=some xs):IsSec xs∧i<1024:=by
 obtain ⟨D,n,hown,hn,hk,hat⟩:=h
 rcases hat i with ⟨h0,_⟩ | ⟨ys,h1,h2,h3⟩
 ·rw [h0] at hf;cases hf
 ·rw [h1] at hf
  injection hf with hf
  subst hf
  obtain ⟨j,hj,e⟩:=hk _ (has_true_of_atKey h3)
  injection e with _ e
  exact ⟨h2,by omega⟩
theorem SMap.secD (h:SMap w b f) (i:Nat):IsSec ((f i).getD noughts):=by
 cases hf:f i with
 | none=>exact isSec_noughts
 | some xs=>exact (h.sec hf).1
theorem SMap.look (h:SMap w b f) {i:Nat} (hi:i<1024) :
  (Instr.lookup 83 (.map (some b)) (.int .i64 (i:Int)) false).run Tryz.prog w=.ok (secV ((f i).getD noughts)) w:=by
 obtain ⟨D,n,hown,hn,hk,hat⟩:=h
 obtain ⟨v,ps,hrun,hv⟩:=hown.lookup keyed Tryz.underlying83 (zero72 w) (secR_mk isSec_noughts) (key_mk hi)
 rw [hrun]
 obtain ⟨ys,_,rfl,hy⟩:=secR_inv hv
 rcases hat i with ⟨h0,h1⟩ | ⟨xs,h1,h2,h3⟩
 ·rw [atKey_of_not_has h1] at hy
  simp at hy
  rw [h0,← hy.1]
  rfl
 ·rw [h3] at hy
  simp at hy
  rw [h1,← hy.1]
  rfl
theorem SMap.look_ok (h:SMap w b f) {i:Nat} (hi:i<1024) :
  (Instr.lookup 83 (.map (some b)) (.int .i64 (i:Int)) true).run Tryz.prog w=.ok (.tuple #[secV ((f i).getD noughts),.bool (f i).isSome]) w:=by
 obtain ⟨D,n,hown,hn,hk,hat⟩:=h
 obtain ⟨v,ps,hrun,hv⟩:=hown.look_ok keyed Tryz.underlying83 (zero72 w) (secR_mk isSec_noughts) (key_mk hi)
 rw [hrun]
 obtain ⟨ys,_,rfl,hy⟩:=secR_inv hv
 rcases hat i with ⟨h0,h1⟩ | ⟨xs,h1,h2,h3⟩
 ·rw [atKey_of_not_has h1] at hy
  simp at hy
  rw [h0,h1,← hy.1]
  rfl
 ·rw [h3] at hy
  simp at hy
  rw [h1,has_true_of_atKey h3,← hy.1]
  rfl
theorem lit_ne {i j:Nat} (h:j≠i):(Lit.int .i64 (j:Int))≠.int .i64 (i:Int):=by
 intro e
 injection e with _ e
 omega
theorem isKeyLit (i:Nat):WideAt.IsKeyLit (.int .i64 (i:Int)):=by simp [WideAt.IsKeyLit]
theorem owns_put {n:Nat} {D:DataW (List Nat)} {i:Nat} {xs:List Nat} (hm:IsMap D) (hi:i<1024) (hx:IsSec xs)
  (hk:∀ kl,Maps.has D kl=true→∃ i:Nat,i<1024∧kl=.int .i64 (i:Int))
  (hat:∀ i:Nat,(f i=none∧Maps.has D (.int .i64 (i:Int))=false)∨∃ xs,f i=some xs∧IsSec xs∧∀ zd,D.atKey (.int .i64 (i:Int)) zd=.held xs)
  (hown:w.ownsMap Tryz.prog 3 secR b n (D.put (.int .i64 (i:Int)) (.held xs))):SMap w b (fun j=>if j=i then some xs else f j):=by
 have hk':∀ kl,Maps.has (D.put (.int .i64 (i:Int)) (.held xs)) kl=true→∃ i:Nat,i<1024∧kl=.int .i64 (i:Int):=by
  intro kl h
  by_cases e:kl=.int .i64 (i:Int)
  ·exact ⟨i,hi,e⟩
  ·rw [has_put_other e] at h
   exact hk kl h
 refine ⟨_,1024,owns_size hown hk',Nat.le_refl _,hk',fun j=>?_⟩
 by_cases e:j=i
 ·subst e
  exact .inr ⟨xs,by simp,hx,fun zd=>atKey_put_same hm (isKeyLit j) _ _⟩
 ·rcases hat j with ⟨h0,h1⟩ | ⟨ys,h1,h2,h3⟩
  ·exact .inl ⟨by simp [e,h0],by rw [has_put_other (lit_ne e)];exact h1⟩
  ·exact .inr ⟨ys,by simp [e,h1],h2,fun zd=>by rw [atKey_put_other (lit_ne e)];exact h3 zd⟩
theorem SMap.put (h:SMap w b f) {i:Nat} {xs:List Nat} (hi:i<1024) (hx:IsSec xs) :
  ∃ w',(Instr.mapUpdate 83 (.map (some b)) (.int .i64 (i:Int)) (secV xs)).run Tryz.prog w=.ok () w'∧SMap w' b (fun j=>if j=i then some xs else f j)∧w.grownBy w' (some b):=by
 obtain ⟨D,n,hown,hn,hk,hat⟩:=h
 obtain ⟨w',hrun,hown',hg⟩:=hown.update keyed Tryz.underlying83 (by unfold maxLen;omega) (key_mk hi) (secR_mk hx)
 exact ⟨w',hrun,owns_put hown.isMap hi hx hk hat hown',hg⟩
theorem SMap.wipe (h:SMap w b f) (ty:TypeId) :
  ∃ w',(Builtin.clear_ #[83] ty #[.map (some b)]).run Tryz.prog w=.ok (.tuple #[]) w'∧SMap w' b (fun _=>none)∧w.grownBy w' (some b):=by
 obtain ⟨D,n,⟨es,clock,hb,F,hs,hD⟩,hn,hk,hat⟩:=h
 refine ⟨setBlock w b (.map #[] clock),?_,⟨.map [],0,⟨#[],clock,heap_setBlock_same hb _,⟨by simp,stamped_empty _,by simp⟩,by simp,rfl⟩,by omega,fun kl h=>by simp [Maps.has] at h,fun i=>.inl ⟨rfl,by simp [Maps.has]⟩⟩,⟨rfl,rfl,rfl,by simp [setBlock],fun i _ hi=>heap_setBlock_other hb _ (fun e=>hi (by rw [e]))⟩⟩
 simp [Builtin.clear_,run_underlying Tryz.underlying83,MapKept.run_getObj_map hb,MapKept.run_setObj_map _ hb,Result.andThen]
 rfl
end
end Go.Proofs.YtplpmemlaohlaaaGreat.Dsk
namespace Go.Proofs.YtplpmemlaohlaaaGreat.Dsk
open Go.RowKit Go.Maps Mem
set_option linter.unusedVariables false
set_option linter.unusedSimpArgs false
structure KeptBut (w w':World) (S:List Nat):Prop where
 os:w'.os=w.os
 tape:w'.tape=w.tape
 output:w'.output=w.output
 size:w.heap.size≤w'.heap.size
 block:∀ g,g<w.heap.size→g ∉ S→w'.heap[g]?=w.heap[g]?
section
variable {w w' w'':World} {S:List Nat}
theorem KeptBut.refl (w:World) (S:List Nat):KeptBut w w S:=⟨rfl,rfl,rfl,Nat.le_refl _,fun _ _ _=>rfl⟩
theorem KeptBut.trans (h:KeptBut w w' S) (k:KeptBut w' w'' S):KeptBut w w'' S :=
 ⟨k.os.trans h.os,k.tape.trans h.tape,k.output.trans h.output,Nat.le_trans h.size k.size,fun g hg hn=>(k.block g (Nat.lt_of_lt_of_le hg h.size) hn).trans (h.block g hg hn)⟩
theorem KeptBut.more {S':List Nat} (h:KeptBut w w' S) (hs:∀ g∈S,g∈S'):KeptBut w w' S' :=
 ⟨h.os,h.tape,h.output,h.size,fun g hg hn=>h.block g hg fun hm=>hn (hs g hm)⟩
theorem kept_of_grown {g:Nat} (h:w.grownBy w' (some g)) (hg:g∈S):KeptBut w w' S :=
 ⟨h.os,h.tape,h.output,h.size,fun k hk hn=>h.block k hk fun e=>by injection e with e;subst e;exact hn hg⟩
theorem kept_of_below {B:Nat} (h:Below B w w') (hB:w.heap.size≤B):KeptBut w w' S :=
 ⟨h.os,h.tape,h.output,h.size,fun k hk _=>h.block k (by omega)⟩
theorem kept_drew:KeptBut w w.drew S:=⟨rfl,rfl,rfl,Nat.le_refl _,fun _ _ _=>rfl⟩
theorem kept_alloc (o:Obj):KeptBut w (w.alloc o) S:=kept_of_below ((Below.refl _ w).alloc (Nat.le_refl _) o) (Nat.le_refl _)
theorem KeptBut.below {B:Nat} (h:KeptBut w w' S) (hS:∀ g∈S,B≤g) (hB:B≤w.heap.size):Below B w w' :=
 ⟨h.os,h.tape,h.output,h.size,fun g hg=>h.block g (by omega) fun hm=>by have:=hS g hm;omega⟩
theorem KeptBut.cell (h:KeptBut w w' S) {p:Addr} (hp:p.block<w.heap.size) (hn:p.block ∉ S):w'.cell? p=w.cell? p:=World.cell?_of_block (h.block p.block hp hn)
theorem KeptBut.blk {g:Nat} {t:TypeId} {cs:Array Value} (h:KeptBut w w' S) (hb:Blk w g t cs) (hn:g ∉ S):Blk w' g t cs:=(h.block g hb.lt hn).trans hb
theorem KeptBut.smap {b:Nat} {f:Nat→Option (List Nat)} (h:KeptBut w w' S) (hb:SMap w b f) (hn:b ∉ S):SMap w' b f:=by
 have hlt:=hb.lt
 obtain ⟨D,n,⟨es,clock,hbb,F,hs,hD⟩,h1⟩:=hb
 exact ⟨D,n,⟨es,clock,(h.block b hlt hn).trans hbb,F,hs,hD⟩,h1⟩
end
theorem smap_ne_blk {w:World} {b g:Nat} {f:Nat→Option (List Nat)} {t:TypeId} {cs:Array Value} (h:SMap w b f) (hb:Blk w g t cs):g≠b:=by
 rintro rfl
 obtain ⟨D,n,⟨es,clock,hbb,F,hs,hD⟩,h1⟩:=h
 unfold Blk at hb
 rw [hbb] at hb
 cases hb
structure St where
 n:Nat
 fs:Nat→Option (List Nat)
 fw:Nat→Option (List Nat)
 left:Int
 dead:Bool
def DiskAt (w:World) (g bs bw:Nat) (s:St):Prop :=
 Blk w g 85 #[.int .i64 (s.n:Nat),.map (some bs),.map (some bw),.int .i64 s.left,.bool s.dead]∧SMap w bs s.fs∧SMap w bw s.fw∧bs≠bw∧1≤s.n∧s.n≤1024 ∧
  -9223372036854775808≤s.left∧s.left≤9223372036854775807∧(∀ i,s.n≤i→s.fw i=none)
section
variable {w w':World} {g bs bw:Nat} {s:St} {S:List Nat}
theorem DiskAt.kept (h:DiskAt w g bs bw s) (hk:KeptBut w w' S) (h1:g ∉ S) (h2:bs ∉ S) (h3:bw ∉ S):DiskAt w' g bs bw s:=by
 obtain ⟨hb,hs,hw,hne,hr⟩:=h
 exact ⟨hk.blk hb h1,hk.smap hs h2,hk.smap hw h3,hne,hr⟩
theorem DiskAt.below (h:DiskAt w g bs bw s) (hb:Below w.heap.size w w'):DiskAt w' g bs bw s:=h.kept (S:=[]) (kept_of_below hb (Nat.le_refl _)) (by simp) (by simp) (by simp)
theorem DiskAt.drew (h:DiskAt w g bs bw s):DiskAt w.drew g bs bw s:=h.kept (S:=[]) kept_drew (by simp) (by simp) (by simp)
theorem DiskAt.alloc (h:DiskAt w g bs bw s) (o:Obj):DiskAt (w.alloc o) g bs bw s:=h.kept (S:=[]) (kept_alloc o) (by simp) (by simp) (by simp)
theorem DiskAt.lt (h:DiskAt w g bs bw s):g<w.heap.size∧bs<w.heap.size∧bw<w.heap.size:=⟨h.1.lt,h.2.1.lt,h.2.2.1.lt⟩
theorem DiskAt.ne (h:DiskAt w g bs bw s):g≠bs∧g≠bw∧bs≠bw:=⟨smap_ne_blk h.2.1 h.1,smap_ne_blk h.2.2.1 h.1,h.2.2.2.1⟩
end
def St.get (s:St) (i:Nat):List Nat:=((s.fw i).or (s.fs i)).getD noughts
def St.act (s:St):St × Bool:=if s.left=0 then ({ s with dead:=true },false) else ({ s with left:=if 0<s.left then s.left - 1 else s.left },true)
def upd1 (f:Nat→Option (List Nat)) (i:Nat) (xs:List Nat):Nat→Option (List Nat):=fun j=>if j=i then some xs else f j
def St.write (s:St) (i:Int) (xs:List Nat):St × Int :=
 if s.dead=true then (s,7) else if 0≤i∧i<s.n∧xs.length=512 then (if s.act.2=true then ({ s.act.1 with fw:=upd1 s.act.1.fw i.toNat xs },0) else (s.act.1,7)) else (s,1)
def St.flush (s:St):St × Int :=
 if s.dead=true then (s,7) else if s.act.2=true then ({ s.act.1 with fs:=fun i=>(s.fw i).or (s.fs i),fw:=fun _=>none },0) else (s.act.1,7)
def torn (b s:List Nat):List Nat:=b.take 512++s.drop b.length
def St.tear (s:St) (i:Nat) (k:Int) (b:List Nat):St :=
 if k=1 then { s with fs:=upd1 s.fs i ((s.fw i).getD noughts) } else if k=2 then { s with fs:=upd1 s.fs i (torn b ((s.fs i).getD noughts)) } else s
def St.waiting (s:St):List Nat:=(List.range s.n).filter fun i=>(s.fw i).isSome
def St.tears (s:St) (l:List (Nat × Int × List Nat)):St:=l.foldl (fun s p=>s.tear p.1 p.2.1 p.2.2) s
def St.crash (s:St) (l:List (Int × List Nat)):St:={ s.tears (s.waiting.zip l) with fw:=fun _=>none,left := -1,dead:=false }
theorem tear_same (s:St) (i:Nat) (k:Int) (b:List Nat):(s.tear i k b).n=s.n∧(s.tear i k b).fw=s.fw∧(s.tear i k b).left=s.left∧(s.tear i k b).dead=s.dead:=by
 unfold St.tear
 split
 ·exact ⟨rfl,rfl,rfl,rfl⟩
 ·split <;> exact ⟨rfl,rfl,rfl,rfl⟩
theorem tears_same (l:List (Nat × Int × List Nat)):∀ (s:St),(s.tears l).n=s.n∧(s.tears l).fw=s.fw:=by
 induction l with
 | nil=>exact fun s=>⟨rfl,rfl⟩
 | cons p r ih =>
  intro s
  obtain ⟨h1,h2⟩:=ih (s.tear p.1 p.2.1 p.2.2)
  obtain ⟨h3,h4,_,_⟩:=tear_same s p.1 p.2.1 p.2.2
  exact ⟨h1.trans h3,h2.trans h4⟩
theorem tears_step (s:St) (l:List (Nat × Int × List Nat)) (k:Nat) (p:Nat × Int × List Nat) (h:l[k]?=some p):s.tears (l.take (k+1))=(s.tears (l.take k)).tear p.1 p.2.1 p.2.2:=by
 rw [List.take_add_one,h]
 simp [St.tears,List.foldl_append]
theorem waiting_lt (s:St):∀ i∈s.waiting,i<s.n:=fun i h=>List.mem_range.1 (List.mem_filter.1 h).1
theorem torn_sec {b s:List Nat} (hb:∀ x∈b,x<256) (hs:IsSec s):IsSec (torn b s):=by
 refine ⟨by simp [torn,hs.1];omega,fun x hx=>?_⟩
 rcases List.mem_append.1 hx with h | h
 ·exact hb x (List.mem_of_mem_take h)
 ·exact hs.2 x (List.mem_of_mem_drop h)
end Go.Proofs.YtplpmemlaohlaaaGreat.Dsk
namespace Go.Proofs.YtplpmemlaohlaaaGreat.Dsk
open Go.RowKit Go.Maps Mem
set_option linter.unusedVariables false
set_option linter.unusedSimpArgs false
abbrev ptr (g:Nat):Value:=.pointer (some ⟨g,0,none⟩)
section
variable {w:World} {g bs bw:Nat} {s:St}
theorem DiskAt.c0 (h:DiskAt w g bs bw s):w.cell? ⟨g,0,none⟩=some (.int .i64 (s.n:Nat)):=by rw [h.1.cell];rfl
theorem DiskAt.c1 (h:DiskAt w g bs bw s):w.cell? ⟨g,1,none⟩=some (.map (some bs)):=by rw [h.1.cell];rfl
theorem DiskAt.c2 (h:DiskAt w g bs bw s):w.cell? ⟨g,2,none⟩=some (.map (some bw)):=by rw [h.1.cell];rfl
theorem DiskAt.c3 (h:DiskAt w g bs bw s):w.cell? ⟨g,3,none⟩=some (.int .i64 s.left):=by rw [h.1.cell];rfl
theorem DiskAt.c4 (h:DiskAt w g bs bw s):w.cell? ⟨g,4,none⟩=some (.bool s.dead):=by rw [h.1.cell];rfl
end
set_option maxHeartbeats 400000 in
theorem isNone_no (g bs bw:Nat) (s:St) (w:World) (h:DiskAt w g bs bw s) :
  Calls Tryz.prog 44 #[ptr g] w fun e w'=>e=.returned (.bool false)∧w=w':=by
 have c0:=h.c0
 have hn:=h.2.2.2.2.1
 obtain ⟨n,fs,fw,L,dead⟩:=s
 simp only at c0 hn
 clear h
 have hz:((n:Int) == 0)=false:=beq_false_of_ne (by omega)
 go_enter Tryz.func44,Tryz.ntmps44
 go_wp2
 go_ret
 exact ⟨rfl,rfl⟩
set_option maxHeartbeats 400000 in
theorem has_any (g bs bw:Nat) (s:St) (i:Int) (w:World) (h:DiskAt w g bs bw s) :
  Calls Tryz.prog 106 #[ptr g,.int .i64 i] w fun e w'=>e=.returned (.bool (decide (0≤i∧i<s.n)))∧w=w':=by
 have c0:=h.c0
 obtain ⟨n,fs,fw,L,dead⟩:=s
 simp only at c0 ⊢
 clear h
 by_cases h0:0≤i
 ·have hd:decide ((0:Int)≤i)=true:=by simpa using h0
  go_enter Tryz.func106,Tryz.ntmps106
  go_wp2
  go_ret
  exact ⟨ret_bool (by simp [h0]),rfl⟩
 ·have hd:decide ((0:Int)≤i)=false:=by simpa using h0
  go_enter Tryz.func106,Tryz.ntmps106
  go_wp2
  go_ret
  exact ⟨ret_bool (by simp [h0]),rfl⟩
set_option maxHeartbeats 400000 in
theorem size_any (g bs bw:Nat) (s:St) (w:World) (h:DiskAt w g bs bw s) :
  Calls Tryz.prog 49 #[ptr g] w fun e w'=>e=.returned (.int .i64 (s.n:Nat))∧w=w':=by
 have c0:=h.c0
 have C1:=Lib.hid (isNone_no g bs bw s w h)
 obtain ⟨n,fs,fw,L,dead⟩:=s
 simp only at c0 ⊢
 clear h
 go_enter Tryz.func49,Tryz.ntmps49
 go_wp2_with (go_at_call 44;refine (C1.out).mono ?_;rintro e w' ⟨rfl,rfl⟩)
 go_ret
 exact ⟨rfl,rfl⟩
set_option maxHeartbeats 400000 in
theorem dead_any (g bs bw:Nat) (s:St) (w:World) (h:DiskAt w g bs bw s) :
  Calls Tryz.prog 26 #[ptr g] w fun e w'=>e=.returned (.bool s.dead)∧w=w':=by
 have c4:=h.c4
 have C1:=Lib.hid (isNone_no g bs bw s w h)
 obtain ⟨n,fs,fw,L,dead⟩:=s
 simp only at c4 ⊢
 clear h
 go_enter Tryz.func26,Tryz.ntmps26
 go_wp2_with (go_at_call 44;refine (C1.out).mono ?_;rintro e w' ⟨rfl,rfl⟩)
 go_ret
 exact ⟨rfl,rfl⟩
theorem disk_set {w:World} {g bs bw:Nat} {s s':St} (h:DiskAt w g bs bw s) (i:Nat) (u:Value)
  (e:(#[.int .i64 (s.n:Nat),.map (some bs),.map (some bw),.int .i64 s.left,.bool s.dead]:Array Value).setIfInBounds i u=#[.int .i64 (s'.n:Nat),.map (some bs),.map (some bw),.int .i64 s'.left,.bool s'.dead])
  (h1:s'.fs=s.fs) (h2:s'.fw=s.fw) (h3:s'.n=s.n) (h4 : -9223372036854775808≤s'.left) (h5:s'.left≤9223372036854775807):DiskAt (w.setCell ⟨g,i,none⟩ u) g bs bw s':=by
 obtain ⟨hg1,hg2,hg3⟩:=h.ne
 obtain ⟨hb,hs,hw,hne,hn1,hn2,hl1,hl2,hr⟩:=h
 have k:=grown_set w ⟨g,i,none⟩ u
 refine ⟨?_,?_,?_,hne,by omega,by omega,h4,h5,by rw [h2,h3];exact hr⟩
 ·rw [← e]
  exact hb.set_ i u
 ·rw [h1]
  exact hs.kept k (by simp;omega)
 ·rw [h2]
  exact hw.kept k (by simp;omega)
set_option maxHeartbeats 400000 in
theorem act_any (g bs bw:Nat) (s:St) (w:World) (h:DiskAt w g bs bw s) :
  Calls Tryz.prog 195 #[ptr g] w fun e w'=>e=.returned (.bool s.act.2)∧DiskAt w' g bs bw s.act.1∧w.grownBy w' (some g):=by
 have c3:=h.c3
 have f3:=h.1.frozen 3
 have f4:=h.1.frozen 4
 have c4:=h.c4
 have hl1:=h.2.2.2.2.2.2.1
 have hl2:=h.2.2.2.2.2.2.2.1
 have H:=Lib.hid h;clear h
 obtain ⟨n,fs,fw,L,dead⟩:=s
 simp only at c3 c4 hl1 hl2
 by_cases h0:L=0
 ·subst h0
  go_enter Tryz.func195,Tryz.ntmps195
  go_wp2
  go_ret
  exact ⟨rfl,disk_set H.out 4 _ rfl rfl rfl rfl (by simp [St.act]) (by simp [St.act]),grown_set w ⟨g,4,none⟩ _⟩
 ·have hz:(L == 0)=false:=beq_false_of_ne h0
  by_cases hp:0<L
  ·have hd:decide ((0:Int)<L)=true:=by simpa using hp
   have hd2:decide (L > (0:Int))=true:=by simpa using hp
   have e:(St.mk n fs fw L dead).act=(St.mk n fs fw (L - 1) dead,true):=by simp [St.act,h0,hp]
   rw [e]
   go_enter Tryz.func195,Tryz.ntmps195
   go_wp2
   go_ret
   exact ⟨rfl,disk_set H.out 3 _ rfl rfl rfl rfl (by simp;omega) (by simp;omega),grown_set w ⟨g,3,none⟩ _⟩
  ·have hd:decide ((0:Int)<L)=false:=by simpa using hp
   have hd2:decide (L > (0:Int))=false:=by simpa using hp
   have e:(St.mk n fs fw L dead).act=(St.mk n fs fw L dead,true):=by simp [St.act,h0,hp]
   rw [e]
   go_enter Tryz.func195,Tryz.ntmps195
   go_wp2
   go_ret
   exact ⟨rfl,H.out,World.grownBy.refl w _⟩
set_option maxHeartbeats 400000 in
theorem arm_any (g bs bw:Nat) (s:St) (k:Int) (w:World) (h:DiskAt w g bs bw s) (h1 : -9223372036854775808≤k) (h2:k≤9223372036854775807) :
  Calls Tryz.prog 17 #[ptr g,.int .i64 k] w fun e w'=>e=.returned (.tuple #[])∧DiskAt w' g bs bw { s with left:=k }∧w.grownBy w' (some g):=by
 have c3:=h.c3
 have f3:=h.1.frozen 3
 have C1:=Lib.hid (isNone_no g bs bw s w h)
 have H:=Lib.hid h;clear h
 obtain ⟨n,fs,fw,L,dead⟩:=s
 simp only at c3
 go_enter Tryz.func17,Tryz.ntmps17
 go_wp2_with (go_at_call 44;refine (C1.out).mono ?_;rintro e w' ⟨rfl,rfl⟩)
 go_end0
 exact ⟨rfl,disk_set H.out 3 _ rfl rfl rfl rfl h1 h2,grown_set w ⟨g,3,none⟩ _⟩
end Go.Proofs.YtplpmemlaohlaaaGreat.Dsk
namespace Go.Proofs.YtplpmemlaohlaaaGreat.Dsk
open Go.RowKit Go.Maps Mem
set_option linter.unusedVariables false
set_option linter.unusedSimpArgs false
def St.new (n:Nat):St:=⟨n,fun _=>none,fun _=>none,-1,false⟩
set_option maxHeartbeats 400000 in
theorem new_ok (n:Nat) (w:World) (h1:1≤n) (h2:n≤1024) :
  Calls Tryz.prog 8 #[.int .i64 (n:Nat)] w fun e w'=>∃ g bs bw,e=.returned (.tuple #[ptr g,.int .i64 0])∧DiskAt w' g bs bw (St.new n)∧Below w.heap.size w w'∧(∀ x∈[g,bs,bw],w.heap.size≤x):=by
 have hmm:=@run_makeMap Tryz.prog
 have hd1:decide ((n:Int)<1)=false:=by simp;omega
 have hd2:decide ((1024:Int)<n)=false:=by simp;omega
 go_enter Tryz.func8,Tryz.ntmps8
 go_wp2
 go_ret2
 have m1:=(SMap.made w).kept (World.grownBy_alloc (w.alloc (.map #[] 0)) (.map #[] 0) none) (by simp)
 have m2:=SMap.made (w.alloc (.map #[] 0))
 have es:(w.alloc (.map #[] 0)).heap.size=w.heap.size+1:=by simp
 rw [es] at m2
 have k:=World.grownBy_alloc ((w.alloc (.map #[] 0)).alloc (.map #[] 0)) (.cells #[.int .i64 (n:Nat),.map (some w.heap.size),.map (some (w.heap.size+1)),.int .i64 (-1),.bool false] 85) none
 refine ⟨w.heap.size+2,w.heap.size,w.heap.size+1,by simp,⟨?_,m1.kept k (by simp),m2.kept k (by simp),by simp,h1,h2,by simp [St.new],by simp [St.new],by simp [St.new]⟩,?_,by simp⟩
 ·have:=Blk.new ((w.alloc (.map #[] 0)).alloc (.map #[] 0)) 85 #[.int .i64 (n:Nat),.map (some w.heap.size),.map (some (w.heap.size+1)),.int .i64 (-1),.bool false]
  simpa [St.new] using this
 ·exact (((Below.refl _ w).alloc (Nat.le_refl _) (.map #[] 0)).alloc (by simp) (.map #[] 0)).alloc (by simp;omega) _
def St.read (s:St) (i:Int):List Nat × Int:=if s.dead=true then ([],7) else if 0≤i∧i<s.n then (s.get i.toNat,0) else ([],1)
theorem cut72 (g:Nat) (w:World):(Instr.sliceAt 184 (.pointer (some ⟨g,0,none⟩)) none none none).run Tryz.prog w=.ok (.slice (some ⟨g,0,none⟩) 512 512) w:=by kernel_rfl
theorem row_sl {w:World} {g:Nat} {t:TypeId} {xs:List Nat} (h:Blk w g t (vals xs).toArray) (hx:IsSec xs):Sl w w.heap.size (.slice (some ⟨g,0,none⟩) 512 512) xs:=by
 refine ⟨_,512,512,rfl,bts_row h.lt hx.2 (by omega) hx.1 fun i hi=>?_,Nat.le_refl _,by unfold maxLen;omega,fun e=>by cases e⟩
 rw [h.cell]
 simpa using vals_get xs i (by rw [hx.1];omega)
theorem vals_all (xs:List Nat):(vals xs).toArray.all (·.oneCell')=true:=by
 rw [Array.all_eq_true_iff_forall_mem]
 intro v hv
 exact vals_one xs v (by simpa using hv)
set_option maxHeartbeats 1000000 in
theorem read_dead (g bs bw:Nat) (s:St) (i:Int) (w:World) (h:DiskAt w g bs bw s) (hd:s.dead=true) :
  Calls Tryz.prog 50 #[ptr g,.int .i64 i] w fun e w'=>e=.returned (.tuple #[.slice none 0 0,.int .i64 7])∧w=w':=by
 have c1:=dead_any g bs bw s w h
 rw [hd] at c1
 have C1:=Lib.hid c1;clear c1
 clear h
 go_enter Tryz.func50,Tryz.ntmps50
 go_wp2_with (go_at_call 26;refine (C1.out).mono ?_;rintro e w' ⟨rfl,rfl⟩)
 go_ret2
 exact ⟨rfl,rfl⟩
set_option maxHeartbeats 1000000 in
theorem read_ok (g bs bw:Nat) (s:St) (i:Nat) (w:World) (h:DiskAt w g bs bw s) (hd:s.dead=false) (hi:i<s.n) :
  Calls Tryz.prog 50 #[ptr g,.int .i64 (i:Nat)] w fun e w'=>∃ v,e=.returned (.tuple #[v,.int .i64 0])∧Sl w' w'.heap.size v (s.get i)∧Below w.heap.size w w':=by
 have c1:=dead_any g bs bw s w h
 have c2:=has_any g bs bw s i w h
 rw [hd] at c1
 rw [decide_eq_true ⟨by omega,by omega⟩] at c2
 have C1:=Lib.hid c1;clear c1
 have C2:=Lib.hid c2;clear c2
 have k1:=h.c1
 have k2:=h.c2
 have hw:=h.2.2.1
 have hs:=h.2.1
 have hi2:i<1024:=by have:=h.2.2.2.2.2.1;omega
 have hlw:=hw.look_ok hi2
 have hls:=fun (o:Obj)=>(hs.kept (World.grownBy_alloc w o none) (by simp)).look hi2
 have hsw:=hw.secD i
 have hss:=hs.secD i
 have hz:=zero72
 have hcut:=cut72
 have hg1:=h.1.lt
 have HI:=Lib.hid hi;clear hi
 have HI2:=Lib.hid hi2;clear hi2
 clear h hw hs
 have HSW:=Lib.hid hsw;clear hsw
 have HSS:=Lib.hid hss;clear hss
 unfold St.get
 generalize s.fw i=fw at *
 generalize s.fs i=fs at *
 cases fw with
 | none =>
  simp only [Option.getD_none,Option.isSome_none] at hlw
  obtain ⟨zs,hzs⟩:∃ zs,zs=noughts:=⟨_,rfl⟩
  rw [Option.none_or]
  obtain ⟨xs,hxs⟩:∃ xs,xs=fs.getD noughts:=⟨_,rfl⟩
  rw [← hxs]
  simp only [← hxs] at hls HSS
  simp only [← hzs] at hlw hz
  have HZS:=Lib.hid (hzs ▸ isSec_noughts);clear hzs
  clear hxs HSW
  go_enter Tryz.func50,Tryz.ntmps50
  go_wp2_with (first
   | (go_at_call 26;refine (C1.out).mono ?_;rintro e w' ⟨rfl,rfl⟩)
   | (go_at_call 106;refine (C2.out).mono ?_;rintro e w' ⟨rfl,rfl⟩)
   | (refine wpList_store_row rfl 184 (.tmp 6) (.tmp 21) rfl w.heap.size (vals zs).toArray rfl rfl 184 (vals zs).toArray (heap_alloc_new w _) (by rw [size72];simp [vals_length,HZS.out.1]) rfl (vals_all _) ?_;rw [World.setRow_alloc_new])
   | (refine wpList_store_row rfl 184 (.tmp 6) (.tmp 30) rfl w.heap.size (vals xs).toArray rfl rfl 184 (vals zs).toArray (heap_alloc_new w _) (by rw [size72];simp [vals_length,HSS.out.1]) (by simp [vals_length,HSS.out.1,HZS.out.1]) (vals_all _) ?_;rw [World.setRow_alloc_new]))
  go_ret2
  exact ⟨_,rfl,row_sl (Blk.new w 184 _) HSS.out,(Below.refl _ w).alloc (Nat.le_refl _) _⟩
 | some ys =>
  simp only [Option.getD_some,Option.isSome_some] at hlw HSW
  obtain ⟨zs,hzs⟩:∃ zs,zs=noughts:=⟨_,rfl⟩
  simp only [← hzs] at hz
  rw [Option.some_or,Option.getD_some]
  have HZS:=Lib.hid (hzs ▸ isSec_noughts);clear hzs
  clear HSS hls
  go_enter Tryz.func50,Tryz.ntmps50
  go_wp2_with (first
   | (go_at_call 26;refine (C1.out).mono ?_;rintro e w' ⟨rfl,rfl⟩)
   | (go_at_call 106;refine (C2.out).mono ?_;rintro e w' ⟨rfl,rfl⟩)
   | (refine wpList_store_row rfl 184 (.tmp 6) (.tmp 21) rfl w.heap.size (vals ys).toArray rfl rfl 184 (vals zs).toArray (heap_alloc_new w _) (by rw [size72];simp [vals_length,HSW.out.1]) (by simp [vals_length,HSW.out.1,HZS.out.1]) (vals_all _) ?_;rw [World.setRow_alloc_new]))
  go_ret2
  exact ⟨_,rfl,row_sl (Blk.new w 184 _) HSW.out,(Below.refl _ w).alloc (Nat.le_refl _) _⟩
end Go.Proofs.YtplpmemlaohlaaaGreat.Dsk
namespace Go.Proofs.YtplpmemlaohlaaaGreat.Dsk
open Go.RowKit Go.Maps Mem
set_option linter.unusedVariables false
set_option linter.unusedSimpArgs false
theorem wpList_mapUpdate_sec (w:World) {ops:Array Oper} {rest:List Oper} {o:Oper} {a:Act} {Q:Exit→Act→World→Prop} (hg:o.guard=none) (m x v:Operand)
  (hop:o.op=Op.mapUpdate 83 m x v) (b:Nat) (f:Nat→Option (List Nat)) (i:Nat) (xs:List Nat) (hm:a.eval m=.map (some b)) (hx:a.eval x=.int .i64 (i:Nat)) (hv:a.eval v=secV xs)
  (h:SMap w b f) (hi:i<1024) (hs:IsSec xs) (hK:∀ w',Hid (SMap w' b (upd1 f i xs))→w.grownBy w' (some b)→wpList Tryz.prog ops Q rest (a.put o.dst undef) w'):wpList Tryz.prog ops Q (o::rest) a w:=by
 refine wpList_plain hg fun K' hK'=>?_
 obtain ⟨w',hrun,r1,r2⟩:=h.put hi hs
 unfold Oper.wp
 simp [execOp,hop,hm,hx,hv,hrun,Result.andThen]
 exact hK' _ _ (hK w' r1 r2)
section
variable {P:Program} {ops:Array Oper} {rest:List Oper} {o:Oper} {a:Act} {w:World} {Q:Act→Prop}
theorem still_run (hgd:o.guard=none) (v:Value) (hrun:(execOp a.eval o).run P w=.ok (.value v) w) (h:wpStill P ops w Q rest (a.put o.dst v)):wpStill P ops w Q (o::rest) a:=by
 refine wpStill_step fun K hK=>?_
 have hw:Region.wanted o (yielded ops a.tmps)=true:=by simp [Region.wanted,hgd]
 rw [if_pos hw]
 unfold Oper.still
 rw [hrun]
 exact ⟨rfl,hK _ h⟩
theorem still_load_row (hgd:o.guard=none) (ty:TypeId) (x:Operand) (ho:o.op=.load ty x)
  (g:Nat) (hx:a.eval x=.pointer (some ⟨g,0,none⟩)) (t:TypeId) (cs:Array Value) (fr:Nat × Nat) (d:TypeDesc) (hg:w.heap[g]?=some (.cells cs t fr))
  (hu:P.underlying ty=some d) (hd:(match d with | .struct _ | .array _ _=>true | _=>false)=true) (hi:(P.info? ty).map (·.size)=some cs.size)
  (h:wpStill P ops w Q rest (a.put o.dst (.agg cs))):wpStill P ops w Q (o::rest) a:=by
 refine still_run hgd (.agg cs) ?_ h
 unfold execOp
 simp only [ho,hx,Instr.loadAt,Instr.sureAddr,Sem.run_bind,Sem.run_pure,Result.andThen_ok,run_loadVar_row w g t ty cs fr d hg hu hd hi]
theorem still_lookup (hgd:o.guard=none) (t:TypeId) (m x:Operand) (c:Bool) (ho:o.op=.lookup t m x c) (mv xv v:Value) (hm:a.eval m=mv) (hx:a.eval x=xv)
  (hrun:(Instr.lookup t mv xv c).run P w=.ok v w) (h:wpStill P ops w Q rest (a.put o.dst v)):wpStill P ops w Q (o::rest) a:=by
 refine still_run hgd v ?_ h
 unfold execOp
 simp [ho,hm,hx,hrun,Result.andThen]
end
theorem u8_size1:(Tryz.prog.info? 5).map (·.size)=some 1:=by kernel_rfl
theorem splice_all (zs xs:List Nat) (h:zs.length=xs.length):splice (vals zs) 0 (vals xs)=vals xs:=by
 simp [splice,vals_length,h]
theorem splice_torn (zs b:List Nat) (hz:zs.length=512):splice (vals zs) 0 (vals (b.take 512))=vals (torn b zs):=by
 simp only [splice,List.take_zero,List.nil_append,Nat.zero_add,vals_length,List.length_take,torn,vals_append]
 congr 1
 simp only [vals,List.map_drop]
 by_cases h:b.length≤512
 ·rw [Nat.min_eq_right h]
 ·rw [Nat.min_eq_left (by omega),List.drop_eq_nil_of_le (by simp;omega),List.drop_eq_nil_of_le (by simp;omega)]
set_option maxHeartbeats 1000000 in
theorem write_dead (g bs bw:Nat) (s:St) (i:Int) (v:Value) (w:World) (h:DiskAt w g bs bw s) (hd:s.dead=true) :
  Calls Tryz.prog 156 #[ptr g,.int .i64 i,v] w fun e w'=>e=.returned (.int .i64 7)∧w=w':=by
 have c1:=dead_any g bs bw s w h
 rw [hd] at c1
 have C1:=Lib.hid c1;clear c1
 clear h
 go_enter Tryz.func156,Tryz.ntmps156
 go_wp2_with (go_at_call 26;refine (C1.out).mono ?_;rintro e w' ⟨rfl,rfl⟩)
 go_ret
 exact ⟨rfl,rfl⟩
set_option maxHeartbeats 1000000 in
theorem write_arg (g bs bw:Nat) (s:St) (i:Int) (A:Option Addr) (n c:Nat) (w:World) (h:DiskAt w g bs bw s) (hd:s.dead=false) (hi:¬ (0≤i∧i<s.n∧n=512)) :
  Calls Tryz.prog 156 #[ptr g,.int .i64 i,.slice A n c] w fun e w'=>e=.returned (.int .i64 1)∧w=w':=by
 have c1:=dead_any g bs bw s w h
 have c2:=has_any g bs bw s i w h
 rw [hd] at c1
 have C1:=Lib.hid c1;clear c1
 by_cases hh:0≤i∧i<s.n
 ·rw [decide_eq_true hh] at c2
  have C2:=Lib.hid c2;clear c2
  have hne:((n:Int) != 512)=true:=by rw [bne_iff_ne];omega
  clear h hi hh
  go_enter Tryz.func156,Tryz.ntmps156
  go_wp2_with (first
   | (go_at_call 26;refine (C1.out).mono ?_;rintro e w' ⟨rfl,rfl⟩)
   | (go_at_call 106;refine (C2.out).mono ?_;rintro e w' ⟨rfl,rfl⟩))
  go_ret
  exact ⟨rfl,rfl⟩
 ·rw [decide_eq_false hh] at c2
  have C2:=Lib.hid c2;clear c2
  clear h hi hh
  go_enter Tryz.func156,Tryz.ntmps156
  go_wp2_with (first
   | (go_at_call 26;refine (C1.out).mono ?_;rintro e w' ⟨rfl,rfl⟩)
   | (go_at_call 106;refine (C2.out).mono ?_;rintro e w' ⟨rfl,rfl⟩))
  go_ret
  exact ⟨rfl,rfl⟩
set_option maxHeartbeats 1000000 in
theorem write_dies (g bs bw:Nat) (s:St) (i:Int) (A:Option Addr) (n c:Nat) (w:World) (h:DiskAt w g bs bw s) (hd:s.dead=false) (hi:0≤i∧i<s.n) (hn:n=512) (ha:s.act.2=false) :
  Calls Tryz.prog 156 #[ptr g,.int .i64 i,.slice A n c] w fun e w'=>e=.returned (.int .i64 7)∧DiskAt w' g bs bw s.act.1∧w.grownBy w' (some g):=by
 have c1:=dead_any g bs bw s w h
 have c2:=has_any g bs bw s i w h
 have c3:=act_any g bs bw s w h
 rw [hd] at c1
 rw [decide_eq_true hi] at c2
 rw [ha] at c3
 have C1:=Lib.hid c1;clear c1
 have C2:=Lib.hid c2;clear c2
 have C3:=Lib.hid c3;clear c3
 subst hn
 clear h hi
 go_enter Tryz.func156,Tryz.ntmps156
 go_wp2_with (first
  | (go_at_call 26;refine (C1.out).mono ?_;rintro e w' ⟨rfl,rfl⟩)
  | (go_at_call 106;refine (C2.out).mono ?_;rintro e w' ⟨rfl,rfl⟩)
  | (go_at_call 195;refine (C3.out).mono ?_;rintro e w' ⟨rfl,hD,hG⟩))
 go_ret
 exact ⟨rfl,hD,hG⟩
theorem disk_put {w w':World} {g bs bw:Nat} {s:St} (h:DiskAt w g bs bw s) (i:Nat) (xs:List Nat) (hi:i<s.n) (hm:SMap w' bw (upd1 s.fw i xs)) (hg:w.grownBy w' (some bw)):DiskAt w' g bs bw { s with fw:=upd1 s.fw i xs }:=by
 obtain ⟨h1,h2,h3⟩:=h.ne
 obtain ⟨hb,hs,hw,hne,hn1,hn2,hl1,hl2,hr⟩:=h
 refine ⟨hb.grown hg (by simp;omega),hs.kept hg (by simp;omega),hm,hne,hn1,hn2,hl1,hl2,fun j hj=>?_⟩
 simp only at hj
 simp only [upd1]
 rw [if_neg (by omega)]
 exact hr j hj
theorem disk_put_safe {w w':World} {g bs bw:Nat} {s:St} (h:DiskAt w g bs bw s) (i:Nat) (xs:List Nat) (hm:SMap w' bs (upd1 s.fs i xs)) (hg:w.grownBy w' (some bs)):DiskAt w' g bs bw { s with fs:=upd1 s.fs i xs }:=by
 obtain ⟨h1,h2,h3⟩:=h.ne
 obtain ⟨hb,hs,hw,hne,hn1,hn2,hl1,hl2,hr⟩:=h
 exact ⟨hb.grown hg (by simp;omega),hm,hw.kept hg (by simp;omega),hne,hn1,hn2,hl1,hl2,hr⟩
set_option maxRecDepth 20000 in
set_option maxHeartbeats 2000000 in
theorem write_ok (g bs bw:Nat) (s:St) (i:Nat) (A:Option Addr) (n c:Nat) (xs:List Nat) (w:World) (h:DiskAt w g bs bw s) (hd:s.dead=false) (hi:i<s.n) (ha:s.act.2=true) (hN:n=512)
  (hsec:IsSec xs) (hx:∀ w1,w.grownBy w1 (some g)→Bts w1 w1.heap.size A n xs) :
  Calls Tryz.prog 156 #[ptr g,.int .i64 (i:Nat),.slice A n c] w fun e w'=>e=.returned (.int .i64 0)∧DiskAt w' g bs bw { s.act.1 with fw:=upd1 s.act.1.fw i xs }∧KeptBut w w' [g,bs,bw]:=by
 have c1:=dead_any g bs bw s w h
 have c2:=has_any g bs bw s i w h
 have c3:=act_any g bs bw s w h
 have hn:=h.2.2.2.2.2.1
 rw [hd] at c1
 rw [decide_eq_true ⟨by omega,by omega⟩] at c2
 rw [ha] at c3
 have hz:=zero72
 have hcut:=cut72
 have hne:((n:Int) != 512)=false:=by simp;omega
 rw [← hN] at hcut
 have HN:=Lib.hid hN;clear hN
 obtain ⟨zs,hzs⟩:∃ zs,zs=noughts:=⟨_,rfl⟩
 simp only [← hzs] at hz
 have HZS:=Lib.hid (hzs ▸ isSec_noughts);clear hzs
 have HSEC:=Lib.hid hsec;clear hsec
 have HX:=Lib.hid hx;clear hx
 have C1:=Lib.hid c1;clear c1
 have C2:=Lib.hid c2;clear c2
 have C3:=Lib.hid c3;clear c3
 have hi2:i<1024:=by omega
 have hn1:s.act.1.n=s.n:=by unfold St.act;split <;> rfl
 rw [← hn1] at hi
 have HI:=Lib.hid hi;clear hi
 clear hn1 hn ha hd h
 obtain ⟨s1,hs1⟩:∃ s1,s1=s.act.1:=⟨_,rfl⟩
 rw [← hs1] at C3 HI ⊢
 clear hs1
 go_enter Tryz.func156,Tryz.ntmps156
 go_wp2_with (first
  | (go_at_call 26;refine (C1.out).mono ?_;rintro e w' ⟨rfl,rfl⟩)
  | (go_at_call 106;refine (C2.out).mono ?_;rintro e w' ⟨rfl,rfl⟩)
  | (go_at_call 195;refine (C3.out).mono ?_;rintro e w1 ⟨rfl,hD,hG⟩;have k1:=hD.c1;have k2:=hD.c2;have hlt1:=hD.1.lt;have HD:=Lib.hid hD;clear hD;have HB:=Lib.hid (HX.out w1 hG);have HG:=Lib.hid hG;clear hG)
  | ((refine wpList_copy_splice rfl (.tmp 22) (.tmp 23) 74 74 rfl 5 Tryz.underlying74 u8_size1 _ _ n n n c rfl rfl w1.heap.size 0 (vals zs) 184 (heap_alloc_new w1 _) (vals xs) (by simp [vals_length,HSEC.out.1,HN.out]) (fun h0=>⟨rfl,by obtain ⟨b,off,e,_⟩:=HB.out.2.2.2 (by rw [HN.out];omega);exact ⟨_,e,bts_cells ((e ▸ HB.out).alloc (Nat.le_refl _) _)⟩⟩) (by simp [vals_length,HSEC.out.1,HZS.out.1]) (vals_one xs) w1.heap.size w1 ((Below.refl _ w1).alloc (Nat.le_refl _) _) (Nat.le_refl _) ?_;intro w2 HG2 hB2;have HB2:=Lib.hid hB2;clear hB2;have m1:=((Below.cell HB2.out (p:=⟨g,1,none⟩) hlt1).trans k1);have m2:=((Below.cell HB2.out (p:=⟨g,2,none⟩) hlt1).trans k2);rw [splice_all zs xs (by rw [HZS.out.1,HSEC.out.1])] at HG2)))
 go_frame
 have hlt2:g<w2.heap.size:=Nat.lt_of_lt_of_le hlt1 HB2.out.size
 have HD2:Hid (DiskAt w2.drew g bs bw s1):=(HD.out.below (HB2.out)).drew
 have HG3:Hid (w2.drew.heap[w1.heap.size]?=some (.cells (vals xs).toArray 184 (0,0))):=HG2
 have HK2:Hid (KeptBut w w2.drew [g,bs,bw]):=((kept_of_grown HG.out (by simp)).trans (kept_of_below HB2.out (Nat.le_refl _))).trans kept_drew
 go_still_tail 6,(by kernel_rfl)
 refine still_load_row rfl 184 (.tmp 7) rfl w1.heap.size rfl 184 (vals xs).toArray (0,0) _ HG3.out Tryz.underlying184 rfl (by rw [size72];simp [vals_length,HSEC.out.1]) ?_
 refine wpStill_nil ?_
 change wpList _ _ _ _ _ w2.drew
 clear HG2 HB2 HD HG m1 m2
 generalize w2.drew=w3 at *
 go_wp2_with (refine wpList_mapUpdate_sec _ rfl (.tmp 28) (.tmp 29) (.tmp 30) rfl bw s1.fw i xs rfl rfl rfl HD2.out.2.2.1 hi2 HSEC.out ?_;intro w4 hm4 hg4)
 go_ret
 exact ⟨rfl,disk_put HD2.out i xs HI.out hm4.out hg4,HK2.out.trans (kept_of_grown hg4 (by simp))⟩
end Go.Proofs.YtplpmemlaohlaaaGreat.Dsk
namespace Go.Proofs.YtplpmemlaohlaaaGreat.Dsk
open Go.RowKit Go.Maps Mem
set_option linter.unusedVariables false
set_option linter.unusedSimpArgs false
theorem wpList_next_sec (w:World) {ops:Array Oper} {rest:List Oper} {o:Oper} {a:Act} {Q:Exit→Act→World→Prop} (hg:o.guard=none) (it:Operand) (hop:o.op=Op.next it false)
  (b r n:Nat) (D:DataW (List Nat)) (left:Lit→Bool) (cnt:Nat) (hit:a.eval it=.pointer (some ⟨r,0,none⟩)) (h:w.ranges Tryz.prog 3 secR b r n D left cnt)
  (hk:∀ kl,Maps.has D kl=true→∃ i:Nat,i<1024∧kl=.int .i64 (i:Int))
  (hDone:(∀ kl,left kl=false)→wpList Tryz.prog ops Q rest (a.put o.dst (.tuple #[.bool false])) w)
  (hMore:∀ (i:Nat) (xs:List Nat) (w':World) (cnt':Nat),i<1024→IsSec xs→(∀ zd,D.atKey (.int .i64 (i:Int)) zd=.held xs)→w'.ranges Tryz.prog 3 secR b r n D (fun z=>left z && !z.sameKey (.int .i64 (i:Int))) cnt'→cnt'<cnt →
   w.grownBy w' (some r)→w'.heap.size=w.heap.size→(Instr.entry (.pointer (some ⟨r,0,none⟩))).run Tryz.prog w'=.ok (.tuple #[.int .i64 (i:Int),secV xs]) w'→wpList Tryz.prog ops Q rest (a.put o.dst (.tuple #[.bool true,.int .i64 (i:Int),secV xs])) w') :
  wpList Tryz.prog ops Q (o::rest) a w:=by
 refine wpList_plain hg fun K' hK'=>?_
 unfold Oper.wp
 rcases h.next keyed o.type with ⟨h0,hl,hrun⟩ | ⟨key,v,kl,y,w',cnt',hkey,hlk,hv,hat,hrun,hrg,hlt,hgr,hsz,hen⟩
 ·simp [execOp,hop,hit,hrun,Result.andThen]
  exact hK' _ _ (hDone hl)
 ·obtain ⟨xs,hxs,rfl,rfl⟩:=secR_inv hv
  obtain ⟨i,hi,rfl⟩:=hk kl (has_true_of_atKey hat)
  obtain ⟨x,rfl,e,_⟩:=Maps.keyOf_int_inv Tryz.underlying3 hkey
  injection e with _ e
  subst e
  simp [execOp,hop,hit,hrun,Result.andThen]
  exact hK' _ _ (hMore i xs w' cnt' hi hxs hat hrg hlt hgr hsz hen)
def mix (fd fs:Nat→Option (List Nat)) (left:Lit→Bool):Nat→Option (List Nat):=fun i=>if ((fs i).isSome && !left (.int .i64 (i:Int)))=true then fs i else fd i
theorem same_key (i j:Nat):(Lit.int .i64 (j:Int)).sameKey (.int .i64 (i:Int))=decide (j=i):=by
 simp [Lit.sameKey]
 by_cases h:j=i
 ·subst h;simp
 ·simp [h]
  omega
theorem mix_step {fd fs:Nat→Option (List Nat)} {left:Lit→Bool} {i:Nat} {xs:List Nat} (h:fs i=some xs):upd1 (mix fd fs left) i xs=mix fd fs (fun z=>left z && !z.sameKey (.int .i64 (i:Int))):=by
 funext j
 unfold upd1 mix
 simp only [same_key]
 by_cases e:j=i
 ·subst e;simp [h]
 ·simp [e]
theorem mix_end {fd fs:Nat→Option (List Nat)} {left:Lit→Bool} (h:∀ kl,left kl=false):mix fd fs left=fun i=>(fs i).or (fd i):=by
 funext i
 unfold mix
 rw [h]
 cases fs i <;> simp
set_option maxRecDepth 20000 in
set_option maxRecDepth 20000 in
set_option maxHeartbeats 2000000 in
theorem copy_any (bd bs:Nat) (fd fs:Nat→Option (List Nat)) (w:World) (hd:SMap w bd fd) (hs:SMap w bs fs) (hne:bd≠bs) :
  Calls Tryz.prog 196 #[.map (some bd),.map (some bs)] w fun e w'=>e=.returned (.tuple #[])∧SMap w' bd (fun i=>(fs i).or (fd i))∧w.grownBy w' (some bd):=by
 have hbd:=hd.lt
 obtain ⟨D,n,hown,hn,hk,hat⟩:=hs
 have hbs:=hown.lt
 have hfs:∀ (i:Nat) (xs:List Nat),(∀ zd,D.atKey (.int .i64 (i:Int)) zd=.held xs)→fs i=some xs:=by
  intro i xs h
  rcases hat i with ⟨_,h1⟩ | ⟨ys,h1,_,h2⟩
  ·rw [has_true_of_atKey h] at h1;cases h1
  ·have:=(h .nil).symm.trans (h2 .nil)
   injection this with this
   rw [h1,this]
 have hm0:mix fd fs (Maps.has D)=fd:=by
  funext i
  unfold mix
  rcases hat i with ⟨h0,h1⟩ | ⟨ys,h1,_,h2⟩
  ·simp [h0]
  ·simp [has_true_of_atKey h2]
 have HFS:=Lib.hid hfs;clear hfs
 have HM0:=Lib.hid hm0;clear hm0
 have HK:=Lib.hid hk;clear hk
 have HD:=Lib.hid hd;clear hd
 have HO:=Lib.hid hown;clear hown
 clear hat
 have hz:=zero72
 obtain ⟨zs,hzs⟩:∃ zs,zs=noughts:=⟨_,rfl⟩
 simp only [← hzs] at hz
 have HZS:=Lib.hid (hzs ▸ isSec_noughts);clear hzs
 go_enter Tryz.func196,Tryz.ntmps196
 go_wp2_with (at_range;refine wpList_range_own _ rfl _ 83 rfl 3 184 keyed Tryz.underlying83 secR bs n D rfl HO.out ?_;intro w0 hrg0 hg0 hs0)
 go_frame
 go_loopw [8] (fun _ wr=>∃ (left:Lit→Bool) (cnt:Nat),wr.ranges Tryz.prog 3 secR bs w.heap.size n D left cnt∧SMap wr bd (mix fd fs left)∧w.grownBy wr (some bd))
  (fun _ wr=>wr.rangeLeft bs w.heap.size)
 case atStart=>exact ⟨_,_,hrg0,by rw [HM0.out];exact HD.out.kept hg0 (by simp),hg0.but _⟩
 case round =>
  obtain ⟨left,cnt,hrg,hout,hgw⟩:=hrel
  have HR:=Lib.hid hrg;clear hrg
  have HOUT:=Lib.hid hout;clear hout
  have HGW:=Lib.hid hgw;clear hgw
  clear hrg0 hg0 hs0
  go_wp2_with (at_next;refine wpList_next_sec _ rfl _ rfl bs w.heap.size n D left cnt rfl HR.out HK.out ?_ ?_)
  ·intro hl0
   go_wp2
   go_end0
   rw [← mix_end hl0]
   exact ⟨rfl,HOUT.out,HGW.out⟩
  ·intro i xs w1 cnt1 hi hx hat hrg1 hlt hg1 hs1 hen
   have HE:=Lib.hid (HFS.out i xs hat);clear hat
   have HX:=Lib.hid hx;clear hx
   have HR1:=Lib.hid hrg1;clear hrg1
   have HLT:=Lib.hid hlt;clear hlt
   have HO1:=Lib.hid (HOUT.out.kept hg1 (fun e=>by have:=Option.some.inj e;omega))
   have HG1:=Lib.hid hg1;clear hg1
   clear hs1
   go_wp2_with (first
    | (refine wpList_store_row rfl 184 (.tmp 5) (.tmp 12) rfl w1.heap.size (vals xs).toArray rfl rfl 184 (vals zs).toArray (heap_alloc_new w1 _) (by rw [size72];simp [vals_length,HX.out.1]) (by simp [vals_length,HX.out.1,HZS.out.1]) (vals_all _) ?_;rw [World.setRow_alloc_new])
    | (refine wpList_load_row rfl 184 (.tmp 5) rfl w1.heap.size rfl 184 (vals xs).toArray (0,0) _ (heap_alloc_new w1 _) Tryz.underlying184 rfl (by rw [size72];simp [vals_length,HX.out.1]) ?_)
    | (refine wpList_mapUpdate_sec _ rfl (.tmp 13) (.tmp 14) (.tmp 15) rfl bd (mix fd fs left) i xs rfl rfl rfl (HO1.out.kept (World.grownBy_alloc w1 _ none) (by simp)) hi HX.out ?_;intro w2 hm2 hg2;go_frame))
   have k2:=World.grownBy_alloc w1 (.cells (vals xs).toArray 184) none
   have hr2:=(HR1.out.kept k2 (by simp) (by simp)).kept hg2 (fun e=>hne (Option.some.inj e).symm) (fun e=>by have:=Option.some.inj e;omega)
   have HR2:=Lib.hid hr2;clear hr2
   go_roundw
   case rel =>
    refine ⟨_,cnt1,HR2.out,mix_step HE.out ▸ hm2.out,?_⟩
    exact ((HGW.out.andThen HG1.out (fun j hj=>.inl (by cases hj;exact Nat.le_refl _))).andThen k2 (fun j hj=>by cases hj)).andThen hg2 (fun j hj=>.inr hj)
   case measure=>rw [HR2.out.left_eq,HR.out.left_eq];exact HLT.out
set_option maxRecDepth 20000 in
set_option maxHeartbeats 2000000 in
theorem clone_map (b:Nat) (f:Nat→Option (List Nat)) (w:World) (h:SMap w b f) :
  Calls Tryz.prog 115 #[.map (some b)] w fun e w'=>e=.returned (.map (some w.heap.size))∧SMap w' w.heap.size f∧Below w.heap.size w w':=by
 have hq:=fun w=>run_eql_map_nil_sl (P:=Tryz.prog) w 83 _ _ (some b) Tryz.underlying83
 obtain ⟨D,n,⟨es,clock,hb,F,hs,hD⟩,h1⟩:=h
 have H1:=Lib.hid h1;clear h1
 have HD:=Lib.hid hD;clear hD
 have HF:=Lib.hid F;clear F
 go_enter Tryz.func115,Tryz.ntmps115
 go_wp2
 rw [run_callFunc_extern Tryz.func163 (by kernel_rfl) (by kernel_rfl) (by kernel_rfl) (e:=Extern.MapsClone.clone) (by kernel_rfl),run_maps_clone_sl w 83 hb]
 simp only [Result.andThen]
 rw [Oper.upon_value]
 go_wp2
 rw [run_typeAssert_map_sl _ 83 20 _ _ _ Tryz.underlying83]
 simp only [Result.andThen]
 rw [Oper.upon_value]
 go_wp2
 go_ret
 exact ⟨rfl,⟨D,n,⟨es,clock,(MapKept.heap_alloc w _).1,HF.out,hs,HD.out⟩,H1.out⟩,(Below.refl _ w).alloc (Nat.le_refl _) _⟩
end Go.Proofs.YtplpmemlaohlaaaGreat.Dsk
namespace Go.Proofs.YtplpmemlaohlaaaGreat.Dsk
open Go.RowKit Go.Maps Mem
set_option linter.unusedVariables false
set_option linter.unusedSimpArgs false
theorem wpList_clear_sec (w:World) {ops:Array Oper} {rest:List Oper} {o:Oper} {a:Act} {Q:Exit→Act→World→Prop} (hg:o.guard=none) (m:Operand)
  (hop:o.op=Op.call { callee:=Callee.builtin Builtin.clear,args:=#[m],argTypes:=#[83] }) (b:Nat) (f:Nat→Option (List Nat)) (hm:a.eval m=.map (some b))
  (h:SMap w b f) (hK:∀ w',Hid (SMap w' b (fun _=>none))→w.grownBy w' (some b)→wpList Tryz.prog ops Q rest (a.put o.dst (.tuple #[])) w'):wpList Tryz.prog ops Q (o::rest) a w:=by
 refine wpList_plain hg fun K' hK'=>?_
 obtain ⟨w',hrun,r1,r2⟩:=h.wipe o.type
 unfold Oper.wp
 simp [execOp,hop,resolve,invoke,builtin,hm,hrun,Result.andThen]
 exact hK' _ _ (hK w' r1 r2)
theorem disk_flushed {w w1 w2:World} {g bs bw:Nat} {s:St} (h:DiskAt w g bs bw s) (h1:SMap w1 bs (fun i=>(s.fw i).or (s.fs i))) (g1:w.grownBy w1 (some bs)) (h2:SMap w2 bw (fun _=>none)) (g2:w1.grownBy w2 (some bw)) :
  DiskAt w2 g bs bw { s with fs:=fun i=>(s.fw i).or (s.fs i),fw:=fun _=>none }:=by
 obtain ⟨e1,e2,e3⟩:=h.ne
 obtain ⟨hb,hs,hw,hne,hn1,hn2,hl1,hl2,hr⟩:=h
 exact ⟨(hb.grown g1 (by simp;omega)).grown g2 (by simp;omega),h1.kept g2 (by simp;omega),h2,hne,hn1,hn2,hl1,hl2,fun _ _=>rfl⟩
set_option maxRecDepth 20000 in
set_option maxHeartbeats 1000000 in
theorem flush_dead (g bs bw:Nat) (s:St) (w:World) (h:DiskAt w g bs bw s) (hd:s.dead=true) :
  Calls Tryz.prog 157 #[ptr g] w fun e w'=>e=.returned (.int .i64 7)∧w=w':=by
 have c1:=dead_any g bs bw s w h
 rw [hd] at c1
 have C1:=Lib.hid c1;clear c1
 clear h
 go_enter Tryz.func157,Tryz.ntmps157
 go_wp2_with (go_at_call 26;refine (C1.out).mono ?_;rintro e w' ⟨rfl,rfl⟩)
 go_ret
 exact ⟨rfl,rfl⟩
set_option maxRecDepth 20000 in
set_option maxHeartbeats 1000000 in
theorem flush_dies (g bs bw:Nat) (s:St) (w:World) (h:DiskAt w g bs bw s) (hd:s.dead=false) (ha:s.act.2=false) :
  Calls Tryz.prog 157 #[ptr g] w fun e w'=>e=.returned (.int .i64 7)∧DiskAt w' g bs bw s.act.1∧w.grownBy w' (some g):=by
 have c1:=dead_any g bs bw s w h
 have c3:=act_any g bs bw s w h
 rw [hd] at c1
 rw [ha] at c3
 have C1:=Lib.hid c1;clear c1
 have C3:=Lib.hid c3;clear c3
 clear h
 go_enter Tryz.func157,Tryz.ntmps157
 go_wp2_with (first
  | (go_at_call 26;refine (C1.out).mono ?_;rintro e w' ⟨rfl,rfl⟩)
  | (go_at_call 195;refine (C3.out).mono ?_;rintro e w' ⟨rfl,hD,hG⟩))
 go_ret
 exact ⟨rfl,hD,hG⟩
set_option maxRecDepth 20000 in
set_option maxHeartbeats 1000000 in
theorem flush_ok (g bs bw:Nat) (s:St) (w:World) (h:DiskAt w g bs bw s) (hd:s.dead=false) (ha:s.act.2=true) :
  Calls Tryz.prog 157 #[ptr g] w fun e w'=>e=.returned (.int .i64 0)∧DiskAt w' g bs bw { s.act.1 with fs:=fun i=>(s.act.1.fw i).or (s.act.1.fs i),fw:=fun _=>none }∧KeptBut w w' [g,bs,bw]:=by
 have c1:=dead_any g bs bw s w h
 have c3:=act_any g bs bw s w h
 have c4:=fun (W:World) (hW:DiskAt W g bs bw s.act.1)=>copy_any bs bw s.act.1.fs s.act.1.fw W hW.2.1 hW.2.2.1 hW.2.2.2.1
 rw [hd] at c1
 rw [ha] at c3
 have C1:=Lib.hid c1;clear c1
 have C3:=Lib.hid c3;clear c3
 have C4:=Lib.hid c4;clear c4
 clear h
 obtain ⟨s1,hs1⟩:∃ s1,s1=s.act.1:=⟨_,rfl⟩
 rw [← hs1] at C3 C4 ⊢
 clear hs1 ha hd
 go_enter Tryz.func157,Tryz.ntmps157
 go_wp2_with (first
  | (go_at_call 26;refine (C1.out).mono ?_;rintro e w' ⟨rfl,rfl⟩)
  | (go_at_call 195;refine (C3.out).mono ?_;rintro e w1 ⟨rfl,hD,hG⟩;have k1:=hD.c1;have k2:=hD.c2;have hlt1:=hD.1.lt;have HD:=Lib.hid hD;clear hD;have HG:=Lib.hid hG;clear hG))
 go_still_tail 8,(by kernel_rfl)
 change wpList _ _ _ _ _ w1.drew
 have HD2:Hid (DiskAt w1.drew g bs bw s1):=HD.out.drew
 have HK2:Hid (KeptBut w w1.drew [g,bs,bw]):=(kept_of_grown HG.out (by simp)).trans kept_drew
 have k3:w1.drew.cell? ⟨g,2,none⟩=some (.map (some bw)):=k2
 have hlt3:g<w1.drew.heap.size:=hlt1
 clear k1 k2 hlt1 HD HG
 generalize w1.drew=w2 at *
 go_wp2_with (first
  | (go_at_call 196;refine (C4.out w2 HD2.out).mono ?_;rintro e w3 ⟨rfl,hm3,hg3⟩;have k4:=(World.cell?_of_block (hg3.block g hlt3 (by simp;exact HD2.out.ne.1))).trans k3;have hm4:=HD2.out.2.2.1.kept hg3 (by simp;exact fun e=>HD2.out.ne.2.2 e.symm);have HM3:=Lib.hid hm3;clear hm3;have HG3:=Lib.hid hg3;clear hg3;have HM4:=Lib.hid hm4;clear hm4)
  | (refine wpList_clear_sec _ rfl (.tmp 22) rfl bw s1.fw rfl HM4.out ?_;intro w4 hm5 hg5))
 go_ret
 exact ⟨rfl,disk_flushed HD2.out HM3.out HG3.out hm5.out hg5,(HK2.out.trans (kept_of_grown HG3.out (by simp))).trans (kept_of_grown hg5 (by simp))⟩
theorem flush_any (g bs bw:Nat) (s:St) (w:World) (h:DiskAt w g bs bw s) :
  Calls Tryz.prog 157 #[ptr g] w fun e w'=>e=.returned (.int .i64 s.flush.2)∧DiskAt w' g bs bw s.flush.1∧KeptBut w w' [g,bs,bw]:=by
 cases hd:s.dead with
 | true =>
  have e:s.flush=(s,7):=by simp [St.flush,hd]
  rw [e]
  refine (flush_dead g bs bw s w h hd).mono ?_
  rintro e w' ⟨rfl,rfl⟩
  exact ⟨rfl,h,KeptBut.refl _ _⟩
 | false =>
  cases ha:s.act.2 with
  | false =>
   have e:s.flush=(s.act.1,7):=by simp [St.flush,hd,ha]
   rw [e]
   refine (flush_dies g bs bw s w h hd ha).mono ?_
   rintro e w' ⟨rfl,h1,h2⟩
   exact ⟨rfl,h1,kept_of_grown h2 (by simp)⟩
  | true =>
   have e1:s.act.1.fs=s.fs:=by unfold St.act;split <;> rfl
   have e2:s.act.1.fw=s.fw:=by unfold St.act;split <;> rfl
   have e:s.flush=({ s.act.1 with fs:=fun i=>(s.act.1.fw i).or (s.act.1.fs i),fw:=fun _=>none },0):=by simp [St.flush,hd,ha,e1,e2]
   rw [e]
   exact flush_ok g bs bw s w h hd ha
theorem write_any (g bs bw:Nat) (s:St) (i:Int) (A:Option Addr) (n c:Nat) (xs:List Nat) (w:World) (h:DiskAt w g bs bw s) (hl:xs.length=n) (hb:∀ x∈xs,x<256) (hx:∀ w1,w.grownBy w1 (some g)→Bts w1 w1.heap.size A n xs) :
  Calls Tryz.prog 156 #[ptr g,.int .i64 i,.slice A n c] w fun e w'=>e=.returned (.int .i64 (s.write i xs).2)∧DiskAt w' g bs bw (s.write i xs).1∧KeptBut w w' [g,bs,bw]:=by
 cases hd:s.dead with
 | true =>
  have e:s.write i xs=(s,7):=by simp [St.write,hd]
  rw [e]
  refine (write_dead g bs bw s i _ w h hd).mono ?_
  rintro e w' ⟨rfl,rfl⟩
  exact ⟨rfl,h,KeptBut.refl _ _⟩
 | false =>
  by_cases hi:0≤i∧i<s.n∧n=512
  ·cases ha:s.act.2 with
   | false =>
    have e:s.write i xs=(s.act.1,7):=by simp [St.write,hd,ha,hl,hi]
    rw [e]
    refine (write_dies g bs bw s i A n c w h hd ⟨hi.1,hi.2.1⟩ hi.2.2 ha).mono ?_
    rintro e w' ⟨rfl,h1,h2⟩
    exact ⟨rfl,h1,kept_of_grown h2 (by simp)⟩
   | true =>
    have e:s.write i xs=({ s.act.1 with fw:=upd1 s.act.1.fw i.toNat xs },0):=by simp [St.write,hd,ha,hl,hi]
    rw [e]
    have:=write_ok g bs bw s i.toNat A n c xs w h hd (by omega) ha hi.2.2 ⟨hl.trans hi.2.2,hb⟩ hx
    rw [Int.toNat_of_nonneg hi.1] at this
    exact this
  ·have e:s.write i xs=(s,1):=by
    unfold St.write
    rw [hd,if_neg (by simp),if_neg (by rw [hl];exact hi)]
   rw [e]
   refine (write_arg g bs bw s i A n c w h hd hi).mono ?_
   rintro e w' ⟨rfl,rfl⟩
   exact ⟨rfl,h,KeptBut.refl _ _⟩
end Go.Proofs.YtplpmemlaohlaaaGreat.Dsk
namespace Go.Proofs.YtplpmemlaohlaaaGreat.Dsk
open Go.RowKit Go.Maps Mem
set_option linter.unusedVariables false
set_option linter.unusedSimpArgs false
def NoneAt (w:World) (z:Value):Prop:=z=.pointer none∨∃ g,z=ptr g∧Blk w g 85 #[.int .i64 0,.map none,.map none,.int .i64 0,.bool false]
end Go.Proofs.YtplpmemlaohlaaaGreat.Dsk
namespace Go.Proofs.YtplpmemlaohlaaaGreat.Dsk
open Go.RowKit Go.Maps Go.Sort Go.Shelf Mem
set_option linter.unusedVariables false
set_option linter.unusedSimpArgs false
def ints (xs:List Nat):List Value:=xs.map fun (x:Nat)=>Value.int .i64 (x:Int)
theorem sortsA (m:Nat):AnyZI.SortsIn Tryz.prog Tryz.sortedA_ren Fence.wide m :=
 ⟨fun blk off cap ss W hH hblk hsz=>callsIn_wide.2 (AnyM.slices_Sort_int Tryz.sortA blk off cap ss W hH hblk hsz),
  fun p cap W=>callsIn_wide.2 (AnyM.slices_Sort_int_none Tryz.sortA p cap W)⟩
theorem keys_perm {es:List (Lit × DataW (List Nat))} {f:Nat→Option (List Nat)} {n:Nat} (hp:es.Pairwise (fun p q=>p.1≠q.1)) (hkl:∀ p∈es,WideAt.IsKeyLit p.1)
  (hk:∀ kl,Maps.has (.map es) kl=true→∃ i:Nat,i<1024∧kl=.int .i64 (i:Int))
  (hat:∀ i:Nat,(f i=none∧Maps.has (.map es) (.int .i64 (i:Int))=false)∨∃ xs,f i=some xs∧IsSec xs∧∀ zd,(DataW.map es).atKey (.int .i64 (i:Int)) zd=.held xs)
  (hr:∀ i,n≤i→f i=none):(intKeys (.map es)).Perm (((List.range n).filter fun i=>(f i).isSome).map fun (i:Nat)=>(i:Int)):=by
 have hself:∀ p∈es,Maps.has (.map es) p.1=true:=by
  intro p hpm
  rw [has_eq,List.any_eq_true]
  refine ⟨p,hpm,?_⟩
  have:=hkl p hpm
  obtain ⟨l,d⟩:=p
  cases l <;> simp_all [Lit.sameKey,WideAt.IsKeyLit]
 have hnat:∀ p∈es,∃ i:Nat,i<n∧p.1=.int .i64 (i:Int)∧(f i).isSome=true:=by
  intro p hpm
  have h1:=hself p hpm
  obtain ⟨i,hi,e⟩:=hk _ h1
  rw [e] at h1
  rcases hat i with ⟨_,h2⟩ | ⟨xs,h2,_,_⟩
  ·rw [h1] at h2;cases h2
  ·refine ⟨i,?_,e,by rw [h2];rfl⟩
   rcases Nat.lt_or_ge i n with h | h
   ·exact h
   ·rw [hr i h] at h2;cases h2
 rw [List.perm_iff_count]
 intro x
 have n1:(intKeys (.map es)).Nodup:=by
  simp only [intKeys]
  rw [List.Nodup,List.pairwise_map]
  refine List.Pairwise.imp_of_mem (fun {p q} hpm hqm hne he=>hne ?_) hp
  obtain ⟨i,_,hi,_⟩:=hnat p hpm
  obtain ⟨j,_,hj,_⟩:=hnat q hqm
  rw [hi,hj] at he ⊢
  have he':(i:Int)=(j:Int):=he
  rw [he']
 have n2:(((List.range n).filter fun i=>(f i).isSome).map fun (i:Nat)=>(i:Int)).Nodup:=by
  rw [List.Nodup,List.pairwise_map]
  refine List.Pairwise.imp (fun {a b} h e=>h (by omega)) ((List.nodup_range).filter _)
 rw [n1.count,n2.count]
 congr 1
 rw [eq_iff_iff]
 constructor
 ·intro h
  simp only [intKeys,List.mem_map] at h
  obtain ⟨p,hpm,rfl⟩:=h
  obtain ⟨i,hi,e,hs⟩:=hnat p hpm
  rw [e]
  exact List.mem_map.2 ⟨i,List.mem_filter.2 ⟨List.mem_range.2 hi,hs⟩,rfl⟩
 ·intro h
  obtain ⟨i,hm,rfl⟩:=List.mem_map.1 h
  obtain ⟨hi,hs⟩:=List.mem_filter.1 hm
  rcases hat i with ⟨h0,_⟩ | ⟨xs,h1,_,h2⟩
  ·rw [h0] at hs;cases hs
  ·have h3:=has_true_of_atKey h2
   rw [has_eq,List.any_eq_true] at h3
   obtain ⟨p,hpm,hsame⟩:=h3
   obtain ⟨j,_,e,_⟩:=hnat p hpm
   rw [e,same_key] at hsame
   simp at hsame
   subst hsame
   simp only [intKeys,List.mem_map]
   exact ⟨p,hpm,by rw [e];rfl⟩
theorem sort_waiting (s:St) {ss:List Int} (h:ss.Perm (s.waiting.map fun (i:Nat)=>(i:Int))):(ss.mergeSort (fun x y=>decide (x≤y))).map encZ=ints s.waiting∧ss.length=s.waiting.length:=by
 have e:=mergeSort_of_perm_i h
 refine ⟨?_,by rw [h.length_eq,List.length_map]⟩
 show (ss.mergeSort leI).map encZ=_
 rw [e,List.mergeSort_of_pairwise]
 ·simp only [ints,List.map_map]
  rfl
 ·rw [List.pairwise_map]
  refine List.Pairwise.imp (fun {a b} h=>?_) ((List.pairwise_lt_range).filter _)
  simp [leI]
  omega
set_option maxRecDepth 20000 in
set_option maxHeartbeats 2000000 in
theorem waits_any (g bs bw:Nat) (s:St) (w:World) (h:DiskAt w g bs bw s) :
  Calls Tryz.prog 45 #[ptr g] w fun e w'=>∃ v,e=.returned v∧w'.ownsRow w.heap.size 3 1 v s.waiting.length (ints s.waiting)∧Below w.heap.size w w':=by
 have c1:=isNone_no g bs bw s w h
 have k2:=h.c2
 have hr:=h.2.2.2.2.2.2.2.2
 obtain ⟨D,n,hown,hn,hk,hat⟩:=h.2.2.1
 obtain ⟨es,rfl,hp,hkl⟩:=hown.entries keyed
 have hperm:=keys_perm hp hkl hk hat hr
 have hsz:=hown.size_le
 have HP:Hid ((intKeys (.map es)).Perm (s.waiting.map fun (i:Nat)=>(i:Int))):=hperm
 clear hperm hp hkl hk hat hr h
 refine (callsIn_wide (n:=6)).1 ?_
 have hbl:=hown.lt
 have hmax:Maps.size (.map es)≤maxLen:=by unfold maxLen;omega
 have hbytes:Maps.size (.map es)*8≤140737488355328:=by omega
 have hseq:SeqGives Fence.wide 2 Tryz.prog 161 #[.pointer (some ⟨w.heap.size,0,none⟩)] encZ (fun ss=>ss.Perm (intKeys (.map es))) (Maps.size (.map es)) (w.alloc (.cells #[.map (some bw)] 83)) :=
  AnyZI.keys_gives (ρ:=Tryz.keysA_ren) { Tryz.keysA with } Fence.wide _ trivial rfl (by omega) w.heap.size bw n (.map es) _ (by simp) (by simp) (by
   obtain ⟨es,clock,hb,Ft,hs,hD⟩:=hown
   exact ⟨es,clock,(Below.heap_alloc _ _ bw hbl).trans hb,Ft,hs,hD⟩)
 have cK:∀ mb W,CallsIn Fence.wide 5 Tryz.prog 105 #[.map mb] W fun e w'=>e=.returned (.func (.func 161) #[] #[.pointer (some ⟨W.heap.size,0,none⟩)])∧w'=W.alloc (.cells #[.map mb] 83):=fun mb W=>AnyZI.keys_in Tryz.keysA Fence.wide 5 trivial rfl mb W
 have cS:=AnyZI.sorted_in Tryz.sortedA Fence.wide 5 trivial trivial trivial trivial rfl (by omega) (sortsA _) (enters_of Tryz.func160 (by kernel_rfl) rfl) 161 #[.pointer (some ⟨w.heap.size,0,none⟩)] trivial (enters_of Tryz.func161 (by kernel_rfl) rfl) _ _ hmax hbytes _ hseq
 change CallsIn _ _ Tryz.prog 104 _ _ _ at cS
 have cN:CallsIn Fence.wide 5 Tryz.prog 44 #[ptr g] w fun e w'=>e=.returned (.bool false)∧w=w':=callsIn_wide.2 c1
 have hfK:Fence.wide.fn 105:=trivial
 have hfS:Fence.wide.fn 104:=trivial
 have hfN:Fence.wide.fn 44:=trivial
 clear c1 hseq hown
 refine callsIn_of_wp Tryz.func45 rfl trivial ?_ rfl
 simp only [Tryz.ntmps45,List.size_toArray,List.length_cons,List.length_nil,Nat.reduceAdd,Nat.reduceSub,Array.replicate_succ,Array.replicate_zero,List.push_toArray,List.append_toArray,List.nil_append,List.cons_append]
 gi_wp2_with (first
  | (gi_at_call 44;refine cN.mono ?_;rintro e w' ⟨rfl,rfl⟩)
  | (gi_at_call 105;refine (cK _ _).mono ?_;rintro e w' ⟨rfl,rfl⟩)
  | (gi_at_call 104;refine cS.mono ?_;rintro e w' ⟨v,ss,rfl,hS,hrow,hnil,hb⟩))
 go_ret
 obtain ⟨e1,e2⟩:=sort_waiting s (hS.trans HP.out)
 rw [e1,e2] at hrow
 exact ⟨v,rfl,ownsRow_base_a hrow (by simp),((Below.refl _ w).alloc (Nat.le_refl _) _).trans (hb.mono (by simp))⟩
end Go.Proofs.YtplpmemlaohlaaaGreat.Dsk
namespace Go.Proofs.YtplpmemlaohlaaaGreat.Dsk
open Go.RowKit Go.Maps Mem
set_option linter.unusedVariables false
set_option linter.unusedSimpArgs false
theorem KeptBut.thenBelow {w w1 w2:World} {S:List Nat} {B:Nat} (h:KeptBut w w1 S) (hb:Below B w1 w2) (hB:w.heap.size≤B):KeptBut w w2 S :=
 ⟨hb.os.trans h.os,hb.tape.trans h.tape,hb.output.trans h.output,Nat.le_trans h.size hb.size,fun k hk hn=>(hb.block k (by omega)).trans (h.block k hk hn)⟩
theorem DiskAt.belowB {w w':World} {g bs bw B:Nat} {s:St} (h:DiskAt w g bs bw s) (hb:Below B w w') (h1:g<B) (h2:bs<B) (h3:bw<B):DiskAt w' g bs bw s:=by
 obtain ⟨k1,⟨D,n,⟨es,clock,hbb,F,hs,hD⟩,r1⟩,⟨D',n',⟨es',clock',hbb',F',hs',hD'⟩,r2⟩,r⟩:=h
 exact ⟨k1.below hb h1,⟨D,n,⟨es,clock,(hb.block bs h2).trans hbb,F,hs,hD⟩,r1⟩,⟨D',n',⟨es',clock',(hb.block bw h3).trans hbb',F',hs',hD'⟩,r2⟩,r⟩
abbrev tearV (k:Int) (v:Value):Value:=.agg #[.int .i64 k,v]
set_option maxRecDepth 20000 in
set_option maxHeartbeats 2000000 in
theorem tear_kept (g bs bw:Nat) (s:St) (i:Nat) (v:Value) (w:World) (h:DiskAt w g bs bw s) (hi:i<1024) :
  Calls Tryz.prog 46 #[ptr g,.int .i64 (i:Nat),tearV 1 v] w fun e w'=>e=.returned (.tuple #[])∧DiskAt w' g bs bw { s with fs:=upd1 s.fs i ((s.fw i).getD noughts) }∧KeptBut w w' [g,bs,bw]:=by
 have h1:=h.alloc (.cells #[.int .i64 1,v] 110)
 have HK:Hid (KeptBut w (w.alloc (.cells #[.int .i64 1,v] 110)) [g,bs,bw]):=kept_alloc _
 have HS:=Lib.hid (h.2.2.1.secD i)
 obtain ⟨xs,hxs⟩:∃ xs,xs=(s.fw i).getD noughts:=⟨_,rfl⟩
 rw [← hxs] at HS ⊢
 have HX:=Lib.hid hxs;clear hxs
 have HD:=Lib.hid h1;clear h1 h
 go_enter Tryz.func46,Tryz.ntmps46
 go_wp2
 generalize w.alloc (.cells #[.int .i64 1,v] 110)=w1 at *
 have k1:=HD.out.c1
 have k2:=HD.out.c2
 have hlt:=HD.out.1.lt
 have hl:=HD.out.2.2.1.look hi
 rw [← HX.out] at hl
 have HL:Hid ((Instr.lookup 83 (.map (some bw)) (.int .i64 (i:Int)) false).run Tryz.prog w1.drew=.ok (secV xs) w1.drew):=by
  have:=HD.out.drew.2.2.1.look hi
  rw [← HX.out] at this
  exact this
 clear hl
 go_still_tail 11,(by kernel_rfl)
 refine still_lookup rfl 83 (.tmp 19) (.tmp 20) false rfl _ _ _ rfl rfl HL.out ?_
 refine wpStill_nil ?_
 change wpList _ _ _ _ _ w1.drew
 have HD2:Hid (DiskAt w1.drew g bs bw s):=HD.out.drew
 have HK2:Hid (KeptBut w w1.drew [g,bs,bw]):=HK.out.trans kept_drew
 clear HD HK k1 k2 hlt HL
 generalize w1.drew=w3 at *
 go_wp2_with (refine wpList_mapUpdate_sec _ rfl (.tmp 14) (.tmp 15) (.tmp 21) rfl bs s.fs i xs rfl rfl rfl HD2.out.2.1 hi HS.out ?_;intro w4 hm4 hg4)
 go_end0
 exact ⟨rfl,disk_put_safe HD2.out i xs hm4.out hg4,HK2.out.trans (kept_of_grown hg4 (by simp))⟩
set_option maxRecDepth 20000 in
set_option maxHeartbeats 2000000 in
theorem tear_lost (g bs bw:Nat) (s:St) (i:Nat) (k:Int) (v:Value) (w:World) (h:DiskAt w g bs bw s) (h1:k≠1) (h2:k≠2) :
  Calls Tryz.prog 46 #[ptr g,.int .i64 (i:Nat),tearV k v] w fun e w'=>e=.returned (.tuple #[])∧DiskAt w' g bs bw s∧KeptBut w w' [g,bs,bw]:=by
 have e1:(k == 1)=false:=beq_false_of_ne h1
 have e2:(k == 2)=false:=beq_false_of_ne h2
 have HD:=Lib.hid (h.alloc (.cells #[.int .i64 k,v] 110))
 clear h h1 h2
 go_enter Tryz.func46,Tryz.ntmps46
 go_wp2
 go_end0
 exact ⟨rfl,HD.out,kept_alloc _⟩
set_option maxRecDepth 20000 in
set_option maxHeartbeats 4000000 in
theorem tear_torn (g bs bw:Nat) (s:St) (i:Nat) (v:Value) (b:List Nat) (w:World) (h:DiskAt w g bs bw s) (hi:i<1024) (hv:Sl w w.heap.size v b) :
  Calls Tryz.prog 46 #[ptr g,.int .i64 (i:Nat),tearV 2 v] w fun e w'=>e=.returned (.tuple #[])∧DiskAt w' g bs bw { s with fs:=upd1 s.fs i (torn b ((s.fs i).getD noughts)) }∧KeptBut w w' [g,bs,bw]:=by
 obtain ⟨A,n,c,rfl,hb,hnc,hcm,_⟩:=hv
 have hbl:=hb.1
 have hblt:=hb.2.1
 have h1:=h.alloc (.cells #[.int .i64 2,.slice A n c] 110)
 have hl:=h1.2.1.look hi
 have HLT:=Lib.hid h.lt
 have HS:=Lib.hid (h.2.1.secD i)
 obtain ⟨xs,hxs⟩:∃ xs,xs=(s.fs i).getD noughts:=⟨_,rfl⟩
 rw [← hxs] at HS hl ⊢
 have HT:=Lib.hid (torn_sec hblt HS.out)
 have HSP:=Lib.hid (splice_torn xs b HS.out.1)
 have kt:(w.alloc (.cells #[.int .i64 2,.slice A n c] 110)).cell? ⟨w.heap.size,1,none⟩=some (.slice A n c):=(Blk.new w 110 #[.int .i64 2,.slice A n c]).cell 1
 have HB:Hid (Bts (w.alloc (.cells #[.int .i64 2,.slice A n c] 110)) w.heap.size A n b):=hb.alloc (Nat.le_refl _) _
 have HK:Hid (KeptBut w (w.alloc (.cells #[.int .i64 2,.slice A n c] 110)) [g,bs,bw]):=kept_alloc _
 have hsz:w.heap.size<(w.alloc (.cells #[.int .i64 2,.slice A n c] 110)).heap.size:=by simp
 have HD:=Lib.hid h1
 have hz:=zero72
 have hcut:=cut72
 obtain ⟨N,hN⟩:∃ N,N=512:=⟨_,rfl⟩
 rw [← hN] at hcut HSP
 obtain ⟨zs,hzs⟩:∃ zs,zs=noughts:=⟨_,rfl⟩
 simp only [← hzs] at hz
 have HZS:=Lib.hid (hzs ▸ isSec_noughts);clear hzs
 have hbt:(b.take N).length=Nat.min n N:=by rw [List.length_take,hbl];exact Nat.min_comm ..
 have hb0:(b.take N).length≤512:=by rw [List.length_take,hN];omega
 have hbc:0<(vals (b.take N)).length→∃ ad,A=some ad∧∀ W,Bts W w.heap.size A n b→∀ j u,(vals (b.take N))[j]?=some u→W.cell? (ad.add j)=some u:=by
  intro h0
  rw [vals_length] at h0
  obtain ⟨b0,o0,e,h3,_⟩:=hb.2.2.2 (by rw [hbt] at h0;exact Nat.lt_of_lt_of_le h0 (Nat.min_le_left ..))
  refine ⟨_,e,fun W hW j u hu=>?_⟩
  rw [show vals (b.take N)=(vals b).take N from by simp [vals,List.map_take],List.getElem?_take] at hu
  split at hu
  ·exact bts_cells (e ▸ hW) j u hu
  ·cases hu
 obtain ⟨w2,hw2⟩:∃ w2,w2=((w.alloc (.cells #[.int .i64 2,.slice A n c] 110)).alloc (.cells (vals zs).toArray 184)).setRow (w.heap.size+1) (vals xs).toArray:=⟨_,rfl⟩
 have kz:((w.alloc (.cells #[.int .i64 2,.slice A n c] 110)).alloc (.cells (vals zs).toArray 184)).heap[w.heap.size+1]?=some (.cells (vals zs).toArray 184 (0,0)):=by
  simpa using heap_alloc_new (w.alloc (.cells #[.int .i64 2,.slice A n c] 110)) (.cells (vals zs).toArray 184)
 have hbel:Below (w.heap.size+1) (w.alloc (.cells #[.int .i64 2,.slice A n c] 110)) w2:=by
  rw [hw2]
  exact below_setRow ((Below.refl _ _).alloc (by simp) _) (Nat.le_refl _) _
 have hg2:w2.heap[w.heap.size+1]?=some (.cells (vals xs).toArray 184 (0,0)):=by
  rw [hw2]
  exact setRow_heap _ _ _ _ _ _ kz
 have kt2:w2.cell? ⟨w.heap.size,1,none⟩=some (.slice A n c):=(hbel.cell (by simp)).trans kt
 have HD2:Hid (DiskAt w2 g bs bw s):=h1.below (hbel.mono (by simp))
 have k1:=h1.c1
 have k2:=HD2.out.c1
 have hlt:=h1.1.lt
 have hlt2:=HD2.out.1.lt
 have hs2:w.heap.size+1<w2.heap.size:=(Array.getElem?_eq_some_iff.1 hg2).1
 have HK2:Hid (KeptBut w w2 [g,bs,bw]):=HK.out.trans (kept_of_below hbel (by simp))
 have HB2:Hid (Bts w2 w.heap.size A n b):=HB.out.below hbel (by omega)
 have HKZ:=Lib.hid kz;clear kz
 have HG2:=Lib.hid hg2;clear hg2
 have HW2:=Lib.hid hw2;clear hw2
 have HBC:=Lib.hid hbc;clear hbc
 have HBT:=Lib.hid hbt;clear hbt
 have HB0:=Lib.hid hb0;clear hb0
 have HN:=Lib.hid hN;clear hN
 have HBL:=Lib.hid hbl;clear hbl
 have HBLT:=Lib.hid hblt;clear hblt
 clear h h1 hxs hnc hcm hb hbel HB HK HD kt
 go_enter Tryz.func46,Tryz.ntmps46
 go_wp2_with (refine wpList_store_row rfl 184 (.tmp 6) (.tmp 29) rfl (w.heap.size+1) (vals xs).toArray rfl rfl 184 (vals zs).toArray HKZ.out (by rw [size72];simp [vals_length,HS.out.1]) (by simp [vals_length,HS.out.1,HZS.out.1]) (vals_all _) ?_;rw [← HW2.out];clear k1 hlt)
 go_frame
 have HG3:Hid (w2.drew.heap[w.heap.size+1]?=some (.cells (vals xs).toArray 184 (0,0))):=HG2
 have HD3:Hid (DiskAt w2.drew g bs bw s):=HD2.out.drew
 have HK3:Hid (KeptBut w w2.drew [g,bs,bw]):=HK2.out.trans kept_drew
 have HB3:Hid (Bts w2.drew w.heap.size A n b):=HB2.out.drew
 go_still_tail 3,(by kernel_rfl)
 change wpList _ _ _ _ _ w2.drew
 have hlt3:g<w2.drew.heap.size:=hlt2
 clear HG2 HD2 HK2 HB2 kt2 k2 hlt2 hs2 HW2 HKZ
 generalize w2.drew=w3 at *
 go_wp2_with (refine wpList_copy_splice rfl (.tmp 30) (.tmp 32) 74 74 rfl 5 Tryz.underlying74 u8_size1 _ _ N N n c rfl rfl (w.heap.size+1) 0 (vals xs) 184 HG3.out (vals (b.take N)) (by rw [vals_length];exact HBT.out) (fun h0=>⟨rfl,by obtain ⟨ad,e,hc⟩:=HBC.out h0;exact ⟨ad,e,hc w3 HB3.out⟩⟩) (by rw [vals_length,vals_length,HS.out.1];have:=HB0.out;omega) (vals_one _) (w.heap.size+1) w3 (Below.refl _ _) (Nat.le_refl _) ?_;intro w4 HG4 hb4;rw [HSP.out] at HG4;have HD4:Hid (DiskAt w4 g bs bw s):=HD3.out.belowB hb4 (by have:=HLT.out;omega) (by have:=HLT.out;omega) (by have:=HLT.out;omega);have HK4:=Lib.hid (HK3.out.thenBelow hb4 (by omega));clear hb4)
 go_frame
 have k5:=HD4.out.c1
 have hlt5:=HD4.out.1.lt
 have HG5:Hid (w4.drew.heap[w.heap.size+1]?=some (.cells (vals (torn b xs)).toArray 184 (0,0))):=HG4
 have HD5:Hid (DiskAt w4.drew g bs bw s):=HD4.out.drew
 have HK5:Hid (KeptBut w w4.drew [g,bs,bw]):=HK4.out.trans kept_drew
 go_still_tail 6,(by kernel_rfl)
 refine still_load_row rfl 184 (.tmp 6) rfl (w.heap.size+1) rfl 184 (vals (torn b xs)).toArray (0,0) _ HG5.out Tryz.underlying184 rfl (by rw [size72];simp [vals_length,HT.out.1]) ?_
 refine wpStill_nil ?_
 change wpList _ _ _ _ _ w4.drew
 clear HG4 HD4 HK4 k5 hlt5
 generalize w4.drew=w5 at *
 go_wp2_with (refine wpList_mapUpdate_sec _ rfl (.tmp 37) (.tmp 38) (.tmp 39) rfl bs s.fs i (torn b xs) rfl rfl rfl HD5.out.2.1 hi HT.out ?_;intro w6 hm6 hg6)
 go_end0
 exact ⟨rfl,disk_put_safe HD5.out i (torn b xs) hm6.out hg6,HK5.out.trans (kept_of_grown hg6 (by simp))⟩
theorem tear_any (g bs bw:Nat) (s:St) (i:Nat) (k:Int) (v:Value) (b:List Nat) (w:World) (h:DiskAt w g bs bw s) (hi:i<1024) (hv:Sl w w.heap.size v b) :
  Calls Tryz.prog 46 #[ptr g,.int .i64 (i:Nat),tearV k v] w fun e w'=>e=.returned (.tuple #[])∧DiskAt w' g bs bw (s.tear i k b)∧KeptBut w w' [g,bs,bw]:=by
 unfold St.tear
 by_cases h1:k=1
 ·subst h1
  rw [if_pos rfl]
  exact tear_kept g bs bw s i v w h hi
 ·by_cases h2:k=2
  ·subst h2
   rw [if_neg h1,if_pos rfl]
   exact tear_torn g bs bw s i v b w h hi hv
  ·rw [if_neg h1,if_neg h2]
   exact tear_lost g bs bw s i k v w h h1 h2
end Go.Proofs.YtplpmemlaohlaaaGreat.Dsk
namespace Go.Proofs.YtplpmemlaohlaaaGreat.Dsk
open Go.RowKit Go.Maps Mem
set_option linter.unusedVariables false
set_option linter.unusedSimpArgs false
def TearsAt (w:World) (B:Nat) (v:Value) (l:List (Int × List Nat)):Prop :=
 ∃ (A:Option Addr) (n c:Nat),v=.slice A n c∧l.length=n∧n≤1000000∧(0<n→∃ b off,A=some ⟨b,off,none⟩∧b<B ∧
  ∀ i,i<n→∃ k u xs,l[i]?=some (k,xs)∧w.cell? ⟨b,off+i*2,none⟩=some (.int .i64 k)∧w.cell? ⟨b,off+i*2+1,none⟩=some u∧Sl w B u xs∧(Lit.int .i64 k).wf=true)
theorem TearsAt.below {w w':World} {B B':Nat} {v:Value} {l:List (Int × List Nat)} (h:TearsAt w B v l) (hb:Below B' w w') (hB:B≤B'):TearsAt w' B v l:=by
 obtain ⟨A,n,c,rfl,hl,hn,h⟩:=h
 refine ⟨A,n,c,rfl,hl,hn,fun h0=>?_⟩
 obtain ⟨b,off,e,hbB,hc⟩:=h h0
 refine ⟨b,off,e,hbB,fun i hi=>?_⟩
 obtain ⟨k,u,xs,h1,h2,h3,h4,h5⟩:=hc i hi
 exact ⟨k,u,xs,h1,(hb.cell (p:=⟨b,off+i*2,none⟩) (Nat.lt_of_lt_of_le hbB hB)).trans h2,(hb.cell (p:=⟨b,off+i*2+1,none⟩) (Nat.lt_of_lt_of_le hbB hB)).trans h3,h4.below hb hB,h5⟩
theorem tears_nil (w:World) (B:Nat):TearsAt w B (.slice none 0 0) []:=⟨none,0,0,rfl,rfl,by omega,fun h=>absurd h (by omega)⟩
theorem own_ints {w:World} {base n:Nat} {v:Value} {xs:List Nat} (h:w.ownsRow base 3 1 v n (ints xs)) (hn:xs.length=n) :
  ∃ A c,v=.slice A n c∧(0<n→∃ b,A=some ⟨b,0,none⟩∧base≤b∧b<w.heap.size∧∀ i,i<n→w.cell? ⟨b,i,none⟩=some (.int .i64 (xs.getD i 0:Nat))):=by
 rcases h.2 with ⟨rfl,rfl⟩ | ⟨g,cap,cur,rfl,hg,hh,hnc,hm,hs,ht⟩
 ·exact ⟨none,0,rfl,fun h0=>absurd h0 (by omega)⟩
 ·refine ⟨_,cap,rfl,fun _=>⟨g,rfl,hg,(h.lt g rfl).2,fun i hi=>?_⟩⟩
  rw [h.cellAt i (by omega)]
  simp [ints,List.getElem?_eq_getElem (show i<xs.length by omega),List.getD]
theorem zip_at {ws:List Nat} {l:List (Int × List Nat)} {k:Nat} {t:Int × List Nat} (hk:k<ws.length) (ht:l[k]?=some t):(ws.zip l)[k]?=some (ws.getD k 0,t):=by
 rw [List.getElem?_zip_eq_some]
 exact ⟨by simp [List.getD,List.getElem?_eq_getElem hk],ht⟩
theorem getD_mem {ws:List Nat} {k:Nat} (hk:k<ws.length):ws.getD k 0∈ws:=by
 simp [List.getD,List.getElem?_eq_getElem hk]
theorem disk_crashed {w w1:World} {g bs bw:Nat} {s:St} (h:DiskAt w g bs bw s) (h1:SMap w1 bw (fun _=>none)) (g1:w.grownBy w1 (some bw)):DiskAt w1 g bs bw { s with fw:=fun _=>none }:=by
 obtain ⟨e1,e2,e3⟩:=h.ne
 obtain ⟨hb,hs,hw,hne,hn1,hn2,hl1,hl2,hr⟩:=h
 exact ⟨hb.grown g1 (by simp;omega),hs.kept g1 (by simp;omega),h1,hne,hn1,hn2,hl1,hl2,fun _ _=>rfl⟩
set_option maxRecDepth 20000 in
set_option maxHeartbeats 4000000 in
theorem crash_any (g bs bw B:Nat) (s:St) (v:Value) (l:List (Int × List Nat)) (w:World) (h:DiskAt w g bs bw s) (hv:TearsAt w B v l) (hB:∀ x∈[g,bs,bw],B≤x) :
  Calls Tryz.prog 18 #[ptr g,v] w fun e w'=>e=.returned (.tuple #[])∧DiskAt w' g bs bw (s.crash l)∧KeptBut w w' [g,bs,bw]:=by
 have c1:=isNone_no g bs bw s w h
 have c2:=waits_any g bs bw s w h
 have C1:=Lib.hid c1;clear c1
 have C2:=Lib.hid c2;clear c2
 have hlt:=h.lt
 have hw1024:=h.2.2.2.2.2.1
 obtain ⟨A,n,c,rfl,hl,hn,hcell⟩:=hv
 have hws:s.waiting.length≤1024:=by
  unfold St.waiting
  have:=List.length_filter_le (fun i=>(s.fw i).isSome) (List.range s.n)
  rw [List.length_range] at this
  omega
 obtain ⟨m,hm⟩:∃ m,m=s.waiting.length:=⟨_,rfl⟩
 rw [← hm] at hws C2
 have HH:=Lib.hid h;clear h
 have HM:=Lib.hid hm;clear hm
 have HC:=Lib.hid hcell;clear hcell
 have HL:=Lib.hid hl;clear hl
 have HB:=Lib.hid hB;clear hB
 go_enter Tryz.func18,Tryz.ntmps18
 go_wp2_with (first
  | (go_at_call 44;refine (C1.out).mono ?_;rintro e w' ⟨rfl,rfl⟩)
  | (go_at_call 45;refine (C2.out).mono ?_;rintro e w1 ⟨v1,rfl,hrow,hb1⟩;obtain ⟨A1,c1,rfl,hc1⟩:=own_ints hrow HM.out.symm;have HROW:=Lib.hid hrow;clear hrow;have HC1:=Lib.hid hc1;clear hc1;have HD1:=Lib.hid (HH.out.below hb1);have HB1:=Lib.hid hb1;clear hb1))
 obtain ⟨K,hK⟩:∃ K:Nat,K=min m n:=⟨_,rfl⟩
 have e:min (m:Int) (n:Int)=(K:Int):=by omega
 rw [e]
 have hKm:K≤m:=by omega
 have hKn:K≤n:=by omega
 have HKE:=Lib.hid hK;clear hK e
 go_loopw [15] (fun i wr=>∃ k:Nat,k≤K∧i=.int .i64 k∧DiskAt wr g bs bw (s.tears ((s.waiting.zip l).take k))∧KeptBut w1 wr [g,bs,bw]) (fun i _=>K - (intOf i).toNat)
 case atStart=>exact ⟨0,Nat.zero_le _,rfl,HD1.out,KeptBut.refl _ _⟩
 case round =>
  obtain ⟨k,hk,rfl,hd,hkept⟩:=hrel
  have HD:=Lib.hid hd;clear hd
  have HKP:=Lib.hid hkept;clear hkept
  clear hlt
  by_cases hlt:k<K
  ·have hkm:k<m:=by omega
   have hkn:k<n:=by omega
   obtain ⟨b1,rfl,hb1,hb2,hcell1⟩:=HC1.out (by omega)
   obtain ⟨b0,o0,rfl,hb0,hcell0⟩:=HC.out (by omega)
   obtain ⟨kd,u,xs,hlk,g0,g1,hsl,hwf⟩:=hcell0 k hkn
   have hbel:Below B w w1:=HB1.out.mono (by have:=HB.out g (by simp);have:=HH.out.1.lt;omega)
   have hbel2:Below B w1 wr:=HKP.out.below HB.out (by have:=HB.out g (by simp);have:=HD1.out.1.lt;omega)
   have g0':=(hbel2.cell (p:=⟨b0,o0+k*2,none⟩) hb0).trans ((hbel.cell (p:=⟨b0,o0+k*2,none⟩) hb0).trans g0)
   have g1':=(hbel2.cell (p:=⟨b0,o0+k*2+1,none⟩) hb0).trans ((hbel.cell (p:=⟨b0,o0+k*2+1,none⟩) hb0).trans g1)
   have g2:=(HKP.out.cell (p:=⟨b1,k,none⟩) hb2 (by have:=HH.out.lt;simp;omega)).trans (hcell1 k hkm)
   have hsl2:Hid (Sl wr wr.heap.size u xs):=((hsl.below hbel (Nat.le_refl _)).below hbel2 (Nat.le_refl _)).more (by have:=HB.out g (by simp);have:=HD.out.1.lt;omega)
   have hz:=Lib.hid (zip_at (ws:=s.waiting) (by rw [← HM.out];exact hkm) hlk)
   have hi:=waiting_lt s _ (getD_mem (ws:=s.waiting) (k:=k) (by rw [← HM.out];exact hkm))
   have hbw:b0<wr.heap.size:=by have:=HB.out g (by simp);have:=HD.out.1.lt;omega
   have hbw1:b1<wr.heap.size:=Nat.lt_of_lt_of_le hb2 HKP.out.size
   generalize s.waiting.getD k 0=i at *
   have t1:=tear_any g bs bw _ i kd u xs wr.drew HD.out.drew (by omega) hsl2.out.drew
   have T1:=Lib.hid t1;clear t1
   clear hcell0 hcell1 g0 g1 hbel hbel2 hsl hwf hlk
   go_wp2
   go_still_tail 9,(by kernel_rfl)
   change wpList _ _ _ _ _ wr.drew
   go_wp2_with (go_at_call 46;refine (T1.out).mono ?_;rintro e w2 ⟨rfl,hD2,hK2⟩;have HD2:=Lib.hid hD2;clear hD2;have HK2:=Lib.hid hK2;clear hK2)
   go_roundw
   case rel=>exact ⟨k+1,by omega,by go_num,by rw [tears_step s _ k _ hz.out];exact HD2.out,(HKP.out.trans kept_drew).trans HK2.out⟩
   case measure=>simp [intOf];omega
  ·have hkK:k=K:=by omega
   subst hkK
   have hfull:(s.waiting.zip l).take k=s.waiting.zip l:=List.take_of_length_le (by rw [List.length_zip,← HM.out,HL.out,HKE.out];exact Nat.le_refl _)
   rw [hfull] at HD
   clear hfull
   have k2:=HD.out.c2
   have hglt:=HD.out.1.lt
   go_wp2_with (refine wpList_clear_sec _ rfl (.tmp 32) rfl bw (s.tears (s.waiting.zip l)).fw rfl HD.out.2.2.1 ?_;intro w4 hm5 hg5;have hD5:=disk_crashed HD.out hm5.out hg5;have k3:=hD5.c3;have k4:=hD5.c4;have f3:=hD5.1.frozen 3;have f4:=hD5.1.frozen 4;have hglt5:=hD5.1.lt;have HD5:=Lib.hid hD5;clear hD5;have HG5:=Lib.hid hg5;clear hg5 hm5)
   go_end0
   obtain ⟨e1,e2⟩:=tears_same (s.waiting.zip l) s
   refine ⟨rfl,?_,?_⟩
   ·refine disk_set (s:={ s.tears (s.waiting.zip l) with fw:=fun _=>none,dead:=false }) (disk_set HD5.out 4 _ rfl rfl rfl rfl ?_ ?_) 3 _ rfl rfl rfl rfl ?_ ?_
    ·exact HD.out.2.2.2.2.2.2.1
    ·exact HD.out.2.2.2.2.2.2.2.1
    ·simp [St.crash]
    ·simp [St.crash]
   ·refine ((((kept_of_below HB1.out (Nat.le_refl _)).trans HKP.out).trans (kept_of_grown HG5.out (by simp))).trans (kept_of_grown (grown_set w4 ⟨g,4,none⟩ _) (by simp))).trans (kept_of_grown (grown_set _ ⟨g,3,none⟩ _) (by simp))
end Go.Proofs.YtplpmemlaohlaaaGreat.Dsk
namespace Go.Proofs.YtplpmemlaohlaaaGreat.Dsk
open Go.RowKit Go.Maps Mem
set_option linter.unusedVariables false
set_option linter.unusedSimpArgs false
def SlS (w:World) (S:List Nat) (u:Value) (xs:List Nat):Prop :=
 ∃ (A:Option Addr) (n c:Nat),u=.slice A n c∧xs.length=n∧(∀ x∈xs,x<256)∧n≤1000000∧n≤c∧c≤maxLen∧(A=none→c=0) ∧
  (0<n→∃ b off,A=some ⟨b,off,none⟩∧b<w.heap.size∧b ∉ S∧∀ i,i<n→w.cell? ⟨b,off+i,none⟩=some (.int .u8 (xs.getD i 0:Nat)))
def RowS (w:World) (S:List Nat) (v:Value) (n:Nat) (us:Nat→Value):Prop :=
 ∃ (A:Option Addr) (c:Nat),v=.slice A n c∧n≤c∧c≤maxLen∧(A=none→c=0) ∧
  (0<n→∃ b off,A=some ⟨b,off,none⟩∧b<w.heap.size∧b ∉ S∧∀ i,i<n→w.cell? ⟨b,off+i,none⟩=some (us i))
section
variable {w w':World} {S:List Nat} {u v:Value} {xs:List Nat} {n:Nat} {us:Nat→Value}
end
def armedOf (L:Int):Int:=if L<0 then -1 else L
def refV (v1 v2:Value) (s:St):Value:=.agg #[v1,v2,.int .i64 (armedOf s.left),.bool s.dead]
def RefAt (w:World) (S:List Nat) (v:Value) (s:St):Prop :=
 ∃ (v1 v2:Value) (us1 us2:Nat→Value),v=refV v1 v2 s∧RowS w S v1 s.n us1∧RowS w S v2 s.n us2∧(∀ i,i<s.n→SlS w S (us1 i) ((s.fs i).getD noughts))∧(∀ i,i<s.n→SlS w S (us2 i) ((s.fw i).getD []))
def Good (s:St):Prop:=1≤s.n∧s.n≤1024∧(∀ i xs,s.fs i=some xs→IsSec xs)∧(∀ i xs,s.fw i=some xs→IsSec xs) ∧ -9223372036854775808≤s.left∧s.left≤9223372036854775807
end Go.Proofs.YtplpmemlaohlaaaGreat.Dsk
namespace Go.Proofs.YtplpmemlaohlaaaGreat.Dsk
open Go.RowKit Go.Maps Mem
set_option linter.unusedVariables false
set_option linter.unusedSimpArgs false
end Go.Proofs.YtplpmemlaohlaaaGreat.Dsk
namespace Go.Proofs.YtplpmemlaohlaaaGreat.Dsk
open Go.RowKit Go.Maps Mem
set_option linter.unusedVariables false
set_option linter.unusedSimpArgs false
def wt (s:St) (k:Nat):List Nat:=(List.range k).filter fun i=>(s.fw i).isSome
theorem wt_yes {s:St} {k:Nat} (h:(s.fw k).isSome=true):wt s (k+1)=wt s k++[k]:=by
 unfold wt
 rw [List.range_succ,List.filter_append]
 simp [h]
theorem wt_no {s:St} {k:Nat} (h:s.fw k=none):wt s (k+1)=wt s k:=by
 unfold wt
 rw [List.range_succ,List.filter_append]
 simp [h]
end Go.Proofs.YtplpmemlaohlaaaGreat.Dsk
namespace Go.Proofs.YtplpmemlaohlaaaGreat.Dsk
open Go.RowKit Go.Maps Mem
set_option linter.unusedVariables false
set_option linter.unusedSimpArgs false
end Go.Proofs.YtplpmemlaohlaaaGreat.Dsk
namespace Go.Proofs.YtplpmemlaohlaaaGreat.Dsk
open Go.RowKit Go.Maps Mem
set_option linter.unusedVariables false
set_option linter.unusedSimpArgs false
def NewSec (w:World) (base:Nat) (u:Value):Prop:=∃ b,u=.slice (some ⟨b,0,none⟩) 512 512∧base≤b∧Blk w b 5 (vals noughts).toArray
end Go.Proofs.YtplpmemlaohlaaaGreat.Dsk
namespace Go.Proofs.YtplpmemlaohlaaaGreat.Dsk
open Go.RowKit Go.Maps Mem
set_option linter.unusedVariables false
set_option linter.unusedSimpArgs false
end Go.Proofs.YtplpmemlaohlaaaGreat.Dsk
namespace Go.Proofs.YtplpmemlaohlaaaGreat.Dsk
open Go.RowKit Go.Maps Go.Shelf Mem
set_option linter.unusedVariables false
set_option linter.unusedSimpArgs false
end Go.Proofs.YtplpmemlaohlaaaGreat.Dsk
namespace Go.Proofs.YtplpmemlaohlaaaGreat.Dsk
open Go.RowKit Go.Maps Go.Shelf Mem
set_option linter.unusedVariables false
set_option linter.unusedSimpArgs false
theorem tears_fs (l:List (Nat × Int × List Nat)) (j:Nat):∀ (s:St),(∀ p∈l,p.1≠j)→(s.tears l).fs j=s.fs j:=by
 induction l with
 | nil=>exact fun s _=>rfl
 | cons p r ih =>
  intro s h
  have h1:(s.tear p.1 p.2.1 p.2.2).fs j=s.fs j:=by
   have hp:=h p (List.mem_cons_self ..)
   unfold St.tear
   split
   ·show (if j=p.1 then _ else _)=_
    rw [if_neg (fun e=>hp e.symm)]
   ·split
    ·show (if j=p.1 then _ else _)=_
     rw [if_neg (fun e=>hp e.symm)]
    ·rfl
  exact (ih (s.tear p.1 p.2.1 p.2.2) (fun q hq=>h q (List.mem_cons_of_mem _ hq))).trans h1
theorem waiting_nodup (s:St):s.waiting.Nodup:=(List.nodup_range).filter _
theorem tears_at (s:St) (l:List (Int × List Nat)) (k:Nat) (hk:k<s.waiting.length):(s.tears ((s.waiting.zip l).take k)).fs (s.waiting.getD k 0)=s.fs (s.waiting.getD k 0):=by
 refine tears_fs _ _ s fun p hp e=>?_
 obtain ⟨j,hpj⟩:=List.getElem?_of_mem hp
 rw [List.getElem?_take] at hpj
 split at hpj
 ·rename_i hjk
  rw [List.getElem?_zip_eq_some] at hpj
  have h1:=hpj.1
  have h2:s.waiting[k]?=some (s.waiting.getD k 0):=by simp [List.getD,List.getElem?_eq_getElem hk]
  rw [e,← h2] at h1
  have:=(List.getElem?_inj (by omega) (waiting_nodup s)).1 h1
  omega
 ·cases hpj
end Go.Proofs.YtplpmemlaohlaaaGreat.Dsk
namespace Go.Proofs.YtplpmemlaohlaaaGreat.Dsk
open Go.RowKit Go.Maps Mem
set_option linter.unusedVariables false
set_option linter.unusedSimpArgs false
set_option maxRecDepth 20000 in
set_option maxHeartbeats 4000000 in
theorem clone_any (g bs bw:Nat) (s:St) (w:World) (h:DiskAt w g bs bw s) :
  Calls Tryz.prog 61 #[ptr g] w fun e w'=>∃ g' bs' bw',e=.returned (ptr g')∧DiskAt w' g' bs' bw' s∧Below w.heap.size w w'∧(∀ x∈[g',bs',bw'],w.heap.size≤x):=by
 have c1:=isNone_no g bs bw s w h
 have C1:=Lib.hid c1;clear c1
 have T:=Lib.hid clone_map
 have k0:=h.c0
 have k1:=h.c1
 have k2:=h.c2
 have k3:=h.c3
 have k4:=h.c4
 have hlt:=h.1.lt
 have H:=Lib.hid h;clear h
 obtain ⟨n,fs,fw,L,dead⟩:=s
 simp only at k0 k1 k2 k3 k4
 go_enter Tryz.func61,Tryz.ntmps61
 go_wp2_with (go_at_call 44;refine (C1.out).mono ?_;rintro e w' ⟨rfl,rfl⟩)
 have HD1:=Lib.hid (H.out.alloc (Obj.cells #[.int .i64 (n:Nat),.map (some bs),.map (some bw),.int .i64 L,.bool dead] 85))
 have KC1:=Lib.hid (Blk.new w 85 #[.int .i64 (n:Nat),.map (some bs),.map (some bw),.int .i64 L,.bool dead])
 have HB1:=Lib.hid ((Below.refl w.heap.size w).alloc (Nat.le_refl _) (Obj.cells #[.int .i64 (n:Nat),.map (some bs),.map (some bw),.int .i64 L,.bool dead] 85))
 have hcs:=KC1.out.lt
 have hbs:=H.out.2.1.lt
 have hgc:g≠w.heap.size:=by omega
 have hgc2:w.heap.size≠g:=by omega
 have hbw:=H.out.2.2.1.lt
 generalize w.alloc (Obj.cells #[.int .i64 (n:Nat),.map (some bs),.map (some bw),.int .i64 L,.bool dead] 85)=w1 at *
 have HP:=Lib.hid H.out.2.2.2.2;clear H k0 k3 k4
 generalize hcw:w.heap.size=c at *
 have HCW:=Lib.hid hcw;clear hcw
 have k1:=HD1.out.c1
 have k2:=HD1.out.c2
 have hgs:=HD1.out.1.lt
 have HS1:=Lib.hid HD1.out.2.1
 have HW1:=Lib.hid HD1.out.2.2.1
 have y1:=KC1.out.cell 1
 have y2:=KC1.out.cell 2
 have z1:=KC1.out.frozen 1
 have z2:=KC1.out.frozen 2
 simp at k1 k2 y1 y2
 clear HD1
 go_region_held3 (fun W=>W.cell? ⟨g,1,none⟩=some (.map (some bs))∧W.cell? ⟨g,2,none⟩=some (.map (some bw)))
  (first
   | go_keep
   | exact ⟨k1,k2⟩)
  (first
   | (go_at_call 115;refine (T.out bs fs _ (by exact HS1.out)).mono ?_;rintro e w2 ⟨rfl,hm,hb⟩;have hb:Below w1.heap.size w1 w2:=⟨hb.os,hb.tape,hb.output,hb.size,hb.block⟩;have FA:Hid (SMap w2 w1.heap.size fs):=hm;clear hm;have hcs2:c<w2.heap.size:=Nat.lt_of_lt_of_le hcs hb.size;have hgs2:g<w2.heap.size:=Nat.lt_of_lt_of_le hgs hb.size;have hp2:=FA.out.lt;have k1:=(hb.cell (p:=⟨g,1,none⟩) hgs).trans k1;have k2:=(hb.cell (p:=⟨g,2,none⟩) hgs).trans k2;have kc2:=KC1.out.below hb hcs;have y1:=kc2.cell 1;have y2:=kc2.cell 2;have z1:=kc2.frozen 1;have z2:=kc2.frozen 2;simp at y1 y2;have KC2:=Lib.hid kc2;clear kc2;have HW2:=Lib.hid (HW1.out.kept (grown_of_below (row:=none) hb) (by simp));have hx2:=HW2.out.kept (grown_set w2 ⟨c,1,none⟩ (.map (some w1.heap.size))) (by simp;omega);have HW3:=Lib.hid hx2;clear hx2;have HB2:=Lib.hid (HB1.out.trans (hb.mono (by omega)));clear hb)
   | (go_at_call 115;refine (T.out bw fw _ (by exact HW2.out)).mono ?_;rintro e w3 ⟨rfl,hm,hb⟩;have hb:Below w2.heap.size w2 w3:=hb.mono (by simp);have SB:Hid (SMap w3 w2.heap.size fw):=hm;clear hm;have k1:=(hb.cell (p:=⟨g,1,none⟩) hgs2).trans k1;have k2:=(hb.cell (p:=⟨g,2,none⟩) hgs2).trans k2;have hcs3:c<w3.heap.size:=Nat.lt_of_lt_of_le (by simpa using hcs2) hb.size;have hp3:=SB.out.lt;have FA3:=Lib.hid (FA.out.kept (grown_of_below (row:=none) (hb.mono (by simp))) (by simp));have kc3:=KC2.out.below hb hcs2;have y1:=kc3.cell 1;have y2:=kc3.cell 2;have z1:=kc3.frozen 1;have z2:=kc3.frozen 2;simp at y1 y2;have KC3:=Lib.hid kc3;clear kc3;have HB3:=Lib.hid (HB2.out.trans (hb.mono (by omega)));clear hb))
 go_wp2
 go_ret
 have q1:=grown_set w3 ⟨c,1,none⟩ (.map (some w1.heap.size))
 have q2:=grown_set (w3.setCell ⟨c,1,none⟩ (.map (some w1.heap.size))) ⟨c,2,none⟩ (.map (some w2.heap.size))
 obtain ⟨r1,r2,r3,r4,r5⟩:=HP.out
 rw [HCW.out]
 refine ⟨c,w1.heap.size,w2.heap.size,rfl,⟨?_,(FA3.out.kept q1 (by simp;omega)).kept q2 (by simp;omega),(SB.out.kept q1 (by simp;omega)).kept q2 (by simp;omega),by omega,r1,r2,r3,r4,r5⟩,(HB3.out.setCell (Nat.le_refl _) _).setCell (Nat.le_refl _) _,by simp;omega⟩
 exact (KC3.out.set_ 1 _).set_ 2 _
end Go.Proofs.YtplpmemlaohlaaaGreat.Dsk
namespace Go.Proofs.YtplpmemlaohlaaaGreat.Dsk
open Go.RowKit Go.Maps Go.Shelf Mem
set_option linter.unusedVariables false
def Fine (s:St):Prop:=Good s∧∀ i,s.n≤i→s.fw i=none
end Go.Proofs.YtplpmemlaohlaaaGreat.Dsk
namespace Go.Proofs.YtplpmemlaohlaaaGreat.Dsk
open Go.RowKit Go.Maps Go.Shelf Mem
set_option linter.unusedVariables false
set_option linter.unusedSimpArgs false
structure Ac where
 what:Int
 n:Int
 b:List Nat
 short:Bool
 tears:List (Int × List Nat)
def Ac.bytes (a:Ac):List Nat:=if a.short=true then a.b else torn a.b noughts
def St.step (s:St) (a:Ac):St :=
 if a.what=0 then (s.write a.n a.bytes).1 else if a.what=1 then s.flush.1 else if a.what=2 then { s with left:=a.n } else if a.what=3 then s.crash a.tears else s
end Go.Proofs.YtplpmemlaohlaaaGreat.Dsk
namespace Go.Proofs.YtplpmemlaohlaaaGreat.Dsk
open Go.RowKit Go.Maps Go.Shelf Mem
set_option linter.unusedVariables false
set_option linter.unusedSimpArgs false
end Go.Proofs.YtplpmemlaohlaaaGreat.Dsk
namespace Go.Proofs.YtplpmemlaohlaaaGreat.Dsk
open Go.RowKit Go.Maps Go.Shelf Mem
set_option linter.unusedVariables false
set_option linter.unusedSimpArgs false
def ActLens (w:World) (b off i:Nat):Prop :=
 ∃ (Ab:Option Addr) (nb cb:Nat) (At:Option Addr) (nt ct:Nat),w.cell? ⟨b,off+i*5+2,none⟩=some (.slice Ab nb cb)∧w.cell? ⟨b,off+i*5+4,none⟩=some (.slice At nt ct) ∧
  (0<nt→∃ bt ot,At=some ⟨bt,ot,none⟩∧bt<w.heap.size∧∀ k,k<nt→∃ (Au:Option Addr) (nu cu:Nat),w.cell? ⟨bt,ot+k*2+1,none⟩=some (.slice Au nu cu))
def ActFits (w:World) (b off i:Nat):Prop :=
 ∀ (Ab:Option Addr) (nb cb:Nat) (At:Option Addr) (nt ct:Nat),w.cell? ⟨b,off+i*5+2,none⟩=some (.slice Ab nb cb)→w.cell? ⟨b,off+i*5+4,none⟩=some (.slice At nt ct) →
  nb≤600∧nt≤40∧∀ bt ot,At=some ⟨bt,ot,none⟩→∀ k,k<nt→∀ (Au:Option Addr) (nu cu:Nat),w.cell? ⟨bt,ot+k*2+1,none⟩=some (.slice Au nu cu)→nu≤600
set_option maxRecDepth 20000 in
set_option maxHeartbeats 4000000 in
theorem light_any (A:Option Addr) (len cap:Nat) (w:World) (hlen:len≤9223372036854775807) (h:0<len→∃ b off,A=some ⟨b,off,none⟩∧b<w.heap.size∧∀ i,i<len→ActLens w b off i) :
  Calls Tryz.prog 30 #[.slice A len cap] w fun e w'=>∃ t,e=.returned (.bool t)∧w=w'∧(t=true↔len≤40∧∀ b off,A=some ⟨b,off,none⟩→∀ i,i<len→ActFits w b off i):=by
 have H:=Lib.hid h;clear h
 go_enter Tryz.func30,Tryz.ntmps30
 go_wp2
 go_loopw [3] (fun i wr=>(∃ k:Nat,k≤len∧k≤41∧i=.int .i64 k∧∀ b off,A=some ⟨b,off,none⟩→∀ j,j<k→ActFits w b off j)∧wr=w) (fun i _=>len - (intOf i).toNat)
 case atStart=>exact ⟨⟨0,Nat.zero_le _,by omega,rfl,fun _ _ _ j hj=>absurd hj (by omega)⟩,rfl⟩
 case round =>
  obtain ⟨⟨k,hk,hk41,rfl,hfit⟩,rfl⟩:=hrel
  have HF:=Lib.hid hfit;clear hfit
  by_cases hlt:k<len∧k≤40
  ·obtain ⟨h1,h2⟩:=hlt
   obtain ⟨b,off,rfl,hb,hl⟩:=H.out (by omega)
   obtain ⟨Ab,nb,cb,At,nt,ct,c2,c4,ht⟩:=hl k h1
   have HT:=Lib.hid ht;clear ht hl
   have C2:=Lib.hid c2
   have C4:=Lib.hid c4
   by_cases hnb:nb≤600
   ·by_cases hnt:nt≤40
    ·have hd1:decide (600<(nb:Int))=false:=by simp;omega
     have hd2:decide (40<(nt:Int))=false:=by simp;omega
     go_wp2
     go_loopw [4] (fun i wr'=>(∃ q:Nat,q≤nt∧i=.int .i64 q∧∀ bt ot,At=some ⟨bt,ot,none⟩→∀ j,j<q→∀ (Au:Option Addr) (nu cu:Nat),wr.cell? ⟨bt,ot+j*2+1,none⟩=some (.slice Au nu cu)→nu≤600)∧wr'=wr) (fun i _=>nt - (intOf i).toNat)
     case atStart=>exact ⟨⟨0,Nat.zero_le _,rfl,fun _ _ _ j hj=>absurd hj (by omega)⟩,rfl⟩
     case round =>
      obtain ⟨⟨q,hq,rfl,hqf⟩,rfl⟩:=hrel
      have HQ:=Lib.hid hqf;clear hqf
      by_cases hqt:q<nt
      ·obtain ⟨bt,ot,rfl,hbt,hct⟩:=HT.out (by omega)
       obtain ⟨Au,nu,cu,cq⟩:=hct q hqt
       have CQ:=Lib.hid cq
       clear hct
       by_cases hnu:nu≤600
       ·have hd3:decide (600<(nu:Int))=false:=by simp;omega
        go_wp2
        go_roundw
        case rel =>
         refine ⟨⟨q+1,by omega,by go_num,fun bt' ot' e j hj Au' nu' cu' hc=>?_⟩,trivial⟩
         by_cases hjq:j<q
         ·exact HQ.out bt' ot' e j hjq Au' nu' cu' hc
         ·obtain rfl:j=q:=by omega
          injection e with e
          injection e with e1 e2 _
          subst e1 e2
          rw [CQ.out] at hc
          injection hc with hc
          injection hc with _ hc _
          omega
        case measure=>simp [intOf];omega
       ·have hd3:decide (600<(nu:Int))=true:=by simp;omega
        go_wp2
        go_ret
        exact ⟨false,rfl,rfl,fun e=>(by cases e),fun ⟨_,hl⟩=>absurd ((hl b off rfl k h1 _ _ _ _ _ _ C2.out C4.out).2.2 bt ot rfl q hqt _ _ _ CQ.out) hnu⟩
      ·obtain rfl:q=nt:=by omega
       go_wp2
       go_roundw
       case rel =>
        refine ⟨⟨k+1,by omega,by omega,by go_num,fun b' off' e j hj=>?_⟩,trivial⟩
        by_cases hjk:j<k
        ·exact HF.out b' off' e j hjk
        ·obtain rfl:j=k:=by omega
         injection e with e
         injection e with e1 e2 _
         subst e1 e2
         intro Ab' nb' cb' At' nt' ct' h2' h4'
         rw [C2.out] at h2'
         rw [C4.out] at h4'
         injection h2' with h2'
         injection h2' with _ h2'' _
         injection h4' with h4'
         injection h4' with h4a h4b _
         subst h4a h4b
         exact ⟨by omega,by omega,fun bt ot e k hk Au nu cu hc=>HQ.out bt ot e k hk Au nu cu hc⟩
       case measure=>simp [intOf];omega
    ·have hd1:decide (600<(nb:Int))=false:=by simp;omega
     have hd2:decide (40<(nt:Int))=true:=by simp;omega
     go_wp2
     go_ret
     exact ⟨false,rfl,rfl,fun e=>(by cases e),fun ⟨_,hl⟩=>absurd (hl b off rfl k h1 _ _ _ _ _ _ C2.out C4.out).2.1 hnt⟩
   ·have hd1:decide (600<(nb:Int))=true:=by simp;omega
    go_wp2
    go_ret
    exact ⟨false,rfl,rfl,fun e=>(by cases e),fun ⟨_,hl⟩=>absurd (hl b off rfl k h1 _ _ _ _ _ _ C2.out C4.out).1 hnb⟩
  ·by_cases hkl:k<len
   ·have hk40:¬ k≤40:=by omega
    have hd:decide ((len:Int)≤40)=false:=by simp;omega
    clear hlt
    go_wp2
    go_ret
    exact ⟨false,rfl,rfl,fun e=>(by cases e),fun ⟨hl,_⟩=>by omega⟩
   ·obtain rfl:k=len:=by omega
    clear hlt
    by_cases h40:k≤40
    ·have hd:decide ((k:Int)≤40)=true:=by simp;omega
     go_wp2
     go_ret
     exact ⟨true,rfl,rfl,fun _=>⟨h40,fun b off e i hi=>HF.out b off e i hi⟩,fun _=>rfl⟩
    ·have hd:decide ((k:Int)≤40)=false:=by simp;omega
     go_wp2
     go_ret
     exact ⟨false,rfl,rfl,fun e=>(by cases e),fun ⟨hl,_⟩=>absurd hl h40⟩
end Go.Proofs.YtplpmemlaohlaaaGreat.Dsk
namespace Go.Proofs.YtplpmemlaohlaaaGreat.Dsk
open Go.RowKit Go.Maps Go.Shelf Mem
set_option linter.unusedVariables false
set_option linter.unusedSimpArgs false
def TearR (w:World) (j:Nat) (v:Value):Prop:=match j with | 0=>NumOf .i64 v | 1=>RowOf .u8 w v | _=>True
def TearsR (w:World) (v:Value):Prop:=∃ A l c,v=.slice A l c∧IsRecs w A l c 2 (TearR w)
theorem list_of {α:Type} {n:Nat} {P:Nat→α→Prop} (h:∀ i,i<n→∃ x,P i x):∃ l:List α,l.length=n∧∀ i,i<n→∃ x,l[i]?=some x∧P i x:=by
 induction n with
 | zero=>exact ⟨[],rfl,fun i hi=>absurd hi (by omega)⟩
 | succ n ih =>
  obtain ⟨l,hl,hp⟩:=ih (fun i hi=>h i (by omega))
  obtain ⟨x,hx⟩:=h n (by omega)
  refine ⟨l++[x],by simp [hl],fun i hi=>?_⟩
  by_cases e:i<n
  ·obtain ⟨y,h1,h2⟩:=hp i e
   exact ⟨y,by rw [List.getElem?_append_left (by omega)];exact h1,h2⟩
  ·obtain rfl:i=n:=by omega
   exact ⟨x,by rw [List.getElem?_append_right (by omega)];simp [hl],hx⟩
theorem tears_of {w:World} {A:Option Addr} {n c:Nat} (h:IsRecs w A n c 2 (TearR w)) (hn:n≤40)
  (hu:∀ bt ot,A=some ⟨bt,ot,none⟩→∀ k,k<n→∀ (Au:Option Addr) (nu cu:Nat),w.cell? ⟨bt,ot+k*2+1,none⟩=some (.slice Au nu cu)→nu≤600):∃ l,TearsAt w w.heap.size (.slice A n c) l:=by
 by_cases h0:0<n
 ·obtain ⟨b,off,rfl,hb,hc⟩:=rec_at h (by omega) h0
  obtain ⟨l,hl,hp⟩:=list_of (α:=Int × List Nat) (n:=n) (P:=fun i p=>∃ u,w.cell? ⟨b,off+i*2,none⟩=some (.int .i64 p.1)∧w.cell? ⟨b,off+i*2+1,none⟩=some u∧Sl w w.heap.size u p.2∧(Lit.int .i64 p.1).wf=true) (fun i hi=>by
   obtain ⟨v0,c0,k,rfl,wk⟩:=hc i hi 0 (by omega)
   obtain ⟨v1,c1,A1,l1,c1',zs,rfl,w1⟩:=hc i hi 1 (by omega)
   obtain ⟨xs,hs,_⟩:=sl_of_row w1 (Nat.le_trans (hu b off rfl i hi A1 l1 c1' c1) (by omega))
   exact ⟨(k,xs),_,c0,c1,hs,wk⟩)
  exact ⟨l,_,_,_,rfl,hl,by omega,fun _=>⟨b,off,rfl,hb,fun i hi=>by
   obtain ⟨p,h1,u,h2,h3,h4,h5⟩:=hp i hi
   exact ⟨p.1,u,p.2,h1,h2,h3,h4,h5⟩⟩⟩
 ·obtain rfl:n=0:=by omega
  exact ⟨[],_,_,_,rfl,rfl,by omega,fun h=>absurd h (by omega)⟩
theorem recs_len {w:World} {A:Option Addr} {n c m:Nat} {R:Nat→Value→Prop} (h:IsRecs w A n c m R):n≤9223372036854775807:=by
 rcases h with ⟨_,rfl,_⟩ | ⟨x,_,h1,h2,_⟩
 ·omega
 ·unfold maxLen at h2;omega
end Go.Proofs.YtplpmemlaohlaaaGreat.Dsk
namespace Go.Proofs.YtplpmemlaohlaaaGreat.Dsk
open Go.RowKit Go.Maps Go.Shelf Mem
set_option linter.unusedVariables false
theorem nodup_inj {l:List Nat} (h:l.Nodup) {i j x:Nat} (hi:l[i]?=some x) (hj:l[j]?=some x):i=j:=by
 obtain ⟨a1,b1⟩:=List.getElem?_eq_some_iff.1 hi
 obtain ⟨a2,b2⟩:=List.getElem?_eq_some_iff.1 hj
 rcases Nat.lt_trichotomy i j with e | e | e
 ·exact absurd (b1.trans b2.symm) (List.pairwise_iff_getElem.1 h i j a1 a2 e)
 ·exact e
 ·exact absurd (b2.trans b1.symm) (List.pairwise_iff_getElem.1 h j i a2 a1 e)
theorem wt_pre (s:St) (k d:Nat):∃ r,wt s (k+d)=wt s k++r:=by
 induction d with
 | zero=>exact ⟨[],by simp⟩
 | succ d ih =>
  obtain ⟨r,hr⟩:=ih
  rcases h:s.fw (k+d) with _ | x
  ·exact ⟨r,by rw [← Nat.add_assoc,wt_no h,hr]⟩
  ·exact ⟨r++[k+d],by rw [← Nat.add_assoc,wt_yes (by rw [h];rfl),hr,List.append_assoc]⟩
theorem wt_at {s:St} {k:Nat} (h:(s.fw k).isSome=true) (hk:k<s.n):s.waiting[(wt s k).length]?=some k:=by
 obtain ⟨r,hr⟩:=wt_pre s (k+1) (s.n - (k+1))
 have e:k+1+(s.n - (k+1))=s.n:=by omega
 rw [e,wt_yes h,List.append_assoc] at hr
 have hw:s.waiting=wt s s.n:=rfl
 rw [hw,hr,List.getElem?_append_right (by omega)]
 simp
theorem crash_no {s:St} {i:Nat} (h:s.fw i=none) (l:List (Int × List Nat)):(s.crash l).fs i=s.fs i:=by
 refine tears_fs (s.waiting.zip l) i s fun p hp e=>?_
 have hm:p.1∈s.waiting:=(List.of_mem_zip (a:=p.1) (b:=p.2) hp).1
 have:=(List.mem_filter.1 hm).2
 rw [e,h] at this
 cases this
theorem crash_at {s:St} {i:Nat} (h:(s.fw i).isSome=true) (hi:i<s.n) (l:List (Int × List Nat)) (t:Int × List Nat) (ht:l[(wt s i).length]?=some t):(s.crash l).fs i=(s.tear i t.1 t.2).fs i:=by
 have h1:=wt_at h hi
 obtain ⟨k,hk⟩:∃ k,k=(wt s i).length:=⟨_,rfl⟩
 rw [← hk] at h1 ht
 obtain ⟨a1,b1⟩:=List.getElem?_eq_some_iff.1 h1
 have hz:(s.waiting.zip l)[k]?=some (i,t):=by rw [List.getElem?_zip_eq_some];exact ⟨h1,ht⟩
 have hsp:s.waiting.zip l=(s.waiting.zip l).take (k+1)++(s.waiting.zip l).drop (k+1):=(List.take_append_drop _ _).symm
 have e1:(s.tears (s.waiting.zip l)).fs i=(s.tears ((s.waiting.zip l).take (k+1))).fs i:=by
  rw [show s.tears (s.waiting.zip l)=(s.tears ((s.waiting.zip l).take (k+1))).tears ((s.waiting.zip l).drop (k+1)) by
   conv=>lhs;rw [hsp]
   exact List.foldl_append]
  refine tears_fs _ i _ fun p hp e=>?_
  obtain ⟨j,hj⟩:=List.getElem?_of_mem hp
  rw [List.getElem?_drop,List.getElem?_zip_eq_some] at hj
  have h2:=hj.1
  rw [e] at h2
  obtain ⟨a2,b2⟩:=List.getElem?_eq_some_iff.1 h2
  have:=nodup_inj (waiting_nodup s) h1 h2
  omega
 have e2:=tears_step s (s.waiting.zip l) k (i,t) hz
 have e3:=tears_at s l k a1
 have e4:s.waiting.getD k 0=i:=by simp [List.getD,h1]
 rw [e4] at e3
 have e5:=(tears_same ((s.waiting.zip l).take k) s).2
 show (s.tears (s.waiting.zip l)).fs i=_
 rw [e1,e2]
 unfold St.tear
 split
 ·simp [upd1,e5]
 ·split
  ·simp [upd1,e3]
  ·exact e3
theorem tear_one (s:St) (i:Nat) (b:List Nat):(s.tear i 1 b).fs i=some ((s.fw i).getD noughts):=by simp [St.tear,upd1]
end Go.Proofs.YtplpmemlaohlaaaGreat.Dsk
namespace Go.Proofs.YtplpmemlaohlaaaGreat.Dsk
open Go.RowKit Go.Maps Mem
set_option linter.unusedVariables false
set_option linter.unusedSimpArgs false
def KeepRow (w:World) (S:List Nat) (v:Value) (n:Nat):Prop :=
 ∃ (A:Option Addr) (c:Nat),v=.slice A n c∧n≤1000000∧(0<n→∃ b off,A=some ⟨b,off,none⟩∧b<w.heap.size∧b ∉ S ∧
  ∀ i,i<n→w.cell? ⟨b,off+i*2,none⟩=some (.int .i64 1)∧w.cell? ⟨b,off+i*2+1,none⟩=some (.slice none 0 0))
theorem KeepRow.kept {w w':World} {S T:List Nat} {v:Value} {n:Nat} (h:KeepRow w S v n) (hk:KeptBut w w' T) (hT:∀ x∈T,x∈S):KeepRow w' S v n:=by
 obtain ⟨A,c,rfl,hn,h⟩:=h
 refine ⟨A,c,rfl,hn,fun h0=>?_⟩
 obtain ⟨b,off,e,h1,h2,h3⟩:=h h0
 exact ⟨b,off,e,Nat.lt_of_lt_of_le h1 hk.size,h2,fun i hi=>⟨(hk.cell (p:=⟨b,off+i*2,none⟩) h1 (fun hm=>h2 (hT _ hm))).trans (h3 i hi).1,(hk.cell (p:=⟨b,off+i*2+1,none⟩) h1 (fun hm=>h2 (hT _ hm))).trans (h3 i hi).2⟩⟩
theorem KeepRow.less {w:World} {S T:List Nat} {v:Value} {n:Nat} (h:KeepRow w S v n) (hT:∀ x∈T,x∈S):KeepRow w T v n:=by
 obtain ⟨A,c,rfl,hn,h⟩:=h
 refine ⟨A,c,rfl,hn,fun h0=>?_⟩
 obtain ⟨b,off,e,h1,h2,h3⟩:=h h0
 exact ⟨b,off,e,h1,fun hm=>h2 (hT _ hm),h3⟩
set_option maxRecDepth 20000 in
set_option maxHeartbeats 4000000 in
theorem crash_kept (g bs bw n:Nat) (s:St) (v:Value) (w:World) (h:DiskAt w g bs bw s) (hv:KeepRow w [g,bs,bw] v n) :
  Calls Tryz.prog 18 #[ptr g,v] w fun e w'=>e=.returned (.tuple #[])∧DiskAt w' g bs bw (s.crash (List.replicate n (1,[])))∧KeptBut w w' [g,bs,bw]:=by
 have hl:(List.replicate n ((1:Int),([]:List Nat))).length=n:=List.length_replicate
 have hlr:∀ k,k<n→(List.replicate n ((1:Int),([]:List Nat)))[k]?=some (1,[]):=fun k hk=>by rw [List.getElem?_replicate,if_pos hk]
 generalize List.replicate n ((1:Int),([]:List Nat))=l at *
 have HLR:=Lib.hid hlr;clear hlr
 have c1:=isNone_no g bs bw s w h
 have c2:=waits_any g bs bw s w h
 have C1:=Lib.hid c1;clear c1
 have C2:=Lib.hid c2;clear c2
 have hlt:=h.lt
 have hw1024:=h.2.2.2.2.2.1
 obtain ⟨A,c,rfl,hn,hcell⟩:=hv
 have hws:s.waiting.length≤1024:=by
  unfold St.waiting
  have:=List.length_filter_le (fun i=>(s.fw i).isSome) (List.range s.n)
  rw [List.length_range] at this
  omega
 obtain ⟨m,hm⟩:∃ m,m=s.waiting.length:=⟨_,rfl⟩
 rw [← hm] at hws C2
 have HH:=Lib.hid h;clear h
 have HM:=Lib.hid hm;clear hm
 have HC:=Lib.hid hcell;clear hcell
 have HL:=Lib.hid hl;clear hl
 go_enter Tryz.func18,Tryz.ntmps18
 go_wp2_with (first
  | (go_at_call 44;refine (C1.out).mono ?_;rintro e w' ⟨rfl,rfl⟩)
  | (go_at_call 45;refine (C2.out).mono ?_;rintro e w1 ⟨v1,rfl,hrow,hb1⟩;obtain ⟨A1,c1,rfl,hc1⟩:=own_ints hrow HM.out.symm;have HROW:=Lib.hid hrow;clear hrow;have HC1:=Lib.hid hc1;clear hc1;have HD1:=Lib.hid (HH.out.below hb1);have HB1:=Lib.hid hb1;clear hb1))
 obtain ⟨K,hK⟩:∃ K:Nat,K=min m n:=⟨_,rfl⟩
 have e:min (m:Int) (n:Int)=(K:Int):=by omega
 rw [e]
 have hKm:K≤m:=by omega
 have hKn:K≤n:=by omega
 have HKE:=Lib.hid hK;clear hK e
 go_loopw [15] (fun i wr=>∃ k:Nat,k≤K∧i=.int .i64 k∧DiskAt wr g bs bw (s.tears ((s.waiting.zip l).take k))∧KeptBut w1 wr [g,bs,bw]) (fun i _=>K - (intOf i).toNat)
 case atStart=>exact ⟨0,Nat.zero_le _,rfl,HD1.out,KeptBut.refl _ _⟩
 case round =>
  obtain ⟨k,hk,rfl,hd,hkept⟩:=hrel
  have HD:=Lib.hid hd;clear hd
  have HKP:=Lib.hid hkept;clear hkept
  clear hlt
  by_cases hlt:k<K
  ·have hkm:k<m:=by omega
   have hkn:k<n:=by omega
   obtain ⟨b1,rfl,hb1,hb2,hcell1⟩:=HC1.out (by omega)
   obtain ⟨b0,o0,rfl,hb0,hb0n,hcell0⟩:=HC.out (by omega)
   obtain ⟨g0,g1⟩:=hcell0 k hkn
   have hb01:b0<w1.heap.size:=Nat.lt_of_lt_of_le hb0 HB1.out.size
   have g0':=(HKP.out.cell (p:=⟨b0,o0+k*2,none⟩) hb01 hb0n).trans ((HB1.out.cell (p:=⟨b0,o0+k*2,none⟩) hb0).trans g0)
   have g1':=(HKP.out.cell (p:=⟨b0,o0+k*2+1,none⟩) hb01 hb0n).trans ((HB1.out.cell (p:=⟨b0,o0+k*2+1,none⟩) hb0).trans g1)
   have hlk:=HLR.out k hkn
   have g2:=(HKP.out.cell (p:=⟨b1,k,none⟩) hb2 (by have:=HH.out.lt;simp;omega)).trans (hcell1 k hkm)
   have hsl2:Hid (Sl wr wr.heap.size (.slice none 0 0) []):=Lib.hid (sl_nil _ _)
   have hz:=Lib.hid (zip_at (ws:=s.waiting) (by rw [← HM.out];exact hkm) hlk)
   have hi:=waiting_lt s _ (getD_mem (ws:=s.waiting) (k:=k) (by rw [← HM.out];exact hkm))
   have hbw:b0<wr.heap.size:=Nat.lt_of_lt_of_le hb01 HKP.out.size
   have hbw1:b1<wr.heap.size:=Nat.lt_of_lt_of_le hb2 HKP.out.size
   generalize s.waiting.getD k 0=i at *
   have t1:=tear_any g bs bw _ i 1 (.slice none 0 0) [] wr.drew HD.out.drew (by omega) hsl2.out.drew
   have T1:=Lib.hid t1;clear t1
   clear hcell0 hcell1 g0 g1 hlk hb01 hb0 hb0n
   go_wp2
   go_still_tail 9,(by kernel_rfl)
   change wpList _ _ _ _ _ wr.drew
   go_wp2_with (go_at_call 46;refine (T1.out).mono ?_;rintro e w2 ⟨rfl,hD2,hK2⟩;have HD2:=Lib.hid hD2;clear hD2;have HK2:=Lib.hid hK2;clear hK2)
   go_roundw
   case rel=>exact ⟨k+1,by omega,by go_num,by rw [tears_step s _ k _ hz.out];exact HD2.out,(HKP.out.trans kept_drew).trans HK2.out⟩
   case measure=>simp [intOf];omega
  ·have hkK:k=K:=by omega
   subst hkK
   have hfull:(s.waiting.zip l).take k=s.waiting.zip l:=List.take_of_length_le (by rw [List.length_zip,← HM.out,HL.out,HKE.out];exact Nat.le_refl _)
   rw [hfull] at HD
   clear hfull
   have k2:=HD.out.c2
   have hglt:=HD.out.1.lt
   go_wp2_with (refine wpList_clear_sec _ rfl (.tmp 32) rfl bw (s.tears (s.waiting.zip l)).fw rfl HD.out.2.2.1 ?_;intro w4 hm5 hg5;have hD5:=disk_crashed HD.out hm5.out hg5;have k3:=hD5.c3;have k4:=hD5.c4;have f3:=hD5.1.frozen 3;have f4:=hD5.1.frozen 4;have hglt5:=hD5.1.lt;have HD5:=Lib.hid hD5;clear hD5;have HG5:=Lib.hid hg5;clear hg5 hm5)
   go_end0
   obtain ⟨e1,e2⟩:=tears_same (s.waiting.zip l) s
   refine ⟨rfl,?_,?_⟩
   ·refine disk_set (s:={ s.tears (s.waiting.zip l) with fw:=fun _=>none,dead:=false }) (disk_set HD5.out 4 _ rfl rfl rfl rfl ?_ ?_) 3 _ rfl rfl rfl rfl ?_ ?_
    ·exact HD.out.2.2.2.2.2.2.1
    ·exact HD.out.2.2.2.2.2.2.2.1
    ·simp [St.crash]
    ·simp [St.crash]
   ·refine ((((kept_of_below HB1.out (Nat.le_refl _)).trans HKP.out).trans (kept_of_grown HG5.out (by simp))).trans (kept_of_grown (grown_set w4 ⟨g,4,none⟩ _) (by simp))).trans (kept_of_grown (grown_set _ ⟨g,3,none⟩ _) (by simp))
end Go.Proofs.YtplpmemlaohlaaaGreat.Dsk
