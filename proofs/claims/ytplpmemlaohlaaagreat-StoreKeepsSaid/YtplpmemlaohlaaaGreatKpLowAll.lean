/- LowAll: the texts Pure, Open, Bytes, Recs, OwnN, Reader, Put, Plain, Walks, In, Seal, CrcSame, Same, Zeros, Ref in one. (Printed by tools/mergeall.py.) -/
import Derived.Test.YtplpmemlaohlaaaGreatKpMem
import Derived.Test.YtplpmemlaohlaaaGreatRows
import Derived.Below
import Derived.BigQuiet
import Derived.ChangeSame
import Derived.Deep.Fields
import Derived.Deep.QuietTactic
import Derived.Deep.RegionWith
import Derived.Deep.Slices
import Derived.Laws.AppendOwnNone
import Derived.Laws.IdiomArrays
import Derived.Lib.AppendZerosOnto
import Derived.Lib.Hide
import Derived.Lib.SmallJoins
import Derived.LoopTactic
import Derived.Maps.AppendAt
import Derived.OpenShut
import Derived.RowKit
import Derived.Shelf.Bytes.SlSmallAll
import Derived.WalkKit
import Derived.WalkLawsBesides
import Derived.WalkSmall
import Derived.WalkSpells
import Init
namespace Go.Proofs.YtplpmemlaohlaaaGreat.Oct
def be:Nat→Nat→List Nat
 | 0,_=>[]
 | k+1,n=>(n / 256 ^ k % 256)::be k n
theorem be_length (k n:Nat):(be k n).length=k:=by
 induction k with
 | zero=>rfl
 | succ k ih=>simp [be,ih]
theorem be_lt (k n:Nat):∀ x∈be k n,x<256:=by
 induction k with
 | zero=>simp [be]
 | succ k ih =>
  intro x hx
  simp only [be,List.mem_cons] at hx
  rcases hx with rfl | hx
  ·exact Nat.mod_lt _ (by decide)
  ·exact ih x hx
def num (xs:List Nat):Nat:=xs.foldl (fun n b=>n*256+b) 0
theorem num_take_succ (xs:List Nat) (j:Nat) (h:j<xs.length):num (xs.take (j+1))=num (xs.take j)*256+xs.getD j 0:=by
 rw [List.take_succ_eq_append_getElem h]
 unfold num
 rw [List.foldl_append]
 simp [List.getD,List.getElem?_eq_getElem h]
theorem num_lt (xs:List Nat) (h:∀ x∈xs,x<256):num xs<256 ^ xs.length:=by
 have aux:∀ (ys:List Nat) (a k:Nat),(∀ x∈ys,x<256)→a<256 ^ k→ys.foldl (fun n b=>n*256+b) a<256 ^ (k+ys.length):=by
  intro ys
  induction ys with
  | nil=>intro a k _ ha;simpa using ha
  | cons y ys ih =>
   intro a k hy ha
   have h1:y<256:=hy y (by simp)
   have h2:=ih (a*256+y) (k+1) (fun x hx=>hy x (by simp [hx])) (by rw [Nat.pow_succ];omega)
   simp only [List.foldl_cons,List.length_cons]
   rw [show k+(ys.length+1)=k+1+ys.length by omega]
   exact h2
 have:=aux xs 0 0 h (by simp)
 simpa [num] using this
theorem num_be (k n:Nat):num (be k n)=n % 256 ^ k:=by
 have aux:∀ (k a:Nat),(be k n).foldl (fun n b=>n*256+b) a=a*256 ^ k+n % 256 ^ k:=by
  intro k
  induction k with
  | zero=>intro a;simp [be,Nat.mod_one]
  | succ k ih =>
   intro a
   simp only [be,List.foldl_cons]
   rw [ih]
   have h:=Nat.mod_mul_right_div_self n (256 ^ k) 256
   have h2:=Nat.mod_mul (x:=n) (a:=256 ^ k) (b:=256)
   rw [Nat.pow_succ,h2,Nat.add_mul,Nat.mul_assoc,Nat.mul_comm 256 (256 ^ k),Nat.mul_comm (n / 256 ^ k % 256)]
   omega
 have:=aux k 0
 simpa [num] using this
def isW (k:Int):Bool:=decide (1≤k) && decide (k≤8)
theorem isW_nat {k:Int} (h:isW k=true):∃ m:Nat,k=(m:Int)∧1≤m∧m≤8:=by
 simp only [isW,Bool.and_eq_true,decide_eq_true_eq] at h
 exact ⟨k.toNat,by omega,by omega,by omega⟩
theorem isW_of {m:Nat} (h1:1≤m) (h8:m≤8):isW (m:Int)=true:=by
 simp only [isW,Bool.and_eq_true,decide_eq_true_eq];omega
def putNum (xs:List Nat) (k:Int) (n:Nat):List Nat:=if isW k=true then xs++be k.toNat n else xs
theorem putNum_lt {xs:List Nat} (h:∀ x∈xs,x<256) (k:Int) (n:Nat):∀ x∈putNum xs k n,x<256:=by
 unfold putNum
 split
 ·intro x hx
  rcases List.mem_append.1 hx with hx | hx
  ·exact h x hx
  ·exact be_lt _ _ x hx
 ·exact h
abbrev St:=List Nat × Bool
def rnum (st:St) (k:Int):St × Nat:=if (st.2 && isW k && decide (k.toNat≤st.1.length))=true then ((st.1.drop k.toNat,true),num (st.1.take k.toNat)) else ((st.1,false),0)
def rtext (st:St):St × List Nat :=
 if (rnum st 2).1.2=true∧(rnum st 2).2≤(rnum st 2).1.1.length then (((rnum st 2).1.1.drop (rnum st 2).2,true),(rnum st 2).1.1.take (rnum st 2).2) else ((st.1,false),[])
theorem be_two (n:Nat) (h:n<65536):be 2 n=[n / 256,n % 256]:=by
 simp [be]
 omega
end Go.Proofs.YtplpmemlaohlaaaGreat.Oct
namespace Go.Proofs.YtplpmemlaohlaaaGreat.Mem
open Go.RowKit
set_option linter.unusedVariables false
section
open Go.ChangeShapes Go.WideShapes Go.ChangeAt Go.Joins
variable {H:Type} {enc:TypeId × Value→H} {P:Program} {w:World} {base:Nat} {spare:Nat→Bool} {held:Bool} {fuel:Nat} {v:Value} {y:DataW H × List MemPlace}
theorem open_num_at {t:TypeId} {k:IntKind} (ht:P.underlying t=some (.int k)) (h:DataW.trod enc P w base spare held fuel t [v]=some y):∃ n,v=.int k n∧(Lit.int k n).wf=true:=by
 obtain ⟨n,hcs,_,hw⟩:=DataW.trod_int ht h
 simp at hcs
 exact ⟨n,hcs,hw⟩
end
end Go.Proofs.YtplpmemlaohlaaaGreat.Mem
namespace Go.Proofs.YtplpmemlaohlaaaGreat.Mem
open Go.RowKit
set_option linter.unusedVariables false
def Bts (w:World) (B:Nat) (A:Option Addr) (n:Nat) (xs:List Nat):Prop :=
 xs.length=n∧(∀ x∈xs,x<256)∧n≤1000000∧(0<n→∃ b off,A=some ⟨b,off,none⟩∧b<B∧∀ i,i<n→w.cell? ⟨b,off+i,none⟩=some (.int .u8 (xs.getD i 0:Nat)))
theorem bts_row {w:World} {B g n:Nat} {xs:List Nat} (hg:g<B) (hx:∀ x∈xs,x<256) (hn:n≤1000000) (hl:xs.length=n)
  (hc:∀ i,i<n→w.cell? ⟨g,i,none⟩=some (.int .u8 (xs.getD i 0:Nat))):Bts w B (some ⟨g,0,none⟩) n xs :=
 ⟨hl,hx,hn,fun _=>⟨g,0,rfl,hg,fun i hi=>by rw [Nat.zero_add];exact hc i hi⟩⟩
theorem getD_lt {a:List Nat} (h:∀ x∈a,x<256) (i:Nat):a.getD i 0<256:=by
 rcases Nat.lt_or_ge i a.length with hl | hl
 ·simp only [List.getD,List.getElem?_eq_getElem hl,Option.getD_some];exact h _ (List.getElem_mem hl)
 ·simp [List.getD,List.getElem?_eq_none hl]
theorem take_lt {xs:List Nat} (h:∀ x∈xs,x<256) (j:Nat):∀ x∈xs.take j,x<256:=fun x hx=>h x (List.mem_of_mem_take hx)
theorem ret_bool {a b:Bool} (h:a=b):Ending.returned (.bool a)=.returned (.bool b):=by rw [h]
theorem ret_int {k:IntKind} {a b:Int} (h:a=b):Ending.returned (.int k a)=.returned (.int k b):=by rw [h]
theorem val_int {k:IntKind} {a b:Int} (h:a=b):Value.int k a=.int k b:=by rw [h]
def IsRow (k:IntKind) (w:World) (a:Option Addr) (len cap:Nat) (zs:List Int):Prop :=
 (a=none∧len=0∧cap=0∧zs=[]) ∨
 ∃ x,a=some x∧len≤cap∧cap≤maxLen∧zs.length=cap∧(∀ i,i<zs.length→w.cell? (x.add i)=some (.int k (zs.getD i 0)))∧∀ n∈zs,(Lit.int k n).wf=true
def natsOf (zs:List Int) (n:Nat):List Nat:=(zs.take n).map Int.toNat
theorem natsOf_getD (zs:List Int) (n i:Nat) (hi:i<n) (hz:n≤zs.length) (h0:0≤zs.getD i 0):(((natsOf zs n).getD i 0:Nat):Int)=zs.getD i 0:=by
 have hl:i<zs.length:=by omega
 have e:zs.getD i 0=zs[i]:=by simp [List.getD,List.getElem?_eq_getElem hl]
 rw [e] at h0 ⊢
 simp only [natsOf,List.getD,List.getElem?_map,List.getElem?_take,if_pos hi,List.getElem?_eq_getElem hl,Option.map_some,Option.getD_some]
 exact Int.toNat_of_nonneg h0
theorem bts_of_row {w:World} {a:Option Addr} {len cap:Nat} {zs:List Int} (h:IsRow .u8 w a len cap zs) (hl:len≤1000000) :
  ∃ xs,Bts w w.heap.size a len xs∧len≤cap∧cap≤maxLen:=by
 rcases h with ⟨rfl,rfl,rfl,rfl⟩ | ⟨x,rfl,hlc,hm,hz,hcell,hwz⟩
 ·exact ⟨[],⟨rfl,by simp,by omega,fun h=>absurd h (by omega)⟩,by omega,by unfold maxLen;omega⟩
 ·have hr:=Go.range_u8 hwz
  refine ⟨natsOf zs len,⟨by simp [natsOf];omega,?_,hl,fun h0=>?_⟩,hlc,hm⟩
  ·intro y hy
   simp only [natsOf,List.mem_map] at hy
   obtain ⟨n,hn,rfl⟩:=hy
   have:=Go.bounds_u8 (hwz n (List.mem_of_mem_take hn))
   omega
  ·obtain ⟨b,off,spot⟩:=x
   have h1:=hcell 0 (by omega)
   have hs:spot=none:=by simpa [Addr.add] using World.cell?_spot h1
   subst hs
   have hb:b<w.heap.size:=by
    have:=block_lt_of_cell h1
    simpa [Addr.add] using this
   refine ⟨b,off,rfl,hb,fun i hi=>?_⟩
   have hc:=hcell i (by omega)
   have ea:(⟨b,off,none⟩:Addr).add i=⟨b,off+i,none⟩:=by
    unfold Addr.add
    split
    ·rename_i h;subst h;rfl
    ·rfl
   rw [ea] at hc
   rw [hc,natsOf_getD zs len i hi (by omega) (hr i).1]
theorem Bts.keep {w w':World} {B n:Nat} {A:Option Addr} {xs:List Nat} (h:Bts w B A n xs) (hk:∀ p:Addr,p.block<B→w'.cell? p=w.cell? p):Bts w' B A n xs :=
 ⟨h.1,h.2.1,h.2.2.1,fun h0=>by
  obtain ⟨b,off,e,hb,hc⟩:=h.2.2.2 h0
  exact ⟨b,off,e,hb,fun i hi=>(hk ⟨b,off+i,none⟩ hb).trans (hc i hi)⟩⟩
theorem Bts.more {w:World} {B B' n:Nat} {A:Option Addr} {xs:List Nat} (h:Bts w B A n xs) (hB:B≤B'):Bts w B' A n xs :=
 ⟨h.1,h.2.1,h.2.2.1,fun h0=>by
  obtain ⟨b,off,e,hb,hc⟩:=h.2.2.2 h0
  exact ⟨b,off,e,by omega,hc⟩⟩
theorem Bts.drew {w:World} {B n:Nat} {A:Option Addr} {xs:List Nat} (h:Bts w B A n xs):Bts w.drew B A n xs:=h
theorem Bts.alloc {w:World} {B n:Nat} {A:Option Addr} {xs:List Nat} (h:Bts w B A n xs) (hB:B≤w.heap.size) (o:Obj):Bts (w.alloc o) B A n xs :=
 h.keep fun p hp=>World.cell?_alloc_lt w o p (by omega)
theorem Bts.below {w w':World} {B B' n:Nat} {A:Option Addr} {xs:List Nat} (h:Bts w B A n xs) (hb:Below B' w w') (hB:B≤B'):Bts w' B A n xs :=
 h.keep fun p hp=>hb.cell (by omega)
def vals (xs:List Nat):List Value:=xs.map fun (x:Nat)=>Value.int .u8 (x:Int)
theorem vals_length (xs:List Nat):(vals xs).length=xs.length:=by simp [vals]
theorem vals_one (xs:List Nat):∀ u∈vals xs,u.oneCell'=true:=by
 intro u hu
 simp only [vals,List.mem_map] at hu
 obtain ⟨x,_,rfl⟩:=hu
 rfl
theorem vals_append (xs ys:List Nat):vals (xs++ys)=vals xs++vals ys:=by simp [vals]
theorem vals_at {xs:List Nat} {j:Nat} {u:Value} (h:(vals xs)[j]?=some u):j<xs.length∧u=.int .u8 (xs.getD j 0:Nat):=by
 have hl:j<xs.length:=by
  have:=(List.getElem?_eq_some_iff.1 h).1
  rwa [vals_length] at this
 refine ⟨hl,?_⟩
 simp only [vals,List.getElem?_map,List.getElem?_eq_getElem hl,Option.map_some,Option.some.injEq] at h
 rw [← h]
 simp [List.getD,List.getElem?_eq_getElem hl]
theorem vals_get (xs:List Nat) (j:Nat) (h:j<xs.length):(vals xs)[j]?=some (.int .u8 (xs.getD j 0:Nat)):=by
 simp [vals,List.getD,List.getElem?_eq_getElem h]
theorem bts_cells {w:World} {B n:Nat} {ad:Addr} {xs:List Nat} (h:Bts w B (some ad) n xs):∀ j u,(vals xs)[j]?=some u→w.cell? (ad.add j)=some u:=by
 intro j u hu
 obtain ⟨hl,rfl⟩:=vals_at hu
 have hn:=h.1
 obtain ⟨b,off,e,_,hc⟩:=h.2.2.2 (by omega)
 injection e with e
 subst e
 rw [← hc j (by omega)]
 congr 1
 unfold Addr.add
 split
 ·rename_i h0;subst h0;rfl
 ·rfl
theorem Tryz.info5:(Tryz.prog.info? 5).map (fun i=>(i.zero,i.size,i.bytes))=some (some (.int .u8 0),1,1):=by kernel_rfl
theorem add_plain (b off j:Nat):(⟨b,off,none⟩:Addr).add j=⟨b,off+j,none⟩:=by
 unfold Addr.add
 split
 ·rename_i h0;subst h0;rfl
 ·rfl
theorem bts_sliced {w:World} {B n cap:Nat} {A:Option Addr} {xs:List Nat} (h:Bts w B A n xs) (i k:Nat) (hik:i≤k) (hk:k≤n) (hc:n≤cap) :
  ∃ A',sliced A i k cap 1=.slice A' (k - i) (cap - i)∧Bts w B A' (k - i) ((xs.drop i).take (k - i)):=by
 refine ⟨_,rfl,?_⟩
 obtain ⟨hl,hx,hn,hA⟩:=h
 refine ⟨by simp;omega,fun x hxx=>hx x (List.mem_of_mem_drop (List.mem_of_mem_take hxx)),by omega,fun h0=>?_⟩
 obtain ⟨b,off,rfl,hb,hcell⟩:=hA (by omega)
 rw [if_neg (by omega)]
 refine ⟨b,off+i,by simp [add_plain],hb,fun j hj=>?_⟩
 rw [Nat.add_assoc,hcell (i+j) (by omega)]
 have:((xs.drop i).take (k - i)).getD j 0=xs.getD (i+j) 0:=by simp [List.getD,List.getElem?_drop,hj]
 rw [this]
theorem size1 (w:World):(sizeOf (Tryz.prog.elem 74)).run Tryz.prog w=.ok 1 w:=by kernel_rfl
theorem under22:Tryz.prog.underlying 74=some (.slice (Tryz.prog.elem 74)):=by kernel_rfl
theorem cut_l {w:World} {B n cap:Nat} {A:Option Addr} {xs:List Nat} (h:Bts w B A n xs) (i:Nat) (hi:i≤n) (hc:n≤cap) :
  ∃ A',(∀ W,(Instr.slice 74 (.slice A n cap) (some (.int .i64 i)) none none).run Tryz.prog W=.ok (.slice A' (n - i) (cap - i)) W)∧Bts w B A' (n - i) (xs.drop i):=by
 obtain ⟨A',e,hb⟩:=bts_sliced h i n hi (Nat.le_refl _) hc
 rw [List.take_of_length_le (by rw [List.length_drop,h.1];exact Nat.le_refl _)] at hb
 refine ⟨A',fun W=>?_,hb⟩
 rw [run_slice_l W _ A n cap under22 .i64 i (by omega) (by omega),size1]
 simp only [Result.andThen,Int.toNat_natCast,e]
theorem Bts.take {w:World} {B n k:Nat} {A:Option Addr} {xs:List Nat} (h:Bts w B A n xs) (hk:k≤n):Bts w B A k (xs.take k):=by
 obtain ⟨hl,hx,hn,hA⟩:=h
 refine ⟨by simp;omega,take_lt hx k,by omega,fun h0=>?_⟩
 obtain ⟨b,off,e,hb,hc⟩:=hA (by omega)
 refine ⟨b,off,e,hb,fun i hi=>?_⟩
 rw [hc i (by omega)]
 have:(xs.take k).getD i 0=xs.getD i 0:=by simp [List.getD,hi]
 rw [this]
theorem bts_nil (w:World) (B:Nat) (A:Option Addr):Bts w B A 0 []:=⟨rfl,by simp,by omega,fun h=>absurd h (by omega)⟩
theorem Bts.grown {w w':World} {B n:Nat} {A:Option Addr} {xs:List Nat} {row:Option Nat} (h:Bts w B A n xs) (hg:w.grownBy w' row) (hB:B≤w.heap.size) (hr:∀ g,row=some g→B≤g):Bts w' B A n xs :=
 h.keep fun p hp=>World.cell?_of_block (hg.block p.block (by omega) (fun e=>by have:=hr _ e.symm;omega))
theorem Bts.drewN {w:World} {B n:Nat} {A:Option Addr} {xs:List Nat} (h:Bts w B A n xs) (m:Nat):Bts (w.drewN m) B A n xs:=h
theorem Bts.reads {w:World} {B n:Nat} {A:Option Addr} {xs:List Nat} (h:Bts w B A n xs):Reads w B 1 A n (vals xs):=by
 refine ⟨by rw [vals_length,h.1,Nat.mul_one],fun hn=>?_⟩
 obtain ⟨b,off,rfl,hb,_⟩:=h.2.2.2 hn
 exact ⟨_,rfl,hb,bts_cells h⟩
theorem row_none {k:IntKind} {w:World} {a:Option Addr} {len cap:Nat} {zs:List Int} (h:IsRow k w a len cap zs):a=none→cap=0:=by
 intro e
 rcases h with ⟨_,_,h,_⟩ | ⟨x,h,_⟩
 ·exact h
 ·rw [h] at e;cases e
section
open Go.ChangeShapes Go.WideShapes Go.ChangeAt
variable {H:Type} {enc:TypeId × Value→H} {P:Program} {w:World} {base:Nat} {spare:Nat→Bool} {held:Bool} {fuel:Nat} {v:Value} {y:DataW H × List MemPlace}
theorem open_row_at {t e:TypeId} {k:IntKind} (ht:P.underlying t=some (.slice e)) (he:P.underlying e=some (.int k)) (hc:P.cellsOf e=1) (h:DataW.trod enc P w base (fun _=>true) held fuel t [v]=some y) :
  ∃ A len cap zs,v=.slice A len cap∧IsRow k w A len cap zs:=by
 rcases open_ints ht he hc h with ⟨hcs,_⟩ | ⟨x,l,c,zs,hcs,_,hl,hm,hz,_,hcell,hwz⟩
 ·simp at hcs
  subst hcs
  exact ⟨none,0,0,[],rfl,.inl ⟨rfl,rfl,rfl,rfl⟩⟩
 ·simp at hcs
  subst hcs
  exact ⟨some x,l,c,zs,rfl,.inr ⟨x,rfl,hl,hm,by simpa using hz,hcell,hwz⟩⟩
end
def Sl (w:World) (B:Nat) (v:Value) (xs:List Nat):Prop :=
 ∃ (A:Option Addr) (n c:Nat),v=.slice A n c∧Bts w B A n xs∧n≤c∧c≤maxLen∧(A=none→c=0)
section
variable {w w':World} {B B':Nat} {v:Value} {xs:List Nat}
theorem Sl.keep (h:Sl w B v xs) (hk:∀ p:Addr,p.block<B→w'.cell? p=w.cell? p):Sl w' B v xs:=by
 obtain ⟨A,n,c,rfl,hb,h1⟩:=h
 exact ⟨A,n,c,rfl,hb.keep hk,h1⟩
theorem Sl.more (h:Sl w B v xs) (hB:B≤B'):Sl w B' v xs:=by
 obtain ⟨A,n,c,rfl,hb,h1⟩:=h
 exact ⟨A,n,c,rfl,hb.more hB,h1⟩
theorem Sl.below (h:Sl w B v xs) (hb:Below B' w w') (hB:B≤B'):Sl w' B v xs:=h.keep fun p hp=>hb.cell (by omega)
theorem Sl.drew (h:Sl w B v xs):Sl w.drew B v xs:=h
theorem Sl.lt (h:Sl w B v xs):∀ x∈xs,x<256:=by
 obtain ⟨A,n,c,rfl,hb,h1⟩:=h
 exact hb.2.1
theorem sl_nil (w:World) (B:Nat):Sl w B (.slice none 0 0) []:=⟨none,0,0,rfl,bts_nil _ _ _,Nat.le_refl _,by unfold maxLen;omega,fun _=>rfl⟩
theorem sl_own {base n:Nat} (h:w.ownsRow base 5 1 v n (vals xs)) (hx:∀ x∈xs,x<256) (hn:n≤1000000):Sl w w.heap.size v xs:=by
 have hl:xs.length=n:=by have:=h.1;rw [vals_length] at this;omega
 rcases h.2 with ⟨rfl,rfl⟩ | ⟨g,cap,cur,rfl,hg,hh,hnc,hm,hs,ht⟩
 ·exact ⟨none,0,0,rfl,⟨hl,hx,hn,fun h0=>absurd h0 (by omega)⟩,by omega,by unfold maxLen;omega,fun _=>rfl⟩
 ·have hlt:g<w.heap.size:=(h.lt g rfl).2
  exact ⟨_,n,cap,rfl,bts_row hlt hx hn hl fun i hi=>by rw [h.cellAt i (by omega),vals_get xs i (by omega)],hnc,hm,fun e=>by cases e⟩
theorem sl_of_row {a:Option Addr} {len cap:Nat} {zs:List Int} (h:IsRow .u8 w a len cap zs) (hl:len≤1000000):∃ xs,Sl w w.heap.size (.slice a len cap) xs∧xs.length=len:=by
 obtain ⟨xs,hb,h1,h2⟩:=bts_of_row h hl
 exact ⟨xs,⟨a,len,cap,rfl,hb,h1,h2,row_none h⟩,hb.1⟩
end
end Go.Proofs.YtplpmemlaohlaaaGreat.Mem
namespace Go.Proofs.YtplpmemlaohlaaaGreat.Mem
open Go.RowKit
section
open Go.ChangeShapes Go.WideShapes Go.Deep
variable {H:Type} {enc:TypeId × Value→H} {P:Program} {w:World} {base:Nat} {spare:Nat→Bool} {held:Bool}
theorem open_slice_fields {t e:TypeId} {fs:Array Field} {fuel:Nat} {cs:List Value} {x:DataW H × List MemPlace} (ht:P.underlying t=some (.slice e)) (he:P.underlying e=some (.struct fs))
  (hone:oneCellFields P fs=true) (hC:P.cellsOf e=fs.size) (h:DataW.trod enc P w base spare held fuel t cs=some x) :
  (cs=[.slice none 0 0]∧x=(.nil,[])) ∨
  ∃ (a:Addr) (len cap m:Nat) (D:Nat→DataW H) (Pl:Nat→List MemPlace),cs=[.slice (some a) len cap]∧base≤a.block∧len≤cap∧cap≤maxLen∧m=(if spare a.block then cap else len) ∧
   x=(.slice ((List.range len).map D) ((List.range (m - len)).map fun j=>D (len+j)),MemPlace.row a (m*fs.size)++(List.range m).flatMap Pl) ∧
   ∀ i,i<m→∃ (ys:List (DataW H × List MemPlace)) (n:Nat),D i=.agg (ys.map (·.1))∧Pl i=ys.flatMap (·.2)∧ys.length=fs.size ∧
    ∀ (j:Nat) (f:Field),fs[j]?=some f→∃ (v:Value) (y:DataW H × List MemPlace),w.cell? (a.add (i*fs.size+j))=some v∧ys[j]?=some y∧DataW.trod enc P w base spare held n f.type [v]=some y:=by
 rcases open_slice ht h with h0 | ⟨a,len,cap,m,n,D,Pl,hcs,hb,hl,hm,hmm,hx,hi⟩
 ·exact .inl h0
 ·refine .inr ⟨a,len,cap,m,D,Pl,hcs,hb,hl,hm,hmm,by rw [hC] at hx;exact hx,fun i him=>?_⟩
  obtain ⟨cs',hc,ht'⟩:=hi i him
  rw [hC] at hc
  obtain ⟨ys,n',hn',hy,hlen,hyl,hf⟩:=DataW.trod_struct he ht'
  obtain ⟨_,hcl,hat⟩:=World.cells?_some hc
  simp only [Prod.mk.injEq] at hy
  refine ⟨ys,n',hy.1,hy.2,hyl,fun j f hj=>?_⟩
  obtain ⟨ho,hk⟩:=hone_of hone j f hj
  have hjl:j<fs.size:=(Array.getElem?_eq_some_iff.1 hj).1
  have hcell:=hat j hjl
  have hv:cs'[j]?=some (cs'[j]'(by omega)):=List.getElem?_eq_getElem (by omega)
  have h1:=hf j f hj
  rw [ho,hk] at h1
  have hone':(cs'.drop j).take 1=[cs'[j]'(by omega)]:=by
   rw [List.drop_eq_getElem_cons (by omega)]
   rfl
  rw [hone'] at h1
  have hys:ys[j]?=some (ys[j]'(by omega)):=List.getElem?_eq_getElem (by omega)
  refine ⟨_,_,?_,hys,h1.trans hys⟩
  rw [← Go.Deep.add_add,hcell,hv]
end
def IsRecs (w:World) (a:Option Addr) (len cap nf:Nat) (R:Nat→Value→Prop):Prop :=
 (a=none∧len=0∧cap=0) ∨
 ∃ x,a=some x∧len≤cap∧cap≤maxLen∧∀ i,i<cap→∀ j,j<nf→∃ v,w.cell? (x.add (i*nf+j))=some v∧R j v
theorem rec_at {w:World} {a:Option Addr} {len cap nf:Nat} {R:Nat→Value→Prop} (h:IsRecs w a len cap nf R) (h0:0<nf) (hl:0<len) :
  ∃ b off,a=some ⟨b,off,none⟩∧b<w.heap.size∧∀ i,i<len→∀ j,j<nf→∃ v,w.cell? ⟨b,off+(i*nf+j),none⟩=some v∧R j v:=by
 rcases h with ⟨rfl,rfl,rfl⟩ | ⟨x,rfl,hlc,hm,hcell⟩
 ·omega
 ·obtain ⟨b,off,spot⟩:=x
  obtain ⟨v,h1,_⟩:=hcell 0 (by omega) 0 h0
  have hs:spot=none:=by simpa [Addr.add] using World.cell?_spot h1
  subst hs
  rw [add_plain] at h1
  refine ⟨b,off,rfl,block_lt_of_cell h1,fun i hi j hj=>?_⟩
  obtain ⟨v,h2,h3⟩:=hcell i (by omega) j hj
  rw [add_plain] at h2
  exact ⟨v,h2,h3⟩
def RowOf (k:IntKind) (w:World) (v:Value):Prop:=∃ A l c zs,v=.slice A l c∧IsRow k w A l c zs
def NumOf (k:IntKind) (v:Value):Prop:=∃ n,v=.int k n∧(Lit.int k n).wf=true
end Go.Proofs.YtplpmemlaohlaaaGreat.Mem
namespace Go.Proofs.YtplpmemlaohlaaaGreat.Mem
open Go.RowKit
set_option linter.unusedVariables false
set_option linter.unusedSimpArgs false
def isBy:Value→Bool
 | .int .u8 _=>true
 | _=>false
def NoBy (w:World) (row:Option Nat):Prop:=∀ g,row=some g→∀ i u,w.cell? ⟨g,i,none⟩=some u→isBy u=false
theorem noBy_none (w:World):NoBy w none:=fun g h=>by cases h
theorem noBy_cells {w:World} {g:Nat} {t:TypeId} {cs:Array Value} (h:w.heap[g]?=some (.cells cs t (0,0))) (hc:∀ u∈cs.toList,isBy u=false):NoBy w (some g):=by
 intro g' e i u hu
 cases e
 rw [cell_of_row w g i cs t (0,0) h] at hu
 obtain ⟨hi,he⟩:=Array.getElem?_eq_some_iff.1 hu
 exact hc u (by rw [← he,← Array.getElem_toList];exact List.getElem_mem _)
theorem noBy_of {w:World} {g:Nat} {t:TypeId} {cs:Array Value} (h:w.heap[g]?=some (.cells cs t (0,0))) (hn:NoBy w (some g)):∀ u∈cs.toList,isBy u=false:=by
 intro u hu
 obtain ⟨i,hi,he⟩:=List.mem_iff_getElem.1 hu
 refine hn g rfl i u ?_
 rw [cell_of_row w g i cs t (0,0) h,Array.getElem?_eq_some_iff]
 exact ⟨by simpa using hi,by rw [← Array.getElem_toList];exact he⟩
theorem NoBy.below {w w':World} {B:Nat} {row:Option Nat} (h:NoBy w row) (hb:Below B w w') (hr:∀ g,row=some g→g<B):NoBy w' row:=fun g e i u hu=>h g e i u (by rw [← hb.cell (p:=⟨g,i,none⟩) (hr g e)];exact hu)
theorem bts_by {w w':World} {B n:Nat} {A:Option Addr} {xs:List Nat} {row:Option Nat} (h:Bts w B A n xs) (hg:w.grownBy w' row) (hB:B≤w.heap.size) (hn:NoBy w row):Bts w' B A n xs:=by
 obtain ⟨h1,h2,h3,h4⟩:=h
 refine ⟨h1,h2,h3,fun h0=>?_⟩
 obtain ⟨b,off,e1,hb,hc⟩:=h4 h0
 refine ⟨b,off,e1,hb,fun i hi=>?_⟩
 have hne:some b≠row:=fun e=>by
  have:=hn b e.symm (off+0) _ (hc 0 h0)
  simp [isBy] at this
 rw [← hc i hi]
 exact World.cell?_of_block (hg.block b (by omega) hne)
theorem sl_by {w w':World} {B:Nat} {v:Value} {xs:List Nat} {row:Option Nat} (h:Sl w B v xs) (hg:w.grownBy w' row) (hB:B≤w.heap.size) (hn:NoBy w row):Sl w' B v xs:=by
 obtain ⟨A,n,c,e,h1,h2⟩:=h
 exact ⟨A,n,c,e,bts_by h1 hg hB hn,h2⟩
theorem mem_zeroCells {z:Array Value} {n:Nat} {u:Value} (h:u∈(Builtin.zeroCells z n).toList):u∈z.toList:=by
 unfold Builtin.zeroCells at h
 simp at h
 obtain ⟨a,ha,rfl⟩:=h
 have hz:0<z.size:=by
  rcases Nat.eq_zero_or_pos z.size with h0 | h0
  ·rw [h0] at ha;omega
  ·exact h0
 rw [getElem!_pos z (a % z.size) (Nat.mod_lt a hz)]
 simp
def OwnN (w:World) (base:Nat) (e:TypeId) (size:Nat) (v:Value) (n:Nat) (xs:List Value):Prop:=w.ownsRow base e size v n xs∧NoBy w v.ownBlock
section
variable {w w':World} {base n size:Nat} {e:TypeId} {v:Value} {xs:List Value}
theorem OwnN.below (h:OwnN w base e size v n xs) (hb:Below w.heap.size w w'):OwnN w' base e size v n xs:=⟨own_below h.1 hb,h.2.below hb fun g hg=>(h.1.lt g hg).2⟩
theorem ownN_nil (w:World) (base:Nat) (e:TypeId) (size:Nat):OwnN w base e size (.slice none 0 0) 0 []:=⟨World.ownsRow_nil _ _ _ _,noBy_none _⟩
theorem ownN_lit (w:World) (base:Nat) (e:TypeId) (size:Nat) (hb:base≤w.heap.size):OwnN (w.alloc (.cells #[] e)) base e size (.slice (some ⟨w.heap.size,0,none⟩) 0 0) 0 [] :=
 ⟨World.ownsRow_lit w #[] 0 hb (by unfold maxLen;omega) (by simp),noBy_cells (cs:=#[]) (heap_alloc_new w _) (by simp)⟩
end
section
variable {P:Program} (w:World)
theorem run_append_n (base:Nat) (t ty e:TypeId) (i:TypeInfo) (z:Value) (size bytes:Nat) (ht:P.underlying t=some (.slice e)) (hi:P.info? e=some i) (hz:i.zero=some z)
  (hsize:i.size=size) (hby:i.bytes=bytes) (hzs:z.cells.size=size) (hsz:0<size) (hzb:∀ u∈z.cells.toList,isBy u=false)
  (v:Value) (n:Nat) (xs:List Value) (hownN:OwnN w base e size v n xs)
  (B:Nat) (A:Option Addr) (m c:Nat) (news:List Value) (hr:Reads w B size A m news) (h1:∀ u∈news,u.oneCell'=true) (hnb:∀ u∈news,isBy u=false)
  (h63:n+m≤maxLen) (hbytes:(n+m)*bytes≤140737488355328) (hbase:base≤w.heap.size) :
  ∃ v' w',(Builtin.append_ #[t,t] ty #[v,.slice A m c]).run P w=.ok v' w'∧OwnN w' base e size v' (n+m) (xs++news)∧w.grownBy w' v.ownBlock ∧
   (v'.ownBlock=v.ownBlock∨v'.ownBlock=some w.heap.size):=by
 obtain ⟨hown,hno⟩:=hownN
 rcases A with _ | ad
 ·have hm:m=0:=by
   rcases Nat.eq_zero_or_pos m with h0 | h0
   ·exact h0
   ·obtain ⟨ad,h,_⟩:=hr.2 h0
    cases h
  subst hm
  have hn:news=[]:=List.eq_nil_of_length_eq_zero (by simpa using hr.1)
  subst hn
  exact ⟨v,w,run_append_of_nil w base t ty e i size ht hi v n xs hown c,by rw [Nat.add_zero,List.append_nil];exact ⟨hown,hno⟩,World.grownBy.refl w _,.inl rfl⟩
 ·have hnews:∀ j u,news[j]?=some u→w.cell? (ad.add j)=some u:=by
   intro j u hu
   rcases Nat.eq_zero_or_pos m with h0 | h0
   ·subst h0
    have hn:news=[]:=List.eq_nil_of_length_eq_zero (by simpa using hr.1)
    subst hn
    simp at hu
   ·obtain ⟨ad',h,_,hc⟩:=hr.2 h0
    injection h with h
    subst h
    exact hc j u hu
  have hl:=hr.1
  clear hr
  subst hsize
  subst hby
  have hsmall:n+m≤9223372036854775807:=by simp only [maxLen] at h63;omega
  have hlen:(xs++news).length=(n+m)*i.size:=by rw [List.length_append,hown.1,hl,Nat.add_mul]
  have grown:∀ (old:Nat),old<n+m→(∀ u∈xs,isBy u=false)→∀ (row:Option Nat),
    OwnN (w.drew.alloc (.cells (xs.toArray++news.toArray++Builtin.zeroCells z.cells (grownCap w (n+m) old e - (n+m))) e)) base e i.size
     (.slice (some ⟨w.heap.size,0,none⟩) (n+m) (grownCap w (n+m) old e)) (n+m) (xs++news) ∧
    w.grownBy (w.drew.alloc (.cells (xs.toArray++news.toArray++Builtin.zeroCells z.cells (grownCap w (n+m) old e - (n+m))) e)) row:=by
   intro old ho hxb row
   have hge:=grownCap_ge w (n+m) old e
   have hcm:grownCap w (n+m) old e≤maxLen:=grownCap_le_maxLen w (n+m) old e h63
   refine ⟨⟨⟨hlen,.inr ⟨w.heap.size,_,_,rfl,hbase,heap_alloc_new w.drew _,hge,hcm,?_,?_⟩⟩,?_⟩,grown_trans grown_drew (World.grownBy_alloc w.drew _ row)⟩
   ·simp only [Array.size_append,List.size_toArray,size_zeroCells,hzs,hown.1,hl,← Nat.add_mul]
    congr 1
    omega
   ·simp only [Array.toList_append,List.append_assoc]
    rw [← List.append_assoc,← hlen]
    exact List.take_left
   ·refine noBy_cells (heap_alloc_new w.drew _) fun u hu=>?_
    simp only [Array.toList_append,List.mem_append] at hu
    rcases hu with (hu | hu) | hu
    ·exact hxb u hu
    ·exact hnb u hu
    ·exact hzb u (mem_zeroCells hu)
  rcases hown.2 with ⟨rfl,rfl⟩ | ⟨g,cap,cur,rfl,hbg,hg,hnc,hcm,hcs,htake⟩
  ·have hx:xs=[]:=List.eq_nil_of_length_eq_zero (by simpa using hown.1)
   subst hx
   by_cases hm:m=0
   ·subst hm
    have hn:news=[]:=List.eq_nil_of_length_eq_zero (by simpa using hl)
    subst hn
    refine ⟨.slice none 0 0,w,?_,ownN_nil w base e i.size,⟨rfl,rfl,rfl,Nat.le_refl _,fun _ _ _=>rfl⟩,Or.inl rfl⟩
    simp [Builtin.append_,run_underlying ht,sizeOf,typeInfo,hi,Builtin.lenOf,Builtin.firstCells,loadCells,loadCellsFrom]
   ·have hr:=run_append_nil (P:=P) w t ty e i z ht hi hz ad m c news hl hnews (by omega) (by omega) (by have hb:=hbytes;simp only [Nat.zero_add] at hb;omega)
    have hgr:=grown 0 (by omega) (by simp) (Value.ownBlock (.slice none 0 0))
    simp only [Nat.zero_add,List.nil_append,Array.empty_append] at hgr ⊢
    exact ⟨_,_,hr,hgr.1,hgr.2,Or.inr rfl⟩
  ·have hcb:=noBy_of hg hno
   have hxb:∀ u∈xs,isBy u=false:=fun u hu=>hcb u (List.mem_of_mem_take (by rw [htake];exact hu))
   by_cases hroom:n+m≤cap
   ·have hfit:n*i.size+news.length≤cur.size:=by rw [hl,hcs,← Nat.add_mul];exact Nat.mul_le_mul_right _ hroom
    have hr:=run_append_room (P:=P) w t ty e i ht hi g n cap cur hg ad m c news hl hnews h1 hroom hfit
    refine ⟨_,_,hr,⟨⟨hlen,.inr ⟨g,cap,_,rfl,hbg,setRow_heap w g cur _ e _ hg,hroom,hcm,?_,?_⟩⟩,?_⟩,⟨rfl,rfl,rfl,by simp,fun k _ hk=>setRow_other w g k _ (fun e=>hk (by simp [Value.ownBlock,e]))⟩,Or.inl rfl⟩
    ·simp only [List.size_toArray,List.length_append,List.length_take,List.length_drop,Array.length_toList]
     omega
    ·rw [htake,← hlen]
     exact List.take_left
    ·refine noBy_cells (setRow_heap w g cur _ e _ hg) fun u hu=>?_
     simp only [List.mem_append] at hu
     rcases hu with (hu | hu) | hu
     ·exact hcb u (List.mem_of_mem_take hu)
     ·exact hnb u hu
     ·exact hcb u (List.mem_of_mem_drop hu)
   ·have holds:∀ j u,xs[j]?=some u→w.cell? ((⟨g,0,none⟩:Addr).add j)=some u:=hown.cells (g:=g) rfl
    have hr:=run_append_grow (P:=P) w t ty e i z ht hi hz ⟨g,0,none⟩ n cap xs hown.1 holds ad m c news hl hnews (by omega) (by omega) (growslice_fits (by omega) hbytes)
    have hgr:=grown cap (by omega) hxb (Value.ownBlock (.slice (some ⟨g,0,none⟩) n cap))
    exact ⟨_,_,hr,hgr.1,hgr.2,Or.inr rfl⟩
theorem wp_append_n {o:Oper} {a:Act} {K:Act→World→Prop} {Q:Exit→Act→World→Prop} (s x:Operand) (t:TypeId)
  (ho:o.op=.call { callee:=.builtin .append,args:=#[s,x],argTypes:=#[t,t] })
  (base:Nat) (e:TypeId) (i:TypeInfo) (z:Value) (size bytes:Nat) (ht:P.underlying t=some (.slice e)) (hi:P.info? e=some i) (hz:i.zero=some z)
  (hsize:i.size=size) (hby:i.bytes=bytes) (hzs:z.cells.size=size) (hsz:0<size) (hzb:∀ u∈z.cells.toList,isBy u=false)
  (v:Value) (n:Nat) (xs:List Value) (hs:a.eval s=v) (hown:OwnN w base e size v n xs)
  (B:Nat) (A:Option Addr) (m c:Nat) (news:List Value) (hx:a.eval x=.slice A m c) (hr:Reads w B size A m news) (h1:∀ u∈news,u.oneCell'=true) (hnb:∀ u∈news,isBy u=false)
  (h63:n+m≤maxLen) (hbytes:(n+m)*bytes≤140737488355328) (hbase:base≤w.heap.size)
  (h:∀ v' w',OwnN w' base e size v' (n+m) (xs++news)→w.grownBy w' v.ownBlock→(v'.ownBlock=v.ownBlock∨v'.ownBlock=some w.heap.size)→K (a.put o.dst v') w'):o.wp P a w K Q:=by
 obtain ⟨v',w',hrun,h2,h3,h4⟩:=run_append_n (P:=P) w base t o.type e i z size bytes ht hi hz hsize hby hzs hsz hzb v n xs hown B A m c news hr h1 hnb h63 hbytes hbase
 unfold Oper.wp execOp
 simp only [ho,resolve,invoke,builtin,Sem.run_bind,Sem.run_pure,Result.andThen_ok,List.map_toArray,List.map_cons,List.map_nil,hs,hx,hrun]
 exact h v' w' h2 h3 h4
theorem wpList_append_n {ops:Array Oper} {rest:List Oper} {o:Oper} {a:Act} {Q:Exit→Act→World→Prop} (hgd:o.guard=none) (s x:Operand) (t:TypeId)
  (ho:o.op=.call { callee:=.builtin .append,args:=#[s,x],argTypes:=#[t,t] })
  (base:Nat) (e:TypeId) (i:TypeInfo) (z:Value) (size bytes:Nat) (ht:P.underlying t=some (.slice e)) (hi:P.info? e=some i) (hz:i.zero=some z)
  (hsize:i.size=size) (hby:i.bytes=bytes) (hzs:z.cells.size=size) (hsz:0<size) (hzb:∀ u∈z.cells.toList,isBy u=false)
  (v:Value) (n:Nat) (xs:List Value) (hs:a.eval s=v) (hown:OwnN w base e size v n xs)
  (B:Nat) (A:Option Addr) (m c:Nat) (news:List Value) (hx:a.eval x=.slice A m c) (hr:Reads w B size A m news) (h1:∀ u∈news,u.oneCell'=true) (hnb:∀ u∈news,isBy u=false)
  (h63:n+m≤maxLen) (hbytes:(n+m)*bytes≤140737488355328) (hbase:base≤w.heap.size)
  (h:∀ v' w',OwnN w' base e size v' (n+m) (xs++news)→w.grownBy w' v.ownBlock→(v'.ownBlock=v.ownBlock∨v'.ownBlock=some w.heap.size)→wpList P ops Q rest (a.put o.dst v') w'):wpList P ops Q (o::rest) a w :=
 wpList_plain hgd fun _ hK=>wp_append_n w s x t ho base e i z size bytes ht hi hz hsize hby hzs hsz hzb v n xs hs hown B A m c news hx hr h1 hnb h63 hbytes hbase fun v' w' h2 h3 h4=>hK _ _ (h v' w' h2 h3 h4)
end
end Go.Proofs.YtplpmemlaohlaaaGreat.Mem
namespace Go.Proofs.YtplpmemlaohlaaaGreat.Oct
open Go.RowKit Mem
set_option linter.unusedVariables false
def Rdr (w:World) (g:Nat) (st:St):Prop :=
 ∃ (A:Option Addr) (n c:Nat),Blk w g 274 #[.slice A n c,.bool st.2]∧Bts w g A n st.1∧n≤c∧c≤maxLen
abbrev ptr (g:Nat):Value:=.pointer (some ⟨g,0,none⟩)
set_option maxHeartbeats 400000 in
theorem isWidth_any (k:Int) (w:World) :
  Calls Tryz.prog 137 #[.int .i64 k] w fun e w'=>e=.returned (.bool (isW k))∧w=w':=by
 by_cases h:1≤k
 ·have hd:decide ((1:Int)≤k)=true:=by simpa using h
  have e:isW k=decide (k≤8):=by simp [isW,hd]
  go_enter Tryz.func137,Tryz.ntmps137
  go_wp2
  go_ret
  exact ⟨ret_bool e.symm,rfl⟩
 ·have hd:decide ((1:Int)≤k)=false:=by simpa using h
  have e:isW k=false:=by simp [isW,hd]
  go_enter Tryz.func137,Tryz.ntmps137
  go_wp2
  go_ret
  exact ⟨rfl,rfl⟩
set_option maxHeartbeats 400000 in
theorem spoil_any (g:Nat) (st:St) (w:World) (h:Rdr w g st) :
  Calls Tryz.prog 200 #[ptr g] w fun e w'=>e=.returned (.tuple #[])∧Rdr w' g (st.1,false)∧w.grownBy w' (some g):=by
 obtain ⟨A,n,c,hb,hx,hnc,hm⟩:=h
 have hc1:w.cell? ⟨g,1,none⟩=some (.bool st.2):=by rw [hb.cell];rfl
 have hf1:=hb.frozen 1
 go_enter Tryz.func200,Tryz.ntmps200
 go_wp2
 go_end0
 refine ⟨rfl,⟨A,n,c,hb.set_ 1 _,?_,hnc,hm⟩,grown_set w ⟨g,1,none⟩ _⟩
 exact hx.grown (grown_set w ⟨g,1,none⟩ _) (by have:=hb.lt;omega) (fun k hk=>by cases hk;exact Nat.le_refl _)
set_option maxHeartbeats 400000 in
theorem wrong_any (g:Nat) (st:St) (w:World) (h:Rdr w g st) :
  Calls Tryz.prog 202 #[ptr g] w fun e w'=>e=.returned (.bool (!st.2))∧w=w':=by
 obtain ⟨A,n,c,hb,hx,hnc,hm⟩:=h
 have hc1:w.cell? ⟨g,1,none⟩=some (.bool st.2):=by rw [hb.cell];rfl
 go_enter Tryz.func202,Tryz.ntmps202
 go_wp2
 go_ret
 exact ⟨rfl,rfl⟩
theorem beq0 (n:Nat):((n:Int) == 0)=decide (n=0):=by
 rcases Nat.eq_zero_or_pos n with h | h
 ·subst h;rfl
 ·rw [beq_false_of_ne (by omega),decide_eq_false (by omega)]
set_option maxHeartbeats 400000 in
theorem take_bad (g:Nat) (st:St) (k:Nat) (w:World) (h:Rdr w g st) (hk:k≤1000000) (hno:¬ (st.2=true∧k≤st.1.length)) :
  Calls Tryz.prog 201 #[ptr g,.int .i64 (k:Nat)] w fun e w'=>e=.returned (.slice none 0 0)∧Rdr w' g (st.1,false)∧w.grownBy w' (some g):=by
 obtain ⟨xs,s⟩:=st
 have h1:=wrong_any g _ w h
 have h2:=spoil_any g _ w h
 have H1:=Lib.hid h1;clear h1
 have H2:=Lib.hid h2;clear h2
 obtain ⟨A,n,c,hb,hx,hnc,hm⟩:=h
 have hc0:w.cell? ⟨g,0,none⟩=some (.slice A n c):=by rw [hb.cell];rfl
 have hl:=hx.1
 cases s
 ·go_enter Tryz.func201,Tryz.ntmps201
  go_wp2_with (first
   | (go_at_call 202;refine (H1.out).mono ?_;rintro e w' ⟨rfl,rfl⟩)
   | (go_at_call 200;refine (H2.out).mono ?_;rintro e w' ⟨rfl,hr,hg⟩))
  go_ret
  exact ⟨rfl,hr,hg⟩
 ·have hlt:n<k:=by simp at hno;simp at hl;omega
  have hd:decide ((n:Int)<(k:Int))=true:=by simpa using hlt
  go_enter Tryz.func201,Tryz.ntmps201
  go_wp2_with (first
   | (go_at_call 202;refine (H1.out).mono ?_;rintro e w' ⟨rfl,rfl⟩)
   | (go_at_call 200;refine (H2.out).mono ?_;rintro e w' ⟨rfl,hr,hg⟩))
  go_ret
  exact ⟨rfl,hr,hg⟩
set_option maxHeartbeats 400000 in
theorem take_ok (g:Nat) (xs:List Nat) (k:Nat) (w:World) (h:Rdr w g (xs,true)) (hk:k≤xs.length) :
  Calls Tryz.prog 201 #[ptr g,.int .i64 (k:Nat)] w fun e w'=>∃ A c,e=.returned (.slice A k c)∧Bts w' g A k (xs.take k)∧k≤c∧c≤maxLen∧Rdr w' g (xs.drop k,true)∧w.grownBy w' (some g):=by
 have h1:=wrong_any g _ w h
 have H1:=Lib.hid h1;clear h1
 obtain ⟨A,n,c,hb,hx,hnc,hm⟩:=h
 have hc0:w.cell? ⟨g,0,none⟩=some (.slice A n c):=by rw [hb.cell];rfl
 have hf0:=hb.frozen 0
 have hl:=hx.1
 have hn1:=hx.2.2.1
 have hkn:k≤n:=by simp at hl;omega
 have hd:decide ((n:Int)<(k:Int))=false:=by simpa using hkn
 have hcI:(k:Int)≤(c:Int):=by omega
 unfold maxLen at hm
 obtain ⟨A2,h2,hx2⟩:=cut_l hx k hkn hnc
 have HX:=Lib.hid hx;clear hx
 have HX2:=Lib.hid hx2;clear hx2
 have HB:=Lib.hid hb;clear hb
 go_enter Tryz.func201,Tryz.ntmps201
 go_wp2_with (first
  | (go_at_call 202;refine (H1.out).mono ?_;rintro e w' ⟨rfl,rfl⟩))
 go_ret
 have hlt:=HB.out.lt
 have hgs:=fun (u:Value)=>grown_set w ⟨g,0,none⟩ u
 refine ⟨_,_,rfl,?_,Nat.le_refl _,by unfold maxLen;omega,⟨_,_,_,HB.out.set_ 0 _,?_,by omega,by unfold maxLen;omega⟩,hgs _⟩
 ·exact (HX.out.take hkn).grown (hgs _) (by omega) (fun j hj=>by cases hj;exact Nat.le_refl _)
 ·exact HX2.out.grown (hgs _) (by omega) (fun j hj=>by cases hj;exact Nat.le_refl _)
theorem rnum_no {st:St} {k:Int} (h:¬ (st.2=true∧isW k=true∧k.toNat≤st.1.length)):rnum st k=((st.1,false),0):=by
 unfold rnum
 rw [if_neg]
 simp only [Bool.and_eq_true,decide_eq_true_eq]
 exact fun hh=>h ⟨hh.1.1,hh.1.2,hh.2⟩
theorem rnum_yes {xs:List Nat} {m:Nat} (h1:isW (m:Int)=true) (h:m≤xs.length):rnum (xs,true) (m:Int)=((xs.drop m,true),num (xs.take m)):=by
 unfold rnum
 rw [if_pos (by simp [h1,h])]
 rfl
set_option maxHeartbeats 400000 in
theorem num_w (g:Nat) (st:St) (k:Int) (w:World) (h:Rdr w g st) (hk:isW k=false) :
  Calls Tryz.prog 165 #[ptr g,.int .i64 k] w fun e w'=>e=.returned (.int .u64 0)∧Rdr w' g (st.1,false)∧w.grownBy w' (some g):=by
 have h1:=isWidth_any k w
 rw [hk] at h1
 have h2:=spoil_any g _ w h
 have H1:=Lib.hid h1;clear h1
 have H2:=Lib.hid h2;clear h2
 go_enter Tryz.func165,Tryz.ntmps165
 go_wp2_with (first
  | (go_at_call 137;refine (H1.out).mono ?_;rintro e w' ⟨rfl,rfl⟩)
  | (go_at_call 200;refine (H2.out).mono ?_;rintro e w' ⟨rfl,hr,hg⟩))
 go_ret
 exact ⟨rfl,hr,hg⟩
set_option maxHeartbeats 400000 in
theorem num_bad (g:Nat) (st:St) (k:Nat) (w:World) (h:Rdr w g st) (hk:isW (k:Int)=true) (hk1:k≤8) (hno:¬ (st.2=true∧k≤st.1.length)) :
  Calls Tryz.prog 165 #[ptr g,.int .i64 (k:Nat)] w fun e w'=>e=.returned (.int .u64 0)∧Rdr w' g (st.1,false)∧w.grownBy w' (some g):=by
 have h1:=isWidth_any k w
 rw [hk] at h1
 have h2:=take_bad g st k w h (by omega) hno
 have H1:=Lib.hid h1;clear h1
 have H2:=Lib.hid h2;clear h2
 clear h hno hk
 go_enter Tryz.func165,Tryz.ntmps165
 go_wp2_with (first
  | (go_at_call 137;refine (H1.out).mono ?_;rintro e w' ⟨rfl,rfl⟩)
  | (go_at_call 201;refine (H2.out).mono ?_;rintro e w' ⟨rfl,hr,hg⟩))
 go_loop [5,17] (fun x i=>i=.int .i64 0∧x=.int .u64 0) (fun _ i=>8 - (intOf i).toNat)
 case atStart=>exact ⟨rfl,rfl⟩
 case round =>
  obtain ⟨rfl,rfl⟩:=hrel
  go_wp2
  go_ret
  exact ⟨rfl,hr,hg⟩
theorem or_low (n b:Nat) (hn:n<72057594037927936) (hb:b<256):bits .or .u64 ((n:Int)*256) (b:Int)=((n*256+b:Nat):Int):=by
 have h:=u64_or_nat (n*256) b (by omega) (by omega)
 have e:n*256 ||| b=n*256+b:=by
  have:=Nat.shiftLeft_add_eq_or_of_lt (i:=8) (b:=b) (by omega) n
  rw [Nat.shiftLeft_eq] at this
  exact this.symm
 rw [e] at h
 rw [← h]
 rfl
set_option maxHeartbeats 400000 in
theorem num_ok (g:Nat) (xs:List Nat) (k:Nat) (w:World) (h:Rdr w g (xs,true)) (hk:isW (k:Int)=true) (hk1:k≤8) (hl:k≤xs.length) :
  Calls Tryz.prog 165 #[ptr g,.int .i64 (k:Nat)] w fun e w'=>e=.returned (.int .u64 (num (xs.take k):Nat))∧Rdr w' g (xs.drop k,true)∧w.grownBy w' (some g):=by
 have h1:=isWidth_any k w
 rw [hk] at h1
 have h2:=take_ok g xs k w h hl
 have H1:=Lib.hid h1;clear h1
 have H2:=Lib.hid h2;clear h2
 clear h hk
 generalize xs.drop k=us at *
 generalize xs.take k=ys at *
 go_enter Tryz.func165,Tryz.ntmps165
 go_wp2_with (first
  | (go_at_call 137;refine (H1.out).mono ?_;rintro e w' ⟨rfl,rfl⟩)
  | (go_at_call 201;refine (H2.out).mono ?_;rintro e w' ⟨A,c,rfl,hx,hkc,hm,hr,hg⟩;have HX:=Lib.hid hx;clear hx;have HR:=Lib.hid hr;clear hr;have HG:=Lib.hid hg;clear hg))
 go_loop [5,17] (fun x i=>∃ j:Nat,j≤k∧i=.int .i64 j∧x=.int .u64 (num (ys.take j):Nat)) (fun _ i=>k - (intOf i).toNat)
 case atStart=>exact ⟨0,Nat.zero_le _,rfl,rfl⟩
 case round =>
  obtain ⟨j,hj,rfl,rfl⟩:=hrel
  by_cases hlt:j<k
  ·obtain ⟨b,off,rfl,_,hcell⟩:=HX.out.2.2.2 (by omega)
   have hc:=hcell j hlt
   clear hcell
   have hq:=getD_lt HX.out.2.1 j
   have hN:num (ys.take j)<256 ^ 7:=by
    have h3:=num_lt (ys.take j) (take_lt HX.out.2.1 j)
    have h4:(ys.take j).length≤7:=by rw [List.length_take];omega
    exact Nat.lt_of_lt_of_le h3 (Nat.pow_le_pow_right (by decide) h4)
   have hs:=num_take_succ ys j (by rw [HX.out.1];exact hlt)
   generalize ys.getD j 0=q at *
   generalize num (ys.take j)=N at *
   have HS:=Lib.hid hs;clear hs
   go_wp2
   go_round
   case rel=>exact ⟨j+1,by omega,by go_num,val_int (by rw [HS.out,← or_low N q hN hq])⟩
   case measure=>simp [intOf];omega
  ·obtain rfl:j=k:=by omega
   go_wp2
   go_ret
   refine ⟨ret_int ?_,HR.out,HG.out⟩
   rw [List.take_of_length_le (by rw [HX.out.1];exact Nat.le_refl _)]
theorem rnum_any (g:Nat) (st:St) (k:Int) (w:World) (h:Rdr w g st) :
  Calls Tryz.prog 165 #[ptr g,.int .i64 k] w fun e w'=>e=.returned (.int .u64 ((rnum st k).2:Nat))∧Rdr w' g (rnum st k).1∧w.grownBy w' (some g):=by
 by_cases hk:isW k=true
 ·obtain ⟨m,rfl,h1,h8⟩:=isW_nat hk
  by_cases hno:st.2=true∧m≤st.1.length
  ·obtain ⟨xs,s⟩:=st
   obtain ⟨rfl,hl⟩:=hno
   have e:=rnum_yes hk hl
   rw [e]
   exact num_ok g xs m w h hk h8 hl
  ·rw [rnum_no (fun hh=>hno ⟨hh.1,by simpa using hh.2.2⟩)]
   exact num_bad g st m w h hk h8 hno
 ·rw [rnum_no (fun hh=>hk hh.2.1)]
  exact num_w g st k w h (by simpa using hk)
theorem rtext_no {st:St} (h:¬ ((rnum st 2).1.2=true∧(rnum st 2).2≤(rnum st 2).1.1.length)):rtext st=((st.1,false),[]):=by
 unfold rtext
 rw [if_neg h]
theorem rtext_yes {st:St} (h:(rnum st 2).1.2=true∧(rnum st 2).2≤(rnum st 2).1.1.length):rtext st=(((rnum st 2).1.1.drop (rnum st 2).2,true),(rnum st 2).1.1.take (rnum st 2).2):=by
 unfold rtext
 rw [if_pos h]
theorem rnum_le {st:St} (h:∀ x∈st.1,x<256):(rnum st 2).2≤65535:=by
 unfold rnum
 split
 ·have h1:=num_lt (st.1.take 2) (take_lt h 2)
  have h2:(st.1.take 2).length≤2:=by rw [List.length_take];omega
  have h3:256 ^ (st.1.take 2).length≤256 ^ 2:=Nat.pow_le_pow_right (by decide) h2
  show num (st.1.take 2)≤65535
  omega
 ·exact Nat.zero_le _
theorem Rdr.lt {w:World} {g:Nat} {st:St} (h:Rdr w g st):∀ x∈st.1,x<256:=by
 obtain ⟨A,n,c,hb,hx,hnc,hm⟩:=h
 exact hx.2.1
theorem Rdr.size {w:World} {g:Nat} {st:St} (h:Rdr w g st):g<w.heap.size:=by
 obtain ⟨A,n,c,hb,hx,hnc,hm⟩:=h
 exact hb.lt
theorem Rdr.below {w w':World} {g B:Nat} {st:St} (h:Rdr w g st) (hb:Below B w w') (hg:g<B):Rdr w' g st:=by
 obtain ⟨A,n,c,hk,hx,h1⟩:=h
 exact ⟨A,n,c,hk.below hb hg,hx.below hb (by omega),h1⟩
theorem Rdr.grown {w w':World} {g:Nat} {row:Option Nat} {st:St} (h:Rdr w g st) (hg:w.grownBy w' row) (hr:∀ q,row=some q→g<q):Rdr w' g st:=by
 have hs:=h.size
 obtain ⟨A,n,c,hk,hx,h1⟩:=h
 exact ⟨A,n,c,hk.grown hg (fun e=>by have:=hr _ e.symm;omega),hx.grown hg (by omega) (fun q hq=>by have:=hr q hq;omega),h1⟩
theorem Rdr.alloc {w:World} {g:Nat} {st:St} (h:Rdr w g st) (o:Obj):Rdr (w.alloc o) g st:=h.grown (World.grownBy_alloc w o none) (fun q hq=>by cases hq)
theorem Rdr.setFar {w:World} {g:Nat} {st:St} (h:Rdr w g st) (p:Addr) (hp:g<p.block) (u:Value):Rdr (w.setCell p u) g st:=h.grown (grown_set w p u) (fun q hq=>by cases hq;exact hp)
theorem Rdr.upd3 {w:World} {g g2:Nat} {st:St} {u0 u1 u2:Value} (h:Rdr w g st) (hg:g<g2):Rdr (upd3 w g2 u0 u1 u2) g st :=
 ((h.setFar ⟨g2,0,none⟩ hg _).setFar ⟨g2,1,none⟩ hg _).setFar ⟨g2,2,none⟩ hg _
theorem Rdr.drew {w:World} {g:Nat} {st:St} (h:Rdr w g st):Rdr w.drew g st:=h
set_option maxHeartbeats 400000 in
theorem rtext_any (g:Nat) (st:St) (w:World) (h:Rdr w g st) :
  Calls Tryz.prog 166 #[ptr g] w fun e w'=>∃ A k c,e=.returned (.slice A k c)∧Bts w' g A k (rtext st).2∧k≤c∧c≤maxLen∧Rdr w' g (rtext st).1∧w.grownBy w' (some g):=by
 have h1:=wrong_any g _ w h
 have H1:=Lib.hid h1;clear h1
 have h2:=rnum_any g st 2 w h
 have H2:=Lib.hid h2;clear h2
 have hr:=h
 obtain ⟨xs,s⟩:=st
 obtain ⟨A0,n0,c0,hb,hx,hnc,hm⟩:=h
 have hc0:w.cell? ⟨g,0,none⟩=some (.slice A0 n0 c0):=by rw [hb.cell];rfl
 cases s
 ·rw [rtext_no (by rw [rnum_no (by simp)];simp)]
  clear H2 hc0
  go_enter Tryz.func166,Tryz.ntmps166
  go_wp2_with (first
   | (go_at_call 202;refine (H1.out).mono ?_;rintro e w' ⟨rfl,rfl⟩))
  go_ret
  exact ⟨none,0,0,rfl,bts_nil _ _ _,Nat.le_refl _,by unfold maxLen;omega,hr,(grown_drewN 0)⟩
 ·have hle:=rnum_le (st:=(xs,true)) hx.2.1
  obtain ⟨R,hR⟩:∃ R,R=rnum (xs,true) 2:=⟨_,rfl⟩
  rw [← hR] at H2 hle
  obtain ⟨⟨ys,s2⟩,m⟩:=R
  simp only at H2 hle
  have HX:=Lib.hid hx;clear hx
  have HB:=Lib.hid hb;clear hb
  by_cases hok:s2=true∧m≤ys.length
  ·obtain ⟨rfl,hml⟩:=hok
   rw [rtext_yes (by rw [← hR];exact ⟨rfl,hml⟩),← hR]
   have h3:=fun (W:World) (hW:Rdr W g (ys,true))=>take_ok g ys m W hW hml
   have h4:=fun (W:World) (hW:Rdr W g (ys.drop m,true))=>wrong_any g _ W hW
   have H3:=Lib.hid h3;clear h3
   have H4:=Lib.hid h4;clear h4
   clear hR hr
   go_enter Tryz.func166,Tryz.ntmps166
   go_wp2_with (first
    | (go_at_call 202;refine (H1.out).mono ?_;rintro e w' ⟨rfl,rfl⟩)
    | (go_at_call 165;refine (H2.out).mono ?_;rintro e w1 ⟨rfl,hr1,hg1⟩;have HR1:=Lib.hid hr1;clear hr1)
    | (go_at_call 201;refine (H3.out w1 HR1.out).mono ?_;rintro e w2 ⟨A,c,rfl,hx2,hkc,hmc,hr2,hg2⟩;have HR2:=Lib.hid hr2;clear hr2)
    | (go_at_call 202;refine (H4.out w2 HR2.out).mono ?_;rintro e w' ⟨rfl,rfl⟩))
   go_ret
   exact ⟨A,m,c,rfl,hx2,hkc,hmc,HR2.out,grown_trans hg1 hg2⟩
  ·rw [rtext_no (by rw [← hR];exact hok)]
   have h3:=fun (W:World) (hW:Rdr W g (ys,s2))=>take_bad g (ys,s2) m W hW (by omega) hok
   have h4:=fun (W:World) (hW:Rdr W g (ys,false))=>wrong_any g _ W hW
   have H3:=Lib.hid h3;clear h3
   have H4:=Lib.hid h4;clear h4
   clear hR hr
   go_enter Tryz.func166,Tryz.ntmps166
   go_wp2_with (first
    | (go_at_call 202;refine (H1.out).mono ?_;rintro e w' ⟨rfl,rfl⟩)
    | (go_at_call 165;refine (H2.out).mono ?_;rintro e w1 ⟨rfl,hr1,hg1⟩;have HR1:=Lib.hid hr1;clear hr1)
    | (go_at_call 201;refine (H3.out w1 HR1.out).mono ?_;rintro e w2 ⟨rfl,hr2,hg2⟩;obtain ⟨A4,n4,c4,hb4,hx4,_⟩:=hr2;have hc4:=hb4.cell 0;have hf4:=hb4.frozen 0;have HB4:=Lib.hid hb4;clear hb4;have HX4:=Lib.hid hx4;clear hx4;have hr2:Rdr w2 g (ys,false):=⟨A4,n4,c4,HB4.out,HX4.out,by assumption⟩;have HR2:=Lib.hid hr2;clear hr2)
    | (go_at_call 202;refine (H4.out w2 HR2.out).mono ?_;rintro e w' ⟨rfl,rfl⟩))
   go_ret
   have hgs:=fun (u:Value)=>grown_set w2 ⟨g,0,none⟩ u
   have hall:=fun (u:Value)=>grown_trans hg1 (grown_trans hg2 (hgs u))
   refine ⟨none,0,0,rfl,bts_nil _ _ _,Nat.le_refl _,by unfold maxLen;omega,⟨A0,n0,c0,HB4.out.set_ 0 _,?_,hnc,hm⟩,hall _⟩
   exact HX.out.grown (hall _) (by have:=HB.out.lt;omega) (fun j hj=>by cases hj;exact Nat.le_refl _)
end Go.Proofs.YtplpmemlaohlaaaGreat.Oct
namespace Go.Proofs.YtplpmemlaohlaaaGreat.Oct
open Go.RowKit Mem
set_option linter.unusedVariables false
theorem reads_new (w:World) (cs:Array Value) (t:TypeId) (g:Nat) (hg:g=w.heap.size):Reads (w.alloc (.cells cs t)) (w.heap.size+1) 1 (some ⟨g,0,none⟩) cs.size cs.toList:=by
 subst hg
 refine ⟨by simp,fun _=>⟨_,rfl,by simp,fun j u hu=>?_⟩⟩
 rw [add_plain,Nat.zero_add,Joins.cell_alloc_mark_at _ _ _ _ _ _ rfl,← hu]
 simp
set_option maxHeartbeats 1000000 in
theorem longer_any (A:Option Addr) (n c:Nat) (m:Nat) (xs:List Nat) (w:World) (hn:n≤200000) (hm:m≤200000) (hb:Bts w w.heap.size A n xs) :
  Calls Tryz.prog 139 #[.slice A n c,.int .i64 (m:Nat)] w fun e w'=>∃ v,e=.returned v∧w'.ownsRow w.heap.size 5 1 v n (vals xs)∧Below w.heap.size w w':=by
 obtain ⟨i0,hi,hz0,hz1,hz2⟩:=info_parts Tryz.info5
 have hr:=hb.reads
 have HR:=Lib.hid hr;clear hr
 have HI:=Lib.hid hi;clear hi
 have HZ0:=Lib.hid hz0;clear hz0
 have HZ1:=Lib.hid hz1;clear hz1
 have HZ2:=Lib.hid hz2;clear hz2
 go_enter Tryz.func139,Tryz.ntmps139
 go_wp2_with (first
  | (at_make;refine wpList_make_own _ rfl _ _ 74 rfl w.heap.size 5 i0 (.int .u8 0) 1 Tryz.underlying74 HI.out HZ0.out HZ1.out _ _ _ (n+m) rfl rfl (by omega) (by rw [HZ2.out];omega) (by unfold maxLen;omega) (Nat.le_refl _) ?_;intro w1 hown1 hg1;have hb1:Below w.heap.size w w1:=((Below.refl _ _).grown hg1 (Nat.le_refl _) (by simp)))
  | (at_builtin;(refine wpList_append_any _ rfl (.tmp 9) (.tmp 10) 74 rfl w.heap.size 5 i0 (.int .u8 0) 1 1 Tryz.underlying74 HI.out HZ0.out HZ1.out HZ2.out rfl (by decide) (.slice (some ⟨w.heap.size,0,none⟩) 0 (n+m)) 0 [] rfl hown1 w.heap.size A n c (vals xs) rfl (HR.out.below hb1) (vals_one xs) (by unfold maxLen;omega) (by omega) hb1.size ?_;intro v2 w2 hown2 hg2 _)))
 go_ret
 rw [Nat.zero_add,List.nil_append] at hown2
 exact ⟨v2,rfl,hown2,hb1.grown hg2 hb1.size (fun k hk=>(hown1.lt k hk).1)⟩
set_option maxHeartbeats 1000000 in
theorem clone_any (A:Option Addr) (n c:Nat) (xs:List Nat) (w:World) (hn:n≤200000) (hA:A=none→c=0) (hb:Bts w w.heap.size A n xs) :
  Calls Tryz.prog 138 #[.slice A n c] w fun e w'=>∃ v,e=.returned v∧w'.ownsRow w.heap.size 5 1 v n (vals xs)∧Below w.heap.size w w':=by
 obtain ⟨i0,hi,hz0,hz1,hz2⟩:=info_parts Tryz.info5
 have hr:=hb.reads
 have hl:=hb.1
 rcases A with _ | ad
 ·have h0:n=0:=by
   rcases Nat.eq_zero_or_pos n with h0 | h0
   ·exact h0
   ·obtain ⟨_,_,e,_⟩:=hb.2.2.2 h0
    cases e
  subst h0
  have hx:xs=[]:=List.eq_nil_of_length_eq_zero hl
  subst hx
  rw [hA rfl]
  have kn:=fun (W:World) (a:Option Addr) (n c n' c':Nat)=>Lib.run_eql_slice_nil (P:=Tryz.prog) W 74 _ a n c n' c' Tryz.underlying74
  go_enter Tryz.func138,Tryz.ntmps138
  go_wp2
  go_ret
  exact ⟨_,rfl,World.ownsRow_nil _ _ _ _,Below.refl _ _⟩
 ·have HR:=Lib.hid hr;clear hr
  have HI:=Lib.hid hi;clear hi
  have HZ0:=Lib.hid hz0;clear hz0
  have HZ1:=Lib.hid hz1;clear hz1
  have HZ2:=Lib.hid hz2;clear hz2
  have hown1:(w.alloc (.cells #[] 5)).ownsRow w.heap.size 5 1 (.slice (some ⟨w.heap.size,0,none⟩) 0 0) 0 []:=World.ownsRow_lit w #[] 0 (Nat.le_refl _) (by unfold maxLen;omega) rfl
  have HO:=Lib.hid hown1;clear hown1
  have hb1:Below w.heap.size w (w.alloc (.cells #[] 5)):=(Below.refl _ _).alloc (Nat.le_refl _) _
  have HB1:=Lib.hid hb1;clear hb1
  have kn:=fun (W:World) (a:Option Addr) (n c n' c':Nat)=>Lib.run_eql_slice_nil (P:=Tryz.prog) W 74 _ a n c n' c' Tryz.underlying74
  go_enter Tryz.func138,Tryz.ntmps138
  go_wp2_with (at_builtin;(refine wpList_append_any _ rfl (.tmp 5) (.tmp 6) 74 rfl w.heap.size 5 i0 (.int .u8 0) 1 1 Tryz.underlying74 HI.out HZ0.out HZ1.out HZ2.out rfl (by decide) (.slice (some ⟨w.heap.size,0,none⟩) 0 0) 0 [] rfl HO.out w.heap.size (some ad) n c (vals xs) rfl (HR.out.below HB1.out) (vals_one xs) (by unfold maxLen;omega) (by omega) HB1.out.size ?_;intro v2 w2 hown2 hg2 _))
  go_ret
  rw [Nat.zero_add,List.nil_append] at hown2
  exact ⟨v2,rfl,hown2,HB1.out.grown hg2 HB1.out.size (fun k hk=>(HO.out.lt k hk).1)⟩
theorem reads_byte (w:World) (g:Nat) (hg:g=w.heap.size) (x:Int) (b:Nat) (h:x=(b:Int)):Reads (w.alloc (.cells #[.int .u8 x] 5)) (w.heap.size+1) 1 (some ⟨g,0,none⟩) 1 (vals [b]):=by
 subst h
 exact reads_new w #[.int .u8 (b:Int)] 5 g hg
theorem two56 (N j:Nat):((N:Int) / 2 ^ (8*j) % 256)=((N / 256 ^ j % 256:Nat):Int):=by
 rw [show (256:Nat) ^ j=2 ^ (8*j) by rw [Nat.pow_mul]]
 simp
theorem be_step (ys xs:List Nat) (j k N:Nat) (h:ys++be (j+1) N=xs++be k N):(ys++[N / 256 ^ j % 256])++be j N=xs++be k N:=by
 rw [← h,List.append_assoc]
 rfl
set_option maxHeartbeats 1000000 in
theorem num_put (A:Option Addr) (n c k N:Nat) (xs:List Nat) (w:World) (hn:n≤100000) (hk:isW (k:Int)=true) (hk1:k≤8) (hk0:1≤k) (hN:N<18446744073709551616) (hb:Bts w w.heap.size A n xs) :
  Calls Tryz.prog 91 #[.slice A n c,.int .i64 (k:Nat),.int .u64 (N:Nat)] w fun e w'=>∃ v,e=.returned v∧w'.ownsRow w.heap.size 5 1 v (n+k) (vals (xs++be k N))∧Below w.heap.size w w':=by
 obtain ⟨i0,hi,hz0,hz1,hz2⟩:=info_parts Tryz.info5
 have h1:=isWidth_any k w
 rw [hk] at h1
 have h2:=longer_any A n c k xs w (by omega) (by omega) hb
 have H1:=Lib.hid h1;clear h1
 have H2:=Lib.hid h2;clear h2
 have HI:=Lib.hid hi;clear hi
 have HZ0:=Lib.hid hz0;clear hz0
 have HZ1:=Lib.hid hz1;clear hz1
 have HZ2:=Lib.hid hz2;clear hz2
 clear hk hb
 go_enter Tryz.func91,Tryz.ntmps91
 go_wp2_with (first
  | (go_at_call 137;refine (H1.out).mono ?_;rintro e w' ⟨rfl,rfl⟩)
  | (go_at_call 139;refine (H2.out).mono ?_;rintro e w1 ⟨v1,rfl,hown1,hb1⟩;have HO1:=Lib.hid hown1;clear hown1;have HB1:=Lib.hid hb1;clear hb1))
 go_loopw [7,8] (fun v i wr=>∃ (j:Nat) (ys:List Nat),j≤k∧i=.int .i64 ((j:Int) - 1)∧ys++be j N=xs++be k N∧wr.ownsRow w.heap.size 5 1 v (n+(k - j)) (vals ys)∧Below w.heap.size w wr) (fun _ i _=>(intOf i+1).toNat)
 case atStart=>exact ⟨k,xs,Nat.le_refl _,rfl,rfl,by rw [Nat.sub_self];exact HO1.out,HB1.out⟩
 case round =>
  obtain ⟨j,ys,hj,rfl,hy,hown,hbel⟩:=hrel
  have HY:=Lib.hid hy;clear hy
  have HO:=Lib.hid hown;clear hown
  have HB:=Lib.hid hbel;clear hbel
  rcases j with _ | j
  ·go_wp2
   go_ret
   have e:=HY.out
   rw [show be 0 N=[] from rfl,List.append_nil] at e
   have h:=HO.out
   rw [e,Nat.sub_zero] at h
   exact ⟨_,rfl,h,HB.out⟩
  ·have ej:(((j+1:Nat):Int) - 1)=(j:Int):=by omega
   rw [ej]
   have eb:=two56 N j
   have EB:=Lib.hid eb;clear eb
   go_wp2_with (at_builtin;(refine wpList_append_any _ rfl (.tmp 23) (.tmp 29) 74 rfl w.heap.size 5 i0 (.int .u8 0) 1 1 Tryz.underlying74 HI.out HZ0.out HZ1.out HZ2.out rfl (by decide) _ (n+(k - (j+1))) (vals ys) rfl (HO.out.alloc _) (wr.heap.size+1) (some ⟨wr.heap.size,0,none⟩) 1 1 (vals [N / 256 ^ j % 256]) rfl (reads_byte wr _ rfl _ _ EB.out) (vals_one _) (by unfold maxLen;omega) (by omega) (by have:=HB.out.size;simp;omega) ?_;intro v2 w2 hown2 hg2 _;have hb2:Below w.heap.size w w2:=((HB.out.alloc HB.out.size _).grown hg2 (by have:=HB.out.size;simp;omega) (fun q hq=>(HO.out.lt q hq).1));clear hg2))
   go_roundw
   case rel =>
    rw [← vals_append] at hown2
    exact ⟨j,ys++[N / 256 ^ j % 256],by omega,rfl,be_step ys xs j k N HY.out,by rw [show n+(k - j)=n+(k - (j+1))+1 by omega];exact hown2,hb2⟩
   case measure=>simp [intOf]
theorem putNum_length (xs:List Nat) (k:Int) (N:Nat):(putNum xs k N).length≤xs.length+8:=by
 unfold putNum
 split
 ·rename_i h
  obtain ⟨m,rfl,h1,h8⟩:=isW_nat h
  rw [List.length_append,be_length]
  simp
  omega
 ·omega
theorem clone_sl (v:Value) (xs:List Nat) (w:World) (h:Sl w w.heap.size v xs) (hl:xs.length≤200000) :
  Calls Tryz.prog 138 #[v] w fun e w'=>∃ v',e=.returned v'∧Sl w' w'.heap.size v' xs∧Below w.heap.size w w':=by
 have hx:=h.lt
 obtain ⟨A,n,c,rfl,hb,h1,h2,h3⟩:=h
 have hn:=hb.1
 refine (clone_any A n c xs w (by omega) h3 hb).mono ?_
 rintro e w' ⟨v,rfl,hown,hbel⟩
 exact ⟨v,rfl,sl_own hown hx (by omega),hbel⟩
set_option maxHeartbeats 1000000 in
theorem put_num (v:Value) (k:Int) (N:Nat) (xs:List Nat) (w:World) (h:Sl w w.heap.size v xs) (hl:xs.length≤100000) (hN:N<18446744073709551616) :
  Calls Tryz.prog 91 #[v,.int .i64 k,.int .u64 (N:Nat)] w fun e w'=>∃ v',e=.returned v'∧Sl w' w'.heap.size v' (putNum xs k N)∧Below w.heap.size w w':=by
 have hlt:=putNum_lt h.lt k N
 by_cases hk:isW k=true
 ·obtain ⟨m,rfl,h1,h8⟩:=isW_nat hk
  have e:putNum xs (m:Int) N=xs++be m N:=by unfold putNum;rw [if_pos hk];rfl
  rw [e] at hlt ⊢
  obtain ⟨A,n,c,rfl,hb,h1',h2',h3'⟩:=h
  have hn:=hb.1
  refine (num_put A n c m N xs w (by omega) hk h8 h1 hN hb).mono ?_
  rintro e w' ⟨v,rfl,hown,hbel⟩
  exact ⟨v,rfl,sl_own hown hlt (by omega),hbel⟩
 ·have e:putNum xs k N=xs:=by unfold putNum;rw [if_neg hk]
  rw [e]
  have h1:=isWidth_any k w
  rw [show isW k=false by simpa using hk] at h1
  have h2:=clone_sl v xs w h (by omega)
  have H1:=Lib.hid h1;clear h1
  have H2:=Lib.hid h2;clear h2
  clear h hk hlt e
  go_enter Tryz.func91,Tryz.ntmps91
  go_wp2_with (first
   | (go_at_call 137;refine (H1.out).mono ?_;rintro e w' ⟨rfl,rfl⟩)
   | (go_at_call 138;refine (H2.out).mono ?_;rintro e w1 ⟨v1,rfl,hs,hb⟩))
  go_ret
  exact ⟨_,rfl,hs,hb⟩
theorem reads_two (w:World) (g:Nat) (hg:g=w.heap.size) (x y:Int) (a b:Nat) (h:x=(a:Int)) (h':y=(b:Int)):Reads (w.alloc (.cells #[.int .u8 x,.int .u8 y] 5)) (w.heap.size+1) 1 (some ⟨g,0,none⟩) 2 (vals [a,b]):=by
 subst h h'
 exact reads_new w #[.int .u8 (a:Int),.int .u8 (b:Int)] 5 g hg
set_option maxHeartbeats 1000000 in
theorem text_ok (A A':Option Addr) (n n' c c':Nat) (xs ts:List Nat) (w:World) (hn:n≤100000) (hn':n'≤65535) (hb:Bts w w.heap.size A n xs) (hb':Bts w w.heap.size A' n' ts) :
  Calls Tryz.prog 154 #[.slice A n c,.slice A' n' c'] w fun e w'=>∃ v,e=.returned (.tuple #[v,.bool true])∧w'.ownsRow w.heap.size 5 1 v (n+2+n') (vals (xs++(be 2 n'++ts)))∧Below w.heap.size w w':=by
 obtain ⟨i0,hi,hz0,hz1,hz2⟩:=info_parts Tryz.info5
 have h2:=longer_any A n c (2+n') xs w (by omega) (by omega) hb
 rw [Int.natCast_add] at h2
 have hr:=hb'.reads
 have hd:decide ((65535:Int)<n')=false:=by simp;omega
 have H2:=Lib.hid h2;clear h2
 have HR:=Lib.hid hr;clear hr
 have HI:=Lib.hid hi;clear hi
 have HZ0:=Lib.hid hz0;clear hz0
 have HZ1:=Lib.hid hz1;clear hz1
 have HZ2:=Lib.hid hz2;clear hz2
 clear hb hb'
 go_enter Tryz.func154,Tryz.ntmps154
 go_wp2_with (first
  | (go_at_call 139;refine (H2.out).mono ?_;rintro e w1 ⟨v1,rfl,hown1,hb1⟩;have HO1:=Lib.hid hown1;clear hown1;have HB1:=Lib.hid hb1;clear hb1)
  | (at_builtin;(refine wpList_append_any _ rfl (.tmp 19) (.tmp 25) 74 rfl w.heap.size 5 i0 (.int .u8 0) 1 1 Tryz.underlying74 HI.out HZ0.out HZ1.out HZ2.out rfl (by decide) v1 n (vals xs) rfl (HO1.out.alloc _) (w1.heap.size+1) (some ⟨w1.heap.size,0,none⟩) 2 2 (vals [n' / 256,n' % 256]) rfl (reads_two w1 _ rfl _ _ _ _ (by omega) (by omega)) (vals_one _) (by unfold maxLen;omega) (by omega) (by have:=HB1.out.size;simp;omega) ?_;intro v2 w2 hown2 hg2 _;have hb2:Below w.heap.size w w2:=((HB1.out.alloc HB1.out.size _).grown hg2 (by have:=HB1.out.size;simp;omega) (fun q hq=>(HO1.out.lt q hq).1));clear hg2;have HO2:=Lib.hid hown2;clear hown2;have HB2:=Lib.hid hb2;clear hb2))
  | (at_builtin;(refine wpList_append_any _ rfl (.tmp 27) (.tmp 28) 74 rfl w.heap.size 5 i0 (.int .u8 0) 1 1 Tryz.underlying74 HI.out HZ0.out HZ1.out HZ2.out rfl (by decide) v2 (n+2) _ rfl HO2.out w.heap.size A' n' c' (vals ts) rfl (HR.out.below HB2.out) (vals_one _) (by unfold maxLen;omega) (by omega) HB2.out.size ?_;intro v3 w3 hown3 hg3 _;have hb3:Below w.heap.size w w3:=(HB2.out.grown hg3 HB2.out.size (fun q hq=>(HO2.out.lt q hq).1));clear hg3)))
 go_ret2
 rw [← vals_append,← vals_append,List.append_assoc,← be_two n' (by omega)] at hown3
 exact ⟨v3,rfl,hown3,hb3⟩
set_option maxHeartbeats 1000000 in
theorem read_any (v:Value) (xs:List Nat) (w:World) (h:Sl w w.heap.size v xs) (hl:xs.length≤200000) :
  Calls Tryz.prog 164 #[v] w fun e w'=>∃ g,e=.returned (ptr g)∧w.heap.size≤g∧Rdr w' g (xs,true)∧Below w.heap.size w w':=by
 have h2:=clone_sl v xs w h hl
 have H2:=Lib.hid h2;clear h2
 clear h
 go_enter Tryz.func164,Tryz.ntmps164
 go_wp2_with (go_at_call 138;refine (H2.out).mono ?_;rintro e w1 ⟨v1,rfl,hs,hb⟩;obtain ⟨A,n,c,rfl,hbt,h1,h2,h3⟩:=hs;have HBT:=Lib.hid hbt;clear hbt;have HB:=Lib.hid hb;clear hb)
 go_ret
 exact ⟨w1.heap.size,rfl,HB.out.size,⟨A,n,c,Blk.new _ _ _,HBT.out.alloc (Nat.le_refl _) _,h1,h2⟩,HB.out.alloc HB.out.size _⟩
end Go.Proofs.YtplpmemlaohlaaaGreat.Oct
namespace Go.Proofs.YtplpmemlaohlaaaGreat.Crc
def half (r:Nat):Nat:=if r % 2=1 then (r / 2) ^^^ 3988292384 else r / 2
def halves:Nat→Nat→Nat
 | 0,r=>r
 | n+1,r=>half (halves n r)
def feed (r b:Nat):Nat:=halves 8 (r ^^^ b)
def reg (xs:List Nat) (r:Nat):Nat:=xs.foldl feed r
def runFrom (f:Nat→Nat) (s:Nat):Nat→Nat→Nat
 | 0,r=>r
 | n+1,r=>half (runFrom f s n r ^^^ f (s+n))
def bit (xs:List Nat) (j:Nat):Nat:=xs.getD (j / 8) 0 / 2 ^ (j % 8) % 2
def full:Nat:=4294967295
def crc (xs:List Nat):Nat:=full - reg xs full
theorem xor_swap (a b c d:Nat):(a ^^^ b) ^^^ (c ^^^ d)=(a ^^^ c) ^^^ (b ^^^ d):=by
 apply Nat.eq_of_testBit_eq
 intro i
 simp only [Nat.testBit_xor]
 cases a.testBit i <;> cases b.testBit i <;> cases c.testBit i <;> cases d.testBit i <;> rfl
theorem half_xor (a b:Nat):half (a ^^^ b)=half a ^^^ half b:=by
 have h:=@Nat.xor_mod_two_eq_one a b
 have hd:=@Nat.xor_div_two a b
 unfold half
 rw [hd]
 by_cases ha:a % 2=1 <;> by_cases hb:b % 2=1
 ·rw [if_neg (by rw [h];simp [ha,hb]),if_pos ha,if_pos hb,xor_swap,Nat.xor_self,Nat.xor_zero]
 ·rw [if_pos (by rw [h];simp [ha,hb]),if_pos ha,if_neg hb,Nat.xor_assoc,Nat.xor_comm (b / 2),Nat.xor_assoc]
 ·rw [if_pos (by rw [h];simp [ha,hb]),if_neg ha,if_pos hb,Nat.xor_assoc]
 ·rw [if_neg (by rw [h];simp [ha,hb]),if_neg ha,if_neg hb]
theorem half_double (x:Nat):half (2*x)=x:=by
 unfold half
 rw [if_neg (by omega)]
 omega
theorem half_lt {r:Nat} (h:r<2 ^ 32):half r<2 ^ 32:=by
 unfold half
 split
 ·exact Nat.xor_lt_two_pow (by omega) (by decide)
 ·omega
theorem halves_xor (n a b:Nat):halves n (a ^^^ b)=halves n a ^^^ halves n b:=by
 induction n with
 | zero=>rfl
 | succ n ih=>show half _=half _ ^^^ half _;rw [ih,half_xor]
theorem halves_lt {r:Nat} (n:Nat) (h:r<2 ^ 32):halves n r<2 ^ 32:=by
 induction n with
 | zero=>exact h
 | succ n ih=>exact half_lt ih
theorem halves_pow (i t:Nat):halves i (2 ^ i*t)=t:=by
 induction i generalizing t with
 | zero=>show 2 ^ 0*t=t;omega
 | succ i ih =>
  show half (halves i _)=t
  rw [show 2 ^ (i+1)*t=2 ^ i*(2*t) by rw [Nat.pow_succ,Nat.mul_assoc],ih,half_double]
theorem mod_succ_xor (P i:Nat):P % 2 ^ (i+1)=P % 2 ^ i ^^^ 2 ^ i*(P / 2 ^ i % 2):=by
 apply Nat.eq_of_testBit_eq
 intro j
 rw [Nat.testBit_xor,Nat.testBit_mod_two_pow,Nat.testBit_mod_two_pow,Nat.testBit_two_pow_mul]
 have hb:P / 2 ^ i % 2=(P.testBit i).toNat:=by
  rw [Nat.testBit_eq_decide_div_mod_eq]
  by_cases h:P / 2 ^ i % 2=1
  ·rw [h];rfl
  ·have:P / 2 ^ i % 2=0:=by omega
   rw [this];rfl
 rw [hb]
 rcases Nat.lt_trichotomy j i with h | h | h
 ·simp [h,show j<i+1 by omega,show ¬ i≤j by omega]
 ·subst h
  cases P.testBit j <;> simp
 ·have h1:¬ j<i+1:=by omega
  have h2:¬ j<i:=by omega
  have h3:j - i≠0:=by omega
  simp only [h1,h2,decide_false,Bool.false_and,Bool.false_xor]
  cases P.testBit i
  ·simp
  ·simp only [Bool.toNat_true]
   have:Nat.testBit 1 (j - i)=false:=by
    rw [Bool.eq_false_iff]
    intro hh
    exact h3 (Nat.testBit_one_eq_true_iff_self_eq_zero.1 hh)
   simp [this]
theorem run_burst (P r s i:Nat):runFrom (fun j=>P / 2 ^ (j - s) % 2) s i r=halves i (r ^^^ P % 2 ^ i):=by
 induction i with
 | zero=>show r=r ^^^ P % 2 ^ 0;simp [Nat.mod_one]
 | succ i ih =>
  show half (runFrom _ s i r ^^^ P / 2 ^ (s+i - s) % 2)=half (halves i _)
  rw [ih,show s+i - s=i by omega,mod_succ_xor,← Nat.xor_assoc,halves_xor i (r ^^^ P % 2 ^ i),halves_pow]
theorem run_congr {f g:Nat→Nat} (s n r:Nat) (h:∀ j,s≤j→j<s+n→f j=g j):runFrom f s n r=runFrom g s n r:=by
 induction n with
 | zero=>rfl
 | succ n ih =>
  show half (_ ^^^ _)=half (_ ^^^ _)
  rw [ih (fun j h1 h2=>h j h1 (by omega)),h (s+n) (by omega) (by omega)]
theorem run_add (f:Nat→Nat) (s m n r:Nat):runFrom f s (m+n) r=runFrom f (s+m) n (runFrom f s m r):=by
 induction n with
 | zero=>rfl
 | succ n ih=>show half (runFrom f s (m+n) r ^^^ f (s+(m+n)))=half (_ ^^^ _);rw [ih,Nat.add_assoc]
theorem run_lt {f:Nat→Nat} (s n:Nat) {r:Nat} (hr:r<2 ^ 32) (h:∀ j,f j<2):runFrom f s n r<2 ^ 32:=by
 induction n with
 | zero=>exact hr
 | succ n ih=>exact half_lt (Nat.xor_lt_two_pow ih (Nat.lt_of_lt_of_le (h _) (by decide)))
theorem bit_lt (xs:List Nat) (j:Nat):bit xs j<2:=Nat.mod_lt _ (by decide)
theorem feed_run (xs:List Nat) (k:Nat) (r:Nat) (hb:xs.getD k 0<256):feed r (xs.getD k 0)=runFrom (bit xs) (8*k) 8 r:=by
 have h:=run_burst (xs.getD k 0) r (8*k) 8
 rw [Nat.mod_eq_of_lt (show xs.getD k 0<2 ^ 8 from hb)] at h
 unfold feed
 rw [← h]
 apply run_congr
 intro j h1 h2
 unfold bit
 rw [show j / 8=k by omega,show j % 8=j - 8*k by omega]
theorem reg_take (xs:List Nat) (hx:∀ x∈xs,x<256) (r k:Nat) (hk:k≤xs.length):reg (xs.take k) r=runFrom (bit xs) 0 (8*k) r:=by
 induction k with
 | zero=>rfl
 | succ k ih =>
  have hlt:k<xs.length:=by omega
  have hg:xs.getD k 0=xs[k]:=by simp [List.getD,List.getElem?_eq_getElem hlt]
  rw [List.take_succ_eq_append_getElem hlt]
  unfold reg at ih ⊢
  rw [List.foldl_append,ih (by omega)]
  show feed _ xs[k]=_
  rw [← hg,feed_run xs k _ (by rw [hg];exact hx _ (List.getElem_mem hlt)),show 8*(k+1)=8*k+8 by omega,run_add,Nat.zero_add]
theorem reg_run (xs:List Nat) (hx:∀ x∈xs,x<256) (r:Nat):reg xs r=runFrom (bit xs) 0 (8*xs.length) r:=by
 have:=reg_take xs hx r xs.length (Nat.le_refl _)
 rwa [List.take_length] at this
theorem reg_lt (xs:List Nat) (hx:∀ x∈xs,x<256) {r:Nat} (hr:r<2 ^ 32):reg xs r<2 ^ 32:=by
 rw [reg_run xs hx]
 exact run_lt _ _ hr (bit_lt xs)
theorem reg_append (xs ys:List Nat) (r:Nat):reg (xs++ys) r=reg ys (reg xs r):=by
 unfold reg;rw [List.foldl_append]
theorem full_lt:full<2 ^ 32:=by unfold full;decide
theorem crc_lt (xs:List Nat):crc xs<2 ^ 32:=by
 have:=full_lt
 unfold crc;omega
theorem not_eq {r:Nat} (h:r<2 ^ 32):full ^^^ r=full - r:=by
 have h1:(BitVec.allOnes 32 ^^^ BitVec.ofNat 32 r).toNat=full ^^^ r:=by
  rw [BitVec.toNat_xor,BitVec.toNat_allOnes,BitVec.toNat_ofNat,Nat.mod_eq_of_lt h];rfl
 have h2:(~~~ (BitVec.ofNat 32 r)).toNat=full - r:=by
  rw [BitVec.toNat_not,BitVec.toNat_ofNat,Nat.mod_eq_of_lt h];rfl
 have h3:BitVec.allOnes 32 ^^^ BitVec.ofNat 32 r = ~~~ (BitVec.ofNat 32 r):=by
  exact BitVec.allOnes_xor
 rw [← h1,← h2,h3]
theorem getD_lt {a:List Nat} (h:∀ x∈a,x<256) (i:Nat):a.getD i 0<256:=by
 rcases Nat.lt_or_ge i a.length with hl | hl
 ·simp only [List.getD,List.getElem?_eq_getElem hl,Option.getD_some];exact h _ (List.getElem_mem hl)
 ·simp [List.getD,List.getElem?_eq_none hl]
end Go.Proofs.YtplpmemlaohlaaaGreat.Crc
namespace Go.Proofs.YtplpmemlaohlaaaGreat.Crc
open Go.RowKit
theorem xor32 (a b:Nat) (ha:a<4294967296) (hb:b<4294967296):bits .xor .u32 (a:Int) (b:Int)=((a ^^^ b:Nat):Int):=u32_xor_nat a b ha hb
theorem low32 (x:Nat) (hx:x<4294967296):bits .and .u32 (x:Int) 1=((x % 2:Nat):Int):=by
 have h:=u32_and_nat x 1 hx (by omega)
 rw [Nat.and_one_is_mod] at h
 exact h
theorem half_odd (x:Nat) (hx:x<4294967296) (h:(bits .and .u32 (x:Int) 1 == 1)=true) :
  bits .xor .u32 ((x:Int) / 2) 3988292384=((half x:Nat):Int):=by
 rw [low32 x hx] at h
 have h2:x % 2=1:=by have:=beq_iff_eq.1 h;omega
 have h3:=xor32 (x / 2) 3988292384 (by omega) (by omega)
 unfold half
 rw [if_pos h2,← h3]
 rfl
theorem half_even (x:Nat) (hx:x<4294967296) (h:(bits .and .u32 (x:Int) 1 == 1)=false) :
  ((x:Int) / 2)=((half x:Nat):Int):=by
 rw [low32 x hx] at h
 have h2:¬ x % 2=1:=by
  have:=beq_eq_false_iff_ne.1 h
  intro hh;apply this;omega
 unfold half
 rw [if_neg h2]
 rfl
theorem u32_eq {a b:Int} (h:a=b):Value.int .u32 a=Value.int .u32 b:=by rw [h]
theorem ret_u32 {a b:Int} (h:a=b):Ending.returned (.int .u32 a)=.returned (.int .u32 b):=by rw [h]
set_option maxHeartbeats 400000 in
theorem step_any (r b:Nat) (hr:r<4294967296) (hb:b<256) (w:World) :
  Calls Tryz.prog 213 #[.int .u32 (r:Int),.int .u8 (b:Int)] w fun e w'=>e=.returned (.int .u32 (feed r b:Nat))∧w=w':=by
 have h0:=xor32 r b hr (by omega)
 have hrb:r ^^^ b<4294967296:=Nat.xor_lt_two_pow (n:=32) hr (by omega)
 go_enter Tryz.func213,Tryz.ntmps213
 go_wp2
 go_loop [0,10] (fun x i=>∃ k:Nat,k≤8∧i=.int .i64 k∧x=.int .u32 (halves k (r ^^^ b):Nat)) (fun _ i=>8 - (intOf i).toNat)
 case atStart=>exact ⟨0,Nat.zero_le _,rfl,rfl⟩
 case round =>
  obtain ⟨k,hk,rfl,rfl⟩:=hrel
  clear h0
  have hl:halves k (r ^^^ b)<4294967296:=halves_lt k hrb
  obtain ⟨x,hx⟩:∃ x,x=halves k (r ^^^ b):=⟨_,rfl⟩
  rw [← hx] at hl ⊢
  have HX:=Lib.hid hx;clear hx
  go_wp2
  ·have hbit:(bits .and .u32 (x:Int) 1 == 1)=true:=by assumption
   go_round
   case rel=>exact ⟨k+1,by omega,by go_num,u32_eq (by rw [half_odd x hl hbit,HX.out];rfl)⟩
   case measure=>simp [intOf];omega
  ·have hbit:(bits .and .u32 (x:Int) 1 == 1)=false:=by assumption
   go_round
   case rel=>exact ⟨k+1,by omega,by go_num,u32_eq (by rw [half_even x hl hbit,HX.out];rfl)⟩
   case measure=>simp [intOf];omega
  ·go_ret
   have hk8:k=8:=by omega
   exact ⟨ret_u32 (by rw [HX.out,hk8];rfl),rfl⟩
def Bts (w:World) (B:Nat) (A:Option Addr) (n:Nat) (xs:List Nat):Prop :=
 xs.length=n∧(∀ x∈xs,x<256)∧n≤1000000∧(0<n→∃ b off,A=some ⟨b,off,none⟩∧b<B∧∀ i,i<n→w.cell? ⟨b,off+i,none⟩=some (.int .u8 (xs.getD i 0:Nat)))
structure Part where
 A:Option Addr
 n:Nat
 c:Nat
 xs:List Nat
def Part.val (p:Part):Value:=.slice p.A p.n p.c
def flat (ps:List Part):List Nat:=ps.flatMap Part.xs
def Pts (w:World) (B:Nat) (P:Option Addr) (n:Nat) (ps:List Part):Prop :=
 ps.length=n∧n≤100∧(0<n→∃ b off,P=some ⟨b,off,none⟩∧∀ i (h:i<ps.length),w.cell? ⟨b,off+i,none⟩=some ps[i].val)∧∀ p∈ps,Bts w B p.A p.n p.xs
theorem flat_succ (ps:List Part) (k:Nat) (h:k<ps.length) (r:Nat):reg (flat (ps.take (k+1))) r=reg ps[k].xs (reg (flat (ps.take k)) r):=by
 rw [List.take_succ_eq_append_getElem h]
 unfold flat
 rw [List.flatMap_append,reg_append]
 simp
theorem reg_succ (xs:List Nat) (j:Nat) (h:j<xs.length) (r:Nat):reg (xs.take (j+1)) r=feed (reg (xs.take j) r) (xs.getD j 0):=by
 rw [List.take_succ_eq_append_getElem h,reg_append]
 simp [reg,List.getD,List.getElem?_eq_getElem h]
theorem take_lt {xs:List Nat} (h:∀ x∈xs,x<256) (j:Nat):∀ x∈xs.take j,x<256:=fun x hx=>h x (List.mem_of_mem_take hx)
theorem flat_lt {w:World} {B:Nat} {ps:List Part} (h:∀ p∈ps,Bts w B p.A p.n p.xs):∀ x∈flat ps,x<256:=by
 intro x hx
 simp only [flat,List.mem_flatMap] at hx
 obtain ⟨p,hp,hx⟩:=hx
 exact (h p hp).2.1 x hx
theorem full_xor (r:Nat) (h:r<4294967296):bits .xor .u32 IntKind.u32.max (r:Int)=((full - r:Nat):Int):=by
 rw [← not_eq h]
 exact xor32 4294967295 r (by omega) h
set_option maxHeartbeats 400000 in
theorem of_any (P:Option Addr) (n c B:Nat) (ps:List Part) (w:World) (h:Pts w B P n ps) :
  Calls Tryz.prog 194 #[.slice P n c] w fun e w'=>e=.returned (.int .u32 (crc (flat ps):Nat))∧w=w':=by
 obtain ⟨hn,hn1,hP,hps⟩:=h
 have HN:=Lib.hid hn;clear hn
 have HPS:=Lib.hid hps;clear hps
 have HP:=Lib.hid hP;clear hP
 go_enter Tryz.func194,Tryz.ntmps194
 go_wp2
 go_loop [3,10] (fun x i=>∃ k:Nat,k≤n∧i=.int .i64 k∧x=.int .u32 (reg (flat (ps.take k)) full:Nat)) (fun _ i=>n - (intOf i).toNat)
 case atStart=>exact ⟨0,Nat.zero_le _,rfl,rfl⟩
 case round =>
  obtain ⟨k,hk,rfl,rfl⟩:=hrel
  by_cases hlt:k<n
  ·obtain ⟨b,off,rfl,hcell⟩:=HP.out (by omega)
   have hk2:k<ps.length:=by have:=HN.out;omega
   have hc:=hcell k hk2
   clear hcell
   have hfs:=flat_succ ps k hk2 full
   have hpt:=HPS.out _ (List.getElem_mem hk2)
   have hR:reg (flat (ps.take k)) full<4294967296:=reg_lt _ (flat_lt fun p hp=>HPS.out p (List.mem_of_mem_take hp)) full_lt
   obtain ⟨R,hRe⟩:∃ R,R=reg (flat (ps.take k)) full:=⟨_,rfl⟩
   obtain ⟨S,hSe⟩:∃ S,S=reg (flat (ps.take (k+1))) full:=⟨_,rfl⟩
   rw [← hRe] at hR hfs ⊢
   rw [← hSe] at hfs
   have HRE:=Lib.hid hRe;clear hRe
   have HSE:=Lib.hid hSe;clear hSe
   generalize ps[k]=p at *
   obtain ⟨A,m,cc,xs⟩:=p
   simp only [Part.val] at hc
   simp only at hfs hpt
   obtain ⟨hm,hx,hm1,hA⟩:=hpt
   have HM:=Lib.hid hm;clear hm
   have HA:=Lib.hid hA;clear hA
   have HX:=Lib.hid hx;clear hx
   have HFS:=Lib.hid hfs;clear hfs
   go_wp2
   go_loop [3,16] (fun x i=>∃ j:Nat,j≤m∧i=.int .i64 j∧x=.int .u32 (reg (xs.take j) R:Nat)) (fun _ i=>m - (intOf i).toNat)
   case atStart=>exact ⟨0,Nat.zero_le _,rfl,rfl⟩
   case round =>
    obtain ⟨j,hj,rfl,rfl⟩:=hrel
    by_cases hjl:j<m
    ·obtain ⟨b2,off2,rfl,_,hcell2⟩:=HA.out (by omega)
     have hc2:=hcell2 j hjl
     clear hcell2
     have hj2:j<xs.length:=by have:=HM.out;omega
     have hq:=getD_lt HX.out j
     have hQ:reg (xs.take j) R<4294967296:=reg_lt _ (take_lt HX.out j) hR
     have hsucc:=reg_succ xs j hj2 R
     obtain ⟨q,hqe⟩:∃ q,q=xs.getD j 0:=⟨_,rfl⟩
     obtain ⟨Q,hQe⟩:∃ Q,Q=reg (xs.take j) R:=⟨_,rfl⟩
     rw [← hqe] at hc2 hq hsucc
     rw [← hQe] at hQ hsucc ⊢
     have HQE:=Lib.hid hqe;clear hqe
     have HQ:=Lib.hid hQe;clear hQe
     have HS:=Lib.hid hsucc;clear hsucc
     go_wp2_with (go_at_call 213;refine (step_any Q q hQ hq _).mono ?_;rintro e w' ⟨rfl,rfl⟩)
     go_round
     case rel=>exact ⟨j+1,by omega,by go_num,u32_eq (by rw [HS.out])⟩
     case measure=>simp [intOf];omega
    ·have hjm:j=m:=by omega
     go_wp2
     go_round
     case rel=>exact ⟨k+1,by omega,by go_num,u32_eq (by rw [HSE.out.symm,HFS.out,hjm,List.take_of_length_le (by have:=HM.out;omega)])⟩
     case measure=>simp [intOf];omega
  ·have hkn:k=n:=by omega
   have hR:reg (flat (ps.take k)) full<4294967296:=reg_lt _ (flat_lt fun p hp=>HPS.out p (List.mem_of_mem_take hp)) full_lt
   have hfx:=full_xor _ hR
   obtain ⟨R,hRe⟩:∃ R,R=reg (flat (ps.take k)) full:=⟨_,rfl⟩
   rw [← hRe] at hR hfx ⊢
   have HRE:=Lib.hid hRe;clear hRe
   have HFX:=Lib.hid hfx;clear hfx
   have HKN:=Lib.hid hkn;clear hkn
   go_wp2
   go_ret
   refine ⟨ret_u32 ?_,rfl⟩
   rw [HFX.out,HRE.out,HKN.out,List.take_of_length_le (by have:=HN.out;omega)]
   rfl
end Go.Proofs.YtplpmemlaohlaaaGreat.Crc
namespace Go.Proofs.YtplpmemlaohlaaaGreat
open Go.RowKit
def IsRow (k:IntKind) (w:World) (a:Option Addr) (len cap:Nat) (zs:List Int):Prop :=
 (a=none∧len=0∧cap=0∧zs=[]) ∨
 ∃ x,a=some x∧len≤cap∧cap≤maxLen∧zs.length=cap∧(∀ i,i<zs.length→w.cell? (x.add i)=some (.int k (zs.getD i 0)))∧∀ n∈zs,(Lit.int k n).wf=true
namespace Crc
def natsOf (zs:List Int) (n:Nat):List Nat:=(zs.take n).map Int.toNat
theorem Bts.keep {w w':World} {B n:Nat} {A:Option Addr} {xs:List Nat} (h:Bts w B A n xs) (hk:∀ p:Addr,p.block<B→w'.cell? p=w.cell? p):Bts w' B A n xs :=
 ⟨h.1,h.2.1,h.2.2.1,fun h0=>by
  obtain ⟨b,off,e,hb,hc⟩:=h.2.2.2 h0
  exact ⟨b,off,e,hb,fun i hi=>(hk ⟨b,off+i,none⟩ hb).trans (hc i hi)⟩⟩
theorem Bts.alloc {w:World} {B n:Nat} {A:Option Addr} {xs:List Nat} (h:Bts w B A n xs) (hB:B≤w.heap.size) (o:Obj):Bts (w.alloc o) B A n xs :=
 h.keep fun p hp=>World.cell?_alloc_lt w o p (by omega)
theorem Bts.below {w w':World} {B B' n:Nat} {A:Option Addr} {xs:List Nat} (h:Bts w B A n xs) (hb:Below B' w w') (hB:B≤B'):Bts w' B A n xs :=
 h.keep fun p hp=>hb.cell (by omega)
theorem pts_one {W:World} {B g n c:Nat} {A:Option Addr} {xs:List Nat} (hc:W.cell? ⟨g,0,none⟩=some (.slice A n c)) (hb:Bts W B A n xs) :
  Pts W B (some ⟨g,0,none⟩) 1 [⟨A,n,c,xs⟩] :=
 ⟨rfl,by omega,fun _=>⟨g,0,rfl,fun i hi=>by
  have:i=0:=by simp at hi;omega
  subst this
  exact hc⟩,fun p hp=>by
  simp only [List.mem_cons,List.not_mem_nil,or_false] at hp
  subst hp
  exact hb⟩
theorem of_one {W:World} {B g n c:Nat} {A:Option Addr} {xs:List Nat} (hc:W.cell? ⟨g,0,none⟩=some (.slice A n c)) (hb:Bts W B A n xs) :
  Calls Tryz.prog 194 #[.slice (some ⟨g,0,none⟩) 1 1] W fun e w'=>e=.returned (.int .u32 (crc xs:Nat))∧W=w':=by
 refine (of_any _ 1 1 B _ W (pts_one hc hb)).mono ?_
 rintro e w' ⟨rfl,rfl⟩
 exact ⟨by simp [flat],rfl⟩
end Crc
end Go.Proofs.YtplpmemlaohlaaaGreat
namespace Go.Proofs.YtplpmemlaohlaaaGreat.Crc
open Go.RowKit
def vals (xs:List Nat):List Value:=xs.map fun (x:Nat)=>Value.int .u8 (x:Int)
theorem vals_length (xs:List Nat):(vals xs).length=xs.length:=by simp [vals]
theorem vals_one (xs:List Nat):∀ u∈vals xs,u.oneCell'=true:=by
 intro u hu
 simp only [vals,List.mem_map] at hu
 obtain ⟨x,_,rfl⟩:=hu
 rfl
theorem vals_append (xs ys:List Nat):vals (xs++ys)=vals xs++vals ys:=by simp [vals]
theorem vals_at {xs:List Nat} {j:Nat} {u:Value} (h:(vals xs)[j]?=some u):j<xs.length∧u=.int .u8 (xs.getD j 0:Nat):=by
 have hl:j<xs.length:=by
  have:=(List.getElem?_eq_some_iff.1 h).1
  rwa [vals_length] at this
 refine ⟨hl,?_⟩
 simp only [vals,List.getElem?_map,List.getElem?_eq_getElem hl,Option.map_some,Option.some.injEq] at h
 rw [← h]
 simp [List.getD,List.getElem?_eq_getElem hl]
theorem bts_cells {w:World} {B n:Nat} {ad:Addr} {xs:List Nat} (h:Bts w B (some ad) n xs):∀ j u,(vals xs)[j]?=some u→w.cell? (ad.add j)=some u:=by
 intro j u hu
 obtain ⟨hl,rfl⟩:=vals_at hu
 have hn:=h.1
 obtain ⟨b,off,e,_,hc⟩:=h.2.2.2 (by omega)
 injection e with e
 subst e
 rw [← hc j (by omega)]
 congr 1
 unfold Addr.add
 split
 ·rename_i h0;subst h0;rfl
 ·rfl
def tail4 (q:Nat):List Nat:=[q / 16777216,q / 65536 % 256,q / 256 % 256,q % 256]
def sealed (xs:List Nat):List Nat:=xs++tail4 (crc xs)
theorem tail4_lt {q:Nat} (h:q<4294967296):∀ x∈tail4 q,x<256:=by
 intro x hx
 simp only [tail4,List.mem_cons,List.not_mem_nil,or_false] at hx
 rcases hx with rfl | rfl | rfl | rfl <;> omega
theorem sealed_lt {xs:List Nat} (h:∀ x∈xs,x<256):∀ x∈sealed xs,x<256:=by
 intro x hx
 rcases List.mem_append.1 hx with hx | hx
 ·exact h x hx
 ·exact tail4_lt (crc_lt xs) x hx
theorem Tryz.info5:(Tryz.prog.info? 5).map (fun i=>(i.zero,i.size,i.bytes))=some (some (.int .u8 0),1,1):=by kernel_rfl
theorem of_one_at (W:World) {B n c:Nat} {A:Option Addr} {xs:List Nat} (hb:Bts W B A n xs) (hB:B≤W.heap.size) :
  Calls Tryz.prog 194 #[.slice (some ⟨W.heap.size,0,none⟩) 1 1] (W.alloc (.cells #[.slice A n c] 74)) fun e w'=>e=.returned (.int .u32 (crc xs:Nat))∧W.alloc (.cells #[.slice A n c] 74)=w' :=
 of_one (by rw [World.cell?_alloc_mark];rfl) (hb.alloc hB _)
theorem lit4 (W:World) (g:Nat) (hg:g=W.heap.size) {A B C D:Int} {a b c d:Nat} (hA:A=(a:Int)) (hB:B=(b:Int)) (hC:C=(c:Int)) (hD:D=(d:Int)) :
  ∀ j u,(vals [a,b,c,d])[j]?=some u→(W.alloc (.cells #[.int .u8 A,.int .u8 B,.int .u8 C,.int .u8 D] 5)).cell? ((⟨g,0,none⟩:Addr).add j)=some u:=by
 subst hA hB hC hD
 intro j u hu
 have e:(⟨g,0,none⟩:Addr).add j=⟨g,j,none⟩:=by
  unfold Addr.add
  split
  ·rename_i h0;subst h0;rfl
  ·simp
 rw [e,Joins.cell_alloc_mark_at _ _ _ _ _ _ hg,← hu]
 match j with
 | 0=>rfl
 | 1=>rfl
 | 2=>rfl
 | 3=>rfl
 | k+4=>rfl
set_option maxHeartbeats 1000000 in
theorem seal_some (ad:Addr) (n c:Nat) (xs:List Nat) (w:World) (h:n≤2000) (hb:Bts w w.heap.size (some ad) n xs) :
  Calls Tryz.prog 155 #[.slice (some ad) n c] w fun e w'=>∃ v,e=.returned v∧w'.ownsRow w.heap.size 5 1 v (n+4) (vals (sealed xs))∧Below w.heap.size w w':=by
 obtain ⟨i0,hi,hz0,hz1,hz2⟩:=info_parts Tryz.info5
 have hcells:=bts_cells hb
 have hlen:=hb.1
 obtain ⟨q,hq⟩:∃ q,q=crc xs:=⟨_,rfl⟩
 have hql:q<4294967296:=by rw [hq];exact crc_lt xs
 have c8:=fun (W:World) (hW:Bts W w.heap.size (some ad) n xs) (hB:w.heap.size≤W.heap.size)=>of_one_at (c:=c) W hW hB
 rw [← hq] at c8
 have C8:=Lib.hid c8;clear c8
 have HQ:=Lib.hid hq;clear hq
 have HC:=Lib.hid hcells;clear hcells
 have HB:=Lib.hid hb;clear hb
 have HL:=Lib.hid hlen;clear hlen
 have HI:=Lib.hid hi;clear hi
 have HZ0:=Lib.hid hz0;clear hz0
 have HZ1:=Lib.hid hz1;clear hz1
 have HZ2:=Lib.hid hz2;clear hz2
 go_enter Tryz.func155,Tryz.ntmps155
 go_wp2_with (first
  | (at_make;refine wpList_make_own _ rfl _ _ 74 rfl w.heap.size 5 i0 (.int .u8 0) 1 Tryz.underlying74 HI.out HZ0.out HZ1.out _ _ _ (n+4) rfl rfl (by omega) (by rw [HZ2.out];omega) (by unfold maxLen;omega) (Nat.le_refl _) ?_;intro w1 hown1 hg1)
  | (at_builtin;(refine wpList_append_own _ rfl (.tmp 8) (.tmp 9) 74 rfl w.heap.size 5 i0 (.int .u8 0) 1 1 Tryz.underlying74 HI.out HZ0.out HZ1.out HZ2.out rfl (by decide) (.slice (some ⟨w.heap.size,0,none⟩) 0 (n+4)) 0 [] rfl hown1 ad n c (vals xs) rfl (by rw [vals_length,HL.out,Nat.mul_one]) (fun j u hu=>hg1.cell (HC.out j u hu) (by simp)) (vals_one xs) (by unfold maxLen;omega) (by omega) hg1.size ?_;intro v2 w2 hown2 hg2 _;have hbel2:Below w.heap.size w w2:=(((Below.refl _ _).grown hg1 (Nat.le_refl _) (by simp)).grown hg2 hg1.size (by simp [Value.ownBlock]));have HB2:=Lib.hid (HB.out.below hbel2 (Nat.le_refl _));have hs2:=hbel2.size))
  | (go_at_call 194;refine (C8.out w2 HB2.out hs2).mono ?_;rintro e w' ⟨rfl,rfl⟩)
  | (at_builtin;(refine wpList_append_own _ rfl (.tmp 14) (.tmp 26) 74 rfl w.heap.size 5 i0 (.int .u8 0) 1 1 Tryz.underlying74 HI.out HZ0.out HZ1.out HZ2.out rfl (by decide) v2 (0+n) ([]++vals xs) rfl ((hown2.alloc _).alloc _) ⟨w2.heap.size+1,0,none⟩ 4 4 (vals (tail4 q)) rfl rfl (lit4 _ _ (by simp) (by omega) (by omega) (by omega) (by omega)) (vals_one _) (by unfold maxLen;omega) (by omega) (by simp;omega) ?_;intro v3 w3 hown3 hg3 _)))
 go_ret
 refine ⟨v3,rfl,?_,(((hbel2.alloc hs2 _).alloc (by simp;omega) _).grown hg3 (by simp;omega) (fun k hk=>(hown2.lt k hk).1))⟩
 have e:[]++vals xs++vals (tail4 q)=vals (sealed xs):=by rw [HQ.out];simp [sealed,vals_append]
 have e2:0+n+4=n+4:=by omega
 rw [e,e2] at hown3
 exact hown3
set_option maxHeartbeats 1000000 in
theorem seal_none (xs:List Nat) (w:World) (hb:Bts w w.heap.size none 0 xs) :
  Calls Tryz.prog 155 #[.slice none 0 0] w fun e w'=>∃ v,e=.returned v∧w'.ownsRow w.heap.size 5 1 v (0+4) (vals (sealed xs))∧Below w.heap.size w w':=by
 obtain ⟨i0,hi,hz0,hz1,hz2⟩:=info_parts Tryz.info5
 have hlen:=hb.1
 obtain ⟨q,hq⟩:∃ q,q=crc xs:=⟨_,rfl⟩
 have hql:q<4294967296:=by rw [hq];exact crc_lt xs
 have c8:=fun (W:World) (hW:Bts W w.heap.size none 0 xs) (hB:w.heap.size≤W.heap.size)=>of_one_at (c:=0) W hW hB
 rw [← hq] at c8
 have C8:=Lib.hid c8;clear c8
 have HQ:=Lib.hid hq;clear hq
 have HB:=Lib.hid hb;clear hb
 have HL:=Lib.hid hlen;clear hlen
 have HI:=Lib.hid hi;clear hi
 have HZ0:=Lib.hid hz0;clear hz0
 have HZ1:=Lib.hid hz1;clear hz1
 have HZ2:=Lib.hid hz2;clear hz2
 go_enter Tryz.func155,Tryz.ntmps155
 go_wp2_with (first
  | (at_make;refine wpList_make_own _ rfl _ _ 74 rfl w.heap.size 5 i0 (.int .u8 0) 1 Tryz.underlying74 HI.out HZ0.out HZ1.out _ _ _ (0+4) rfl rfl (by omega) (by rw [HZ2.out];omega) (by unfold maxLen;omega) (Nat.le_refl _) ?_;intro w1 hown1 hg1)
  | (at_builtin;(refine wpList_append_own_none rfl (.tmp 8) (.tmp 9) 74 rfl w.heap.size 5 i0 1 Tryz.underlying74 HI.out (.slice (some ⟨w.heap.size,0,none⟩) 0 (0+4)) 0 [] rfl hown1 rfl ?_;have hbel2:Below w.heap.size w w1:=((Below.refl _ _).grown hg1 (Nat.le_refl _) (by simp));have HB2:=Lib.hid (HB.out.below hbel2 (Nat.le_refl _));have hs2:=hbel2.size))
  | (go_at_call 194;refine (C8.out w1 HB2.out hs2).mono ?_;rintro e w' ⟨rfl,rfl⟩)
  | (at_builtin;(refine wpList_append_own _ rfl (.tmp 14) (.tmp 26) 74 rfl w.heap.size 5 i0 (.int .u8 0) 1 1 Tryz.underlying74 HI.out HZ0.out HZ1.out HZ2.out rfl (by decide) (.slice (some ⟨w.heap.size,0,none⟩) 0 (0+4)) 0 [] rfl ((hown1.alloc _).alloc _) ⟨w1.heap.size+1,0,none⟩ 4 4 (vals (tail4 q)) rfl rfl (lit4 _ _ (by simp) (by omega) (by omega) (by omega) (by omega)) (vals_one _) (by unfold maxLen;omega) (by omega) (by simp;omega) ?_;intro v3 w3 hown3 hg3 _)))
 go_ret
 refine ⟨v3,rfl,?_,(((hbel2.alloc hs2 _).alloc (by simp;omega) _).grown hg3 (by simp;omega) (fun k hk=>(hown1.lt k hk).1))⟩
 have e:[]++vals (tail4 q)=vals (sealed xs):=by rw [HQ.out,List.eq_nil_of_length_eq_zero HL.out];simp [sealed]
 rw [e] at hown3
 exact hown3
theorem seal_any (A:Option Addr) (n c:Nat) (xs:List Nat) (w:World) (h:n≤2000) (hA:A=none→c=0) (hb:Bts w w.heap.size A n xs) :
  Calls Tryz.prog 155 #[.slice A n c] w fun e w'=>∃ v,e=.returned v∧w'.ownsRow w.heap.size 5 1 v (n+4) (vals (sealed xs))∧Below w.heap.size w w':=by
 rcases A with _ | ad
 ·have hn:n=0:=by
   rcases Nat.eq_zero_or_pos n with h0 | h0
   ·exact h0
   ·obtain ⟨_,_,e,_⟩:=hb.2.2.2 h0
    cases e
  subst hn
  rw [hA rfl]
  exact seal_none xs w hb
 ·exact seal_some ad n c xs w h hb
end Go.Proofs.YtplpmemlaohlaaaGreat.Crc
namespace Go.Proofs.YtplpmemlaohlaaaGreat.Crc
open Go.RowKit
theorem ret_bool {a b:Bool} (h:a=b):Ending.returned (.bool a)=.returned (.bool b):=by rw [h]
def ints (xs:List Nat):List Int:=xs.map fun (x:Nat)=>(x:Int)
theorem ints_getD (xs:List Nat) (i:Nat):(ints xs).getD i 0=((xs.getD i 0:Nat):Int):=by
 rcases Nat.lt_or_ge i xs.length with h | h
 ·simp [ints,List.getD,List.getElem?_eq_getElem h]
 ·simp [ints,List.getD,List.getElem?_eq_none h]
def str (xs:List Nat):ByteArray:=strOfNums (ints xs)
theorem bts_convert {w:World} {B n:Nat} {A:Option Addr} {xs:List Nat} (h:Bts w B A n xs) (c:Nat) :
  (convert 74 9 (.slice A n c)).run Tryz.prog w=.ok (.string (str xs)) w:=by
 have hl:(ints xs).length=n:=by rw [ints,List.length_map];exact h.1
 rcases Nat.eq_zero_or_pos n with hn | hn
 ·subst hn
  have e:xs=[]:=List.eq_nil_of_length_eq_zero h.1
  subst e
  exact run_convert_bytes_zero w _ _ Tryz.underlying74 Tryz.underlying5 A c _ Tryz.underlying9
 ·obtain ⟨b,off,rfl,_,hc⟩:=h.2.2.2 hn
  exact run_convert_bytes_arg w _ _ Tryz.underlying74 Tryz.underlying5 b off n c (ints xs) hl (fun i hi=>by rw [ints_getD];exact hc i hi) _ Tryz.underlying9
theorem str_inj {xs ys:List Nat} (hx:∀ x∈xs,x<256) (hy:∀ y∈ys,y<256) (h:str xs=str ys):xs=ys:=by
 have h1:(str xs).data.toList=(str ys).data.toList:=by rw [h]
 simp only [str,strOfNums_data,ints,List.map_map] at h1
 have h2:∀ zs:List Nat,(∀ z∈zs,z<256)→(zs.map ((fun n:Int=>UInt8.ofNat n.toNat) ∘ fun (x:Nat)=>(x:Int))).map UInt8.toNat=zs:=by
  intro zs hz
  rw [List.map_map]
  conv=>rhs;rw [← List.map_id zs]
  apply List.map_congr_left
  intro z hzz
  have:=hz z hzz
  simp
  omega
 rw [← h2 xs hx,← h2 ys hy,h1]
set_option maxHeartbeats 400000 in
theorem equal_any (A A':Option Addr) (n n' c c' B B':Nat) (xs ys:List Nat) (w:World) (h:Bts w B A n xs) (h':Bts w B' A' n' ys) :
  Calls Tryz.prog 117 #[.slice A n c,.slice A' n' c'] w fun e w'=>e=.returned (.bool (decide (xs=ys)))∧w=w':=by
 have k1:=bts_convert h c
 have k2:=bts_convert h' c'
 have hx:=h.2.1
 have hy:=h'.2.1
 have HX:=Lib.hid hx;clear hx
 have HY:=Lib.hid hy;clear hy
 clear h h'
 go_enter Tryz.func117,Tryz.ntmps117
 go_wp2
 go_ret
 refine ⟨ret_bool ?_,rfl⟩
 rw [ByteArray.toList_eq,ByteArray.toList_eq]
 by_cases e:xs=ys
 ·subst e;simp
 ·rw [decide_eq_false e]
  rw [beq_eq_false_iff_ne]
  intro h
  exact e (str_inj HX.out HY.out (Go.WideShapes.bytes_inj h))
end Go.Proofs.YtplpmemlaohlaaaGreat.Crc
namespace Go.Proofs.YtplpmemlaohlaaaGreat.Mem
open Go.RowKit
theorem getD_of_ne {xs ys:List Nat} (hl:xs.length=ys.length) (h:xs≠ys):∃ d,d<xs.length∧xs.getD d 0≠ys.getD d 0∧∀ j,j<d→xs.getD j 0=ys.getD j 0:=by
 induction xs generalizing ys with
 | nil =>
  have:ys=[]:=List.eq_nil_of_length_eq_zero (by simpa using hl.symm)
  exact absurd this.symm h
 | cons x xs ih =>
  rcases ys with _ | ⟨y,ys⟩
  ·simp at hl
  ·by_cases e:x=y
   ·subst e
    obtain ⟨d,h1,h2,h3⟩:=ih (by simpa using hl) (fun e=>h (by rw [e]))
    refine ⟨d+1,by simp;omega,by simpa using h2,?_⟩
    intro j hj
    rcases j with _ | j
    ·simp
    ·simpa using h3 j (by omega)
   ·exact ⟨0,by simp,by simpa using e,fun j hj=>absurd hj (by omega)⟩
set_option maxHeartbeats 400000 in
theorem same_yes (A A':Option Addr) (n c c' B B':Nat) (xs:List Nat) (w:World) (h:Bts w B A n xs) (h':Bts w B' A' n xs) :
  Calls Tryz.prog 51 #[.slice A n c,.slice A' n c'] w fun e w'=>e=.returned (.bool true)∧∃ m,w'=w.drewN m:=by
 obtain ⟨hl,_,hn,hA⟩:=h
 obtain ⟨_,_,_,hA'⟩:=h'
 have HL:=Lib.hid hl;clear hl
 have HA:=Lib.hid hA;clear hA
 have HA':=Lib.hid hA';clear hA'
 go_enter Tryz.func51,Tryz.ntmps51
 go_wp2
 go_loopw [5] (fun i wr=>(∃ k:Nat,k≤n∧i=.int .i64 k)∧∃ m,wr=w.drewN m) (fun i _=>n - (intOf i).toNat)
 case atStart=>exact ⟨⟨0,Nat.zero_le _,rfl⟩,0,rfl⟩
 case round =>
  obtain ⟨⟨k,hk,rfl⟩,m,rfl⟩:=hrel
  by_cases hlt:k<n
  ·obtain ⟨b,off,rfl,_,hc⟩:=HA.out (by omega)
   obtain ⟨b',off',rfl,_,hc'⟩:=HA'.out (by omega)
   have g:=hc k hlt
   have g':=hc' k hlt
   clear hc hc'
   generalize xs.getD k 0=q at g g'
   go_wp2
   go_quiet (fail)
   go_wp2
   go_roundw
   case rel=>exact ⟨⟨k+1,by omega,by go_num⟩,_,rfl⟩
   case measure=>simp [intOf];omega
  ·go_wp2
   go_ret
   exact ⟨rfl,m,rfl⟩
set_option maxHeartbeats 400000 in
theorem same_len (A A':Option Addr) (n n' c c':Nat) (w:World) (h:n≠n') :
  Calls Tryz.prog 51 #[.slice A n c,.slice A' n' c'] w fun e w'=>e=.returned (.bool false)∧∃ m,w'=w.drewN m:=by
 have hb:((n:Int) != (n':Int))=true:=by rw [bne_iff_ne];omega
 go_enter Tryz.func51,Tryz.ntmps51
 go_wp2
 go_ret
 exact ⟨rfl,0,rfl⟩
set_option maxHeartbeats 400000 in
theorem same_no (A A':Option Addr) (n c c' B B':Nat) (xs ys:List Nat) (w:World) (h:Bts w B A n xs) (h':Bts w B' A' n ys) (hne:xs≠ys) :
  Calls Tryz.prog 51 #[.slice A n c,.slice A' n c'] w fun e w'=>e=.returned (.bool false)∧∃ m,w'=w.drewN m:=by
 obtain ⟨hl,_,hn,hA⟩:=h
 obtain ⟨hl',_,_,hA'⟩:=h'
 obtain ⟨d,hd,hdn,hde⟩:=getD_of_ne (by omega) hne
 rw [hl] at hd
 have HL:=Lib.hid hl;clear hl
 have HL':=Lib.hid hl';clear hl'
 have HA:=Lib.hid hA;clear hA
 have HA':=Lib.hid hA';clear hA'
 have HD:=Lib.hid hdn;clear hdn
 have HE:=Lib.hid hde;clear hde
 clear hne
 go_enter Tryz.func51,Tryz.ntmps51
 go_wp2
 go_loopw [5] (fun i wr=>(∃ k:Nat,k≤d∧i=.int .i64 k)∧∃ m,wr=w.drewN m) (fun i _=>n - (intOf i).toNat)
 case atStart=>exact ⟨⟨0,Nat.zero_le _,rfl⟩,0,rfl⟩
 case round =>
  obtain ⟨⟨k,hk,rfl⟩,m,rfl⟩:=hrel
  obtain ⟨b,off,rfl,_,hc⟩:=HA.out (by omega)
  obtain ⟨b',off',rfl,_,hc'⟩:=HA'.out (by omega)
  have g:=hc k (by omega)
  have g':=hc' k (by omega)
  clear hc hc'
  have hkn:k<n:=by omega
  by_cases hlt:k<d
  ·have he:=HE.out k hlt
   rw [← he] at g'
   clear he
   generalize xs.getD k 0=q at g g'
   go_wp2
   go_quiet (fail)
   go_wp2
   go_roundw
   case rel=>exact ⟨⟨k+1,by omega,by go_num⟩,_,rfl⟩
   case measure=>simp [intOf];omega
  ·obtain rfl:k=d:=by omega
   have he:=HD.out
   generalize xs.getD k 0=q at g he
   generalize ys.getD k 0=q' at g' he
   have hb:((q:Int) != (q':Int))=true:=by rw [bne_iff_ne];omega
   clear he
   go_wp2
   go_quiet (fail)
   go_wp2
   go_ret
   exact ⟨rfl,_,World.drewN_drewN _ _ _⟩
theorem rsame_any (A A':Option Addr) (n n' c c' B B':Nat) (xs ys:List Nat) (w:World) (h:Bts w B A n xs) (h':Bts w B' A' n' ys) :
  Calls Tryz.prog 51 #[.slice A n c,.slice A' n' c'] w fun e w'=>e=.returned (.bool (decide (xs=ys)))∧∃ m,w'=w.drewN m:=by
 by_cases e:xs=ys
 ·subst e
  obtain rfl:n=n':=h.1.symm.trans h'.1
  rw [decide_eq_true rfl]
  exact same_yes A A' n c c' B B' xs w h h'
 ·rw [decide_eq_false e]
  by_cases hn:n=n'
  ·subst hn
   exact same_no A A' n c c' B B' xs ys w h h' e
  ·exact same_len A A' n n' c c' w hn
end Go.Proofs.YtplpmemlaohlaaaGreat.Mem
namespace Go.Proofs.YtplpmemlaohlaaaGreat.Mem
open Go.RowKit
set_option linter.unusedSimpArgs false
set_option linter.unusedVariables false
section
variable {P:Program} (w:World)
theorem zeros_list (z:Value) (k:Nat):(Builtin.zeroCells #[z] k).toList=List.replicate k z:=by
 apply List.ext_getElem?
 intro j
 simp only [Builtin.zeroCells,Array.toList_map,Array.toList_range,List.getElem?_map,List.getElem?_replicate,List.getElem?_range',Array.size,List.length_cons,List.length_nil,Nat.zero_add,Nat.mul_one,Nat.mod_one]
 by_cases h:j<k
 ·simp [h]
 ·simp [h]
theorem run_append_zeros_room (t tn ty e:TypeId) (i:TypeInfo) (z:Value) (kn:IntKind) (ht:P.underlying t=some (.slice e)) (htn:P.underlying tn=some (.int kn)) (hi:P.info? e=some i) (hz:i.zero=some z)
  (hs1:i.size=1) (hby:i.bytes=1) (hzc:z.cells=#[z]) (hz1:z.oneCell'=true) (g sLen sCap k:Nat) (cur:Array Value) (hg:w.heap[g]?=some (.cells cur e (0,0)))
  (hk:k≤1000000) (hroom:sLen+k≤sCap) (hfit:sLen+k≤cur.size) :
  (Builtin.append_ #[t,tn] ty #[.slice (some ⟨g,0,none⟩) sLen sCap,.int .i64 (k:Nat)]).run P w =
   .ok (.slice (some ⟨g,0,none⟩) (sLen+k) sCap) (w.setRow g (cur.toList.take sLen++List.replicate k z++cur.toList.drop (sLen+k)).toArray):=by
 have hw:IntKind.i64.wrap (k:Int)=k:=by rw [IntKind.wrap_i64];omega
 have hneg:¬ ((k:Int)<0):=by omega
 have h48i:¬ (281474976710656<(k:Int)):=by omega
 have hst:=run_storeCells_at P g sLen e (List.replicate k z) 0 cur w hg (by simpa using hfit) (fun u hu=>by rw [List.eq_of_mem_replicate hu];exact hz1)
 simp only [Nat.add_zero,List.length_replicate] at hst
 rcases Nat.eq_zero_or_pos k with h0 | h0
 ·subst h0
  have hw0:IntKind.i64.wrap 0=0:=by rw [IntKind.wrap_i64];omega
  have hroom':sLen≤sCap:=by simpa using hroom
  simp at hst
  simp [Builtin.append_,run_underlying ht,run_underlying htn,sizeOf,typeInfo,zeroValue,hi,hz,asInt,asIntOf,hs1,hby,hw0,hroom',Addr.add_lit,hst]
 ·have hns:¬ (k=0):=by omega
  have hl:(Builtin.zeroCells z.cells k).toList=List.replicate k z:=by rw [hzc];exact zeros_list z k
  simp [Builtin.append_,run_underlying ht,run_underlying htn,sizeOf,typeInfo,zeroValue,hi,hz,asInt,asIntOf,hw,hneg,hns,h48i,hs1,hby,hroom,Addr.add_lit,hl,hst]
theorem run_append_zeros (base:Nat) (t tn ty e:TypeId) (i:TypeInfo) (z:Value) (kn:IntKind) (ht:P.underlying t=some (.slice e)) (htn:P.underlying tn=some (.int kn)) (hi:P.info? e=some i) (hz:i.zero=some z)
  (hs1:i.size=1) (hby:i.bytes=1) (hzc:z.cells=#[z]) (hz1:z.oneCell'=true) (v:Value) (n k:Nat) (xs:List Value) (hown:w.ownsRow base e 1 v n xs) (h0:0<n) (hk:k≤1000000) (hn:n≤1000000) (hbase:base≤w.heap.size) :
  ∃ v' w',(Builtin.append_ #[t,tn] ty #[v,.int .i64 (k:Nat)]).run P w=.ok v' w'∧w'.ownsRow base e 1 v' (n+k) (xs++List.replicate k z)∧w.grownBy w' v.ownBlock:=by
 have hlen:(xs++List.replicate k z).length=(n+k)*1:=by have:=hown.1;simp at this ⊢;omega
 rcases hown.2 with ⟨rfl,rfl⟩ | ⟨g,cap,cur,rfl,hbg,hg,hnc,hcm,hcs,htake⟩
 ·omega
 ·by_cases hroom:n+k≤cap
  ·have hr:=run_append_zeros_room (P:=P) w t tn ty e i z kn ht htn hi hz hs1 hby hzc hz1 g n cap k cur hg hk hroom (by omega)
   refine ⟨_,_,hr,⟨hlen,.inr ⟨g,cap,_,rfl,hbg,setRow_heap w g cur _ e _ hg,hroom,hcm,?_,?_⟩⟩,⟨rfl,rfl,rfl,by simp,fun q _ hq=>setRow_other w g q _ (fun e=>hq (by simp [Value.ownBlock,e]))⟩⟩
   ·simp only [List.size_toArray,List.length_append,List.length_take,List.length_drop,Array.length_toList,List.length_replicate]
    omega
   ·have h2:cur.toList.take n=xs:=by simpa using htake
    rw [h2,← hlen]
    exact List.take_left
  ·have holds:∀ j u,xs[j]?=some u→w.drew.cell? ((⟨g,0,none⟩:Addr).add j)=some u:=hown.cells (g:=g) rfl
   have hf:=run_firstCells_some (P:=P) w.drew i.size n ⟨g,0,none⟩ n cap xs (by rw [hs1];exact hown.1) holds
   have hr:=Go.Lib.run_append_grow_zeros (P:=P) w t tn ty e i z .i64 kn ht htn hi hz (some ⟨g,0,none⟩) n cap xs hf k (by omega) (by omega) (by omega) (by omega) (by rw [hby];omega) (growslice_fits (by omega) (by rw [hby];omega))
   have hge:=grownCap_ge w (n+k) cap e
   have hcm':grownCap w (n+k) cap e≤maxLen:=grownCap_le_maxLen w (n+k) cap e (by unfold maxLen;omega)
   have hzz:∀ q,(Builtin.zeroCells z.cells q).toList=List.replicate q z:=fun q=>by rw [hzc];exact zeros_list z q
   have hsz:∀ q,(Builtin.zeroCells z.cells q).size=q:=fun q=>by rw [hzc];simp [Builtin.zeroCells]
   refine ⟨_,_,hr,⟨hlen,.inr ⟨w.heap.size,_,_,rfl,hbase,heap_alloc_new w.drew _,hge,hcm',?_,?_⟩⟩,grown_trans grown_drew (World.grownBy_alloc w.drew _ _)⟩
   ·have:=hown.1
    simp only [Array.size_append,List.size_toArray,hsz]
    omega
   ·simp only [Array.toList_append,hzz]
    rw [← hlen]
    exact List.take_left
theorem wpList_append_zeros {ops:Array Oper} {rest:List Oper} {o:Oper} {a:Act} {Q:Exit→Act→World→Prop} (hgd:o.guard=none) (s x:Operand) (t tn:TypeId)
  (ho:o.op=.call { callee:=.builtin .append,args:=#[s,x],argTypes:=#[t,tn] }) (base:Nat) (e:TypeId) (i:TypeInfo) (z:Value) (kn:IntKind) (ht:P.underlying t=some (.slice e)) (htn:P.underlying tn=some (.int kn)) (hi:P.info? e=some i) (hz:i.zero=some z)
  (hs1:i.size=1) (hby:i.bytes=1) (hzc:z.cells=#[z]) (hz1:z.oneCell'=true) (v:Value) (n k:Nat) (xs:List Value) (hs:a.eval s=v) (hx:a.eval x=.int .i64 (k:Nat)) (hown:w.ownsRow base e 1 v n xs) (h0:0<n) (hk:k≤1000000) (hn:n≤1000000) (hbase:base≤w.heap.size)
  (h:∀ v' w',w'.ownsRow base e 1 v' (n+k) (xs++List.replicate k z)→w.grownBy w' v.ownBlock→wpList P ops Q rest (a.put o.dst v') w'):wpList P ops Q (o::rest) a w:=by
 obtain ⟨v',w',hr,h2,h3⟩:=run_append_zeros (P:=P) w base t tn o.type e i z kn ht htn hi hz hs1 hby hzc hz1 v n k xs hown h0 hk hn hbase
 exact Go.Lib.wpList_append_run w hgd s x t tn ho v (.int .i64 (k:Nat)) hs hx v' w' hr (h v' w' h2 h3)
end
end Go.Proofs.YtplpmemlaohlaaaGreat.Mem
namespace Go.Proofs.YtplpmemlaohlaaaGreat.Oct
open Go.RowKit Mem
set_option linter.unusedVariables false
set_option linter.unusedSimpArgs false
end Go.Proofs.YtplpmemlaohlaaaGreat.Oct
