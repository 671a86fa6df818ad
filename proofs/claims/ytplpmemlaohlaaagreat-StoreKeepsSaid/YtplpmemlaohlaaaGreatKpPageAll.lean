/- PageAll: the texts Pg, Page, PagePut, PageGet, PageGot, PageRef, PageRGet, PageRGo, PageBlank in one. (Printed by tools/mergeall.py.) -/
import Derived.Test.YtplpmemlaohlaaaGreatKpLowAll
import Derived.BigQuiet
import Derived.Deep.CutRange
import Derived.Deep.OwnRows
import Derived.Deep.QuietTactic
import Derived.Deep.RegionHeld3
import Derived.Lib.SlBytesConst
namespace Go.Proofs.YtplpmemlaohlaaaGreat.Pg
open Go.RowKit Mem Oct
set_option linter.unusedVariables false
set_option linter.unusedSimpArgs false
structure P where
 kind:Int
 gen:Int
 mark:Int
 index:Int
 part:Int
 parts:Int
 b:List Nat
 deriving DecidableEq
def win (n lo hi:Int):Bool:=decide (lo≤n) && decide (n≤hi)
theorem win_yes {n lo hi:Int} (h:win n lo hi=true):lo≤n∧n≤hi:=by simpa [win] using h
theorem win_of {n lo hi:Int} (h1:lo≤n) (h2:n≤hi):win n lo hi=true:=by simp [win,h1,h2]
def P.may (p:P):Bool:=win p.kind 1 9 && win p.gen 0 2147483648 && win p.mark 0 2147483648 && win p.index 0 2147483648 && win p.parts 1 16 && win p.part 0 (p.parts - 1) && decide (p.b.length≤488)
structure P.May (p:P):Prop where
 k:win p.kind 1 9=true
 g:win p.gen 0 2147483648=true
 m:win p.mark 0 2147483648=true
 i:win p.index 0 2147483648=true
 ps:win p.parts 1 16=true
 pt:win p.part 0 (p.parts - 1)=true
 l:p.b.length≤488
theorem may_iff (p:P):p.may=true↔p.May:=by
 constructor
 ·intro h
  simp only [P.may,Bool.and_eq_true,decide_eq_true_eq] at h
  obtain ⟨⟨⟨⟨⟨⟨h1,h2⟩,h3⟩,h4⟩,h5⟩,h6⟩,h7⟩:=h
  exact ⟨h1,h2,h3,h4,h5,h6,h7⟩
 ·rintro ⟨h1,h2,h3,h4,h5,h6,h7⟩
  simp [P.may,h1,h2,h3,h4,h5,h6,h7]
def P.head (p:P):List Nat:=((((([87,65,89]++be 1 p.kind.toNat)++be 4 p.gen.toNat)++be 4 p.mark.toNat)++be 4 p.index.toNat)++be 1 p.part.toNat)++be 1 p.parts.toNat
def P.text (p:P):List Nat:=p.head++(be 2 p.b.length++p.b)
def P.body (p:P):List Nat:=p.text++List.replicate (508 - p.text.length) 0
def P.sector (p:P):List Nat:=Crc.sealed p.body
theorem head_length (p:P):p.head.length=18:=by simp [P.head,be_length]
theorem text_length (p:P):p.text.length=20+p.b.length:=by simp [P.text,head_length,be_length];omega
theorem body_length {p:P} (h:p.b.length≤488):p.body.length=508:=by simp [P.body,text_length];omega
theorem sector_length {p:P} (h:p.b.length≤488):p.sector.length=512:=by simp [P.sector,Crc.sealed,Crc.tail4,body_length h]
theorem app_lt {xs ys:List Nat} (h1:∀ x∈xs,x<256) (h2:∀ x∈ys,x<256):∀ x∈xs++ys,x<256:=by
 intro x hx
 rcases List.mem_append.1 hx with hx | hx
 ·exact h1 x hx
 ·exact h2 x hx
theorem way_lt:∀ x∈[87,65,89],x<256:=by decide
theorem head_lt (p:P):∀ x∈p.head,x<256:=app_lt (app_lt (app_lt (app_lt (app_lt (app_lt way_lt (be_lt _ _)) (be_lt _ _)) (be_lt _ _)) (be_lt _ _)) (be_lt _ _)) (be_lt _ _)
theorem text_lt {p:P} (h:∀ x∈p.b,x<256):∀ x∈p.text,x<256:=app_lt (head_lt p) (app_lt (be_lt _ _) h)
theorem zeros_lt (n:Nat):∀ x∈List.replicate n 0,x<256:=fun x hx=>by rw [List.eq_of_mem_replicate hx];decide
theorem body_lt {p:P} (h:∀ x∈p.b,x<256):∀ x∈p.body,x<256:=app_lt (text_lt h) (zeros_lt _)
def decode (b:List Nat):P :=
 ⟨num ((b.drop 3).take 1),num ((b.drop 4).take 4),num ((b.drop 8).take 4),num ((b.drop 12).take 4),num ((b.drop 16).take 1),num ((b.drop 17).take 1),(b.drop 20).take (num ((b.drop 18).take 2))⟩
def count (b:List Nat):Nat:=num ((b.drop 18).take 2)
def readP (b:List Nat):P :=
 let s1:=(rnum (b,true) 3).1
 let s2:=rnum s1 1
 let s3:=rnum s2.1 4
 let s4:=rnum s3.1 4
 let s5:=rnum s4.1 4
 let s6:=rnum s5.1 1
 let s7:=rnum s6.1 1
 let s8:=rtext s7.1
 ⟨s2.2,s3.2,s4.2,s5.2,s6.2,s7.2,s8.2⟩
theorem rnum_ok {xs:List Nat} {k:Int} (h:isW k=true) (hl:k.toNat≤xs.length):rnum (xs,true) k=((xs.drop k.toNat,true),num (xs.take k.toNat)):=by
 unfold rnum
 rw [if_pos (by simp [h,hl])]
theorem readP_of {b:List Nat} (h:b.length=512) (hc:count b≤492):readP b=decode b:=by
 unfold readP
 simp only
 rw [rnum_ok (k:=3) rfl (by simp;omega)]
 simp only
 rw [rnum_ok (k:=1) rfl (by simp;omega)]
 simp only
 rw [rnum_ok (k:=4) rfl (by simp;omega)]
 simp only
 rw [rnum_ok (k:=4) rfl (by simp;omega)]
 simp only
 rw [rnum_ok (k:=4) rfl (by simp;omega)]
 simp only
 rw [rnum_ok (k:=1) rfl (by simp;omega)]
 simp only
 rw [rnum_ok (k:=1) rfl (by simp;omega)]
 simp only
 unfold rtext
 rw [rnum_ok (k:=2) rfl (by simp;omega)]
 simp only [List.drop_drop]
 have hc':num ((b.drop 18).take 2)≤492:=hc
 rw [if_pos (by refine ⟨trivial,?_⟩;rw [List.length_drop,h];exact Nat.le_trans hc' (by decide))]
 rfl
theorem sector_app (p:P):p.sector=p.head++(be 2 p.b.length++(p.b++(List.replicate (508 - p.text.length) 0++Crc.tail4 (Crc.crc p.body)))):=by
 unfold P.sector Crc.sealed
 rw [show p.body=p.head++(be 2 p.b.length++p.b)++List.replicate (508 - p.text.length) 0 from rfl]
 simp only [List.append_assoc]
theorem num_one {n:Nat} (h:n<256):num (be 1 n)=n:=by rw [num_be];omega
theorem num_two {n:Nat} (h:n<65536):num (be 2 n)=n:=by rw [num_be];omega
theorem num_four {n:Nat} (h:n<4294967296):num (be 4 n)=n:=by rw [num_be];omega
theorem cut_mid {xs ys zs:List Nat} {i n:Nat} (h1:xs.length=i) (h2:ys.length=n):((xs++(ys++zs)).drop i).take n=ys:=by
 subst h1 h2
 simp
theorem sector_parts (p:P):∃ r,p.sector=[87,65,89]++(be 1 p.kind.toNat++(be 4 p.gen.toNat++(be 4 p.mark.toNat++(be 4 p.index.toNat++(be 1 p.part.toNat++(be 1 p.parts.toNat++(be 2 p.b.length++(p.b++r)))))))) :=
 ⟨List.replicate (508 - p.text.length) 0++Crc.tail4 (Crc.crc p.body),by rw [sector_app];simp only [P.head,List.append_assoc]⟩
theorem count_sector {p:P} (h:p.b.length≤488):count p.sector=p.b.length:=by
 unfold count
 rw [sector_app,cut_mid (head_length p) (be_length _ _),num_two (by omega)]
theorem decode_sector {p:P} (h:p.May):decode p.sector=p:=by
 obtain ⟨h1,h2,h3,h4,h5,h6,h7⟩:=h
 have k1:=win_yes h1
 have k2:=win_yes h2
 have k3:=win_yes h3
 have k4:=win_yes h4
 have k5:=win_yes h5
 have k6:=win_yes h6
 obtain ⟨r,hr⟩:=sector_parts p
 have hc:=count_sector h7
 unfold count at hc
 unfold decode
 rw [hc]
 have e1:num ((p.sector.drop 3).take 1)=p.kind.toNat:=by
  rw [hr,cut_mid (show [87,65,89].length=3 from rfl) (be_length _ _),num_one (by omega)]
 have e2:num ((p.sector.drop 4).take 4)=p.gen.toNat:=by
  rw [hr,← List.append_assoc,cut_mid (by simp [be_length]) (be_length _ _),num_four (by omega)]
 have e3:num ((p.sector.drop 8).take 4)=p.mark.toNat:=by
  rw [hr,← List.append_assoc,← List.append_assoc,cut_mid (by simp [be_length]) (be_length _ _),num_four (by omega)]
 have e4:num ((p.sector.drop 12).take 4)=p.index.toNat:=by
  rw [hr,← List.append_assoc,← List.append_assoc,← List.append_assoc,cut_mid (by simp [be_length]) (be_length _ _),num_four (by omega)]
 have e5:num ((p.sector.drop 16).take 1)=p.part.toNat:=by
  rw [hr,← List.append_assoc,← List.append_assoc,← List.append_assoc,← List.append_assoc,cut_mid (by simp [be_length]) (be_length _ _),num_one (by omega)]
 have e6:num ((p.sector.drop 17).take 1)=p.parts.toNat:=by
  rw [hr,← List.append_assoc,← List.append_assoc,← List.append_assoc,← List.append_assoc,← List.append_assoc,cut_mid (by simp [be_length]) (be_length _ _),num_one (by omega)]
 have e7:(p.sector.drop 20).take p.b.length=p.b:=by
  rw [hr,← List.append_assoc,← List.append_assoc,← List.append_assoc,← List.append_assoc,← List.append_assoc,← List.append_assoc,← List.append_assoc,cut_mid (by simp [be_length]) rfl]
 rw [e1,e2,e3,e4,e5,e6,e7]
 obtain ⟨kind,gen,mark,index,part,parts,b⟩:=p
 simp only at k1 k2 k3 k4 k5 k6 ⊢
 congr 1 <;> omega
def isOf (b:List Nat) (p:P):Prop:=p.May∧p.sector=b
theorem of_decode {b:List Nat} {p:P} (h:isOf b p):b.length=512∧count b≤488∧readP b=p∧decode b=p:=by
 obtain ⟨h1,rfl⟩:=h
 have hc:=count_sector h1.l
 exact ⟨sector_length h1.l,by rw [hc];exact h1.l,by rw [readP_of (sector_length h1.l) (by rw [hc];have:=h1.l;omega),decode_sector h1],decode_sector h1⟩
def got (b:List Nat):Option P:=if (readP b).may=true∧(readP b).sector=b then some (readP b) else none
theorem got_sector {p:P} (h:p.May):got p.sector=some p:=by
 obtain ⟨_,_,e,_⟩:=of_decode (b:=p.sector) (p:=p) ⟨h,rfl⟩
 unfold got
 rw [e,if_pos ⟨(may_iff p).2 h,rfl⟩]
end Go.Proofs.YtplpmemlaohlaaaGreat.Pg
namespace Go.Proofs.YtplpmemlaohlaaaGreat.Pg
open Go.RowKit Mem Oct
set_option linter.unusedVariables false
set_option linter.unusedSimpArgs false
def pgV (p:P) (v:Value):Value:=.agg #[.int .i64 p.kind,.int .i64 p.gen,.int .i64 p.mark,.int .i64 p.index,.int .i64 p.part,.int .i64 p.parts,v]
abbrev pgC (p:P) (v:Value):Array Value:=#[.int .i64 p.kind,.int .i64 p.gen,.int .i64 p.mark,.int .i64 p.index,.int .i64 p.part,.int .i64 p.parts,v]
def In64 (n:Int):Prop := -9223372036854775808≤n∧n≤9223372036854775807
def Sb (w:World) (B:Nat) (v:Value) (xs:List Nat):Prop:=∃ (A:Option Addr) (n c:Nat),v=.slice A n c∧Bts w B A n xs
theorem sb_of {w:World} {B:Nat} {v:Value} {xs:List Nat} (h:Sl w B v xs):Sb w B v xs:=by
 obtain ⟨A,n,c,e,hb,_⟩:=h
 exact ⟨A,n,c,e,hb⟩
theorem sb_bts {w:World} {B n c:Nat} {A:Option Addr} {xs:List Nat} (h:Sb w B (.slice A n c) xs):Bts w B A n xs:=by
 obtain ⟨A',n',c',e,hb⟩:=h
 injection e with e1 e2 e3
 subst e1 e2 e3
 exact hb
theorem Sb.below {w w':World} {B B':Nat} {v:Value} {xs:List Nat} (h:Sb w B v xs) (hb:Below B' w w') (hB:B≤B'):Sb w' B v xs:=by
 obtain ⟨A,n,c,e,h⟩:=h
 exact ⟨A,n,c,e,h.below hb hB⟩
theorem Sb.more {w:World} {B B':Nat} {v:Value} {xs:List Nat} (h:Sb w B v xs) (hB:B≤B'):Sb w B' v xs:=by
 obtain ⟨A,n,c,e,h⟩:=h
 exact ⟨A,n,c,e,h.more hB⟩
theorem Sb.alloc {w:World} {B:Nat} {v:Value} {xs:List Nat} (h:Sb w B v xs) (hB:B≤w.heap.size) (o:Obj):Sb (w.alloc o) B v xs:=by
 obtain ⟨A,n,c,e,h⟩:=h
 exact ⟨A,n,c,e,h.alloc hB o⟩
theorem Sb.lt {w:World} {B:Nat} {v:Value} {xs:List Nat} (h:Sb w B v xs):∀ x∈xs,x<256:=by
 obtain ⟨A,n,c,e,h⟩:=h
 exact h.2.1
def PgAt (w:World) (B:Nat) (v:Value) (p:P):Prop:=∃ vb,v=pgV p vb∧Sb w B vb p.b
set_option maxHeartbeats 400000 in
theorem within_any (n lo hi:Int) (w:World) :
  Calls Tryz.prog 193 #[.int .i64 n,.int .i64 lo,.int .i64 hi] w fun e w'=>e=.returned (.bool (win n lo hi))∧w=w':=by
 unfold win
 cases h1:decide (lo≤n)
 ·go_enter Tryz.func193,Tryz.ntmps193
  go_wp2
  go_ret
  exact ⟨rfl,rfl⟩
 ·go_enter Tryz.func193,Tryz.ntmps193
  go_wp2
  go_ret
  exact ⟨ret_bool (by simp),rfl⟩
set_option maxHeartbeats 4000000 in
theorem mayBe_any (p:P) (v:Value) (w:World) (hv:Sb w w.heap.size v p.b) :
  Calls Tryz.prog 153 #[pgV p v] w fun e w'=>e=.returned (.bool p.may)∧Below w.heap.size w w':=by
 obtain ⟨kind,gen,mark,index,part,parts,b⟩:=p
 obtain ⟨A,n,c,rfl,hbt⟩:=hv
 have hl:=hbt.1
 simp only at hl ⊢
 unfold pgV P.may
 simp only
 rw [hl]
 clear hbt
 cases h1:win kind 1 9
 ·go_enter Tryz.func153,Tryz.ntmps153
  go_wp2_with (go_at_call 193;refine (within_any _ _ _ _).mono ?_;rintro e w' ⟨rfl,rfl⟩)
  go_ret
  exact ⟨ret_bool (by simp [h1, *]),(Below.refl w.heap.size w).alloc (Nat.le_refl _) _⟩
 ·skip
  cases h2:win gen 0 2147483648
  ·go_enter Tryz.func153,Tryz.ntmps153
   go_wp2_with (go_at_call 193;refine (within_any _ _ _ _).mono ?_;rintro e w' ⟨rfl,rfl⟩)
   go_ret
   exact ⟨ret_bool (by simp [h1, *]),(Below.refl w.heap.size w).alloc (Nat.le_refl _) _⟩
  ·skip
   cases h3:win mark 0 2147483648
   ·go_enter Tryz.func153,Tryz.ntmps153
    go_wp2_with (go_at_call 193;refine (within_any _ _ _ _).mono ?_;rintro e w' ⟨rfl,rfl⟩)
    go_ret
    exact ⟨ret_bool (by simp [h1, *]),(Below.refl w.heap.size w).alloc (Nat.le_refl _) _⟩
   ·skip
    cases h4:win index 0 2147483648
    ·go_enter Tryz.func153,Tryz.ntmps153
     go_wp2_with (go_at_call 193;refine (within_any _ _ _ _).mono ?_;rintro e w' ⟨rfl,rfl⟩)
     go_ret
     exact ⟨ret_bool (by simp [h1, *]),(Below.refl w.heap.size w).alloc (Nat.le_refl _) _⟩
    ·skip
     cases h5:win parts 1 16
     ·go_enter Tryz.func153,Tryz.ntmps153
      go_wp2_with (go_at_call 193;refine (within_any _ _ _ _).mono ?_;rintro e w' ⟨rfl,rfl⟩)
      go_ret
      exact ⟨ret_bool (by simp [h1, *]),(Below.refl w.heap.size w).alloc (Nat.le_refl _) _⟩
     ·skip
      have hp:=win_yes h5
      cases h6:win part 0 (parts - 1)
      ·go_enter Tryz.func153,Tryz.ntmps153
       go_wp2_with (go_at_call 193;refine (within_any _ _ _ _).mono ?_;rintro e w' ⟨rfl,rfl⟩)
       go_ret
       exact ⟨ret_bool (by simp [h1, *]),(Below.refl w.heap.size w).alloc (Nat.le_refl _) _⟩
      ·skip
       ·go_enter Tryz.func153,Tryz.ntmps153
        go_wp2_with (go_at_call 193;refine (within_any _ _ _ _).mono ?_;rintro e w' ⟨rfl,rfl⟩)
        go_ret
        exact ⟨ret_bool (by rw [show decide ((n:Int)≤488)=decide (n≤488) from decide_eq_decide.2 (by omega)];simp [*]),(Below.refl w.heap.size w).alloc (Nat.le_refl _) _⟩
set_option maxHeartbeats 8000000 in
theorem same_any (p q:P) (v u:Value) (w:World) (hv:Sb w w.heap.size v p.b) (hu:Sb w w.heap.size u q.b) :
  Calls Tryz.prog 173 #[pgV p v,pgV q u] w fun e w'=>e=.returned (.bool (decide (p=q)))∧Below w.heap.size w w':=by
 obtain ⟨kind,gen,mark,index,part,parts,b⟩:=p
 obtain ⟨kind',gen',mark',index',part',parts',b'⟩:=q
 obtain ⟨A,n,c,rfl,hbt⟩:=hv
 obtain ⟨A',n',c',rfl,hbt'⟩:=hu
 simp only at hbt hbt'
 unfold pgV
 simp only
 have hbel:Below w.heap.size w ((w.alloc (.cells (pgC ⟨kind,gen,mark,index,part,parts,b⟩ (.slice A n c)) 125)).alloc (.cells (pgC ⟨kind',gen',mark',index',part',parts',b'⟩ (.slice A' n' c')) 125)):=((Below.refl _ w).alloc (Nat.le_refl _) _).alloc (by simp) _
 have HB:=Lib.hid hbel;clear hbel
 have cs:=Crc.equal_any A A' n n' c c' _ _ b b' _ (hbt.below HB.out (Nat.le_refl _)) (hbt'.below HB.out (Nat.le_refl _))
 have CS:=Lib.hid cs;clear cs hbt hbt'
 have he:(decide ((⟨kind,gen,mark,index,part,parts,b⟩:P)=⟨kind',gen',mark',index',part',parts',b'⟩))=((kind == kind') && ((gen == gen') && ((mark == mark') && ((index == index') && ((part == part') && ((parts == parts') && decide (b=b'))))))):=by
  rw [Bool.eq_iff_iff]
  simp
 rw [he]
 clear he
 cases h0:(kind == kind')
 ·go_enter Tryz.func173,Tryz.ntmps173
  go_wp2
  go_ret
  exact ⟨ret_bool (by simp [*]),HB.out⟩
 ·skip
  cases h1:(gen == gen')
  ·go_enter Tryz.func173,Tryz.ntmps173
   go_wp2
   go_ret
   exact ⟨ret_bool (by simp [*]),HB.out⟩
  ·skip
   cases h2:(mark == mark')
   ·go_enter Tryz.func173,Tryz.ntmps173
    go_wp2
    go_ret
    exact ⟨ret_bool (by simp [*]),HB.out⟩
   ·skip
    cases h3:(index == index')
    ·go_enter Tryz.func173,Tryz.ntmps173
     go_wp2
     go_ret
     exact ⟨ret_bool (by simp [*]),HB.out⟩
    ·skip
     cases h4:(part == part')
     ·go_enter Tryz.func173,Tryz.ntmps173
      go_wp2
      go_ret
      exact ⟨ret_bool (by simp [*]),HB.out⟩
     ·skip
      cases h5:(parts == parts')
      ·go_enter Tryz.func173,Tryz.ntmps173
       go_wp2
       go_ret
       exact ⟨ret_bool (by simp [*]),HB.out⟩
      ·skip
       ·go_enter Tryz.func173,Tryz.ntmps173
        go_wp2_with (go_at_call 117;refine (CS.out).mono ?_;rintro e w' ⟨rfl,rfl⟩;have HB9:=HB)
        go_ret
        exact ⟨ret_bool (by simp [*]),HB9.out⟩
end Go.Proofs.YtplpmemlaohlaaaGreat.Pg
namespace Go.Proofs.YtplpmemlaohlaaaGreat.Pg
open Go.RowKit Mem Oct
set_option linter.unusedVariables false
set_option linter.unusedSimpArgs false
theorem sl_bts {w:World} {B n c:Nat} {A:Option Addr} {xs:List Nat} (h:Sl w B (.slice A n c) xs):Bts w B A n xs:=by
 obtain ⟨A',n',c',e,hb,_⟩:=h
 injection e with e1 e2 e3
 subst e1 e2 e3
 exact hb
theorem lit_way (W:World):Sl (W.alloc (.cells #[.int .u8 87,.int .u8 65,.int .u8 89] 5 (3,4))) (W.alloc (.cells #[.int .u8 87,.int .u8 65,.int .u8 89] 5 (3,4))).heap.size (.slice (some ⟨W.heap.size,0,none⟩) 3 3) [87,65,89]:=by
 refine ⟨_,3,3,rfl,⟨rfl,by decide,by omega,fun _=>⟨W.heap.size,0,rfl,by simp,fun i hi=>?_⟩⟩,by omega,by unfold maxLen;omega,fun e=>by cases e⟩
 have hB:=fun j=>cell_of_row (W.alloc (.cells #[.int .u8 87,.int .u8 65,.int .u8 89] 5 (3,4))) W.heap.size j #[.int .u8 87,.int .u8 65,.int .u8 89] 5 (3,4) (heap_alloc_new W _)
 match i,hi with
 | 0,_=>exact hB 0
 | 1,_=>exact hB 1
 | 2,_=>exact hB 2
theorem nat_of {p:P} (h:p.May):∃ K G M I T S:Nat,p=⟨K,G,M,I,T,S,p.b⟩∧K≤9∧G≤2147483648∧M≤2147483648∧I≤2147483648∧T<16∧S≤16:=by
 obtain ⟨kind,gen,mark,index,part,parts,b⟩:=p
 obtain ⟨h1,h2,h3,h4,h5,h6,_⟩:=h
 have k1:=win_yes h1
 have k2:=win_yes h2
 have k3:=win_yes h3
 have k4:=win_yes h4
 have k5:=win_yes h5
 have k6:=win_yes h6
 simp only at k1 k2 k3 k4 k5 k6
 refine ⟨kind.toNat,gen.toNat,mark.toNat,index.toNat,part.toNat,parts.toNat,?_,by omega,by omega,by omega,by omega,by omega,by omega⟩
 congr 1 <;> omega
theorem own_form {w:World} {base n size:Nat} {e:TypeId} {v:Value} {xs:List Value} (h:w.ownsRow base e size v n xs):∃ A c,v=.slice A n c:=by
 rcases h.2 with ⟨rfl,rfl⟩ | ⟨g,cap,cur,rfl,_⟩
 ·exact ⟨none,0,rfl⟩
 ·exact ⟨_,_,rfl⟩
theorem len_put {W:World} {B c N:Nat} {k:Int} {v:Value} {xs:List Nat} (h:Sl W B v (putNum xs k N)) (hl:xs.length≤c):(putNum xs k N).length≤c+8:=Nat.le_trans (putNum_length xs k N) (Nat.add_le_add_right hl 8)
set_option maxRecDepth 20000 in
set_option maxHeartbeats 8000000 in
theorem put_no (p:P) (v:Value) (w:World) (hm:p.may=false) (hv:Sb w w.heap.size v p.b) :
  Calls Tryz.prog 99 #[pgV p v] w fun e w'=>e=.returned (.tuple #[.slice none 0 0,.int .i64 1])∧Below w.heap.size w w':=by
 have mb:=mayBe_any p v (w.alloc (.cells (pgC p v) 125)) ((hv.alloc (Nat.le_refl _) _).more (by simp))
 rw [hm] at mb
 have MB:=Lib.hid mb;clear mb hm
 obtain ⟨A,n,c,rfl,_⟩:=id hv
 unfold pgV at MB ⊢
 obtain ⟨kind,gen,mark,index,part,parts,b⟩:=p
 simp only at MB ⊢
 go_enter Tryz.func99,Tryz.ntmps99
 go_wp2_with (go_at_call 153;refine (MB.out).mono ?_;rintro e w' ⟨rfl,hb⟩)
 go_ret2
 exact ⟨rfl,((Below.refl w.heap.size w).alloc (Nat.le_refl _) _).trans (hb.mono (by simp))⟩
set_option maxRecDepth 20000 in
set_option maxHeartbeats 16000000 in
theorem put_ok (p:P) (v:Value) (w:World) (hm:p.May) (hv:Sb w w.heap.size v p.b) :
  Calls Tryz.prog 99 #[pgV p v] w fun e w'=>∃ v',e=.returned (.tuple #[v',.int .i64 0])∧Sl w' w'.heap.size v' p.sector∧Below w.heap.size w w':=by
 have hl:=hm.l
 obtain ⟨K,G,M,I,T,S,hp,hK,hG,hM,hI,hT,hS⟩:=nat_of hm
 have mb:=mayBe_any p v (w.alloc (.cells (pgC p v) 125)) ((hv.alloc (Nat.le_refl _) _).more (by simp))
 rw [(may_iff p).2 hm] at mb
 have hblt:=hv.lt
 obtain ⟨b,hb⟩:∃ b,b=p.b:=⟨_,rfl⟩
 rw [← hb] at hl hp hblt hv
 subst hp
 clear hb
 obtain ⟨Ab,nb,cb,rfl,_⟩:=id hv
 have hnb:=(sb_bts hv).1
 have hk:∃ k:Nat,(508:Int) - ((20+nb:Nat):Int)=(k:Nat)∧k=488 - nb:=⟨488 - nb,by omega,rfl⟩
 obtain ⟨k,hk1,hk2⟩:=hk
 generalize htl:20+nb=tl at hk1
 have hkb:k≤488:=by omega
 have htb:tl≤508:=by omega
 have HTL:=Lib.hid htl;clear htl
 have HK2:=Lib.hid hk2;clear hk2
 have MB:=Lib.hid mb;clear mb
 have HM:=Lib.hid hm;clear hm
 have HBL:=Lib.hid hblt;clear hblt
 have HV:=Lib.hid hv;clear hv
 have HNB:=Lib.hid hnb;clear hnb
 unfold pgV at MB ⊢
 unfold pgC at MB
 simp only at MB ⊢
 have KP0:=Lib.hid (Blk.new w 125 #[.int .i64 (K:Nat),.int .i64 (G:Nat),.int .i64 (M:Nat),.int .i64 (I:Nat),.int .i64 (T:Nat),.int .i64 (S:Nat),.slice Ab nb cb])
 have HB0:=Lib.hid ((Below.refl w.heap.size w).alloc (Nat.le_refl _) (Obj.cells #[.int .i64 (K:Nat),.int .i64 (G:Nat),.int .i64 (M:Nat),.int .i64 (I:Nat),.int .i64 (T:Nat),.int .i64 (S:Nat),.slice Ab nb cb] 125))
 obtain ⟨i1,hi,hz0,hz1,hz2⟩:=info_parts Tryz.info5
 have HJ:=Lib.hid hi;clear hi
 have HY0:=Lib.hid hz0;clear hz0
 have HY1:=Lib.hid hz1;clear hz1
 have HY2:=Lib.hid hz2;clear hz2
 have kc:=fun (w:World) (C:Array Value) (n c:Nat)=>Lib.run_convert_bytes_const (P:=Tryz.prog) w 74 5 C n c Tryz.underlying74 Tryz.underlying5
 go_enter Tryz.func99,Tryz.ntmps99
 go_wp2_with (first
  | (go_at_call 153;refine (MB.out).mono ?_;rintro e w1 ⟨rfl,hb⟩;have kp1:=KP0.out.below hb (by simp);have KP1:=Lib.hid kp1;have z0:=KP1.out.cell 0;have z1:=KP1.out.cell 1;have z2:=KP1.out.cell 2;have z3:=KP1.out.cell 3;have z4:=KP1.out.cell 4;have z5:=KP1.out.cell 5;have z6:=KP1.out.cell 6;simp at z0 z1 z2 z3 z4 z5 z6;have KP:=Lib.hid (kp1.alloc (.cells #[.int .u8 87,.int .u8 65,.int .u8 89] 5 (3,4)));have a0:=KP.out.cell 0;have a1:=KP.out.cell 1;have a2:=KP.out.cell 2;have a3:=KP.out.cell 3;have a4:=KP.out.cell 4;have a5:=KP.out.cell 5;have a6:=KP.out.cell 6;simp at a0 a1 a2 a3 a4 a5 a6;have HB:=Lib.hid ((HB0.out.trans (hb.mono (by simp))).alloc (by have:=hb.size;simp at this;omega) (.cells #[.int .u8 87,.int .u8 65,.int .u8 89] 5 (3,4)));have SL:=Lib.hid (lit_way w1);have LN:Hid (([87,65,89]:List Nat).length≤3):=Nat.le_refl _;have nu:=fun (k:Int) (N:Nat) (hN:N<18446744073709551616)=>put_num _ k N _ _ SL.out (Nat.le_trans LN.out (by decide)) hN;have NU:=Lib.hid nu;clear nu;have hzl:=kp1.lt;have hal:=KP.out.lt;clear kp1 hb KP1)
  | (go_at_call 91;refine (NU.out _ _ (by omega)).mono ?_;rintro e w2 ⟨v2,rfl,hs,hb⟩;obtain ⟨A2,n2,c2,rfl,_⟩:=id hs;have KP2:=Lib.hid (KP.out.below hb KP.out.lt);clear a0 a1 a2 a3 a4 a5 a6 KP hal;have KP:=KP2;clear KP2;have a0:=KP.out.cell 0;have a1:=KP.out.cell 1;have a2:=KP.out.cell 2;have a3:=KP.out.cell 3;have a4:=KP.out.cell 4;have a5:=KP.out.cell 5;have a6:=KP.out.cell 6;simp at a0 a1 a2 a3 a4 a5 a6;have hal:=KP.out.lt;have HB2:=Lib.hid (HB.out.trans (hb.mono HB.out.size));clear HB;have HB:=HB2;clear HB2;clear SL;have SL:=Lib.hid hs;have LN2:=Lib.hid (len_put SL.out LN.out);clear LN;have LN:=LN2;clear LN2 hb hs NU;have nu:=fun (k:Int) (N:Nat) (hN:N<18446744073709551616)=>put_num _ k N _ _ SL.out (Nat.le_trans LN.out (by decide)) hN;have NU:=Lib.hid nu;clear nu))
 have hsl:Sl w2 w2.heap.size (.slice A2 n2 c2) (P.head ⟨K,G,M,I,T,S,b⟩):=SL.out
 have h18:n2=18:=by have:=(sl_bts hsl).1;rw [head_length] at this;omega
 subst h18
 clear SL LN NU
 refine (text_ok A2 Ab 18 nb c2 cb _ b w2 (by omega) (by have:=HNB.out;omega) (sl_bts hsl) (sb_bts ((HV.out.below HB.out (Nat.le_refl _)).more HB.out.size))).mono ?_
 rintro e w3 ⟨v3,rfl,hown,hb3⟩
 obtain ⟨A3,c3,rfl⟩:=own_form hown
 have e18:18+2+nb=tl:=by have:=HTL.out;omega
 have hnn:=HNB.out
 rw [e18] at hown ⊢
 rw [← hnn] at hown
 have htext:P.head ⟨K,G,M,I,T,S,b⟩++(be 2 b.length++b)=P.text ⟨K,G,M,I,T,S,b⟩:=rfl
 rw [htext] at hown
 have OW:=Lib.hid hown;clear hown htext hsl
 have HB3:=Lib.hid (HB.out.trans (hb3.mono HB.out.size))
 have hz23:w2.heap.size≤w3.heap.size:=hb3.size
 clear hb3 a0 a1 a2 a3 a4 a5 a6 hnn
 have HE18:=Lib.hid e18;clear e18
 have htl0:0<tl:=by have:=HTL.out;omega
 go_wp2_with (first
  | (at_builtin;refine wpList_append_zeros w3 rfl (.tmp 46) (.tmp 49) 74 3 rfl w2.heap.size 5 i1 (.int .u8 0) .i64 Tryz.underlying74 Tryz.underlying3 HJ.out HY0.out HY1.out HY2.out rfl rfl (.slice A3 tl c3) tl k _ rfl rfl OW.out htl0 (by omega) (by omega) hz23 ?_;intro v4 w4 hown4 hg4;obtain ⟨A4,c4,rfl⟩:=own_form hown4))
 have hbody:vals (P.text ⟨K,G,M,I,T,S,b⟩)++List.replicate k (.int .u8 0)=vals (P.body ⟨K,G,M,I,T,S,b⟩):=by
  have e1:=text_length ⟨K,G,M,I,T,S,b⟩
  have e2:=HK2.out
  have e3:=HNB.out
  have e4:=HTL.out
  have e5:508 - (P.text ⟨K,G,M,I,T,S,b⟩).length=k:=by simp only at e1;omega
  unfold P.body
  rw [e5,vals_append]
  simp [vals]
 rw [hbody] at hown4
 have hlt4:=body_lt (p:=⟨K,G,M,I,T,S,b⟩) HBL.out
 have hs4:=sl_own hown4 hlt4 (by omega)
 have HO3:=OW.out
 have hb4:Below w.heap.size w w4:=HB3.out.grown hg4 HB3.out.size (fun q hq=>Nat.le_trans HB.out.size (HO3.lt q hq).1)
 obtain ⟨A',n',c',e',hbt4,_,_,hA4⟩:=id hs4
 injection e' with q1 q2 q3
 subst q1 q2 q3
 refine (Crc.seal_any A4 (tl+k) c4 _ w4 (by omega) hA4 hbt4).mono ?_
 rintro e w5 ⟨v5,rfl,hown5,hb5⟩
 obtain ⟨A5,c5,rfl⟩:=own_form hown5
 have hlt5:=Crc.sealed_lt hlt4
 go_wp2
 go_ret2
 exact ⟨_,rfl,sl_own hown5 hlt5 (by omega),hb4.trans (hb5.mono hb4.size)⟩
theorem put_any (p:P) (v:Value) (w:World) (hv:Sb w w.heap.size v p.b) :
  Calls Tryz.prog 99 #[pgV p v] w fun e w'=>∃ v',e=.returned (.tuple #[v',.int .i64 (if p.may=true then 0 else 1)])∧Sl w' w'.heap.size v' (if p.may=true then p.sector else [])∧Below w.heap.size w w':=by
 cases h:p.may
 ·refine (put_no p v w h hv).mono ?_
  rintro e w' ⟨rfl,hb⟩
  exact ⟨_,rfl,sl_nil _ _,hb⟩
 ·exact put_ok p v w ((may_iff p).1 h) hv
end Go.Proofs.YtplpmemlaohlaaaGreat.Pg
namespace Go.Proofs.YtplpmemlaohlaaaGreat.Pg
open Go.RowKit Mem Oct
set_option linter.unusedVariables false
set_option linter.unusedSimpArgs false
def NoU8 (w:World) (g:Nat):Prop:=∀ i x,w.cell? ⟨g,i,none⟩≠some (.int .u8 x)
theorem bts_grownU {w w':World} {B g n:Nat} {A:Option Addr} {xs:List Nat} (h:Bts w B A n xs) (hn:NoU8 w g) (hg:w.grownBy w' (some g)):Bts w' B A n xs:=by
 obtain ⟨h1,h2,h3,h4⟩:=h
 refine ⟨h1,h2,h3,fun h0=>?_⟩
 obtain ⟨b,off,e,hb,hc⟩:=h4 h0
 have hne:b≠g:=fun e=>hn (off+0) _ (e ▸ hc 0 h0)
 refine ⟨b,off,e,hb,fun i hi=>?_⟩
 rw [← hc i hi]
 exact World.cell?_of_block (hg.block b (block_lt_of_cell (hc i hi)) (by simpa using hne))
theorem noU8_blk {w:World} {g:Nat} {a b c d e f:Int} {A:Option Addr} {n m:Nat} (h:Blk w g 125 #[.int .i64 a,.int .i64 b,.int .i64 c,.int .i64 d,.int .i64 e,.int .i64 f,.slice A n m]):NoU8 w g:=by
 intro i x hx
 rw [h.cell] at hx
 match i,hx with
 | 0,hx=>simp at hx
 | 1,hx=>simp at hx
 | 2,hx=>simp at hx
 | 3,hx=>simp at hx
 | 4,hx=>simp at hx
 | 5,hx=>simp at hx
 | 6,hx=>simp at hx
 | i+7,hx=>simp at hx
theorem set7_grown (w:World) (g:Nat) (a b c d e f h:Value):w.grownBy (((((((w.setCell ⟨g,0,none⟩ a).setCell ⟨g,1,none⟩ b).setCell ⟨g,2,none⟩ c).setCell ⟨g,3,none⟩ d).setCell ⟨g,4,none⟩ e).setCell ⟨g,5,none⟩ f).setCell ⟨g,6,none⟩ h) (some g) :=
 grown_trans (grown_trans (grown_trans (grown_trans (grown_trans (grown_trans (grown_set _ _ _) (grown_set _ ⟨g,1,none⟩ _)) (grown_set _ ⟨g,2,none⟩ _)) (grown_set _ ⟨g,3,none⟩ _)) (grown_set _ ⟨g,4,none⟩ _)) (grown_set _ ⟨g,5,none⟩ _)) (grown_set _ ⟨g,6,none⟩ _)
theorem rnum_lt {st:St} {k:Int} (h:∀ x∈st.1,x<256) (hk:k≤4):(rnum st k).2<4294967296:=by
 unfold rnum
 split
 ·have h1:=num_lt (st.1.take k.toNat) (fun x hx=>h x (List.mem_of_mem_take hx))
  have h2:(st.1.take k.toNat).length≤4:=by have:=List.length_take_le k.toNat st.1;omega
  have h3:256 ^ (st.1.take k.toNat).length≤256 ^ 4:=Nat.pow_le_pow_right (by decide) h2
  exact Nat.lt_of_lt_of_le h1 h3
 ·show 0<4294967296
  omega
theorem rnum_b (g:Nat) (st:St) (k:Int) (w:World) (h:Rdr w g st) (hk:k≤4) :
  Calls Tryz.prog 165 #[Oct.ptr g,.int .i64 k] w fun e w'=>e=.returned (.int .u64 ((rnum st k).2:Nat))∧Rdr w' g (rnum st k).1∧w.grownBy w' (some g)∧(rnum st k).2<4294967296 :=
 (rnum_any g st k w h).mono fun e w' ⟨h1,h2,h3⟩=>⟨h1,h2,h3,rnum_lt h.lt hk⟩
def zeroP:P:=⟨0,0,0,0,0,0,[]⟩
set_option maxRecDepth 20000 in
set_option maxHeartbeats 16000000 in
theorem read_page (v:Value) (xs:List Nat) (w:World) (h:Sl w w.heap.size v xs) (hl:xs.length≤1000) :
  Calls Tryz.prog 116 #[v] w fun e w'=>∃ v',e=.returned v'∧PgAt w' w'.heap.size v' (readP xs)∧Below w.heap.size w w':=by
 have kp:=Blk.new w 125 #[.int .i64 0,.int .i64 0,.int .i64 0,.int .i64 0,.int .i64 0,.int .i64 0,.slice none 0 0]
 have hb0:=(Below.refl w.heap.size w).alloc (Nat.le_refl _) (Obj.cells #[.int .i64 0,.int .i64 0,.int .i64 0,.int .i64 0,.int .i64 0,.int .i64 0,.slice none 0 0] 125)
 have rd:=read_any v xs (w.alloc (.cells #[.int .i64 0,.int .i64 0,.int .i64 0,.int .i64 0,.int .i64 0,.int .i64 0,.slice none 0 0] 125)) ((h.below hb0 (Nat.le_refl _)).more (by simp)) (by omega)
 have KP0:=Lib.hid kp;clear kp
 have HB0:=Lib.hid hb0;clear hb0
 have RR:=Lib.hid rd;clear rd
 go_enter Tryz.func116,Tryz.ntmps116
 go_wp2_with (first
  | (go_at_call 164;refine (RR.out).mono ?_;rintro e w1 ⟨g,rfl,hge,hr,hb⟩;have hgs:w.heap.size<g:=Nat.lt_of_lt_of_le (by simp) hge;have RD:=Lib.hid hr;have KP:=Lib.hid (KP0.out.below hb (by simp));have HB:=Lib.hid (HB0.out.trans (hb.mono (by simp)));clear hr hb hge)
  | (go_at_call 165;refine (rnum_b g _ _ _ RD.out (by decide)).mono ?_;rintro e w2 ⟨rfl,hr,hg,hlt⟩;have KPn:=Lib.hid (KP.out.grown hg (by simp;omega));clear KP;have KP:=KPn;clear KPn;have HBn:=Lib.hid (HB.out.grown hg HB.out.size (fun q hq=>by cases hq;omega));clear HB;have HB:=HBn;clear HBn RD;have RD:=Lib.hid hr;clear hr hg))
 refine (rtext_any g _ _ RD.out).mono ?_
 rintro e w3 ⟨A3,k3,c3,rfl,hbt,hk3,hc3,hr3,hg3⟩
 have kp3:=KP.out.grown hg3 (by simp;omega)
 have hb3:=HB.out.grown hg3 HB.out.size (fun q hq=>by cases hq;omega)
 have KP3:=Lib.hid kp3
 have HB3:=Lib.hid hb3
 have hgz:g<w3.heap.size:=hr3.size
 have HBT:=Lib.hid (hbt.more (Nat.le_of_lt hgz))
 clear kp3 hb3 hbt hr3 hg3 RD KP HB
 have a0:=KP3.out.cell 0
 have a1:=KP3.out.cell 1
 have a2:=KP3.out.cell 2
 have a3:=KP3.out.cell 3
 have a4:=KP3.out.cell 4
 have a5:=KP3.out.cell 5
 have a6:=KP3.out.cell 6
 have f0:=KP3.out.frozen 0
 have f1:=KP3.out.frozen 1
 have f2:=KP3.out.frozen 2
 have f3:=KP3.out.frozen 3
 have f4:=KP3.out.frozen 4
 have f5:=KP3.out.frozen 5
 have f6:=KP3.out.frozen 6
 have al:=KP3.out.lt
 simp at a0 a1 a2 a3 a4 a5 a6
 go_wp2
 have hgr:=set7_grown w3 w.heap.size (.int .i64 ((readP xs).kind)) (.int .i64 ((readP xs).gen)) (.int .i64 ((readP xs).mark)) (.int .i64 ((readP xs).index)) (.int .i64 ((readP xs).part)) (.int .i64 ((readP xs).parts)) (.slice A3 k3 c3)
 refine bodyPost_ret (v:=pgV (readP xs) (.slice A3 k3 c3)) ?_ rfl ⟨_,rfl,⟨.slice A3 k3 c3,rfl,A3,k3,c3,rfl,?_⟩,?_⟩
 ·simp [results,Tryz.results116,go_sem,a0,a1,a2,a3,a4,a5,a6,al,pgV,readP]
 ·exact (bts_grownU HBT.out (noU8_blk KP3.out) hgr).more hgr.size
 ·exact HB3.out.grown hgr HB3.out.size (fun q hq=>by cases hq;exact Nat.le_refl _)
end Go.Proofs.YtplpmemlaohlaaaGreat.Pg
namespace Go.Proofs.YtplpmemlaohlaaaGreat.Pg
open Go.RowKit Mem Oct
set_option linter.unusedVariables false
set_option linter.unusedSimpArgs false
set_option maxRecDepth 20000 in
set_option maxHeartbeats 16000000 in
theorem get_may (A:Option Addr) (n c:Nat) (xs:List Nat) (q:P) (w:World) (h:Sl w w.heap.size (.slice A n c) xs) (hl:xs.length≤1000) (hq:readP xs=q) (hm:q.may=false) :
  Calls Tryz.prog 62 #[.slice A n c] w fun e w'=>∃ v',e=.returned (.tuple #[v',.int .i64 2])∧PgAt w' w'.heap.size v' zeroP∧Below w.heap.size w w':=by
 have kp:=Blk.new w 125 #[.int .i64 0,.int .i64 0,.int .i64 0,.int .i64 0,.int .i64 0,.int .i64 0,.slice none 0 0]
 have hb0:=(Below.refl w.heap.size w).alloc (Nat.le_refl _) (Obj.cells #[.int .i64 0,.int .i64 0,.int .i64 0,.int .i64 0,.int .i64 0,.int .i64 0,.slice none 0 0] 125)
 have rp:=read_page (.slice A n c) xs (w.alloc (.cells #[.int .i64 0,.int .i64 0,.int .i64 0,.int .i64 0,.int .i64 0,.int .i64 0,.slice none 0 0] 125)) ((h.below hb0 (Nat.le_refl _)).more (by simp)) hl
 rw [hq] at rp
 have KP0:=Lib.hid kp;clear kp
 have HB0:=Lib.hid hb0;clear hb0
 have RP:=Lib.hid rp;clear rp
 have HX:=Lib.hid h;clear h
 have HQ:=Lib.hid hq;clear hq
 have HM:=Lib.hid hm;clear hm
 have h0:w.heap.size<(w.alloc (.cells #[.int .i64 0,.int .i64 0,.int .i64 0,.int .i64 0,.int .i64 0,.int .i64 0,.slice none 0 0] 125)).heap.size:=by simp
 go_enter Tryz.func62,Tryz.ntmps62
 go_wp2_with (first
  | (go_at_call 116;refine (RP.out).mono ?_;rintro e w1 ⟨v1,rfl,⟨vb,rfl,A3,k3,c3,rfl,hbt⟩,hb⟩;have hb1:=HB0.out.trans (hb.mono HB0.out.size);have KP1:=Lib.hid (KP0.out.below hb h0);have hz1:=KP1.out.lt;have HB1:=Lib.hid (hb1.alloc hb1.size (.cells #[.int .i64 q.kind,.int .i64 q.gen,.int .i64 q.mark,.int .i64 q.index,.int .i64 q.part,.int .i64 q.parts,.slice A3 k3 c3] 125));have KP2:=Lib.hid (KP1.out.alloc (.cells #[.int .i64 q.kind,.int .i64 q.gen,.int .i64 q.mark,.int .i64 q.index,.int .i64 q.part,.int .i64 q.parts,.slice A3 k3 c3] 125));have KQ:=Lib.hid (Blk.new w1 125 #[.int .i64 q.kind,.int .i64 q.gen,.int .i64 q.mark,.int .i64 q.index,.int .i64 q.part,.int .i64 q.parts,.slice A3 k3 c3]);have b0:=KQ.out.cell 0;have b1:=KQ.out.cell 1;have b2:=KQ.out.cell 2;have b3:=KQ.out.cell 3;have b4:=KQ.out.cell 4;have b5:=KQ.out.cell 5;have b6:=KQ.out.cell 6;simp at b0 b1 b2 b3 b4 b5 b6;have hz2:=KP2.out.lt;have hzq:=KQ.out.lt;have HBT:=Lib.hid ((hbt.alloc (Nat.le_refl _) (.cells #[.int .i64 q.kind,.int .i64 q.gen,.int .i64 q.mark,.int .i64 q.index,.int .i64 q.part,.int .i64 q.parts,.slice A3 k3 c3] 125)).more (Nat.le_of_lt hzq));have pu:=put_no q (.slice A3 k3 c3) (w1.alloc (.cells #[.int .i64 q.kind,.int .i64 q.gen,.int .i64 q.mark,.int .i64 q.index,.int .i64 q.part,.int .i64 q.parts,.slice A3 k3 c3] 125)) HM.out ⟨A3,k3,c3,rfl,HBT.out⟩;have PU:=Lib.hid pu;clear pu hb1 hb hbt;unfold pgV)
  | (go_at_call 99;refine (PU.out).mono ?_;rintro e w2 ⟨rfl,hb⟩;have KP3:=Lib.hid (KP2.out.below hb hz2);have KQ3:=Lib.hid (KQ.out.below hb hzq);have hz3:=KP3.out.lt;have hzq3:=KQ3.out.lt;have a0:=KP3.out.cell 0;have a1:=KP3.out.cell 1;have a2:=KP3.out.cell 2;have a3:=KP3.out.cell 3;have a4:=KP3.out.cell 4;have a5:=KP3.out.cell 5;have a6:=KP3.out.cell 6;simp at a0 a1 a2 a3 a4 a5 a6;have f0:=KP3.out.frozen 0;have f1:=KP3.out.frozen 1;have f2:=KP3.out.frozen 2;have f3:=KP3.out.frozen 3;have f4:=KP3.out.frozen 4;have f5:=KP3.out.frozen 5;have f6:=KP3.out.frozen 6;have d0:=KQ3.out.cell 0;have d1:=KQ3.out.cell 1;have d2:=KQ3.out.cell 2;have d3:=KQ3.out.cell 3;have d4:=KQ3.out.cell 4;have d5:=KQ3.out.cell 5;have d6:=KQ3.out.cell 6;simp at d0 d1 d2 d3 d4 d5 d6;have HB3:=Lib.hid (HB1.out.trans (hb.mono HB1.out.size));have HBT3:=Lib.hid ((HBT.out.below hb (Nat.le_refl _)).more hb.size);clear hb))
 have hgr:=set7_grown w2 w.heap.size (.int .i64 0) (.int .i64 0) (.int .i64 0) (.int .i64 0) (.int .i64 0) (.int .i64 0) (.slice none 0 0)
 refine bodyPost_ret (v:=.tuple #[.agg #[.int .i64 0,.int .i64 0,.int .i64 0,.int .i64 0,.int .i64 0,.int .i64 0,.slice none 0 0],.int .i64 2]) ?_ rfl ⟨_,rfl,⟨.slice none 0 0,rfl,sb_of (sl_nil _ _)⟩,?_⟩
 ·simp [results,Tryz.results62,go_sem,a0,a1,a2,a3,a4,a5,a6,hz3]
 ·exact HB3.out.grown hgr HB3.out.size (fun q hq=>by cases hq;exact Nat.le_refl _)
set_option maxRecDepth 20000 in
set_option maxHeartbeats 16000000 in
theorem get_other (A:Option Addr) (n c:Nat) (xs:List Nat) (q:P) (w:World) (h:Sl w w.heap.size (.slice A n c) xs) (hl:xs.length≤1000) (hq:readP xs=q) (hm:q.May∧q.sector≠xs) :
  Calls Tryz.prog 62 #[.slice A n c] w fun e w'=>∃ v',e=.returned (.tuple #[v',.int .i64 2])∧PgAt w' w'.heap.size v' zeroP∧Below w.heap.size w w':=by
 have kp:=Blk.new w 125 #[.int .i64 0,.int .i64 0,.int .i64 0,.int .i64 0,.int .i64 0,.int .i64 0,.slice none 0 0]
 have hb0:=(Below.refl w.heap.size w).alloc (Nat.le_refl _) (Obj.cells #[.int .i64 0,.int .i64 0,.int .i64 0,.int .i64 0,.int .i64 0,.int .i64 0,.slice none 0 0] 125)
 have rp:=read_page (.slice A n c) xs (w.alloc (.cells #[.int .i64 0,.int .i64 0,.int .i64 0,.int .i64 0,.int .i64 0,.int .i64 0,.slice none 0 0] 125)) ((h.below hb0 (Nat.le_refl _)).more (by simp)) hl
 rw [hq] at rp
 have KP0:=Lib.hid kp;clear kp
 have HB0:=Lib.hid hb0;clear hb0
 have RP:=Lib.hid rp;clear rp
 have HX:=Lib.hid h;clear h
 have HQ:=Lib.hid hq;clear hq
 have HM:=Lib.hid hm;clear hm
 have h0:w.heap.size<(w.alloc (.cells #[.int .i64 0,.int .i64 0,.int .i64 0,.int .i64 0,.int .i64 0,.int .i64 0,.slice none 0 0] 125)).heap.size:=by simp
 go_enter Tryz.func62,Tryz.ntmps62
 go_wp2_with (first
  | (go_at_call 116;refine (RP.out).mono ?_;rintro e w1 ⟨v1,rfl,⟨vb,rfl,A3,k3,c3,rfl,hbt⟩,hb⟩;have hb1:=HB0.out.trans (hb.mono HB0.out.size);have KP1:=Lib.hid (KP0.out.below hb h0);have hz1:=KP1.out.lt;have HB1:=Lib.hid (hb1.alloc hb1.size (.cells #[.int .i64 q.kind,.int .i64 q.gen,.int .i64 q.mark,.int .i64 q.index,.int .i64 q.part,.int .i64 q.parts,.slice A3 k3 c3] 125));have KP2:=Lib.hid (KP1.out.alloc (.cells #[.int .i64 q.kind,.int .i64 q.gen,.int .i64 q.mark,.int .i64 q.index,.int .i64 q.part,.int .i64 q.parts,.slice A3 k3 c3] 125));have KQ:=Lib.hid (Blk.new w1 125 #[.int .i64 q.kind,.int .i64 q.gen,.int .i64 q.mark,.int .i64 q.index,.int .i64 q.part,.int .i64 q.parts,.slice A3 k3 c3]);have b0:=KQ.out.cell 0;have b1:=KQ.out.cell 1;have b2:=KQ.out.cell 2;have b3:=KQ.out.cell 3;have b4:=KQ.out.cell 4;have b5:=KQ.out.cell 5;have b6:=KQ.out.cell 6;simp at b0 b1 b2 b3 b4 b5 b6;have hz2:=KP2.out.lt;have hzq:=KQ.out.lt;have HBT:=Lib.hid ((hbt.alloc (Nat.le_refl _) (.cells #[.int .i64 q.kind,.int .i64 q.gen,.int .i64 q.mark,.int .i64 q.index,.int .i64 q.part,.int .i64 q.parts,.slice A3 k3 c3] 125)).more (Nat.le_of_lt hzq));have pu:=put_ok q (.slice A3 k3 c3) (w1.alloc (.cells #[.int .i64 q.kind,.int .i64 q.gen,.int .i64 q.mark,.int .i64 q.index,.int .i64 q.part,.int .i64 q.parts,.slice A3 k3 c3] 125)) HM.out.1 ⟨A3,k3,c3,rfl,HBT.out⟩;have PU:=Lib.hid pu;clear pu hb1 hb hbt;unfold pgV)
  | (go_at_call 99;refine (PU.out).mono ?_;rintro e w2 ⟨v2,rfl,hs,hb⟩;obtain ⟨A4,n4,c4,rfl,hbt4,_⟩:=hs;have KP3:=Lib.hid (KP2.out.below hb hz2);have KQ3:=Lib.hid (KQ.out.below hb hzq);have hz3:=KP3.out.lt;have hzq3:=KQ3.out.lt;have a0:=KP3.out.cell 0;have a1:=KP3.out.cell 1;have a2:=KP3.out.cell 2;have a3:=KP3.out.cell 3;have a4:=KP3.out.cell 4;have a5:=KP3.out.cell 5;have a6:=KP3.out.cell 6;simp at a0 a1 a2 a3 a4 a5 a6;have f0:=KP3.out.frozen 0;have f1:=KP3.out.frozen 1;have f2:=KP3.out.frozen 2;have f3:=KP3.out.frozen 3;have f4:=KP3.out.frozen 4;have f5:=KP3.out.frozen 5;have f6:=KP3.out.frozen 6;have d0:=KQ3.out.cell 0;have d1:=KQ3.out.cell 1;have d2:=KQ3.out.cell 2;have d3:=KQ3.out.cell 3;have d4:=KQ3.out.cell 4;have d5:=KQ3.out.cell 5;have d6:=KQ3.out.cell 6;simp at d0 d1 d2 d3 d4 d5 d6;have HB3:=Lib.hid (HB1.out.trans (hb.mono HB1.out.size));have HBT3:=Lib.hid ((HBT.out.below hb (Nat.le_refl _)).more hb.size);have eq:=Crc.equal_any A4 A n4 n c4 c _ _ _ xs w2 hbt4 (sl_bts (HX.out.below HB3.out (Nat.le_refl _)));rw [decide_eq_false HM.out.2] at eq;have EQ:=Lib.hid eq;clear eq hbt4;clear hb)
  | (go_at_call 117;refine (EQ.out).mono ?_;rintro e w' ⟨rfl,rfl⟩))
 have hgr:=set7_grown w2 w.heap.size (.int .i64 0) (.int .i64 0) (.int .i64 0) (.int .i64 0) (.int .i64 0) (.int .i64 0) (.slice none 0 0)
 refine bodyPost_ret (v:=.tuple #[.agg #[.int .i64 0,.int .i64 0,.int .i64 0,.int .i64 0,.int .i64 0,.int .i64 0,.slice none 0 0],.int .i64 2]) ?_ rfl ⟨_,rfl,⟨.slice none 0 0,rfl,sb_of (sl_nil _ _)⟩,?_⟩
 ·simp [results,Tryz.results62,go_sem,a0,a1,a2,a3,a4,a5,a6,hz3]
 ·exact HB3.out.grown hgr HB3.out.size (fun q hq=>by cases hq;exact Nat.le_refl _)
set_option maxRecDepth 20000 in
set_option maxHeartbeats 16000000 in
theorem get_ok (A:Option Addr) (n c:Nat) (xs:List Nat) (q:P) (w:World) (h:Sl w w.heap.size (.slice A n c) xs) (hl:xs.length≤1000) (hq:readP xs=q) (hm:q.May∧q.sector=xs) :
  Calls Tryz.prog 62 #[.slice A n c] w fun e w'=>∃ v',e=.returned (.tuple #[v',.int .i64 0])∧PgAt w' w'.heap.size v' q∧Below w.heap.size w w':=by
 have kp:=Blk.new w 125 #[.int .i64 0,.int .i64 0,.int .i64 0,.int .i64 0,.int .i64 0,.int .i64 0,.slice none 0 0]
 have hb0:=(Below.refl w.heap.size w).alloc (Nat.le_refl _) (Obj.cells #[.int .i64 0,.int .i64 0,.int .i64 0,.int .i64 0,.int .i64 0,.int .i64 0,.slice none 0 0] 125)
 have rp:=read_page (.slice A n c) xs (w.alloc (.cells #[.int .i64 0,.int .i64 0,.int .i64 0,.int .i64 0,.int .i64 0,.int .i64 0,.slice none 0 0] 125)) ((h.below hb0 (Nat.le_refl _)).more (by simp)) hl
 rw [hq] at rp
 have KP0:=Lib.hid kp;clear kp
 have HB0:=Lib.hid hb0;clear hb0
 have RP:=Lib.hid rp;clear rp
 have HX:=Lib.hid h;clear h
 have HQ:=Lib.hid hq;clear hq
 have HM:=Lib.hid hm;clear hm
 have h0:w.heap.size<(w.alloc (.cells #[.int .i64 0,.int .i64 0,.int .i64 0,.int .i64 0,.int .i64 0,.int .i64 0,.slice none 0 0] 125)).heap.size:=by simp
 go_enter Tryz.func62,Tryz.ntmps62
 go_wp2_with (first
  | (go_at_call 116;refine (RP.out).mono ?_;rintro e w1 ⟨v1,rfl,⟨vb,rfl,A3,k3,c3,rfl,hbt⟩,hb⟩;have hb1:=HB0.out.trans (hb.mono HB0.out.size);have KP1:=Lib.hid (KP0.out.below hb h0);have hz1:=KP1.out.lt;have HB1:=Lib.hid (hb1.alloc hb1.size (.cells #[.int .i64 q.kind,.int .i64 q.gen,.int .i64 q.mark,.int .i64 q.index,.int .i64 q.part,.int .i64 q.parts,.slice A3 k3 c3] 125));have KP2:=Lib.hid (KP1.out.alloc (.cells #[.int .i64 q.kind,.int .i64 q.gen,.int .i64 q.mark,.int .i64 q.index,.int .i64 q.part,.int .i64 q.parts,.slice A3 k3 c3] 125));have KQ:=Lib.hid (Blk.new w1 125 #[.int .i64 q.kind,.int .i64 q.gen,.int .i64 q.mark,.int .i64 q.index,.int .i64 q.part,.int .i64 q.parts,.slice A3 k3 c3]);have b0:=KQ.out.cell 0;have b1:=KQ.out.cell 1;have b2:=KQ.out.cell 2;have b3:=KQ.out.cell 3;have b4:=KQ.out.cell 4;have b5:=KQ.out.cell 5;have b6:=KQ.out.cell 6;simp at b0 b1 b2 b3 b4 b5 b6;have hz2:=KP2.out.lt;have hzq:=KQ.out.lt;have HBT:=Lib.hid ((hbt.alloc (Nat.le_refl _) (.cells #[.int .i64 q.kind,.int .i64 q.gen,.int .i64 q.mark,.int .i64 q.index,.int .i64 q.part,.int .i64 q.parts,.slice A3 k3 c3] 125)).more (Nat.le_of_lt hzq));have pu:=put_ok q (.slice A3 k3 c3) (w1.alloc (.cells #[.int .i64 q.kind,.int .i64 q.gen,.int .i64 q.mark,.int .i64 q.index,.int .i64 q.part,.int .i64 q.parts,.slice A3 k3 c3] 125)) HM.out.1 ⟨A3,k3,c3,rfl,HBT.out⟩;have PU:=Lib.hid pu;clear pu hb1 hb hbt;unfold pgV)
  | (go_at_call 99;refine (PU.out).mono ?_;rintro e w2 ⟨v2,rfl,hs,hb⟩;obtain ⟨A4,n4,c4,rfl,hbt4,_⟩:=hs;have KP3:=Lib.hid (KP2.out.below hb hz2);have KQ3:=Lib.hid (KQ.out.below hb hzq);have hz3:=KP3.out.lt;have hzq3:=KQ3.out.lt;have a0:=KP3.out.cell 0;have a1:=KP3.out.cell 1;have a2:=KP3.out.cell 2;have a3:=KP3.out.cell 3;have a4:=KP3.out.cell 4;have a5:=KP3.out.cell 5;have a6:=KP3.out.cell 6;simp at a0 a1 a2 a3 a4 a5 a6;have f0:=KP3.out.frozen 0;have f1:=KP3.out.frozen 1;have f2:=KP3.out.frozen 2;have f3:=KP3.out.frozen 3;have f4:=KP3.out.frozen 4;have f5:=KP3.out.frozen 5;have f6:=KP3.out.frozen 6;have d0:=KQ3.out.cell 0;have d1:=KQ3.out.cell 1;have d2:=KQ3.out.cell 2;have d3:=KQ3.out.cell 3;have d4:=KQ3.out.cell 4;have d5:=KQ3.out.cell 5;have d6:=KQ3.out.cell 6;simp at d0 d1 d2 d3 d4 d5 d6;have HB3:=Lib.hid (HB1.out.trans (hb.mono HB1.out.size));have HBT3:=Lib.hid ((HBT.out.below hb (Nat.le_refl _)).more hb.size);have eq:=Crc.equal_any A4 A n4 n c4 c _ _ _ xs w2 hbt4 (sl_bts (HX.out.below HB3.out (Nat.le_refl _)));rw [decide_eq_true HM.out.2] at eq;have EQ:=Lib.hid eq;clear eq hbt4;clear hb)
  | (go_at_call 117;refine (EQ.out).mono ?_;rintro e w' ⟨rfl,rfl⟩))
 have hgr:=set7_grown w2 w.heap.size (.int .i64 q.kind) (.int .i64 q.gen) (.int .i64 q.mark) (.int .i64 q.index) (.int .i64 q.part) (.int .i64 q.parts) (.slice A3 k3 c3)
 refine bodyPost_ret (v:=.tuple #[.agg #[.int .i64 q.kind,.int .i64 q.gen,.int .i64 q.mark,.int .i64 q.index,.int .i64 q.part,.int .i64 q.parts,.slice A3 k3 c3],.int .i64 0]) ?_ rfl ⟨_,rfl,⟨.slice A3 k3 c3,rfl,A3,k3,c3,rfl,(bts_grownU HBT3.out (noU8_blk KP3.out) hgr).more hgr.size⟩,?_⟩
 ·simp [results,Tryz.results62,go_sem,a0,a1,a2,a3,a4,a5,a6,hz3]
 ·exact HB3.out.grown hgr HB3.out.size (fun q hq=>by cases hq;exact Nat.le_refl _)
theorem get_any (v:Value) (xs:List Nat) (w:World) (h:Sl w w.heap.size v xs) (hl:xs.length≤1000) :
  Calls Tryz.prog 62 #[v] w fun e w'=>∃ v',e=.returned (.tuple #[v',.int .i64 (if (got xs).isSome=true then 0 else 2)])∧PgAt w' w'.heap.size v' ((got xs).getD zeroP)∧Below w.heap.size w w':=by
 obtain ⟨A,n,c,rfl,_⟩:=id h
 cases hm:(readP xs).may
 ·have e:got xs=none:=by unfold got;rw [if_neg (by rw [hm];simp)]
  rw [e]
  exact get_may A n c xs _ w h hl rfl hm
 ·by_cases hs:(readP xs).sector=xs
  ·have e:got xs=some (readP xs):=by unfold got;rw [if_pos ⟨hm,hs⟩]
   rw [e]
   exact get_ok A n c xs _ w h hl rfl ⟨(may_iff _).1 hm,hs⟩
  ·have e:got xs=none:=by unfold got;rw [if_neg (fun h=>hs h.2)]
   rw [e]
   exact get_other A n c xs _ w h hl rfl ⟨(may_iff _).1 hm,hs⟩
end Go.Proofs.YtplpmemlaohlaaaGreat.Pg
namespace Go.Proofs.YtplpmemlaohlaaaGreat.Pg
open Go.RowKit Mem Oct
set_option linter.unusedVariables false
set_option linter.unusedSimpArgs false
end Go.Proofs.YtplpmemlaohlaaaGreat.Pg
namespace Go.Proofs.YtplpmemlaohlaaaGreat.Pg
open Go.RowKit Mem Oct
set_option linter.unusedVariables false
set_option linter.unusedSimpArgs false
def RR (w:World) (base:Nat) (x3 g4 g8 g12 x16 x17:Nat) (xs:List Nat) (cn:Nat) (s:Value) (wx:World):Prop :=
 ∃ (g:Nat) (A5:Option Addr) (c5:Nat),s=.pointer (some ⟨g,0,none⟩)∧Blk wx g 125 #[.int .i64 (x3:Nat),.int .i64 (g4:Nat),.int .i64 (g8:Nat),.int .i64 (g12:Nat),.int .i64 (x16:Nat),.int .i64 (x17:Nat),.slice A5 cn c5] ∧
  wx.ownsRow base 5 1 (.slice A5 cn c5) cn (vals ((xs.drop 20).take cn))∧Blk wx w.heap.size 125 #[.int .i64 0,.int .i64 0,.int .i64 0,.int .i64 0,.int .i64 0,.int .i64 0,.slice none 0 0]∧Below w.heap.size w wx∧w.heap.size<g
end Go.Proofs.YtplpmemlaohlaaaGreat.Pg
namespace Go.Proofs.YtplpmemlaohlaaaGreat.Pg
open Go.RowKit Mem Oct
set_option linter.unusedVariables false
set_option linter.unusedSimpArgs false
end Go.Proofs.YtplpmemlaohlaaaGreat.Pg
namespace Go.Proofs.YtplpmemlaohlaaaGreat.Pg
open Go.RowKit Mem Oct
set_option linter.unusedVariables false
set_option linter.unusedSimpArgs false
def noughts:List Nat:=List.replicate 512 0
theorem made_all (z:Value) (n:Nat):madeCells #[z] n=(List.replicate n z).toArray:=by
 apply Array.ext
 ·simp [madeCells]
 ·intro i h1 h2
  simp [madeCells,Nat.mod_one]
theorem made512:madeCells #[.int .u8 0] 512=(vals noughts).toArray:=by
 rw [made_all]
 simp only [vals,noughts,List.map_replicate]
 rfl
theorem make512 (w:World):(Instr.makeSlice 74 (.int .i64 512) (.int .i64 512)).run Tryz.prog w=.ok (.slice (some ⟨w.heap.size,0,none⟩) 512 512) (w.alloc (.cells (vals noughts).toArray 5)):=by
 have:=run_make_row' (P:=Tryz.prog) 74 5 (.int .u8 0) 1 Tryz.underlying74 Tryz.info5 rfl .i64 .i64 512 (by omega) (by omega) w
 rw [made512] at this
 exact this
theorem blk_bts {w:World} {g:Nat} {xs:List Nat} (h:Blk w g 5 (vals xs).toArray) (hx:∀ x∈xs,x<256) (hl:xs.length≤1000000):Bts w w.heap.size (some ⟨g,0,none⟩) xs.length xs :=
 bts_row h.lt hx hl rfl fun i hi=>by
  rw [h.cell]
  simpa using vals_get xs i hi
set_option maxHeartbeats 2000000 in
theorem blank_any (A:Option Addr) (n c B:Nat) (xs:List Nat) (w:World) (h:Bts w B A n xs) (hB:B≤w.heap.size) :
  Calls Tryz.prog 169 #[.slice A n c] w fun e w'=>e=.returned (.bool (decide (xs=noughts)))∧Below w.heap.size w w':=by
 have hmk:=make512
 have hz:=blk_bts (Blk.new w 5 (vals noughts).toArray) (zeros_lt 512) (by rw [show noughts.length=512 from List.length_replicate];omega)
 have hl:noughts.length=512:=List.length_replicate
 rw [hl] at hz
 obtain ⟨N,hN⟩:∃ N,N=512:=⟨_,rfl⟩
 rw [show (512:Nat)=N from hN.symm] at hmk hz
 clear hl hN
 have eq:=Crc.equal_any A (some ⟨w.heap.size,0,none⟩) n N c N _ _ xs noughts _ (h.alloc hB (.cells (vals noughts).toArray 5)) hz
 generalize noughts=zs at *
 have EQ:=Lib.hid eq;clear eq hz h
 go_enter Tryz.func169,Tryz.ntmps169
 go_wp2_with (go_at_call 117;refine (EQ.out).mono ?_;rintro e w' ⟨rfl,rfl⟩)
 go_ret
 exact ⟨rfl,(Below.refl _ w).alloc (Nat.le_refl _) _⟩
end Go.Proofs.YtplpmemlaohlaaaGreat.Pg
