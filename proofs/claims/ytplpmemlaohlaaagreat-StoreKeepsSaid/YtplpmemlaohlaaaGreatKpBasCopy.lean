/- States copied (layer 11): slices.Clone at Lsas and at epochs, base.Copy: in rows of the call's own. -/
import Derived.Test.YtplpmemlaohlaaaGreatKpBasDo
import Derived.Test.YtplpmemlaohlaaaGreatKpLsaRead
namespace Go.Proofs.YtplpmemlaohlaaaGreat.Bas
open Go.RowKit Go.Shelf Mem Oct Lsa Chg
set_option linter.unusedVariables false
set_option linter.unusedSimpArgs false
theorem las_us {w:World} {B n c:Nat} {A:Option Addr} {l:List La} (h:Las w B (.slice A n c) l) :
  ∃ us:List Value,us.length=l.length∧(∀ i,i<n→Lks w B (us.getD i undef) (l.getD i zeroL).ls)∧(0<n→∃ b off,A=some ⟨b,off,none⟩∧b<B∧∀ i,i<n→w.rangeAt b (off+i*3) (rowL (l.getD i zeroL) (us.getD i undef))):=by
 obtain ⟨hl,hnc,hcm,hA⟩:=las_len h
 by_cases h0:0<n
 ·obtain ⟨b,off,rfl,hb,hc⟩:=las_at h h0
  obtain ⟨f,hf⟩:∃ f:Nat→Value,∀ i,i<n→w.rangeAt b (off+i*3) (rowL (l.getD i zeroL) (f i))∧Lks w B (f i) (l.getD i zeroL).ls :=
   ⟨fun i=>if h:i<n then Classical.choose (hc i h) else undef,fun i hi=>by simp only [hi,dif_pos];exact Classical.choose_spec (hc i hi)⟩
  have hg:∀ i,i<n→((List.range n).map f).getD i undef=f i:=fun i hi=>by simp [List.getD,hi]
  refine ⟨(List.range n).map f,by simp [hl],fun i hi=>by rw [hg i hi];exact (hf i hi).2,fun _=>⟨b,off,rfl,hb,fun i hi=>by rw [hg i hi];exact (hf i hi).1⟩⟩
 ·obtain rfl:n=0:=by omega
  have:l=[]:=List.eq_nil_of_length_eq_zero hl
  subst this
  exact ⟨[],rfl,fun i hi=>absurd hi (by omega),fun h=>absurd h (by omega)⟩
theorem las_reads {w:World} {B n:Nat} {A:Option Addr} {l:List La} {us:List Value} (hl:l.length=n) (hu:us.length=l.length) (h:0<n→∃ b off,A=some ⟨b,off,none⟩∧b<B∧∀ i,i<n→w.rangeAt b (off+i*3) (rowL (l.getD i zeroL) (us.getD i undef))):Reads w B 3 A n (flatL l us):=by
 refine ⟨by rw [flatL_len l us hu,hl],fun h0=>?_⟩
 obtain ⟨b,off,rfl,hb,hc⟩:=h h0
 refine ⟨_,rfl,hb,fun j u hj=>?_⟩
 have hlt:=(List.getElem?_eq_some_iff.1 hj).1
 rw [flatL_len l us hu] at hlt
 have h1:=hc (j / 3) (by omega)
 have e:j=j / 3*3+j % 3:=by omega
 rw [e,flatL_get l us (j / 3) (j % 3) hu (by omega) (by omega)] at hj
 have:=h1 (j % 3) u hj
 rw [add_plain,e,← Nat.add_assoc]
 exact this
def CloneOut (w:World) (B0 n:Nat) (l:List La) (e:Ending) (w':World):Prop:=∃ v us,e=.returned v∧us.length=l.length∧w'.ownsRow w.heap.size 80 3 v n (flatL l us)∧(∀ i,i<n→Lks w B0 (us.getD i undef) (l.getD i zeroL).ls)∧Below w.heap.size w w'
set_option maxHeartbeats 2000000 in
theorem clone_lsa (A:Option Addr) (n c B0:Nat) (l:List La) (w:World) (hn:n≤1000) (h:Las w B0 (.slice A n c) l) (hB0:B0≤w.heap.size) :
  Calls Tryz.prog 107 #[.slice A n c] w (CloneOut w B0 n l):=by
 obtain ⟨i0,hi,hz0,hz1,hz2⟩:=info_parts infoL
 obtain ⟨hl,hnc,hcm,hA⟩:=las_len h
 obtain ⟨us,hu,hk,hr0⟩:=las_us h
 have hr:=las_reads hl hu hr0
 have hsl:∀ x∈us,isSl x=true:=getD_mem_all (P:=fun x=>isSl x=true) (d:=undef) (fun i hi=>by
  obtain ⟨A',n',c',e,_⟩:=hk i (by omega)
  rw [e]
  rfl)
 have h1:=flatL_one' l us hsl
 rcases A with _ | ad
 ·have hc0:=hA rfl
  obtain rfl:n=0:=by omega
  have hx:l=[]:=List.eq_nil_of_length_eq_zero hl
  subst hx
  have hy:us=[]:=List.eq_nil_of_length_eq_zero hu
  subst hy
  rw [hc0]
  have kn:=fun (W:World) (a:Option Addr) (n c n' c':Nat)=>Lib.run_eql_slice_nil (P:=Tryz.prog) W 40 _ a n c n' c' Tryz.underlying40
  go_enter Tryz.func107,Tryz.ntmps107
  go_wp2
  go_ret
  exact ⟨_,[],rfl,rfl,World.ownsRow_nil _ _ _ _,hk,Below.refl _ _⟩
 ·have HR:=Lib.hid hr;clear hr
  have HI:=Lib.hid hi;clear hi
  have HZ0:=Lib.hid hz0;clear hz0
  have HZ1:=Lib.hid hz1;clear hz1
  have HZ2:=Lib.hid hz2;clear hz2
  have HL:=Lib.hid hl;clear hl
  have HU:=Lib.hid hu;clear hu
  have HK:=Lib.hid hk;clear hk
  have HA:=Lib.hid hA;clear hA h hr0 hsl
  have hown1:(w.alloc (.cells #[] 80)).ownsRow w.heap.size 80 3 (.slice (some ⟨w.heap.size,0,none⟩) 0 0) 0 []:=World.ownsRow_lit w #[] 0 (Nat.le_refl _) (by unfold maxLen;omega) rfl
  have HO:=Lib.hid hown1;clear hown1
  have hb1:Below w.heap.size w (w.alloc (.cells #[] 80)):=(Below.refl _ _).alloc (Nat.le_refl _) _
  have HB1:=Lib.hid hb1;clear hb1
  have kn:=fun (W:World) (a:Option Addr) (n c n' c':Nat)=>Lib.run_eql_slice_nil (P:=Tryz.prog) W 40 _ a n c n' c' Tryz.underlying40
  go_enter Tryz.func107,Tryz.ntmps107
  go_wp2_with (at_builtin;(refine wpList_append_any _ rfl (.tmp 5) (.tmp 6) 40 rfl w.heap.size 80 i0 (.agg #[.int .i64 0,.int .i64 0,.slice none 0 0]) 3 40 Tryz.underlying40 HI.out HZ0.out HZ1.out HZ2.out rfl (by decide) (.slice (some ⟨w.heap.size,0,none⟩) 0 0) 0 [] rfl HO.out w.heap.size (some ad) n c (flatL l us) rfl ((HR.out.more hB0).below HB1.out) h1 (by unfold maxLen;omega) (by omega) HB1.out.size ?_;intro v2 w2 hown2 hg2 _))
  go_ret
  rw [Nat.zero_add,List.nil_append] at hown2
  exact ⟨v2,us,rfl,HU.out,hown2,HK.out,HB1.out.grown hg2 HB1.out.size (fun k hk=>(HO.out.lt k hk).1)⟩
set_option maxHeartbeats 2000000 in
theorem clone_ep (A:Option Addr) (n c:Nat) (l:List (Int × Int)) (w:World) (hn:n≤1000) (h:Lks w w.heap.size (.slice A n c) l) :
  Calls Tryz.prog 109 #[.slice A n c] w fun e w'=>∃ v,e=.returned v∧OwnE w' w.heap.size v l∧Below w.heap.size w w':=by
 obtain ⟨i0,hi,hz0,hz1,hz2⟩:=info_parts infoE
 obtain ⟨hl,hnc,hcm,hA⟩:=lks_len h
 have hr:=lks_reads h
 unfold OwnE
 rw [hl]
 rcases A with _ | ad
 ·have hc0:=hA rfl
  obtain rfl:n=0:=by omega
  have hx:l=[]:=List.eq_nil_of_length_eq_zero hl
  subst hx
  rw [hc0]
  have kn:=fun (W:World) (a:Option Addr) (n c n' c':Nat)=>Lib.run_eql_slice_nil (P:=Tryz.prog) W 41 _ a n c n' c' Tryz.underlying41
  go_enter Tryz.func109,Tryz.ntmps109
  go_wp2
  go_ret
  exact ⟨_,rfl,World.ownsRow_nil _ _ _ _,Below.refl _ _⟩
 ·have HR:=Lib.hid hr;clear hr
  have HI:=Lib.hid hi;clear hi
  have HZ0:=Lib.hid hz0;clear hz0
  have HZ1:=Lib.hid hz1;clear hz1
  have HZ2:=Lib.hid hz2;clear hz2
  have HL:=Lib.hid hl;clear hl
  have HA:=Lib.hid hA;clear hA h
  have hown1:(w.alloc (.cells #[] 118)).ownsRow w.heap.size 118 2 (.slice (some ⟨w.heap.size,0,none⟩) 0 0) 0 []:=World.ownsRow_lit w #[] 0 (Nat.le_refl _) (by unfold maxLen;omega) rfl
  have HO:=Lib.hid hown1;clear hown1
  have hb1:Below w.heap.size w (w.alloc (.cells #[] 118)):=(Below.refl _ _).alloc (Nat.le_refl _) _
  have HB1:=Lib.hid hb1;clear hb1
  have kn:=fun (W:World) (a:Option Addr) (n c n' c':Nat)=>Lib.run_eql_slice_nil (P:=Tryz.prog) W 41 _ a n c n' c' Tryz.underlying41
  go_enter Tryz.func109,Tryz.ntmps109
  go_wp2_with (at_builtin;(refine wpList_append_any _ rfl (.tmp 5) (.tmp 6) 41 rfl w.heap.size 118 i0 (.agg #[.int .i64 0,.int .i64 0]) 2 16 Tryz.underlying41 HI.out HZ0.out HZ1.out HZ2.out rfl (by decide) (.slice (some ⟨w.heap.size,0,none⟩) 0 0) 0 [] rfl HO.out w.heap.size (some ad) n c (lkCells l) rfl (HR.out.below HB1.out) (lkCells_one' l) (by unfold maxLen;omega) (by omega) HB1.out.size ?_;intro v2 w2 hown2 hg2 _))
  go_ret
  rw [Nat.zero_add,List.nil_append] at hown2
  exact ⟨v2,rfl,hown2,HB1.out.grown hg2 HB1.out.size (fun k hk=>(HO.out.lt k hk).1)⟩
def Half (w:World) (B:Nat) (v:Value) (l:List La) (k:Nat):Prop :=
 ∃ us:List Value,us.length=l.length∧w.ownsRow B 80 3 v l.length (flatL l us)∧(∀ i,i<k→LkT w B (us.getD i undef) (l.getD i zeroL).ls)∧∀ i,k≤i→i<l.length→Lks w B (us.getD i undef) (l.getD i zeroL).ls
theorem Half.blk {w w':World} {B g t k:Nat} {v:Value} {cs:Array Value} {l:List La} (h:Half w B v l k) (hv:Blk w g t cs) (h1:195≠t) (h2:80≠t) (hB:B≤w.heap.size) (hBg:B≤g) (hg:w.grownBy w' (some g)):Half w' B v l k:=by
 obtain ⟨us,k1,k2,k3,k4⟩:=h
 exact ⟨us,k1,k2.kept hg (own_off k2 hv h2),fun i hi=>(k3 i hi).blk hv h1 hg,fun i hi hl=>(k4 i hi hl).grown hg hB (fun q hq=>by cases hq;exact hBg)⟩
theorem Half.done {w:World} {B:Nat} {v:Value} {l:List La} (h:Half w B v l l.length):OwnL w B v l:=by
 obtain ⟨us,h1,h2,h3,_⟩:=h
 exact ⟨us,h1,h2,h3⟩
theorem half_step {w:World} {B g c k n:Nat} {u:Value} {l:List La} {us:List Value} (hk:k<l.length) (hul:us.length=l.length) (hn:n=l.length)
  (hown:w.ownsRow B 80 3 (.slice (some ⟨g,0,none⟩) n c) n (flatL l us)) (h3:∀ i,i<k→LkT w B (us.getD i undef) (l.getD i zeroL).ls) (h4:∀ i,k≤i→i<l.length→Lks w B (us.getD i undef) (l.getD i zeroL).ls) (hu:LkT w B u (l.getD k zeroL).ls) (hB:B≤w.heap.size) :
  Half (w.setCells g (k*3) (rowL (l.getD k zeroL) u)) B (.slice (some ⟨g,0,none⟩) n c) l (k+1):=by
 subst hn
 have hg:=grown_setCells g (rowL (l.getD k zeroL) u) (k*3) w
 have hs:=own_splice hown (o:=k*3) (vs:=rowL (l.getD k zeroL) u) (by rw [rowL_length];omega)
 have e:splice (flatL l us) (k*3) (rowL (l.getD k zeroL) u)=flatL l (us.set k u):=by
  unfold splice
  rw [flatL_take l us k hul (by omega),show k*3+(rowL (l.getD k zeroL) u).length=(k+1)*3 by rw [rowL_length];omega,flatL_drop l us (k+1) hul (by omega)]
  have e2:flatL l (us.set k u)=flatL (l.set k (l.getD k zeroL)) (us.set k u):=by
   congr 1
   rw [show l.getD k zeroL=l[k] by simp [List.getD,List.getElem?_eq_getElem hk]]
   exact (List.set_getElem_self hk).symm
  rw [e2,set_cut _ _ _ hk,set_cut _ _ _ (by omega:k<us.length),flatL_app _ _ _ _ (by simp [hul]),flatL]
 rw [e] at hs
 have gne:∀ i,i≠k→(us.set k u).getD i undef=us.getD i undef:=fun i hi=>by simp [List.getD,List.getElem?_set,Ne.symm hi]
 refine ⟨us.set k u,by simp [hul],hs,fun i hi=>?_,fun i hi hl=>?_⟩
 ·by_cases hik:i=k
  ·subst hik
   have e1:(us.set i u).getD i undef=u:=by simp [List.getD,hul,hk]
   rw [e1]
   exact hu.row hown (by decide) hg
  ·rw [gne i hik]
   exact (h3 i (by omega)).row hown (by decide) hg
 ·rw [gne i (by omega)]
  exact (h4 i (by omega) hl).grown hg hB (fun q hq=>by cases hq;exact (hown.lt g rfl).1)
def CopyOut (w:World) (s:Sta) (e:Ending) (w':World):Prop:=∃ dv ev,e=.returned (stV s dv ev)∧OwnL w' w.heap.size dv s.db∧OwnE w' w.heap.size ev s.ep∧Below w.heap.size w w'
set_option maxHeartbeats 8000000 in
set_option maxRecDepth 100000 in
theorem scopy_any (s:Sta) (dv ev:Value) (w:World) (h:StM w w.heap.size dv ev s) (hn:s.db.length≤1000) (hm:s.ep.length≤1000) (hls:∀ i,i<s.db.length→(s.db.getD i zeroL).ls.length≤1000) :
  Calls Tryz.prog 55 #[stV s dv ev] w (CopyOut w s):=by
 obtain ⟨db,up,bo,ep⟩:=s
 obtain ⟨h1,h2⟩:=h
 obtain ⟨A,n,c,rfl,hl,hr_⟩:=id h1
 clear hr_
 obtain ⟨A',n',c',rfl,hl',hr_⟩:=id h2
 clear hr_
 simp only [stV] at *
 have hb:=low2 w (.cells #[.slice A n c,.int .i64 up,.int .i64 bo,.slice A' n' c'] 43) (.cells #[.slice none 0 0,.int .i64 0,.int .i64 0,.slice none 0 0] 43)
 have k0:=(Blk.new w 43 #[.slice A n c,.int .i64 up,.int .i64 bo,.slice A' n' c']).alloc (.cells #[.slice none 0 0,.int .i64 0,.int .i64 0,.slice none 0 0] 43)
 have k1:=blk_second w (.cells #[.slice A n c,.int .i64 up,.int .i64 bo,.slice A' n' c'] 43) 43 #[.slice none 0 0,.int .i64 0,.int .i64 0,.slice none 0 0]
 obtain ⟨P1,hP1⟩:∃ P1,P1=CopyOut w ⟨db,up,bo,ep⟩:=⟨_,rfl⟩
 rw [← hP1]
 have CL:=Lib.hid (fun (W:World) (hW:Below w.heap.size w W)=>clone_lsa A n c w.heap.size db W (by omega) (h1.keep hW) hW.size)
 have CE:=Lib.hid (fun (W:World) (hW:Below w.heap.size w W)=>clone_ep A' n' c' ep W (by omega) (h2.up hW))
 have HP1:=Lib.hid hP1;clear hP1
 have HB:=Lib.hid hb;clear hb h1 h2
 have K0:=Lib.hid k0
 have K1:=Lib.hid k1;clear k1
 have HLS:=Lib.hid hls;clear hls
 obtain ⟨x0,x1,x2,x3,x4⟩:=blk_cells4 k0
 obtain ⟨f0,f1,f2,f3⟩:=blk_fz4 k0
 have HL:=Lib.hid hl;clear hl
 have HL':=Lib.hid hl';clear hl'
 clear k0
 go_enter Tryz.func55,Tryz.ntmps55
 go_wp2_with (fail)
 have HS1:=Lib.hid (show w.heap.size+1<((w.alloc (.cells #[.slice A n c,.int .i64 up,.int .i64 bo,.slice A' n' c'] 43)).alloc (.cells #[.slice none 0 0,.int .i64 0,.int .i64 0,.slice none 0 0] 43)).heap.size by simp)
 generalize ((w.alloc (.cells #[.slice A n c,.int .i64 up,.int .i64 bo,.slice A' n' c'] 43)).alloc (.cells #[.slice none 0 0,.int .i64 0,.int .i64 0,.slice none 0 0] 43))=W1 at *
 refine (CL.out W1 HB.out).mono ?_
 rintro e w3 ⟨v3,us3,rfl,hu3,ho3,hk3,hb3⟩
 obtain ⟨A3,c3,rfl⟩:=own_form ho3
 have hb4:=low_low HB.out hb3
 have ho4:=own_mono ho3 (base':=w.heap.size) (by have:=HB.out.size;omega)
 have ho4:w3.ownsRow w.heap.size 80 3 (.slice A3 n c3) db.length (flatL db us3):=by rw [HL.out];exact ho4
 have hh:Half w3 w.heap.size (.slice A3 n c3) db 0:=⟨us3,hu3,ho4,fun i hi=>absurd hi (by omega),fun i _ hi=>(hk3 i (by rw [← HL.out];exact hi)).below hb3 (by have:=HB.out.size;omega)⟩
 have k3:=K0.out.below hb3 K0.out.lt
 have q3:=K1.out.below hb3 K1.out.lt
 obtain ⟨y0,y1,y2,y3,y4⟩:=blk_cells4 k3
 obtain ⟨z0,z1,z2,z3,z4⟩:=blk_cells4 q3
 obtain ⟨g0,g1,g2,g3⟩:=blk_fz4 k3
 have hh4:=hh.blk k3 (by decide) (by decide) (by have:=hb4.size;exact this) (Nat.le_refl _) (grown_set w3 ⟨w.heap.size,0,none⟩ (.slice A3 n c3))
 have k4:Blk (w3.setCell ⟨w.heap.size,0,none⟩ (.slice A3 n c3)) w.heap.size 43 #[.slice A3 n c3,.int .i64 up,.int .i64 bo,.slice A' n' c']:=k3.set_ 0 _
 have q4:Blk (w3.setCell ⟨w.heap.size,0,none⟩ (.slice A3 n c3)) (w.heap.size+1) 43 #[.slice none 0 0,.int .i64 0,.int .i64 0,.slice none 0 0]:=q3.far (p:=⟨w.heap.size,0,none⟩) (by show w.heap.size+1≠w.heap.size;omega) _
 have hb5:Below w.heap.size w (w3.setCell ⟨w.heap.size,0,none⟩ (.slice A3 n c3)):=below_set hb4 (Nat.le_refl _)
 have HH:=Lib.hid hh4;clear hh4 hh
 have K4:=Lib.hid k4;clear k4 k3
 have Q4:=Lib.hid q4;clear q4 q3
 have HB5:=Lib.hid hb5;clear hb5 hb4 hb3 ho3 ho4 hk3 hu3 x0 x1 x2 x3 x4 f0 f1 f2 f3
 have HEN:=Lib.hid (enters_of Tryz.func108 (by kernel_rfl) rfl)
 obtain ⟨ycK,hyc⟩:∃ x,x=c3:=⟨_,rfl⟩
 clear hyc ycK
 go_wp2_with (fail)
 go_loopw [12] (fun i wr=>∃ k:Nat,k≤n∧i=.int .i64 k∧Hid (Half wr w.heap.size (.slice A3 n c3) db k)∧Hid (Blk wr w.heap.size 43 #[.slice A3 n c3,.int .i64 up,.int .i64 bo,.slice A' n' c'])∧Hid (Blk wr (w.heap.size+1) 43 #[.slice none 0 0,.int .i64 0,.int .i64 0,.slice none 0 0])∧Hid (Below w.heap.size w wr)) (fun i _=>n - (intOf i).toNat)
 case atStart=>exact ⟨0,Nat.zero_le _,rfl,HH,K4,Q4,HB5⟩
 case round =>
  clear HH K4 Q4 HB5 CL y0 y1 y2 y3 y4 z0 z1 z2 z3 z4 g0 g1 g2 g3 HS1 HB K0 K1
  obtain ⟨k,hk,rfl,HH,K4,Q4,HB5⟩:=hrel
  by_cases hlt:k<n
  ·obtain ⟨us,hul,hown,hT,hF⟩:=HH.out
   obtain ⟨g,rfl⟩:∃ g,A3=some ⟨g,0,none⟩:=own_some (by rw [HL.out] at hown;exact hown) (by omega)
   have hgs:=(hown.lt g rfl)
   rw [HL.out] at hown
   have hr:=own_row_at hown hul HL.out.symm hlt
   have hkl:k<db.length:=by rw [HL.out];exact hlt
   have hf:=hF k (Nat.le_refl _) hkl
   have hlx:=HLS.out k hkl
   have ex:rowL (db.getD k zeroL) (us.getD k undef)=[.int .i64 (db.getD k zeroL).o,.int .i64 (db.getD k zeroL).s,us.getD k undef]:=rfl
   obtain ⟨Au,nu,cu,hu,_⟩:=id hf
   rw [hu] at hr hf
   generalize hx:db.getD k zeroL=x at hr hf hlx
   obtain ⟨xo,xs,xl⟩:=x
   simp only at hr hf hlx
   have d0:=hr 0 _ rfl
   have d1:=hr 1 _ rfl
   have d2:=hr 2 _ rfl
   rw [Nat.add_zero] at d0
   have hws:=HB5.out.size
   have hbx:Below wr.heap.size wr (wr.alloc (.cells #[.int .i64 xo,.int .i64 xs,.slice Au nu cu] 80)):=low1 (Below.refl _ _) _
   have b0:=Blk.new wr 80 #[.int .i64 xo,.int .i64 xs,.slice Au nu cu]
   have k5:=K4.out.below hbx K4.out.lt
   have q5:=Q4.out.below hbx Q4.out.lt
   have hown5:=own_below hown hbx
   have hT5:∀ i,i<k→LkT _ w.heap.size (us.getD i undef) (db.getD i zeroL).ls:=fun i hi=>(hT i hi).below hbx
   have hF5:∀ i,k≤i→i<db.length→Lks _ w.heap.size (us.getD i undef) (db.getD i zeroL).ls:=fun i hi hl=>(hF i hi hl).below hbx hws
   have cp:=copy_own xo xs (.slice Au nu cu) xl (wr.alloc (.cells #[.int .i64 xo,.int .i64 xs,.slice Au nu cu] 80)).drew (by omega) ((hf.below hbx hws).more (by have:=hbx.size;exact Nat.le_trans hws this))
   have hbw5:=low_low HB5.out hbx
   have hs5:=hbx.size
   have CP:=Lib.hid cp;clear cp
   have BX:=Lib.hid b0
   have K5:=Lib.hid k5;clear k5
   have Q5:=Lib.hid q5;clear q5
   have HO5:=Lib.hid hown5;clear hown5 hown
   have HT5:=Lib.hid hT5;clear hT5 hT
   have HF5:=Lib.hid hF5;clear hF5 hF hf
   have HBW5:=Lib.hid hbw5;clear hbw5 hbx
   have HX:=Lib.hid hx;clear hx hu ex hr
   have HUL:=Lib.hid hul;clear hul
   go_wp2_with (fail)
   generalize hW2:(wr.alloc (.cells #[.int .i64 xo,.int .i64 xs,.slice Au nu cu] 80))=W2 at *
   have HW2:=Lib.hid hW2;clear hW2
   obtain ⟨m0,m1,m2,m3⟩:=blk_cells3 BX.out
   obtain ⟨n0,n1,n2,n3,n4⟩:=blk_cells4 K5.out
   go_region_law (first
    | (refine step_calls rfl 108 _ _ rfl #[.agg #[.int .i64 xo,.int .i64 xs,.slice Au nu cu]] (by simp [Act.eval,Act.put]) HEN.out (by exact CP.out) ?_;rintro e w6 ⟨v6,rfl,⟨n6,ho6⟩,hb6⟩;obtain ⟨A6,c6,rfl⟩:=own_form ho6;refine ⟨_,rfl,?_⟩;have hb6:Below W2.heap.size W2 w6:=⟨hb6.os,hb6.tape,hb6.output,hb6.size,hb6.block⟩;have k6:=K5.out.below hb6 K5.out.lt;have q6:=Q5.out.below hb6 Q5.out.lt;have o6:=own_below HO5.out hb6;obtain ⟨s0,s1,s2,s3,s4⟩:=blk_cells4 k6;have r6:=own_row_at o6 HUL.out HL.out.symm hlt;have e0:=(r6 0 _ rfl);have e1:=(r6 1 _ rfl);have e2:=(r6 2 _ rfl);rewrite [Nat.add_zero] at e0;have p0:=o6.frozenAt (k*3);have p1:=o6.frozenAt (k*3+1);have p2:=o6.frozenAt (k*3+2);have lt6:LkT w6 w.heap.size (.slice A6 n6 c6) xl:=⟨n6,own_mono ho6 (by show w.heap.size≤W2.heap.size;omega)⟩;have HB6:=Lib.hid hb6;have HL6:=Lib.hid lt6;have HO6:=Lib.hid o6;have KK6:=Lib.hid k6;have QQ6:=Lib.hid q6;clear hb6 ho6 lt6 o6 k6 q6 r6))
   all_goals
    have hne:w.heap.size≠g:=fun e=>own_blk_ne HO6.out KK6.out (by decide) (by rw [e];rfl)
    have hne2:w.heap.size+1≠g:=fun e=>own_blk_ne HO6.out QQ6.out (by decide) (by rw [e];rfl)
    have hge:=hgs.1
    have hh6:=half_step hkl HUL.out HL.out.symm HO6.out (fun i hi=>(HT5.out i hi).below HB6.out) (fun i hi hl=>(HF5.out i hi hl).below HB6.out (by omega)) (by rw [HX.out];exact HL6.out) (by have:=HB6.out.size;omega)
    have hw:w6.setCells g (k*3) (rowL (db.getD k zeroL) (.slice A6 n6 c6))=((w6.setCell ⟨g,k*3,none⟩ (.int .i64 xo)).setCell ⟨g,k*3+1,none⟩ (.int .i64 xs)).setCell ⟨g,k*3+2,none⟩ (.slice A6 n6 c6):=by rw [HX.out];rfl
    rw [hw] at hh6
    have R1:=Lib.hid hh6
    have R2:=Lib.hid (set_far (i:=k*3+2) (u:=.slice A6 n6 c6) (set_far (i:=k*3+1) (u:=.int .i64 xs) (set_far (i:=k*3) (u:=.int .i64 xo) KK6.out hne) hne) hne)
    have R3:=Lib.hid (set_far (i:=k*3+2) (u:=.slice A6 n6 c6) (set_far (i:=k*3+1) (u:=.int .i64 xs) (set_far (i:=k*3) (u:=.int .i64 xo) QQ6.out hne2) hne2) hne2)
    have R4:=Lib.hid (low_set (i:=k*3+2) (u:=.slice A6 n6 c6) (low_set (i:=k*3+1) (u:=.int .i64 xs) (low_set (i:=k*3) (u:=.int .i64 xo) (low_low HBW5.out HB6.out) hge) hge) hge)
    clear hh6 hw hne hne2 hge
    go_wp2
    go_roundw
    case rel=>exact ⟨k+1,by omega,by go_num,R1,R2,R3,R4⟩
    case measure=>simp [intOf];omega
  ·obtain rfl:k=n:=by omega
   have hd:=(show OwnL wr w.heap.size (.slice A3 k c3) db from Half.done (by rw [HL.out];exact HH.out))
   have HD:=Lib.hid hd;clear hd
   obtain ⟨y0,y1,y2,y3,y4⟩:=blk_cells4 K4.out
   obtain ⟨z0,z1,z2,z3,z4⟩:=blk_cells4 Q4.out
   go_wp2_with (fail)
   refine (CE.out wr HB5.out).mono ?_
   rintro e w7 ⟨v7,rfl,he7,hb7⟩
   obtain ⟨A7,n7,c7,rfl⟩:=ownE_sl he7
   have hb8:=low_low HB5.out hb7
   have k7:=K4.out.below hb7 K4.out.lt
   have q7:=Q4.out.below hb7 Q4.out.lt
   have hd7:=HD.out.below hb7
   have he8:OwnE w7 w.heap.size (.slice A7 n7 c7) ep:=own_mono he7 (by have:=HB5.out.size;omega)
   obtain ⟨r0,r1,r2,r3,r4⟩:=blk_cells4 k7
   obtain ⟨t0,t1,t2,t3,t4⟩:=blk_cells4 q7
   obtain ⟨i0,i1,i2,i3⟩:=blk_fz4 k7
   obtain ⟨j0,j1,j2,j3⟩:=blk_fz4 q7
   have q8:Blk (w7.setCell ⟨w.heap.size,3,none⟩ (.slice A7 n7 c7)) (w.heap.size+1) 43 #[.slice none 0 0,.int .i64 0,.int .i64 0,.slice none 0 0]:=q7.far (p:=⟨w.heap.size,3,none⟩) (by show w.heap.size+1≠w.heap.size;omega) _
   have hd8:=hd7.blk k7 (by decide) (by decide) (grown_set w7 ⟨w.heap.size,3,none⟩ (.slice A7 n7 c7))
   have he9:=World.ownsRow.kept he8 (grown_set w7 ⟨w.heap.size,3,none⟩ (.slice A7 n7 c7)) (own_off he8 k7 (by decide))
   have hg4:∀ W:World,W.grownBy ((((W.setCell ⟨w.heap.size+1,0,none⟩ (.slice A3 k c3)).setCell ⟨w.heap.size+1,1,none⟩ (.int .i64 up)).setCell ⟨w.heap.size+1,2,none⟩ (.int .i64 bo)).setCell ⟨w.heap.size+1,3,none⟩ (.slice A7 n7 c7)) (some (w.heap.size+1)):=fun W=>grown_trans (grown_trans (grown_trans (grown_set W ⟨w.heap.size+1,0,none⟩ _) (grown_set _ ⟨w.heap.size+1,1,none⟩ _)) (grown_set _ ⟨w.heap.size+1,2,none⟩ _)) (grown_set _ ⟨w.heap.size+1,3,none⟩ _)
   have hd9:=hd8.blk q8 (by decide) (by decide) (hg4 _)
   have he10:=World.ownsRow.kept he9 (hg4 _) (own_off he9 q8 (by decide))
   have hb9:Below w.heap.size w _:=(below_set (g:=w.heap.size) (i:=3) (u:=.slice A7 n7 c7) hb8 (Nat.le_refl _)).grown (hg4 _) (by have:=hb8.size;simpa [World.setCell] using this) (fun q hq=>by cases hq;omega)
   have hfin:P1 (.returned (stV ⟨db,up,bo,ep⟩ (.slice A3 k c3) (.slice A7 n7 c7))) ((((((w7.setCell ⟨w.heap.size,3,none⟩ (.slice A7 n7 c7)).setCell ⟨w.heap.size+1,0,none⟩ (.slice A3 k c3)).setCell ⟨w.heap.size+1,1,none⟩ (.int .i64 up)).setCell ⟨w.heap.size+1,2,none⟩ (.int .i64 bo)).setCell ⟨w.heap.size+1,3,none⟩ (.slice A7 n7 c7))):=by
    rw [HP1.out]
    exact ⟨_,_,rfl,hd9,he10,hb9⟩
   have FIN:=Lib.hid hfin
   clear hfin hb9 he10 hd9 hg4 he9 hd8 q8 hd7 he8 hb8 k7 q7 he7 hb7
   go_wp2
   refine bodyPost_ret (v:=stV ⟨db,up,bo,ep⟩ (.slice A3 k c3) (.slice A7 n7 c7)) ?_ rfl FIN.out
   simp [results,Tryz.results55,go_sem,t0,t1,t2,t3]
end Go.Proofs.YtplpmemlaohlaaaGreat.Bas
