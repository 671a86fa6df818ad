/- Which changes there may be, and which are alike (layer 10): the contracts of change.isWithin, Same and Check, and of the reference's Same and May. -/
import Derived.Test.YtplpmemlaohlaaaGreatKpChgMem
import Derived.Test.YtplpmemlaohlaaaGreatKpLsaSame
namespace Go.Proofs.YtplpmemlaohlaaaGreat.Chg
open Go.RowKit Mem Oct Lsa
set_option linter.unusedVariables false
set_option linter.unusedSimpArgs false
set_option maxHeartbeats 400000 in
theorem cwithin_any (n hi:Int) (w:World) :
  Calls Tryz.prog 90 #[.int .i64 n,.int .i64 hi] w fun e w'=>e=.returned (.bool (win n hi))∧w=w':=by
 unfold win
 cases h1:decide (1≤n)
 ·go_enter Tryz.func90,Tryz.ntmps90
  go_wp2
  go_ret
  exact ⟨rfl,rfl⟩
 ·go_enter Tryz.func90,Tryz.ntmps90
  go_wp2
  go_ret
  exact ⟨ret_bool (by simp),rfl⟩
theorem blk_cells6 {w:World} {g:Nat} {t:TypeId} {a b c d e f:Value} (h:Blk w g t #[a,b,c,d,e,f]):w.cell? ⟨g,0,none⟩=some a∧w.cell? ⟨g,1,none⟩=some b∧w.cell? ⟨g,2,none⟩=some c∧w.cell? ⟨g,3,none⟩=some d∧w.cell? ⟨g,4,none⟩=some e∧w.cell? ⟨g,5,none⟩=some f∧g<w.heap.size :=
 ⟨by rw [h.cell];rfl,by rw [h.cell];rfl,by rw [h.cell];rfl,by rw [h.cell];rfl,by rw [h.cell];rfl,by rw [h.cell];rfl,h.lt⟩
theorem blk_fz6 {w:World} {g:Nat} {t:TypeId} {cs:Array Value} (h:Blk w g t cs):w.frozen? ⟨g,0,none⟩=false∧w.frozen? ⟨g,1,none⟩=false∧w.frozen? ⟨g,2,none⟩=false∧w.frozen? ⟨g,3,none⟩=false∧w.frozen? ⟨g,4,none⟩=false∧w.frozen? ⟨g,5,none⟩=false:=⟨h.frozen 0,h.frozen 1,h.frozen 2,h.frozen 3,h.frozen 4,h.frozen 5⟩
theorem low1 {w wr:World} (h:Below w.heap.size w wr) (o:Obj):Below w.heap.size w (wr.alloc o):=h.alloc h.size o
theorem low_low {wz w w':World} (h:Below wz.heap.size wz w) (k:Below w.heap.size w w'):Below wz.heap.size wz w':=h.trans (k.mono h.size)
set_option maxRecDepth 20000 in
set_option maxHeartbeats 4000000 in
theorem csame_any (c d:Ch) (v v':Value) (w:World) (h:Lks w w.heap.size v c.ls) (h':Lks w w.heap.size v' d.ls) :
  Calls Tryz.prog 141 #[chV c v,chV d v'] w fun e w'=>e=.returned (.bool (same c d))∧Below w.heap.size w w':=by
 obtain ⟨k,o,s,ls,n,f⟩:=c
 obtain ⟨k',o',s',ls',n',f'⟩:=d
 obtain ⟨A,m,q,rfl,_⟩:=id h
 obtain ⟨A',m',q',rfl,_⟩:=id h'
 simp only [chV,same] at h h' ⊢
 have HB:=Lib.hid (low1 (low1 (Below.refl w.heap.size w) (.cells #[.int .i64 k,.int .i64 o,.int .i64 s,.slice A m q,.int .i64 n,.int .i64 f] 82)) (.cells #[.int .i64 k',.int .i64 o',.int .i64 s',.slice A' m' q',.int .i64 n',.int .i64 f'] 82))
 have sm:=lsame_any o s o' s' (.slice A m q) (.slice A' m' q') ls ls' _ (h.up HB.out) (h'.up HB.out)
 have hsb:sameB o s ls o' s' ls'=smL o s ls o' s' ls':=rfl
 rw [hsb] at sm
 generalize smL o s ls o' s' ls'=sb at *
 have SM:=Lib.hid sm;clear sm h h' hsb
 cases h0:(k == k')
 ·go_enter Tryz.func141,Tryz.ntmps141
  go_wp2
  go_ret
  exact ⟨rfl,HB.out⟩
 cases h1:(n == n')
 ·go_enter Tryz.func141,Tryz.ntmps141
  go_wp2
  go_ret
  exact ⟨rfl,HB.out⟩
 cases h2:(f == f')
 ·go_enter Tryz.func141,Tryz.ntmps141
  go_wp2
  go_ret
  exact ⟨rfl,HB.out⟩
 go_enter Tryz.func141,Tryz.ntmps141
 go_wp2_with (go_at_call 185;refine (SM.out).mono ?_;rintro e w2 ⟨rfl,hb⟩;have HB2:=Lib.hid (low_low HB.out hb);clear hb)
 go_ret
 exact ⟨ret_bool (by simp),HB2.out⟩
theorem low_set {w wr:World} {g i:Nat} {u:Value} (h:Below w.heap.size w wr) (hg:w.heap.size≤g):Below w.heap.size w (wr.setCell ⟨g,i,none⟩ u):=h.setCell (by exact hg) _
theorem set_far {w:World} {g q i:Nat} {t:TypeId} {cs:Array Value} {u:Value} (h:Blk w g t cs) (hp:g≠q):Blk (w.setCell ⟨q,i,none⟩ u) g t cs:=h.far (p:=⟨q,i,none⟩) hp u
theorem same_r1 (n f:Int):same ⟨0,0,0,[],n,f⟩ zeroC=((n == 0) && (f == 0)):=by simp [same,smL,zeroC]
theorem same_r2 (o s f:Int) (ls:List Lk):same ⟨0,o,s,ls,0,f⟩ zeroC=((f == 0) && noL o s ls):=by simp [same,noL,zeroC]
theorem same_r4 (o s:Int) (ls:List Lk):same ⟨0,o,s,ls,0,0⟩ zeroC=noL o s ls:=by simp [same,noL,zeroC]
theorem blk_second (w:World) (o:Obj) (t:TypeId) (cs:Array Value):Blk ((w.alloc o).alloc (.cells cs t)) (w.heap.size+1) t cs:=by
 have:=Blk.new (w.alloc o) t cs
 simpa using this
theorem low2 (w:World) (o o':Obj):Below w.heap.size w ((w.alloc o).alloc o'):=low1 (low1 (Below.refl _ _) _) _
set_option maxRecDepth 20000 in
set_option maxHeartbeats 8000000 in
theorem ccheck_any (c:Ch) (v:Value) (w:World) (h:Lks w w.heap.size v c.ls) :
  Calls Tryz.prog 92 #[chV c v] w fun e w'=>e=.returned (.int .i64 (errI (mayC c)))∧Below w.heap.size w w':=by
 obtain ⟨k,o,s,ls,n,f⟩:=c
 obtain ⟨A,m,q,rfl,_⟩:=id h
 simp only [chV] at h ⊢
 have LA:=Lib.hid (fun (W:World) (hW:Below w.heap.size w W)=>h.up hW);clear h
 by_cases e1:k=1
 ·subst e1
  rw [mayC_1]
  have ck:=fun (W:World) (hW:Below w.heap.size w W)=>check_any o s A m q ls W (LA.out W hW)
  have sm:=fun (W:World)=>csame_any ⟨0,0,0,[],n,f⟩ zeroC (.slice none 0 0) (.slice none 0 0) W (lks_nil _ _) (lks_nil _ _)
  rw [same_r1] at sm
  simp only [chV,zeroC] at sm
  have SM:=Lib.hid sm;clear sm
  generalize hq:((n == 0) && (f == 0))=z at *
  have HQ:=Lib.hid hq;clear hq
  cases hm:may o s ls
  ·rw [hm,errI_f] at ck
   have CK:=Lib.hid ck;clear ck
   go_enter Tryz.func92,Tryz.ntmps92
   go_wp2_with (go_at_call 140;refine (CK.out _ (low2 _ _ _)).mono ?_;rintro e w2 ⟨rfl,hb2⟩;have HB2:=Lib.hid (low_low (low2 _ _ _) hb2);clear hb2)
   go_ret
   exact ⟨rfl,HB2.out⟩
  ·rw [hm,errI_t] at ck
   have CK:=Lib.hid ck;clear ck
   cases z
   all_goals
    go_enter Tryz.func92,Tryz.ntmps92
    go_wp2_with (first
     | (go_at_call 140;refine (CK.out _ (low2 _ _ _)).mono ?_;rintro e w2 ⟨rfl,hb2⟩;obtain ⟨x0,x1,x2,x3,x4,x5,x6⟩:=blk_cells6 ((blk_second w _ 82 _).below hb2 (blk_second w _ _ _).lt);have HB2:=Lib.hid (low_low (low2 _ _ _) hb2);clear hb2)
     | (go_at_call 141;refine (SM.out _).mono ?_;rintro e w3 ⟨rfl,hb⟩;have HB3:=Lib.hid (low_low HB2.out hb);clear hb))
    go_ret
    exact ⟨rfl,HB3.out⟩
 have d1:(k == 1)=false:=by rw [beq_eq_false_iff_ne];exact e1
 by_cases e2:k=2
 ·subst e2
  rw [mayC_2]
  have sm:=fun (W:World) (hW:Below w.heap.size w W)=>csame_any ⟨0,o,s,ls,0,f⟩ zeroC (.slice A m q) (.slice none 0 0) W (LA.out W hW) (lks_nil _ _)
  rw [same_r2] at sm
  simp only [chV,zeroC] at sm
  have SM:=Lib.hid sm;clear sm
  generalize hq:((f == 0) && noL o s ls)=z at *
  have HQ:=Lib.hid hq;clear hq
  cases hm:win n 4611686018427387904
  ·go_enter Tryz.func92,Tryz.ntmps92
   go_wp2_with (go_at_call 90;refine (cwithin_any _ _ _).mono ?_;rintro e w' ⟨rfl,rfl⟩)
   go_ret
   exact ⟨rfl,low2 _ _ _⟩
  ·cases z
   all_goals
    go_enter Tryz.func92,Tryz.ntmps92
    go_wp2_with (first
     | (go_at_call 90;refine (cwithin_any _ _ _).mono ?_;rintro e w' ⟨rfl,rfl⟩)
     | (go_at_call 141;refine (SM.out _ (low2 _ _ _)).mono ?_;rintro e w3 ⟨rfl,hb⟩;have HB3:=Lib.hid (low_low (low2 _ _ _) hb);clear hb))
    go_ret
    exact ⟨rfl,HB3.out⟩
 have d2:(k == 2)=false:=by rw [beq_eq_false_iff_ne];exact e2
 by_cases e3:k=3
 ·subst e3
  rw [mayC_3]
  have sm:=fun (W:World) (hW:Below w.heap.size w W)=>csame_any ⟨0,o,s,ls,0,f⟩ zeroC (.slice A m q) (.slice none 0 0) W (LA.out W hW) (lks_nil _ _)
  rw [same_r2] at sm
  simp only [chV,zeroC] at sm
  have SM:=Lib.hid sm;clear sm
  generalize hq:((f == 0) && noL o s ls)=z at *
  have HQ:=Lib.hid hq;clear hq
  cases hm:win n 1073741824
  ·go_enter Tryz.func92,Tryz.ntmps92
   go_wp2_with (go_at_call 90;refine (cwithin_any _ _ _).mono ?_;rintro e w' ⟨rfl,rfl⟩)
   go_ret
   exact ⟨rfl,low2 _ _ _⟩
  ·cases z
   all_goals
    go_enter Tryz.func92,Tryz.ntmps92
    go_wp2_with (first
     | (go_at_call 90;refine (cwithin_any _ _ _).mono ?_;rintro e w' ⟨rfl,rfl⟩)
     | (go_at_call 141;refine (SM.out _ (low2 _ _ _)).mono ?_;rintro e w3 ⟨rfl,hb⟩;have HB3:=Lib.hid (low_low (low2 _ _ _) hb);clear hb))
    go_ret
    exact ⟨rfl,HB3.out⟩
 have d3:(k == 3)=false:=by rw [beq_eq_false_iff_ne];exact e3
 by_cases e4:k=4
 ·subst e4
  rw [mayC_4]
  have sm:=fun (W:World) (hW:Below w.heap.size w W)=>csame_any ⟨0,o,s,ls,0,0⟩ zeroC (.slice A m q) (.slice none 0 0) W (LA.out W hW) (lks_nil _ _)
  rw [same_r4] at sm
  simp only [chV,zeroC] at sm
  have SM:=Lib.hid sm;clear sm
  generalize hq:noL o s ls=z at *
  have HQ:=Lib.hid hq;clear hq
  cases hf:win f 64
  ·go_enter Tryz.func92,Tryz.ntmps92
   go_wp2_with (go_at_call 90;refine (cwithin_any _ _ _).mono ?_;rintro e w' ⟨rfl,rfl⟩)
   go_ret
   exact ⟨rfl,low2 _ _ _⟩
  cases hm:win n 1073741824
  ·go_enter Tryz.func92,Tryz.ntmps92
   go_wp2_with (go_at_call 90;refine (cwithin_any _ _ _).mono ?_;rintro e w' ⟨rfl,rfl⟩)
   go_ret
   exact ⟨rfl,low2 _ _ _⟩
  ·cases z
   all_goals
    go_enter Tryz.func92,Tryz.ntmps92
    go_wp2_with (first
     | (go_at_call 90;refine (cwithin_any _ _ _).mono ?_;rintro e w' ⟨rfl,rfl⟩)
     | (go_at_call 141;refine (SM.out _ (low2 _ _ _)).mono ?_;rintro e w3 ⟨rfl,hb⟩;have HB3:=Lib.hid (low_low (low2 _ _ _) hb);clear hb))
    go_ret
    exact ⟨rfl,HB3.out⟩
 have d4:(k == 4)=false:=by rw [beq_eq_false_iff_ne];exact e4
 rw [mayC_no e1 e2 e3 e4,errI_f]
 go_enter Tryz.func92,Tryz.ntmps92
 go_wp2
 go_ret
 exact ⟨rfl,low2 _ _ _⟩
end Go.Proofs.YtplpmemlaohlaaaGreat.Chg
