/- The laws' own little example of layer 10: it is awake; and whether changes are light. -/
import Derived.Test.YtplpmemlaohlaaaGreatKpChgGet
import Derived.Test.YtplpmemlaohlaaaGreatKpChgPut
import Derived.Test.YtplpmemlaohlaaaGreatKpLsaAwake
namespace Go.Proofs.YtplpmemlaohlaaaGreat.Chg
open Go.RowKit Mem Oct Lsa
set_option linter.unusedVariables false
set_option linter.unusedSimpArgs false
theorem chs_lit1 (w:World) (c:Ch) (u:Value) (g:Nat) (hg:g=w.heap.size) (hu:Lks w w.heap.size u c.ls) :
  Chs (w.alloc (.cells #[.int .i64 c.k,.int .i64 c.o,.int .i64 c.s,u,.int .i64 c.n,.int .i64 c.f] 82)) (w.heap.size+1) (.slice (some ⟨g,0,none⟩) 1 1) [c]:=by
 subst hg
 refine ⟨_,1,1,rfl,rfl,Nat.le_refl _,by unfold maxLen;omega,fun _=>⟨_,0,rfl,Nat.lt_succ_self _,fun i hi=>?_⟩⟩
 obtain rfl:i=0:=by omega
 refine ⟨u,fun j v hv=>?_,(hu.alloc (Nat.le_refl _) _).more (Nat.le_succ _)⟩
 have hk:=Blk.new w 82 #[.int .i64 c.k,.int .i64 c.o,.int .i64 c.s,u,.int .i64 c.n,.int .i64 c.f]
 rw [Nat.zero_mul,Nat.zero_add,hk.cell]
 simpa [rowC] using hv
def small (c:Ch):Bool:=decide (c.ls.length≤40)
def lightB (l:List Ch):Bool:=(l.take 51).all small && decide (l.length≤50)
theorem small_step (l:List Ch) (k:Nat) (hk:k<l.length):(l.take (k+1)).all small=((l.take k).all small && small (l.getD k zeroC)):=by
 rw [List.take_succ_eq_append_getElem hk,List.all_append]
 simp [List.getD,List.getElem?_eq_getElem hk]
theorem small_no (l:List Ch) (k:Nat) (hk:k<l.length) (h50:k≤50) (h:small (l.getD k zeroC)=false):lightB l=false:=by
 have:(l.take 51).all small=false:=by
  rw [List.all_eq_false]
  refine ⟨l.getD k zeroC,?_,by rw [h];exact Bool.false_ne_true⟩
  rw [List.mem_take_iff_getElem]
  exact ⟨k,by omega,by simp [List.getD,List.getElem?_eq_getElem hk]⟩
 simp [lightB,this]
set_option maxRecDepth 20000 in
set_option maxHeartbeats 4000000 in
theorem light10_any (A:Option Addr) (n c:Nat) (l:List Ch) (w:World) (h:Chs w w.heap.size (.slice A n c) l) :
  Calls Tryz.prog 29 #[.slice A n c] w fun e w'=>e=.returned (.bool (lightB l))∧Below w.heap.size w w':=by
 obtain ⟨hl,hnc,hcm⟩:=chs_len h
 unfold maxLen at hcm
 have HL:=Lib.hid hl;clear hl
 have HP:=Lib.hid h;clear h
 obtain ⟨z,hz⟩:∃ z,z=lightB l:=⟨_,rfl⟩
 rw [← hz]
 have HZ:=Lib.hid hz;clear hz
 go_enter Tryz.func29,Tryz.ntmps29
 go_wp2
 go_loopw [3] (fun i wr=>∃ k:Nat,k≤n∧k≤51∧i=.int .i64 k∧(l.take k).all small=true∧Below w.heap.size w wr) (fun i _=>n - (intOf i).toNat)
 case atStart=>exact ⟨0,Nat.zero_le _,by omega,rfl,rfl,Below.refl _ _⟩
 case round =>
  obtain ⟨k,hk,hk51,rfl,hall,hbw⟩:=hrel
  have HBW:=Lib.hid hbw;clear hbw
  by_cases hlt:k<n
  ·have p1:decide (k<n)=true:=by simp;omega
   by_cases h50:k≤50
   ·have p2:decide ((k:Int)≤50)=true:=by simp;omega
    obtain ⟨b,off,rfl,hb,hc⟩:=chs_at HP.out (by omega)
    obtain ⟨u,hr,hlk⟩:=hc k hlt
    have hst:=small_step l k (by have:=HL.out;omega)
    have hno:=small_no l k (by have:=HL.out;omega) h50
    rw [hall,Bool.true_and] at hst
    generalize l.getD k zeroC=x at *
    obtain ⟨Au,nu,cu,rfl,hlx,_⟩:=id hlk
    have r:=rangeC_below hr HBW.out hb
    have c1:wr.cell? ⟨b,off+k*6+1,none⟩=some (.int .i64 x.o):=r 1 _ rfl
    have c2:wr.cell? ⟨b,off+k*6+2,none⟩=some (.int .i64 x.s):=r 2 _ rfl
    have c3:wr.cell? ⟨b,off+k*6+3,none⟩=some (.slice Au nu cu):=r 3 _ rfl
    clear hc hr hlk r hall
    by_cases h40:nu≤40
    ·have lt:=light_any x.o x.s Au nu cu wr true (by simp;omega)
     have HST:=Lib.hid (hst.trans (show small x=true by simp [small,hlx,h40]));clear hst hno hlx
     have LT:=Lib.hid lt;clear lt
     go_wp2_with (go_at_call 66;refine (LT.out).mono ?_;rintro e w3 ⟨rfl,hb3⟩;have HB3:=Lib.hid (low_low HBW.out hb3);clear hb3)
     go_roundw
     case rel=>exact ⟨k+1,by omega,by omega,by go_num,HST.out,HB3.out⟩
     case measure=>simp [intOf];omega
    ·have lt:=light_any x.o x.s Au nu cu wr false (by simp;omega)
     have HNO:=Lib.hid (hno (show small x=false by simp [small,hlx];omega));clear hst hno hlx
     have LT:=Lib.hid lt;clear lt
     go_wp2_with (go_at_call 66;refine (LT.out).mono ?_;rintro e w3 ⟨rfl,hb3⟩;have HB3:=Lib.hid (low_low HBW.out hb3);clear hb3)
     go_ret
     exact ⟨ret_bool (by rw [HZ.out,HNO.out]),HB3.out⟩
   ·have p2:decide ((k:Int)≤50)=false:=by simp;omega
    have p3:decide ((n:Int)≤50)=false:=by simp;omega
    have hzf:z=false:=by
     rw [HZ.out,lightB,HL.out]
     simp
     omega
    have HZF:=Lib.hid hzf;clear hzf hall
    go_wp2
    go_ret
    exact ⟨ret_bool (by rw [HZF.out]),HBW.out⟩
  ·have p1:decide (k<n)=false:=by simp;omega
   obtain rfl:k=n:=by omega
   have hzt:z=decide ((k:Int)≤50):=by
    rw [HZ.out,lightB,HL.out]
    have e:l.take 51=l.take k:=by rw [List.take_of_length_le (by have:=HL.out;omega),List.take_of_length_le (by have:=HL.out;omega)]
    rw [e,hall,Bool.true_and]
    exact decide_eq_decide.2 (by omega)
   have HZT:=Lib.hid hzt;clear hzt hall
   go_wp2
   go_ret
   exact ⟨ret_bool (by rw [HZT.out]),HBW.out⟩
end Go.Proofs.YtplpmemlaohlaaaGreat.Chg
