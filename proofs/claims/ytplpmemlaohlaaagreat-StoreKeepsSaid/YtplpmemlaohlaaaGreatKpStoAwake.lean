/- The law's own awake (layer 12), and nobody's store. -/
import Derived.Test.YtplpmemlaohlaaaGreatKpChgAwake
import Derived.Test.YtplpmemlaohlaaaGreatKpDiskAll
import Derived.Test.YtplpmemlaohlaaaGreatKpStoDo
import Derived.Test.YtplpmemlaohlaaaGreatKpStoOpen
namespace Go.Proofs.YtplpmemlaohlaaaGreat.Sto
open Go.RowKit Mem Oct Lsa Chg Bas Wl
open Dsk (KeptBut SMap DiskAt kept_of_below kept_of_grown kept_drew NoneAt)
open Plt (sl)
open Rcd (parts)
set_option linter.unusedVariables false
set_option linter.unusedSimpArgs false
section
variable (z:Value) (w:World)
end
def c0:Ch:=⟨1,2,3,[],0,0⟩
def t0:Sta:=⟨[⟨2,3,[]⟩],0,0,[]⟩
theorem open_says {p e:Nat} {g mk:Int} {d:Dsk.St} {s:Sta} (h:Says p d g mk e s) (hp:6≤p) (hm:openMark d≤2147483648):openS d=⟨d,some (⟨g,openMark d,e,false⟩,s),0⟩∧(openP d).b.length≤200000∧∀ r∈(openP d).recs,r.length≤200000:=by
 obtain ⟨hn,h0,b,rs,h1,h2⟩:=h
 have ho:=openP_ready (s:=d) (by rw [hn];exact h1) (by omega) hm
 have hb:=says_b h2
 have hr:=says_recs h2
 refine ⟨?_,by rw [ho];exact hb.2,by rw [ho];exact fun r hq=>(hr r hq).2⟩
 unfold openS
 rw [ho]
 simp only
 rw [saidC_eq hb.1 (fun r hq=>(hr r hq).1),h2]
theorem fresh_says (n:Nat) (h6:6≤n):∃ d1,openS (Dsk.St.new n)=⟨d1,some (⟨1,1,0,false⟩,zeroS),0⟩∧d1.left = -1∧Says n d1 1 1 0 zeroS∧(openP (Dsk.St.new n)).b.length≤200000∧∀ r∈(openP (Dsk.St.new n)).recs,r.length≤200000:=by
 obtain ⟨s1,h1,h2,h3,h4⟩:=open_fresh n h6
 refine ⟨s1,?_,h3,⟨h2,by omega,[],[],h4,says_new⟩,by rw [h1];simp,by rw [h1];simp⟩
 unfold openS
 rw [h1]
 rfl
theorem awake12_pure:∃ (d1 d2:Dsk.St) (mk:Int),openS (Dsk.St.new 20)=⟨d1,some (⟨1,1,0,false⟩,zeroS),0⟩∧Says 20 d1 1 1 0 zeroS∧doS12 20 d1 ⟨1,1,0,false⟩ zeroS [c0]=⟨d2,⟨1,1,1,false⟩,t0,0⟩∧d2.n=20 ∧
  openS (d2.crash [])=⟨d2.crash [],some (⟨1,mk,1,false⟩,t0),0⟩∧(d2.crash []).n=20∧((openP (Dsk.St.new 20)).b.length≤200000∧∀ r∈(openP (Dsk.St.new 20)).recs,r.length≤200000)∧(openP (d2.crash [])).b.length≤200000∧∀ r∈(openP (d2.crash [])).recs,r.length≤200000:=by
 obtain ⟨d1,h1,h2,h3,h4,h5⟩:=fresh_says 20 (by omega)
 obtain ⟨hn,_,_,_,_⟩:=id h3
 obtain ⟨s1,q1,q2,q3,q4⟩:=open_fresh 20 (by omega)
 have e1:d1=s1:=by
  have:=congrArg OpenedS.d h1
  simp only [openS,q1] at this
  exact this.symm
 subst e1
 have hok:okAll [c0]=true:=by decide
 have hap:applyS zeroS [c0]=(t0,0):=rfl
 have hp:parts (putC [c0]).length=1:=by decide
 rcases commit_ready (k:=20) (b:=putC [c0]) q4 (by decide) (by omega) (by omega) (by decide) with ⟨c1,_⟩ | ⟨s2,c1,c2,c3,_⟩ | ⟨s2,c1,c2,c3,c4,_⟩
 ·rw [hp,lg20] at c1
  omega
 ·rw [hp] at c1 c2
  have ek:keepS 20 d1 ⟨1,1,0,false⟩ t0 [c0]=(s2,⟨1,1,1,false⟩,0):=by
   unfold keepS
   rw [c1,if_neg (show ¬ (0:Int)=4 by decide)]
  have hs2:Says 20 s2 1 1 1 t0:=⟨c3.trans hn,by omega,_,_,c2,says_commit says_new hok hap⟩
  have hc:=crashed_nil s2
  obtain ⟨r1,g',e',b',rs',r2,r3⟩:=hs2.lost _ hc
  have hcal:=crash_calm c2 hc (by omega)
  have hs3:Says 20 (s2.crash []) 1 (openMark (s2.crash [])) 1 t0:=⟨hc.n.trans hs2.n,by have:=mark_bounds ((List.range (s2.crash []).n).map (s2.crash []).get);unfold openMark;omega,_,_,hcal.1,says_commit says_new hok hap⟩
  obtain ⟨o1,o2,o3⟩:=open_says hs3 (by omega) (by omega)
  exact ⟨d1,s2,_,h1,h3,by rw [doS12_do rfl hok hap,ek];rfl,hs2.n,o1,hs3.n,⟨h4,h5⟩,o2,o3⟩
 ·omega
def OkOut (w:World) (g bs bw k:Nat) (d:Dsk.St) (v:Wn) (s:Sta) (e:Ending) (w':World):Prop:=∃ y q x,e=.returned (.tuple #[ptr y,.int .i64 0])∧w.heap.size≤y∧w.heap.size≤q∧w.heap.size≤x∧StoreAt w' y q x g k v s∧DiskAt w' g bs bw d∧KeptBut w w' [g,bs,bw]
theorem sopen_yes {g bs bw:Nat} {d d1:Dsk.St} {w:World} {v:Wn} {s:Sta} (h:DiskAt w g bs bw d) (hn:d.n≤1000) (hb:(openP d).b.length≤200000∧∀ r∈(openP d).recs,r.length≤200000) (ho:openS d=⟨d1,some (v,s),0⟩) :
  Calls Tryz.prog 10 #[ptr g] w (OkOut w g bs bw d.n d1 v s):=by
 refine (sopen_any g bs bw d w h hn hb.1 hb.2).mono ?_
 rintro e w' ⟨vy,h1,h2,h3,_,h5⟩
 rw [ho] at h1 h2 h5
 obtain ⟨y,q,x,rfl,a1,a2,a3,a4⟩:=h5 v s rfl
 exact ⟨y,q,x,h1,a1,a2,a3,a4,h2,h3⟩
theorem StoreAt.disk_kept {w w':World} {y q x g bs bw k:Nat} {v:Wn} {s:Sta} {d:Dsk.St} (h:StoreAt w y q x g k v s) (hd:DiskAt w g bs bw d) (hk:KeptBut w w' [g,bs,bw]):StoreAt w' y q x g k v s:=by
 obtain ⟨d0,e0,a2,_⟩:=h.2.1
 have n2:=Blk.ne_ h.1 hd.1 (by decide)
 have n3:=Dsk.smap_ne_blk hd.2.1 h.1
 have n4:=Dsk.smap_ne_blk hd.2.2.1 h.1
 have m2:=Blk.ne_ a2 hd.1 (by decide)
 have m3:=Dsk.smap_ne_blk hd.2.1 a2
 have m4:=Dsk.smap_ne_blk hd.2.2.1 a2
 obtain ⟨p2,p3,p4⟩:=wal_ne h.2.2 hd
 refine h.kept hk (typ_disk hd) ?_ ?_ ?_ <;> (simp only [List.mem_cons,List.not_mem_nil,or_false];omega)
set_option maxRecDepth 20000 in
set_option maxHeartbeats 8000000 in
theorem awake12_any (w:World):Calls Tryz.prog 7 #[] w fun e w'=>e=.returned (.bool true)∧Below w.heap.size w w':=by
 obtain ⟨d1,d2,mk,p1,p2,p3,p4,p5,p6,p7,p8⟩:=awake12_pure
 have nw:=Dsk.new_ok 20 w (by omega) (by omega)
 have o1:=fun (g bs bw:Nat) (W:World) (h:DiskAt W g bs bw (Dsk.St.new 20))=>sopen_yes h (by show 20≤1000;omega) p7 p1
 have e20:(Dsk.St.new 20).n=20:=rfl
 rw [e20] at o1
 have dw:=fun (y q x g bs bw n:Nat) (W:World) (hn:n=W.heap.size) (h1:StoreAt W y q x g 20 ⟨1,1,0,false⟩ zeroS) (h2:DiskAt W g bs bw d1)=>sdo_any y q x g bs bw 20 ⟨1,1,0,false⟩ zeroS d1 (some ⟨n,0,none⟩) 1 1 [c0] (W.alloc (.cells #[.int .i64 1,.int .i64 2,.int .i64 3,.slice none 0 0,.int .i64 0,.int .i64 0] 82)) (h1.up (low1 (Below.refl _ _) _)) (h2.below (low1 (Below.refl _ _) _)) (by omega) (by omega) ⟨by simp,by simp,by simp,by simp,by simp⟩ ((chs_lit1 W c0 (.slice none 0 0) _ hn (lks_nil _ _)).more (by simp))
 rw [p3] at dw
 have cr:=fun (g bs bw:Nat) (W:World) (h:DiskAt W g bs bw d2)=>Dsk.crash_any g bs bw 0 d2 (.slice none 0 0) [] W h (Dsk.tears_nil W 0) (fun _ _=>Nat.zero_le _)
 have o2:=fun (g bs bw:Nat) (W:World) (h:DiskAt W g bs bw (d2.crash []))=>sopen_yes h (by rw [p6];omega) p8 p5
 rw [p6] at o2
 have hm:mayS t0=true:=by decide
 have st:=fun (y q x g:Nat) (v:Wn) (W:World) (h:StoreAt W y q x g 20 v t0)=>sState_any y q x g 20 v t0 W h hm
 have gn:=fun (y q x g:Nat) (W:World) (h:StoreAt W y q x g 20 ⟨1,1,1,false⟩ t0)=>sGen_any y q x g 20 _ t0 W h
 generalize d2.crash []=d3 at *
 have e20':((20:Nat):Int)=20:=rfl
 rw [e20'] at nw
 have NW:=Lib.hid nw;clear nw
 have O1:=Lib.hid o1;clear o1
 have DO:=Lib.hid dw;clear dw
 have CR:=Lib.hid cr;clear cr
 have O2:=Lib.hid o2;clear o2
 have ST:=Lib.hid st;clear st
 have GN:=Lib.hid gn;clear gn
 clear p1 p2 p3 p4 p5 p6 p7 p8 hm e20 e20'
 unfold OkOut at O1 O2
 unfold DoneOut at DO
 unfold StateOut at ST
 simp only [stV] at ST
 have hfd:∀ (A1 A2:Option Addr) (n1 c1 n2 c2:Nat) (a b:Int) (w:World),(Instr.field 43 (.agg #[.slice A1 n1 c1,.int .i64 a,.int .i64 b,.slice A2 n2 c2]) 0).run Tryz.prog w=.ok (.slice A1 n1 c1) w:=fun _ _ _ _ _ _ _ _ _=>by kernel_rfl
 go_enter Tryz.func7,Tryz.ntmps7
 have HM0:=Lib.hid (rfl:(0:Nat)=0)
 go_wp2_with (first
  | (go_at_call 8;refine (NW.out).mono ?_;rintro e w1 ⟨g,bs,bw,rfl,hd,hb,hge⟩;have HD1:=Lib.hid hd;have HB1:=Lib.hid hb;have HGE:=Lib.hid hge;clear hd hb hge)
  | (have HM1:=HM0;go_at_call 10;refine (O1.out g bs bw _ HD1.out).mono ?_;rintro e w2 ⟨y,q,x,rfl,hy,hq,hx,hs,hd,hk⟩;clear HM0;have HM2:=HM1;clear HM1;have HS2:=Lib.hid hs;have HD2:=Lib.hid hd;have HB2:=Lib.hid (kept_low HB1.out hk HGE.out);have HLO:=Lib.hid (show ∀ b∈[q,x,g,bs,bw],w.heap.size≤b from (by have h:=HGE.out;have h1:=HB1.out.size;intro b hb;simp at hb h;omega));clear hy hq hx hs hd hk)
  | (go_at_call 14;refine (DO.out y q x g bs bw _ w2 rfl HS2.out HD2.out).mono ?_;rintro e w4 ⟨rfl,hs,hd,hk⟩;clear HM2;have HS4:=Lib.hid hs;have HD4:=Lib.hid hd;have HB4:=Lib.hid (kept_low (low1 HB2.out (.cells #[.int .i64 1,.int .i64 2,.int .i64 3,.slice none 0 0,.int .i64 0,.int .i64 0] 82)) hk HLO.out);clear hs hd hk)
  | (go_at_call 18;refine (CR.out g bs bw _ HD4.out).mono ?_;rintro e w5 ⟨rfl,hd,hk⟩;have HS5:=Lib.hid (HS4.out.disk_kept HD4.out hk);have HD5:=Lib.hid hd;have HB5:=Lib.hid (kept_low HB4.out hk HGE.out);clear hd hk)
  | (go_at_call 10;refine (O2.out g bs bw _ HD5.out).mono ?_;rintro e w6 ⟨y6,q6,x6,rfl,hy,hq,hx,hs,hd,hk⟩;have HT6:=Lib.hid hs;have HS6:=Lib.hid (HS5.out.disk_kept HD5.out hk);have HB6:=Lib.hid (kept_low HB5.out hk HGE.out);clear hy hq hx hs hd hk)
  | (go_at_call 22;refine (ST.out y6 q6 x6 g _ w6 HT6.out).mono ?_;rintro e w7 ⟨A7,n7,c7,A8,n8,c8,rfl,hd7,he7,hb7⟩;obtain rfl:n7=1:=(by obtain ⟨A9,c9,e9⟩:=hd7.form;injection e9);have HS7:=Lib.hid (HS6.out.up hb7);have HB7:=Lib.hid (low_low HB6.out hb7);clear hd7 he7 hb7)
  | (go_at_call 23;refine (GN.out y q x g _ HS7.out).mono ?_;rintro e w' ⟨rfl,rfl⟩))
 go_ret
 exact ⟨rfl,HB7.out⟩
end Go.Proofs.YtplpmemlaohlaaaGreat.Sto
