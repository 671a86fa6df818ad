/- The contracts of a reader of bytes: Left and Done (layer 2). -/
import Derived.Test.YtplpmemlaohlaaaGreatKpLowAll
namespace Go.Proofs.YtplpmemlaohlaaaGreat.Oct
open Go.RowKit Mem
set_option linter.unusedVariables false
set_option maxHeartbeats 400000 in
theorem left_any (g:Nat) (st:St) (w:World) (h:Rdr w g st) :
  Calls Tryz.prog 205 #[ptr g] w fun e w'=>e=.returned (.int .i64 (st.1.length:Nat))∧w=w':=by
 obtain ⟨A,n,c,hb,hx,hnc,hm⟩:=h
 have hc0:w.cell? ⟨g,0,none⟩=some (.slice A n c):=by rw [hb.cell];rfl
 have hl:=hx.1
 have HL:=Lib.hid hl;clear hl
 go_enter Tryz.func205,Tryz.ntmps205
 go_wp2
 go_ret
 exact ⟨ret_int (by rw [HL.out]),rfl⟩
set_option maxHeartbeats 400000 in
theorem done_any (g:Nat) (st:St) (w:World) (h:Rdr w g st) :
  Calls Tryz.prog 175 #[ptr g] w fun e w'=>e=.returned (.bool (st.2 && decide (st.1.length=0)))∧w=w':=by
 obtain ⟨xs,s⟩:=st
 have h1:=wrong_any g _ w h
 have h2:=left_any g _ w h
 have H1:=Lib.hid h1;clear h1
 have H2:=Lib.hid h2;clear h2
 cases s
 ·go_enter Tryz.func175,Tryz.ntmps175
  go_wp2_with (first
   | (go_at_call 202;refine (H1.out).mono ?_;rintro e w' ⟨rfl,rfl⟩)
   | (go_at_call 205;refine (H2.out).mono ?_;rintro e w' ⟨rfl,rfl⟩))
  go_ret
  exact ⟨rfl,rfl⟩
 ·go_enter Tryz.func175,Tryz.ntmps175
  go_wp2_with (first
   | (go_at_call 202;refine (H1.out).mono ?_;rintro e w' ⟨rfl,rfl⟩)
   | (go_at_call 205;refine (H2.out).mono ?_;rintro e w' ⟨rfl,rfl⟩))
  go_ret
  exact ⟨ret_bool (by rw [beq0,Bool.true_and]),rfl⟩
end Go.Proofs.YtplpmemlaohlaaaGreat.Oct
