/- WalDoes (layer 8): a disk and its log beside the reference's, in one state; what each call leaves of both. -/
import Derived.Test.YtnenbocjfekmfaaGreatWalAllB
import Derived.Test.YtnenbocjfekmfaaGreatWalROpen
import Derived.Test.YtnenbocjfekmfaaGreatWalRefCommits
namespace Go.Proofs.YtnenbocjfekmfaaGreat.Wl
open Go.RowKit Go.Proofs.YtnenbocjfekmfaaGreat.Mem Go.Proofs.YtnenbocjfekmfaaGreat.Pg Go.Proofs.YtnenbocjfekmfaaGreat.Rcd Go.Proofs.YtnenbocjfekmfaaGreat.Slt
open Go.Proofs.YtnenbocjfekmfaaGreat.Dsk (KeptBut SMap DiskAt St ptr kept_of_below kept_of_grown kept_drew TearsAt RefAt RowS SlS Good refV armedOf IsSec raise4)
open Go.Proofs.YtnenbocjfekmfaaGreat.Plt (sl plV sl_le sl_pos)
set_option linter.unusedVariables false
set_option linter.unusedSimpArgs false
/-- the reference's log by value: of a log, and of none -/
abbrev rvS (B1 B2 : Option Addr) (d1 d2 k : Nat) (ar : Int) (dd : Bool) (v : Wn) : Array Value := rwA (.slice B1 k d1) (.slice B2 k d2) ar dd (sl k : Nat) (2 * (sl k : Nat)) (lg k : Nat) v.gen v.mark (v.next : Nat) v.br true
abbrev rvN (B1 B2 : Option Addr) (d1 d2 k : Nat) (ar : Int) (dd : Bool) : Array Value := rwA (.slice B1 k d1) (.slice B2 k d2) ar dd 0 0 0 0 0 0 false false
/-- the reference's disk alone -/
def RD (wr : World) (S : List Nat) (B1 B2 : Option Addr) (d1 d2 k : Nat) (s : St) : Prop := RefAt wr S (refV (.slice B1 k d1) (.slice B2 k d2) s) s ∧ s.n = k
theorem RD.below {w w' : World} {S : List Nat} {B1 B2 : Option Addr} {d1 d2 k : Nat} {s : St} (h : RD w S B1 B2 d1 d2 k s) (hb : Below w.heap.size w w') : RD w' S B1 B2 d1 d2 k s := ⟨h.1.below hb, h.2⟩
theorem RD.kept {w w' : World} {S : List Nat} {B1 B2 : Option Addr} {d1 d2 k : Nat} {s : St} (h : RD w S B1 B2 d1 d2 k s) (hb : KeptBut w w' S) : RD w' S B1 B2 d1 d2 k s := ⟨h.1.kept hb, h.2⟩
theorem RD.at_ {w : World} {S : List Nat} {B1 B2 : Option Addr} {d1 d2 k : Nat} {s : St} (h : RD w S B1 B2 d1 d2 k s) : RefAt w S (refV (.slice B1 s.n d1) (.slice B2 s.n d2) s) s := by rw [h.2]; exact h.1
theorem rd_of {w : World} {S : List Nat} {u1 u2 : Value} {k : Nat} {s : St} (h : RefAt w S (refV u1 u2 s) s) (hk : s.n = k) : ∃ B1 B2 d1 d2, u1 = .slice B1 k d1 ∧ u2 = .slice B2 k d2 ∧ RD w S B1 B2 d1 d2 k s := by
  obtain ⟨B1, d1, B2, d2, huv⟩ := refAt_two h
  have hu : u1 = .slice B1 s.n d1 ∧ u2 = .slice B2 s.n d2 := by
    unfold refV at huv
    injection huv with h
    injection h with h
    injection h with h1 h
    injection h with h2 h
    exact ⟨h1, h2⟩
  obtain ⟨rfl, rfl⟩ := hu
  rw [hk] at h
  exact ⟨B1, B2, d1, d2, by rw [hk], by rw [hk], h, hk⟩
/-- what an act of the reference answers -/
def ROut (W : World) (S : List Nat) (k : Nat) (s' : St) (v' : Wn) (er : Int) (e : Ending) (w' : World) : Prop :=
  ∃ B1 B2 d1 d2, e = .returned (.tuple #[.agg (rvS B1 B2 d1 d2 k (armedOf s'.left) s'.dead v'), .int .i64 er]) ∧ RD w' S B1 B2 d1 d2 k s' ∧ Below W.heap.size W w'
section
variable {S : List Nat} {B1 B2 : Option Addr} {d1 d2 k : Nat} {s : St} {v : Wn} {W : World}
theorem rout_of {s' : St} {v' : Wn} {er : Int} {e : Ending} {w' : World} (hn : s'.n = k) (h : ∃ val', e = .returned (.tuple #[val', .int .i64 er]) ∧ RWal w' S val' s' (sl k : Nat) (2 * (sl k : Nat)) (lg k : Nat) v'.gen v'.mark (v'.next : Nat) v'.br true ∧ Below W.heap.size W w') : ROut W S k s' v' er e w' := by
  obtain ⟨val', rfl, ⟨u1, u2, rfl, hR⟩, hb⟩ := h
  obtain ⟨B1, B2, d1, d2, rfl, rfl, hr⟩ := rd_of hR hn
  exact ⟨B1, B2, d1, d2, rfl, hr, hb⟩
theorem rout_stay {er : Int} {e : Ending} {w' : World} (hn : s.n = k) (h : StayR W S s k (lg k : Nat) v true er e w') : ROut W S k s v er e w' := by
  obtain ⟨val', rfl, hR, hb⟩ := h
  exact rout_of hn ⟨val', rfl, hR, hb⟩
theorem pcommit_n (hn : s.n = k) (b : List Nat) : (commitP k s v b).1.n = k := by
  unfold commitP
  split
  · exact hn
  · split
    · exact hn
    · show (writes _ _ _).1.n = k
      rw [writes_n, hn]
theorem pturn_n (hn : s.n = k) (b : List Nat) : (turnP k s v b).1.n = k := by
  unfold turnP
  split
  · exact hn
  · split
    · exact hn
    · split
      · exact hn
      · show (writes _ _ _).1.n = k
        rw [writes_n, hn]
theorem pcommit_ok (hv : WnOk k v) (b : List Nat) : WnOk k (commitP k s v b).2.1 := by
  obtain ⟨h1, h2, h3, h4, h5⟩ := hv
  unfold commitP
  split
  · exact ⟨h1, h2, h3, h4, h5⟩
  · split
    · exact ⟨h1, h2, h3, h4, h5⟩
    · simp only
      split
      · exact ⟨h1, h2, h3, h4, by show v.next + parts b.length ≤ lg k; omega⟩
      · exact ⟨h1, h2, h3, h4, h5⟩
theorem pturn_ok (hv : WnOk k v) (b : List Nat) : WnOk k (turnP k s v b).2.1 := by
  obtain ⟨h1, h2, h3, h4, h5⟩ := hv
  unfold turnP
  split
  · exact ⟨h1, h2, h3, h4, h5⟩
  · split
    · exact ⟨h1, h2, h3, h4, h5⟩
    · split
      · exact ⟨h1, h2, h3, h4, h5⟩
      · simp only
        split
        · exact ⟨by show 0 ≤ v.gen + 1; omega, by show v.gen + 1 ≤ 2147483648; omega, h3, h4, Nat.zero_le _⟩
        · exact ⟨h1, h2, h3, h4, h5⟩
theorem rcommit_o {A : Option Addr} {n c : Nat} {b : List Nat} (hf : Dsk.Fine s) (hr : RD W S B1 B2 d1 d2 k s) (hS : ∀ x ∈ S, x < W.heap.size) (hk1 : 6 ≤ k) (hk2 : k ≤ 1000) (hv : WnOk k v) (hb : Sl W W.heap.size (.slice A n c) b) (hbn : b.length = n) (hn : n ≤ 7808) :
    Calls Tryz.prog 13 #[.agg (rvS B1 B2 d1 d2 k (armedOf s.left) s.dead v), .slice A n c] W (ROut W S k (commitP k s v b).1 (commitP k s v b).2.1 (commitP k s v b).2.2) := by
  have hlk : lg k ≤ 1000 := by unfold lg; omega
  have hnx := hv.nx
  have hsn := hr.2
  subst hsn
  by_cases hbr : v.br = true
  · have e0 : commitP s.n s v b = (s, v, 6) := by unfold commitP; rw [if_pos hbr]
    rw [e0]
    exact (rcommit_br S B1 B2 d1 d2 s s.n v (lg s.n : Nat) A n c W hr.at_ hbr).mono fun e w' h => rout_stay rfl h
  · have hbf : v.br = false := by simpa using hbr
    by_cases hp : lg s.n < v.next + parts n
    · have e0 : commitP s.n s v b = (s, v, 4) := by unfold commitP; rw [if_neg hbr, if_pos (by rw [hbn]; exact hp)]
      rw [e0]
      exact (rcommit_full S B1 B2 d1 d2 s s.n v A n c W hr.at_ hbf hn (by omega) (by omega) hp).mono fun e w' h => rout_stay rfl h
    · exact (rcommit_goes S B1 B2 d1 d2 s s.n v A n c W b hf hr.at_ hS hk1 hk2 hv hbf hb hbn hn hp).mono fun e w' h => rout_of (pcommit_n rfl b) h
theorem rturn_o {A : Option Addr} {n c : Nat} {b : List Nat} (hf : Dsk.Fine s) (hr : RD W S B1 B2 d1 d2 k s) (hS : ∀ x ∈ S, x < W.heap.size) (hk1 : 6 ≤ k) (hk2 : k ≤ 1000) (hv : WnOk k v) (hb : Sl W W.heap.size (.slice A n c) b) (hbn : b.length = n) (hn : n ≤ 7808) :
    Calls Tryz.prog 16 #[.agg (rvS B1 B2 d1 d2 k (armedOf s.left) s.dead v), .slice A n c] W (ROut W S k (turnP k s v b).1 (turnP k s v b).2.1 (turnP k s v b).2.2) := by
  have hsn := hr.2
  subst hsn
  by_cases hbr : v.br = true
  · have e0 : turnP s.n s v b = (s, v, 6) := by unfold turnP; rw [if_pos hbr]
    rw [e0]
    exact (rturn_br S B1 B2 d1 d2 s s.n v (lg s.n : Nat) A n c W hr.at_ hbr).mono fun e w' h => rout_stay rfl h
  · have hbf : v.br = false := by simpa using hbr
    by_cases hp : sl s.n < parts n
    · have e0 : turnP s.n s v b = (s, v, 5) := by unfold turnP; rw [if_neg hbr, if_pos (by rw [hbn]; exact hp)]
      rw [e0]
      exact (rturn_big S B1 B2 d1 d2 s s.n v (lg s.n : Nat) A n c W hr.at_ hbf hn hp).mono fun e w' h => rout_stay rfl h
    · by_cases hg : v.gen = 2147483648
      · have e0 : turnP s.n s v b = (s, v, 4) := by unfold turnP; rw [if_neg hbr, if_neg (by rw [hbn]; exact hp), if_pos hg]
        rw [e0]
        exact (rturn_full S B1 B2 d1 d2 s s.n v (lg s.n : Nat) A n c W hr.at_ hbf hn hp hg).mono fun e w' h => rout_stay rfl h
      · exact (rturn_goes S B1 B2 d1 d2 s s.n v (lg s.n : Nat) A n c W b hf hr.at_ hS hk1 hk2 hv hbf hb hbn hn hp hg).mono fun e w' h => rout_of (pturn_n rfl b) h
/-- an act at none -/
def NOut (W : World) (S : List Nat) (k : Nat) (s : St) (e : Ending) (w' : World) : Prop :=
  ∃ B1 B2 d1 d2, e = .returned (.tuple #[.agg (rvN B1 B2 d1 d2 k (armedOf s.left) s.dead), .int .i64 6]) ∧ RD w' S B1 B2 d1 d2 k s ∧ Below W.heap.size W w'
theorem nout_of {e : Ending} {w' : World} (hn : s.n = k) (h : StayR W S s 0 0 ⟨0, 0, 0, false⟩ false 6 e w') : NOut W S k s e w' := by
  obtain ⟨val', rfl, ⟨u1, u2, rfl, hR⟩, hb⟩ := h
  obtain ⟨B1, B2, d1, d2, rfl, rfl, hr⟩ := rd_of hR hn
  exact ⟨B1, B2, d1, d2, rfl, hr, hb⟩
theorem rcommit_n {A : Option Addr} {n c : Nat} (hr : RD W S B1 B2 d1 d2 k s) :
    Calls Tryz.prog 13 #[.agg (rvN B1 B2 d1 d2 k (armedOf s.left) s.dead), .slice A n c] W (NOut W S k s) := by
  have hsn := hr.2
  subst hsn
  exact (rcommit_not S B1 B2 d1 d2 s 0 ⟨0, 0, 0, false⟩ 0 A n c W hr.at_).mono fun e w' h => nout_of rfl h
theorem rturn_n {A : Option Addr} {n c : Nat} (hr : RD W S B1 B2 d1 d2 k s) :
    Calls Tryz.prog 16 #[.agg (rvN B1 B2 d1 d2 k (armedOf s.left) s.dead), .slice A n c] W (NOut W S k s) := by
  have hsn := hr.2
  subst hsn
  exact (rturn_not S B1 B2 d1 d2 s 0 ⟨0, 0, 0, false⟩ 0 A n c W hr.at_).mono fun e w' h => nout_of rfl h
theorem rcrash_o {B : Nat} {vl : Value} {l : List (Int × List Nat)} (hf : Dsk.Fine s) (hr : RD W S B1 B2 d1 d2 k s) (hS : ∀ x ∈ S, x < W.heap.size) (hl : TearsAt W B vl l) (hB : B ≤ W.heap.size) :
    Calls Tryz.prog 20 #[refV (.slice B1 k d1) (.slice B2 k d2) s, vl] W fun e w' => ∃ B1 B2 d1 d2, e = .returned (refV (.slice B1 k d1) (.slice B2 k d2) (s.crash l)) ∧ RD w' S B1 B2 d1 d2 k (s.crash l) ∧ Below W.heap.size W w' := by
  refine (Dsk.ref_crash S B _ vl s l W hf.1 hr.1 hS hl hB hf.2).mono ?_
  rintro e w' ⟨v', rfl, hv, hb⟩
  have hn : (s.crash l).n = k := by
    rw [← hr.2]
    exact (Dsk.tears_same (s.waiting.zip l) s).1
  obtain ⟨A1, c1, A2, c2, rfl⟩ := refAt_two hv
  rw [hn] at hv ⊢
  exact ⟨A1, A2, c1, c2, rfl, ⟨hv, hn⟩, hb⟩
end
end Go.Proofs.YtnenbocjfekmfaaGreat.Wl
