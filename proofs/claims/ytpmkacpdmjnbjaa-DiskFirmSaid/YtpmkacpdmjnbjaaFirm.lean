/- What is safe stays (layer 3). Pure; and the write of bytes that Fill made. -/
import Derived.Test.YtpmkacpdmjnbjaaOnes
import Derived.Test.YtpmkacpdmjnbjaaActs
namespace Go.Proofs.Ytpmkacpdmjnbjaa.Dsk
open Go.RowKit Go.Maps Go.Shelf Go.Proofs.Ytpmkacpdmjnbjaa.Mem
set_option linter.unusedVariables false
def FirmAt (s : St) (i : Nat) (xs : List Nat) : Prop := s.fs i = some xs ∧ s.fw i = none
theorem act_firm {s : St} {i : Nat} {xs : List Nat} (h : FirmAt s i xs) : FirmAt s.act.1 i xs := by
  obtain ⟨_, h2, h3⟩ := act_same s
  exact ⟨by rw [h3]; exact h.1, by rw [h2]; exact h.2⟩
theorem firm_step {s : St} {i : Nat} {xs : List Nat} {a : Ac} (h : FirmAt s i xs) (ha : ¬ (a.what = 0 ∧ a.n = (i : Int))) : FirmAt (s.step a) i xs := by
  unfold St.step
  split
  · rename_i h0
    have hn : a.n ≠ (i : Int) := fun e => ha ⟨h0, e⟩
    unfold St.write
    split
    · exact h
    · split
      · rename_i hc
        split
        · refine ⟨(act_firm h).1, ?_⟩
          show upd1 s.act.1.fw a.n.toNat a.bytes i = none
          unfold upd1
          rw [if_neg (by omega)]
          exact (act_firm h).2
        · exact act_firm h
      · exact h
  · split
    · unfold St.flush
      split
      · exact h
      · split
        · refine ⟨?_, rfl⟩
          show (s.fw i).or (s.fs i) = some xs
          rw [h.2, h.1]
          rfl
        · exact act_firm h
    · split
      · exact h
      · split
        · exact ⟨by rw [crash_no h.2]; exact h.1, rfl⟩
        · exact h
theorem crash_n (s : St) (l : List (Int × List Nat)) : (s.crash l).n = s.n := (tears_same (s.waiting.zip l) s).1
theorem crash_act (s : St) (l : List (Int × List Nat)) : (s.crash l).act = (s.crash l, true) := by
  simp [St.act, St.crash]
def St.put (s : St) (K : Nat) (ys : List Nat) : St := ((s.crash []).write (K : Nat) ys).1
theorem put_ok {s : St} {K : Nat} {ys : List Nat} (hK : K < s.n) (hy : ys.length = 512) : (s.crash []).write (K : Nat) ys = ({ s.crash [] with fw := upd1 (fun _ => none) K ys }, 0) := by
  unfold St.write
  rw [if_neg (by simp [St.crash]), if_pos ⟨by omega, by rw [crash_n]; omega, hy⟩, crash_act, if_pos rfl]
  simp [St.crash]
theorem put_flush {s : St} {K : Nat} {ys : List Nat} (hK : K < s.n) (hy : ys.length = 512) : (s.put K ys).flush.2 = 0 ∧ FirmAt (s.put K ys).flush.1 K ys ∧ (s.put K ys).flush.1.n = s.n := by
  unfold St.put
  rw [put_ok hK hy]
  have ha : ({ s.crash [] with fw := upd1 (fun _ => none) K ys } : St).act = ({ s.crash [] with fw := upd1 (fun _ => none) K ys }, true) := by simp [St.act, St.crash]
  unfold St.flush
  rw [if_neg (by simp [St.crash]), ha, if_pos rfl]
  exact ⟨rfl, ⟨by simp [upd1], rfl⟩, crash_n s []⟩
theorem firm_read {s : St} {K : Nat} {ys : List Nat} (h : FirmAt s K ys) (hK : K < s.n) : (s.crash []).read (K : Nat) = (ys, 0) := by
  unfold St.read
  rw [if_neg (by simp [St.crash]), if_pos ⟨by omega, by rw [crash_n]; omega⟩]
  have e : (s.crash []).fs K = some ys := by rw [crash_no h.2]; exact h.1
  have e2 : (s.crash []).fw K = none := rfl
  simp only [St.get, Int.toNat_natCast, e, e2]
  rfl
theorem fill_sl {w : World} {gF : Nat} {ys : List Nat} (hF : Blk w gF 5 (vals ys).toArray) (hy : IsSec ys) : Bts w w.heap.size (some ⟨gF, 0, none⟩) 512 ys := by
  obtain ⟨A, n, c, e, hb, _⟩ := row_sl hF hy
  injection e with e1 e2 e3
  subst e1 e2 e3
  exact hb
theorem fill_write (g bs bw gF : Nat) (s : St) (i : Int) (ys : List Nat) (w : World) (hD : DiskAt w g bs bw s) (hF : Blk w gF 5 (vals ys).toArray) (hy : IsSec ys) (hne : gF ≠ g) :
    Calls Try.prog 18 #[ptr g, .int .i64 i, .slice (some ⟨gF, 0, none⟩) 512 512] w fun e w' => e = .returned (.int .i64 (s.write i ys).2) ∧ DiskAt w' g bs bw (s.write i ys).1 ∧ KeptBut w w' [g, bs, bw] :=
  write_any g bs bw s i (some ⟨gF, 0, none⟩) 512 512 ys w hD hy.1 hy.2 (fun w3 hg3 => fill_sl (hF.grown hg3 (by simp; exact hne)) hy)
theorem fill_put (g bs bw gF K : Nat) (s : St) (ys : List Nat) (w : World) (hD : DiskAt w g bs bw (s.crash [])) (hF : Blk w gF 5 (vals ys).toArray) (hy : IsSec ys) (hne : gF ≠ g) (hK : K < s.n) :
    Calls Try.prog 18 #[ptr g, .int .i64 (K : Nat), .slice (some ⟨gF, 0, none⟩) 512 512] w fun e w' => e = .returned (.int .i64 0) ∧ DiskAt w' g bs bw (s.put K ys) ∧ KeptBut w w' [g, bs, bw] := by
  have h := fill_write g bs bw gF (s.crash []) (K : Nat) ys w hD hF hy hne
  have e : ((s.crash []).write (K : Nat) ys).2 = 0 := by rw [put_ok hK hy.1]
  rw [e] at h
  exact h
end Go.Proofs.Ytpmkacpdmjnbjaa.Dsk
