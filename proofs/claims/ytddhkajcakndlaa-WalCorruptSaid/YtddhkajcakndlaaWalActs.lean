/- What is asked of a wal (layer 8): the contracts of isNone, Broken, Gen, Free and Room, and what Commit and Turn are to tell. -/
import Derived.Test.YtddhkajcakndlaaWalBase
import Derived.BigQuiet
namespace Go.Proofs.Ytddhkajcakndlaa.Wl
open Go.RowKit Go.Proofs.Ytddhkajcakndlaa.Mem Go.Proofs.Ytddhkajcakndlaa.Pg Go.Proofs.Ytddhkajcakndlaa.Rcd Go.Proofs.Ytddhkajcakndlaa.Slt
open Go.Proofs.Ytddhkajcakndlaa.Dsk (KeptBut SMap DiskAt St ptr kept_of_below kept_of_grown kept_drew)
open Go.Proofs.Ytddhkajcakndlaa.Plt (sl plV sl_le sl_pos)
set_option linter.unusedVariables false
set_option linter.unusedSimpArgs false
/-- a wal that Open did not give -/
def NoWal (w : World) (z : Value) : Prop := z = .pointer none ∨ ∃ x, z = ptr x ∧ Blk w x 42 #[.pointer none, .int .i64 0, .int .i64 0, .int .i64 0, .int .i64 0, .int .i64 0, .int .i64 0, .bool false]
section
variable (x g k : Nat) (v : Wn) (w : World)
set_option maxHeartbeats 1000000 in
theorem wIsNone_no (h : WalAt w x g k v) : Calls Try.prog 34 #[ptr x] w fun e w' => e = .returned (.bool false) ∧ w = w' := by
  have c0 := h.c0
  have hx := h.lt
  clear h
  go_enter Try.func34, Try.ntmps34
  go_wp2
  go_ret
  exact ⟨rfl, rfl⟩
set_option maxHeartbeats 1000000 in
theorem wIsNone_yes (z : Value) (h : NoWal w z) : Calls Try.prog 34 #[z] w fun e w' => e = .returned (.bool true) ∧ w = w' := by
  rcases h with rfl | ⟨g, rfl, hb⟩
  · go_enter Try.func34, Try.ntmps34
    go_wp2
    go_ret
    exact ⟨rfl, rfl⟩
  · have c0 : w.cell? ⟨g, 0, none⟩ = some (.pointer none) := by rw [hb.cell]; rfl
    have hx := hb.lt
    clear hb
    go_enter Try.func34, Try.ntmps34
    go_wp2
    go_ret
    exact ⟨rfl, rfl⟩
set_option maxHeartbeats 1000000 in
theorem broken_any (h : WalAt w x g k v) : Calls Try.prog 15 #[ptr x] w fun e w' => e = .returned (.bool v.br) ∧ w = w' := by
  have C := Lib.hid (wIsNone_no x g k v w h)
  have c7 := h.c7
  have hx := h.lt
  clear h
  go_enter Try.func15, Try.ntmps15
  go_wp2_with (go_at_call 34; refine (C.out).mono ?_; rintro e w' ⟨rfl, rfl⟩)
  go_ret
  exact ⟨rfl, rfl⟩
set_option maxHeartbeats 1000000 in
theorem gen_any (h : WalAt w x g k v) : Calls Try.prog 12 #[ptr x] w fun e w' => e = .returned (.int .i64 v.gen) ∧ w = w' := by
  have C := Lib.hid (wIsNone_no x g k v w h)
  have c7 := h.c4
  have hx := h.lt
  clear h
  go_enter Try.func12, Try.ntmps12
  go_wp2_with (go_at_call 34; refine (C.out).mono ?_; rintro e w' ⟨rfl, rfl⟩)
  go_ret
  exact ⟨rfl, rfl⟩
set_option maxHeartbeats 1000000 in
theorem room_any (h : WalAt w x g k v) : Calls Try.prog 14 #[ptr x] w fun e w' => e = .returned (.int .i64 (sl k : Nat)) ∧ w = w' := by
  have C := Lib.hid (wIsNone_no x g k v w h)
  have c7 := h.c1
  have hx := h.lt
  clear h
  go_enter Try.func14, Try.ntmps14
  go_wp2_with (go_at_call 34; refine (C.out).mono ?_; rintro e w' ⟨rfl, rfl⟩)
  go_ret
  exact ⟨rfl, rfl⟩
set_option maxHeartbeats 1000000 in
theorem free_any (h : WalAt w x g k v) (hk : k ≤ 1024) (hn : v.next ≤ 1024) : Calls Try.prog 13 #[ptr x] w fun e w' => e = .returned (.int .i64 ((lg k : Nat) - (v.next : Nat) : Int)) ∧ ∃ m, w' = w.drewN m := by
  have C := Lib.hid (wIsNone_no x g k v w h)
  have c3 := h.c3
  have c6 := h.c6
  have hx := h.lt
  have hl : lg k ≤ 1024 := by unfold lg; omega
  have hw : IntKind.i64.wrap ((lg k : Nat) - (v.next : Nat) : Int) = (lg k : Nat) - (v.next : Nat) := by rw [IntKind.wrap_i64]; omega
  clear h
  generalize lg k = l at *
  generalize v.next = n at *
  go_enter Try.func13, Try.ntmps13
  go_wp2_with (go_at_call 34; refine (C.out).mono ?_; rintro e w' ⟨rfl, rfl⟩)
  go_quiet (fail)
  go_wp2
  go_ret
  exact ⟨rfl, _, rfl⟩
end
section
variable (z : Value) (w : World)
set_option maxHeartbeats 1000000 in
theorem broken_none (h : NoWal w z) : Calls Try.prog 15 #[z] w fun e w' => e = .returned (.bool true) ∧ w = w' := by
  have C := Lib.hid (wIsNone_yes w z h)
  clear h
  go_enter Try.func15, Try.ntmps15
  go_wp2_with (go_at_call 34; refine (C.out).mono ?_; rintro e w' ⟨rfl, rfl⟩)
  go_ret
  exact ⟨rfl, rfl⟩
set_option maxHeartbeats 1000000 in
theorem gen_none (h : NoWal w z) : Calls Try.prog 12 #[z] w fun e w' => e = .returned (.int .i64 0) ∧ w = w' := by
  have C := Lib.hid (wIsNone_yes w z h)
  clear h
  go_enter Try.func12, Try.ntmps12
  go_wp2_with (go_at_call 34; refine (C.out).mono ?_; rintro e w' ⟨rfl, rfl⟩)
  go_ret
  exact ⟨rfl, rfl⟩
set_option maxHeartbeats 1000000 in
theorem free_none (h : NoWal w z) : Calls Try.prog 13 #[z] w fun e w' => e = .returned (.int .i64 0) ∧ w = w' := by
  have C := Lib.hid (wIsNone_yes w z h)
  clear h
  go_enter Try.func13, Try.ntmps13
  go_wp2_with (go_at_call 34; refine (C.out).mono ?_; rintro e w' ⟨rfl, rfl⟩)
  go_ret
  exact ⟨rfl, rfl⟩
set_option maxHeartbeats 1000000 in
theorem room_none (h : NoWal w z) : Calls Try.prog 14 #[z] w fun e w' => e = .returned (.int .i64 0) ∧ w = w' := by
  have C := Lib.hid (wIsNone_yes w z h)
  clear h
  go_enter Try.func14, Try.ntmps14
  go_wp2_with (go_at_call 34; refine (C.out).mono ?_; rintro e w' ⟨rfl, rfl⟩)
  go_ret
  exact ⟨rfl, rfl⟩
set_option maxHeartbeats 2000000 in
theorem commit_none (A : Option Addr) (n c : Nat) (h : NoWal w z) : Calls Try.prog 7 #[z, .slice A n c] w fun e w' => e = .returned (.int .i64 6) ∧ w = w' := by
  have C := Lib.hid (broken_none z w h)
  clear h
  go_enter Try.func7, Try.ntmps7
  go_wp2_with (go_at_call 15; refine (C.out).mono ?_; rintro e w' ⟨rfl, rfl⟩)
  go_ret
  exact ⟨rfl, rfl⟩
set_option maxHeartbeats 2000000 in
theorem turn_none (A : Option Addr) (n c : Nat) (h : NoWal w z) : Calls Try.prog 8 #[z, .slice A n c] w fun e w' => e = .returned (.int .i64 6) ∧ w = w' := by
  have C := Lib.hid (broken_none z w h)
  clear h
  go_enter Try.func8, Try.ntmps8
  go_wp2_with (go_at_call 15; refine (C.out).mono ?_; rintro e w' ⟨rfl, rfl⟩)
  go_ret
  exact ⟨rfl, rfl⟩
end
/-- what may be a wal's numbers -/
structure WnOk (k : Nat) (v : Wn) : Prop where
  g0 : 0 ≤ v.gen
  g1 : v.gen ≤ 2147483648
  m0 : 0 ≤ v.mark
  m1 : v.mark ≤ 2147483648
  nx : v.next ≤ lg k
/-- what Commit tells, and leaves -/
def commitP (k : Nat) (s : St) (v : Wn) (b : List Nat) : St × Wn × Int :=
  if v.br = true then (s, v, 6) else if lg k < v.next + parts b.length then (s, v, 4) else
    ((writes s (2 * sl k + v.next) (secL (lP v.gen v.mark v.next) b)).1, (if (writes s (2 * sl k + v.next) (secL (lP v.gen v.mark v.next) b)).2 = 0 then ⟨v.gen, v.mark, v.next + parts b.length, false⟩ else ⟨v.gen, v.mark, v.next, true⟩), (writes s (2 * sl k + v.next) (secL (lP v.gen v.mark v.next) b)).2)
def turnP (k : Nat) (s : St) (v : Wn) (b : List Nat) : St × Wn × Int :=
  if v.br = true then (s, v, 6) else if sl k < parts b.length then (s, v, 5) else if v.gen = 2147483648 then (s, v, 4) else
    ((writes s (slotAt (sl k) (v.gen + 1)) (secL (bP (v.gen + 1) v.mark) b)).1, (if (writes s (slotAt (sl k) (v.gen + 1)) (secL (bP (v.gen + 1) v.mark) b)).2 = 0 then ⟨v.gen + 1, v.mark, 0, false⟩ else ⟨v.gen, v.mark, v.next, true⟩), (writes s (slotAt (sl k) (v.gen + 1)) (secL (bP (v.gen + 1) v.mark) b)).2)
/-- behind such an act -/
def ActOut (w : World) (x g bs bw k : Nat) (r : St × Wn × Int) (e : Ending) (w' : World) : Prop := e = .returned (.int .i64 r.2.2) ∧ WalAt w' x g k r.2.1 ∧ DiskAt w' g bs bw r.1 ∧ KeptBut w w' [x, g, bs, bw]
end Go.Proofs.Ytddhkajcakndlaa.Wl
