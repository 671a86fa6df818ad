/- What the laws of layer 1 are told of a slice of bytes that came in, and that it reads as bytes. Condition: at most 1000000 bytes. -/
import Derived.Test.YtpolpppnajfhdaaPgWalks
import Derived.OpenShut
namespace Go.Proofs.Ytpolpppnajfhdaa
open Go.RowKit
/-- what the walk is told of a slice of integers that came in: it is nil; or it leads to a row of numbers, each fitting its kind -/
def IsRow (k : IntKind) (w : World) (a : Option Addr) (len cap : Nat) (zs : List Int) : Prop :=
  (a = none ∧ len = 0 ∧ cap = 0 ∧ zs = []) ∨
  ∃ x, a = some x ∧ len ≤ cap ∧ cap ≤ maxLen ∧ zs.length = cap ∧ (∀ i, i < zs.length → w.cell? (x.add i) = some (.int k (zs.getD i 0))) ∧ ∀ n ∈ zs, (Lit.int k n).wf = true
namespace Crc
def natsOf (zs : List Int) (n : Nat) : List Nat := (zs.take n).map Int.toNat
theorem natsOf_getD (zs : List Int) (n i : Nat) (hi : i < n) (hz : n ≤ zs.length) (h0 : 0 ≤ zs.getD i 0) : (((natsOf zs n).getD i 0 : Nat) : Int) = zs.getD i 0 := by
  have hl : i < zs.length := by omega
  have e : zs.getD i 0 = zs[i] := by simp [List.getD, List.getElem?_eq_getElem hl]
  rw [e] at h0 ⊢
  simp only [natsOf, List.getD, List.getElem?_map, List.getElem?_take, if_pos hi, List.getElem?_eq_getElem hl, Option.map_some, Option.getD_some]
  exact Int.toNat_of_nonneg h0
theorem bts_of_row {w : World} {a : Option Addr} {len cap : Nat} {zs : List Int} (h : IsRow .u8 w a len cap zs) (hl : len ≤ 1000000) :
    ∃ xs, Bts w w.heap.size a len xs ∧ len ≤ cap ∧ cap ≤ maxLen := by
  rcases h with ⟨rfl, rfl, rfl, rfl⟩ | ⟨x, rfl, hlc, hm, hz, hcell, hwz⟩
  · exact ⟨[], ⟨rfl, by simp, by omega, fun h => absurd h (by omega)⟩, by omega, by unfold maxLen; omega⟩
  · have hr := Go.range_u8 hwz
    refine ⟨natsOf zs len, ⟨by simp [natsOf]; omega, ?_, hl, fun h0 => ?_⟩, hlc, hm⟩
    · intro y hy
      simp only [natsOf, List.mem_map] at hy
      obtain ⟨n, hn, rfl⟩ := hy
      have := Go.bounds_u8 (hwz n (List.mem_of_mem_take hn))
      omega
    · obtain ⟨b, off, spot⟩ := x
      have h1 := hcell 0 (by omega)
      have hs : spot = none := by simpa [Addr.add] using World.cell?_spot h1
      subst hs
      have hb : b < w.heap.size := by
        have := block_lt_of_cell h1
        simpa [Addr.add] using this
      refine ⟨b, off, rfl, hb, fun i hi => ?_⟩
      have hc := hcell i (by omega)
      have ea : (⟨b, off, none⟩ : Addr).add i = ⟨b, off + i, none⟩ := by
        unfold Addr.add
        split
        · rename_i h; subst h; rfl
        · rfl
      rw [ea] at hc
      rw [hc, natsOf_getD zs len i hi (by omega) (hr i).1]
theorem Bts.keep {w w' : World} {B n : Nat} {A : Option Addr} {xs : List Nat} (h : Bts w B A n xs) (hk : ∀ p : Addr, p.block < B → w'.cell? p = w.cell? p) : Bts w' B A n xs :=
  ⟨h.1, h.2.1, h.2.2.1, fun h0 => by
    obtain ⟨b, off, e, hb, hc⟩ := h.2.2.2 h0
    exact ⟨b, off, e, hb, fun i hi => (hk ⟨b, off + i, none⟩ hb).trans (hc i hi)⟩⟩
theorem Bts.more {w : World} {B B' n : Nat} {A : Option Addr} {xs : List Nat} (h : Bts w B A n xs) (hB : B ≤ B') : Bts w B' A n xs :=
  ⟨h.1, h.2.1, h.2.2.1, fun h0 => by
    obtain ⟨b, off, e, hb, hc⟩ := h.2.2.2 h0
    exact ⟨b, off, e, by omega, hc⟩⟩
theorem Bts.drew {w : World} {B n : Nat} {A : Option Addr} {xs : List Nat} (h : Bts w B A n xs) : Bts w.drew B A n xs := h
theorem Bts.alloc {w : World} {B n : Nat} {A : Option Addr} {xs : List Nat} (h : Bts w B A n xs) (hB : B ≤ w.heap.size) (o : Obj) : Bts (w.alloc o) B A n xs :=
  h.keep fun p hp => World.cell?_alloc_lt w o p (by omega)
theorem Bts.below {w w' : World} {B B' n : Nat} {A : Option Addr} {xs : List Nat} (h : Bts w B A n xs) (hb : Below B' w w') (hB : B ≤ B') : Bts w' B A n xs :=
  h.keep fun p hp => hb.cell (by omega)
theorem pts_one {W : World} {B g n c : Nat} {A : Option Addr} {xs : List Nat} (hc : W.cell? ⟨g, 0, none⟩ = some (.slice A n c)) (hb : Bts W B A n xs) :
    Pts W B (some ⟨g, 0, none⟩) 1 [⟨A, n, c, xs⟩] :=
  ⟨rfl, by omega, fun _ => ⟨g, 0, rfl, fun i hi => by
    have : i = 0 := by simp at hi; omega
    subst this
    exact hc⟩, fun p hp => by
    simp only [List.mem_cons, List.not_mem_nil, or_false] at hp
    subst hp
    exact hb⟩
theorem of_one {W : World} {B g n c : Nat} {A : Option Addr} {xs : List Nat} (hc : W.cell? ⟨g, 0, none⟩ = some (.slice A n c)) (hb : Bts W B A n xs) :
    Calls Try.prog 46 #[.slice (some ⟨g, 0, none⟩) 1 1] W fun e w' => e = .returned (.int .u32 (crc xs : Nat)) ∧ W = w' := by
  refine (of_any _ 1 1 B _ W (pts_one hc hb)).mono ?_
  rintro e w' ⟨rfl, rfl⟩
  exact ⟨by simp [flat], rfl⟩
end Crc
end Go.Proofs.Ytpolpppnajfhdaa
