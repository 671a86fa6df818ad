/- The law's own helper of layer 3: Fill. And an act, as the law is told of it. -/
import Derived.Test.YtddhkajcakndlaaClone
import Derived.Test.YtddhkajcakndlaaLowAll
import Derived.Test.YtddhkajcakndlaaRefAll
namespace Go.Proofs.Ytddhkajcakndlaa.Dsk
open Go.RowKit Go.Maps Go.Shelf Go.Proofs.Ytddhkajcakndlaa.Mem
set_option linter.unusedVariables false
set_option linter.unusedSimpArgs false
set_option maxRecDepth 20000 in
set_option maxHeartbeats 2000000 in
theorem fill_any (vb : Value) (b : List Nat) (w : World) (hb : Sl w w.heap.size vb b) :
    Calls Try.prog 9 #[vb] w fun e w' => e = .returned (.slice (some ⟨w.heap.size, 0, none⟩) 512 512) ∧ Blk w' w.heap.size 5 (vals (torn b noughts)).toArray ∧ Below w.heap.size w w' := by
  obtain ⟨A, n, c, rfl, hb, hnc, hcm, _⟩ := hb
  have hbl := hb.1
  have hmk := make512
  obtain ⟨N, hN⟩ : ∃ N, N = 512 := ⟨_, rfl⟩
  rw [show (512 : Nat) = N from hN.symm] at hmk ⊢
  have HSP := Lib.hid (splice_torn noughts b isSec_noughts.1)
  rw [show (512 : Nat) = N from hN.symm] at HSP
  have hbt : (b.take N).length = Nat.min n N := by rw [List.length_take, hbl]; exact Nat.min_comm ..
  have hb0 : (b.take N).length ≤ 512 := by rw [List.length_take, hN]; omega
  have hbc : 0 < (vals (b.take N)).length → ∃ ad, A = some ad ∧ ∀ W, Bts W w.heap.size A n b → ∀ j u, (vals (b.take N))[j]? = some u → W.cell? (ad.add j) = some u := by
    intro h0
    rw [vals_length] at h0
    obtain ⟨b0, o0, e, h3, _⟩ := hb.2.2.2 (by rw [hbt] at h0; exact Nat.lt_of_lt_of_le h0 (Nat.min_le_left ..))
    refine ⟨_, e, fun W hW j u hu => ?_⟩
    rw [show vals (b.take N) = (vals b).take N from by simp [vals, List.map_take], List.getElem?_take] at hu
    split at hu
    · exact bts_cells (e ▸ hW) j u hu
    · cases hu
  obtain ⟨zs, hzs⟩ : ∃ zs, zs = noughts := ⟨_, rfl⟩
  rw [← hzs] at hmk HSP ⊢
  have HZS := Lib.hid (hzs ▸ isSec_noughts); clear hzs
  have HBC := Lib.hid hbc; clear hbc
  have HBT := Lib.hid hbt; clear hbt
  have HB0 := Lib.hid hb0; clear hb0
  have HN := Lib.hid hN; clear hN
  have HB := Lib.hid (hb.alloc (Nat.le_refl _) (.cells (vals zs).toArray 5))
  clear hb hbl hnc hcm
  go_enter Try.func9, Try.ntmps9
  go_wp2_with (refine wpList_copy_splice rfl (.tmp 5) (.tmp 6) 22 22 rfl 5 Try.underlying22 u8_size1 _ _ N N n c rfl rfl w.heap.size 0 (vals zs) 5 (heap_alloc_new w _) (vals (b.take N)) (by rw [vals_length]; exact HBT.out) (fun h0 => ⟨rfl, by obtain ⟨ad, e, hc⟩ := HBC.out h0; exact ⟨ad, e, hc _ HB.out⟩⟩) (by rw [vals_length, vals_length, HZS.out.1]; have := HB0.out; omega) (vals_one _) w.heap.size w ((Below.refl _ w).alloc (Nat.le_refl _) _) (Nat.le_refl _) ?_; intro w4 HG4 hb4; rw [HSP.out] at HG4)
  go_ret
  exact ⟨rfl, HG4.out, hb4⟩
end Go.Proofs.Ytddhkajcakndlaa.Dsk
