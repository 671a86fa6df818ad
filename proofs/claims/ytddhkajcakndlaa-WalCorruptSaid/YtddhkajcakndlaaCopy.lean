/- The contracts of maps.Copy and maps.Clone at maps of sectors (layer 3). -/
import Derived.Test.YtddhkajcakndlaaWrite
import Derived.Shelf.SlMaps.Clone
namespace Go.Proofs.Ytddhkajcakndlaa.Dsk
open Go.RowKit Go.Maps Go.Proofs.Ytddhkajcakndlaa.Mem
set_option linter.unusedVariables false
set_option linter.unusedSimpArgs false
theorem wpList_next_sec (w : World) {ops : Array Oper} {rest : List Oper} {o : Oper} {a : Act} {Q : Exit → Act → World → Prop} (hg : o.guard = none) (it : Operand) (hop : o.op = Op.next it false)
    (b r n : Nat) (D : DataW (List Nat)) (left : Lit → Bool) (cnt : Nat) (hit : a.eval it = .pointer (some ⟨r, 0, none⟩)) (h : w.ranges Try.prog 3 secR b r n D left cnt)
    (hk : ∀ kl, Maps.has D kl = true → ∃ i : Nat, i < 1024 ∧ kl = .int .i64 (i : Int))
    (hDone : (∀ kl, left kl = false) → wpList Try.prog ops Q rest (a.put o.dst (.tuple #[.bool false])) w)
    (hMore : ∀ (i : Nat) (xs : List Nat) (w' : World) (cnt' : Nat), i < 1024 → IsSec xs → (∀ zd, D.atKey (.int .i64 (i : Int)) zd = .held xs) → w'.ranges Try.prog 3 secR b r n D (fun z => left z && !z.sameKey (.int .i64 (i : Int))) cnt' → cnt' < cnt →
      w.grownBy w' (some r) → w'.heap.size = w.heap.size → (Instr.entry (.pointer (some ⟨r, 0, none⟩))).run Try.prog w' = .ok (.tuple #[.int .i64 (i : Int), secV xs]) w' → wpList Try.prog ops Q rest (a.put o.dst (.tuple #[.bool true, .int .i64 (i : Int), secV xs])) w') :
    wpList Try.prog ops Q (o :: rest) a w := by
  refine wpList_plain hg fun K' hK' => ?_
  unfold Oper.wp
  rcases h.next keyed o.type with ⟨h0, hl, hrun⟩ | ⟨key, v, kl, y, w', cnt', hkey, hlk, hv, hat, hrun, hrg, hlt, hgr, hsz, hen⟩
  · simp [execOp, hop, hit, hrun, Result.andThen]
    exact hK' _ _ (hDone hl)
  · obtain ⟨xs, hxs, rfl, rfl⟩ := secR_inv hv
    obtain ⟨i, hi, rfl⟩ := hk kl (has_true_of_atKey hat)
    obtain ⟨x, rfl, e, _⟩ := Maps.keyOf_int_inv Try.underlying3 hkey
    injection e with _ e
    subst e
    simp [execOp, hop, hit, hrun, Result.andThen]
    exact hK' _ _ (hMore i xs w' cnt' hi hxs hat hrg hlt hgr hsz hen)
def mix (fd fs : Nat → Option (List Nat)) (left : Lit → Bool) : Nat → Option (List Nat) := fun i => if ((fs i).isSome && !left (.int .i64 (i : Int))) = true then fs i else fd i
theorem same_key (i j : Nat) : (Lit.int .i64 (j : Int)).sameKey (.int .i64 (i : Int)) = decide (j = i) := by
  simp [Lit.sameKey]
  by_cases h : j = i
  · subst h; simp
  · simp [h]
    omega
theorem mix_step {fd fs : Nat → Option (List Nat)} {left : Lit → Bool} {i : Nat} {xs : List Nat} (h : fs i = some xs) : upd1 (mix fd fs left) i xs = mix fd fs (fun z => left z && !z.sameKey (.int .i64 (i : Int))) := by
  funext j
  unfold upd1 mix
  simp only [same_key]
  by_cases e : j = i
  · subst e; simp [h]
  · simp [e]
theorem mix_end {fd fs : Nat → Option (List Nat)} {left : Lit → Bool} (h : ∀ kl, left kl = false) : mix fd fs left = fun i => (fs i).or (fd i) := by
  funext i
  unfold mix
  rw [h]
  cases fs i <;> simp
set_option maxRecDepth 20000 in
set_option maxRecDepth 20000 in
set_option maxHeartbeats 2000000 in
theorem copy_any (bd bs : Nat) (fd fs : Nat → Option (List Nat)) (w : World) (hd : SMap w bd fd) (hs : SMap w bs fs) (hne : bd ≠ bs) :
    Calls Try.prog 33 #[.map (some bd), .map (some bs)] w fun e w' => e = .returned (.tuple #[]) ∧ SMap w' bd (fun i => (fs i).or (fd i)) ∧ w.grownBy w' (some bd) := by
  have hbd := hd.lt
  obtain ⟨D, n, hown, hn, hk, hat⟩ := hs
  have hbs := hown.lt
  have hfs : ∀ (i : Nat) (xs : List Nat), (∀ zd, D.atKey (.int .i64 (i : Int)) zd = .held xs) → fs i = some xs := by
    intro i xs h
    rcases hat i with ⟨_, h1⟩ | ⟨ys, h1, _, h2⟩
    · rw [has_true_of_atKey h] at h1; cases h1
    · have := (h .nil).symm.trans (h2 .nil)
      injection this with this
      rw [h1, this]
  have hm0 : mix fd fs (Maps.has D) = fd := by
    funext i
    unfold mix
    rcases hat i with ⟨h0, h1⟩ | ⟨ys, h1, _, h2⟩
    · simp [h0]
    · simp [has_true_of_atKey h2]
  have HFS := Lib.hid hfs; clear hfs
  have HM0 := Lib.hid hm0; clear hm0
  have HK := Lib.hid hk; clear hk
  have HD := Lib.hid hd; clear hd
  have HO := Lib.hid hown; clear hown
  clear hat
  have hz := zero72
  obtain ⟨zs, hzs⟩ : ∃ zs, zs = noughts := ⟨_, rfl⟩
  simp only [← hzs] at hz
  have HZS := Lib.hid (hzs ▸ isSec_noughts); clear hzs
  go_enter Try.func33, Try.ntmps33
  go_wp2_with (at_range; refine wpList_range_own _ rfl _ 36 rfl 3 71 keyed Try.underlying36 secR bs n D rfl HO.out ?_; intro w0 hrg0 hg0 hs0)
  go_frame
  go_loopw [8] (fun _ wr => ∃ (left : Lit → Bool) (cnt : Nat), wr.ranges Try.prog 3 secR bs w.heap.size n D left cnt ∧ SMap wr bd (mix fd fs left) ∧ w.grownBy wr (some bd))
    (fun _ wr => wr.rangeLeft bs w.heap.size)
  case atStart => exact ⟨_, _, hrg0, by rw [HM0.out]; exact HD.out.kept hg0 (by simp), hg0.but _⟩
  case round =>
    obtain ⟨left, cnt, hrg, hout, hgw⟩ := hrel
    have HR := Lib.hid hrg; clear hrg
    have HOUT := Lib.hid hout; clear hout
    have HGW := Lib.hid hgw; clear hgw
    clear hrg0 hg0 hs0
    go_wp2_with (at_next; refine wpList_next_sec _ rfl _ rfl bs w.heap.size n D left cnt rfl HR.out HK.out ?_ ?_)
    · intro hl0
      go_wp2
      go_end0
      rw [← mix_end hl0]
      exact ⟨rfl, HOUT.out, HGW.out⟩
    · intro i xs w1 cnt1 hi hx hat hrg1 hlt hg1 hs1 hen
      have HE := Lib.hid (HFS.out i xs hat); clear hat
      have HX := Lib.hid hx; clear hx
      have HR1 := Lib.hid hrg1; clear hrg1
      have HLT := Lib.hid hlt; clear hlt
      have HO1 := Lib.hid (HOUT.out.kept hg1 (fun e => by have := Option.some.inj e; omega))
      have HG1 := Lib.hid hg1; clear hg1
      clear hs1
      go_wp2_with (first
        | (refine wpList_store_row rfl 71 (.tmp 5) (.tmp 12) rfl w1.heap.size (vals xs).toArray rfl rfl 71 (vals zs).toArray (heap_alloc_new w1 _) (by rw [size72]; simp [vals_length, HX.out.1]) (by simp [vals_length, HX.out.1, HZS.out.1]) (vals_all _) ?_; rw [World.setRow_alloc_new])
        | (refine wpList_load_row rfl 71 (.tmp 5) rfl w1.heap.size rfl 71 (vals xs).toArray (0, 0) _ (heap_alloc_new w1 _) Try.underlying71 rfl (by rw [size72]; simp [vals_length, HX.out.1]) ?_)
        | (refine wpList_mapUpdate_sec _ rfl (.tmp 13) (.tmp 14) (.tmp 15) rfl bd (mix fd fs left) i xs rfl rfl rfl (HO1.out.kept (World.grownBy_alloc w1 _ none) (by simp)) hi HX.out ?_; intro w2 hm2 hg2; go_frame))
      have k2 := World.grownBy_alloc w1 (.cells (vals xs).toArray 71) none
      have hr2 := (HR1.out.kept k2 (by simp) (by simp)).kept hg2 (fun e => hne (Option.some.inj e).symm) (fun e => by have := Option.some.inj e; omega)
      have HR2 := Lib.hid hr2; clear hr2
      go_roundw
      case rel =>
        refine ⟨_, cnt1, HR2.out, mix_step HE.out ▸ hm2.out, ?_⟩
        exact ((HGW.out.andThen HG1.out (fun j hj => .inl (by cases hj; exact Nat.le_refl _))).andThen k2 (fun j hj => by cases hj)).andThen hg2 (fun j hj => .inr hj)
      case measure => rw [HR2.out.left_eq, HR.out.left_eq]; exact HLT.out
end Go.Proofs.Ytddhkajcakndlaa.Dsk
