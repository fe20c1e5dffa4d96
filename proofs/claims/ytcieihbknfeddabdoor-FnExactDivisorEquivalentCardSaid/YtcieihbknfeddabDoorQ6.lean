/- Equivalent divisors: the program. -/
import Derived.Test.YtcieihbknfeddabDoorQ3
import Derived.Test.YtcieihbknfeddabDoorJb
import Derived.Test.YtcieihbknfeddabDoorI5
namespace Go.Proofs.YtcieihbknfeddabDoor
open Go.RowKit

set_option maxRecDepth 100000 in
set_option maxHeartbeats 16000000 in
theorem isTrivial_any (base g : Nat) (ns : List Node) (u : Value) (d : List Int) (w : World) (hF : FanAt w base g ns) (hm : ns.length ≤ 1000) (hv : allVec (rays ns)) (hu : ReadsInts w u d) (hl : d.length = ns.length) (h2 : 2 ≤ d.length) (hb : bnd 200 d) :
    Calls Tryd.prog 81 #[.agg #[.pointer (some ⟨g, 0, none⟩), u]] w fun e w' => e = .returned (.bool (trivB (rays ns) d)) ∧ Below w.heap.size w w' := by
  have hvb := vec_bnd hv hb
  have HV := Lib.hid (fun w' (hb' : Below w.heap.size w w') => vectorAt0_any base g ns u d w' (hF.below hb') hm hv (hu.below hb') hl (by omega) hb)
  have HTr := Lib.hid (fun w' (hb' : Below w.heap.size w w') => trivial_any base g ns (vecZ (rays ns) d).1 (vecZ (rays ns) d).2 w' (hF.below hb') hm hv hvb)
  obtain ⟨bb, off, c, rfl, _, hbb, hcs⟩ := hu.open (by omega)
  have e0 : trivB (rays ns) d = eqB d.length (gz d) (gz (trivL (rays ns) (vecZ (rays ns) d))) := by
    unfold trivB
    rw [rays_len, hl]
    rfl
  rw [e0]
  have HTl : Hid ((trivL (rays ns) (vecZ (rays ns) d)).length = d.length) := by show _ = _; rw [trivL_len, rays_len, hl]
  have HN : Hid (0 < d.length ∧ d.length ≤ 1000) := ⟨by omega, by omega⟩
  have HQ := Lib.hid (fun bb2 off2 c2 (Y : Nat → Int) w' (hb' : Below w.heap.size w w') (hy : ∀ j, j < d.length → (w' : World).cell? ⟨bb2, off2 + j, none⟩ = some (.int .i64 (Y j))) (hq : bb2 < w'.heap.size) => slEqual_any bb off bb2 off2 d.length c c2 (gz d) Y w' (hcs w' hb') hy HN.out.2 (Nat.lt_of_lt_of_le hbb hb'.size) hq)
  clear hF hv hu hl h2 hb hvb hm hcs hbb e0
  generalize (vecZ (rays ns) d) = V at *
  obtain ⟨x, y⟩ := V
  generalize trivL (rays ns) (x, y) = T at *
  generalize gz d = X at *
  generalize d.length = n at *
  dsimp only at HV HTr
  go_enter Tryd.func81, Tryd.ntmps81
  go_wp2
  have hA : Below w.heap.size w (w.alloc (.cells #[.pointer (some ⟨g, 0, none⟩), .slice (some ⟨bb, off, none⟩) n c] 60)) := by go_grown
  have x0 : (w.alloc (.cells #[.pointer (some ⟨g, 0, none⟩), .slice (some ⟨bb, off, none⟩) n c] 60)).cell? ⟨w.heap.size, 0, none⟩ = some (.pointer (some ⟨g, 0, none⟩)) := by first | (go_cell; done) | (go_simp; done) | (simp; done)
  have x1 : (w.alloc (.cells #[.pointer (some ⟨g, 0, none⟩), .slice (some ⟨bb, off, none⟩) n c] 60)).cell? ⟨w.heap.size, 1, none⟩ = some (.slice (some ⟨bb, off, none⟩) n c) := by first | (go_cell; done) | (go_simp; done) | (simp; done)
  generalize (w.alloc (.cells #[.pointer (some ⟨g, 0, none⟩), .slice (some ⟨bb, off, none⟩) n c] 60)) = W2 at *
  have s0 := cell_lt x0
  have hA0 := hA
  refine wp_region_any (by kernel_rfl) ?_
  try (change wpAny _ _ _ _ _ _ _ (World.drew _))
  refine wpAny_take (i := 0) (v := ?_) rfl (by kernel_rfl) (by kernel_rfl) (by kernel_rfl) (fun _ _ _ h => h) (Or.inl ⟨by rfl, ?_⟩) ?_
  rotate_left
  focus (intro w0; go_simp; try with_reducible rfl)
  refine wpAny_take (i := 2) (v := ?_) rfl (by kernel_rfl) (by kernel_rfl) (by kernel_rfl) (fun _ _ _ h => h) (Or.inl ⟨by rfl, ?_⟩) ?_
  rotate_left
  focus (intro w0; go_simp; try with_reducible rfl)
  refine wpAny_ready (rs := [1, 3, 4]) (by kernel_rfl) (by simp) (AllReady.cons rfl (fun K hK => ?_) (AllReady.cons rfl (fun K hK => ?_) (AllReady.cons rfl (fun K hK => ?_) (AllReady.nil))))
  focus
    go_simp
    refine hK _ _ ?_
    clear hK K
    refine wpAny_ready (rs := [3, 4]) (by kernel_rfl) (by simp) (AllReady.cons rfl (fun K hK => ?_) (AllReady.cons rfl (fun K hK => ?_) (AllReady.nil)))
    focus
      go_simp
      refine hK _ _ ?_
      clear hK K
      refine wpAny_ready (rs := [4]) (by kernel_rfl) (by simp) (AllReady.cons rfl (fun K hK => ?_) (AllReady.nil))
      go_simp
      refine hK _ _ ?_
      clear hK K
      refine wpAny_ready (rs := [5]) (by kernel_rfl) (by simp) (AllReady.cons rfl (fun K hK => ?_) (AllReady.nil))
      go_simp
      (refine Calls.mono (HV.out _ (by go_grown)) ?_; rintro e w3 ⟨rfl, hbX⟩; replace hbX := undrew hbX; replace x0 := (hbX.cell (p := ⟨w.heap.size, 0, none⟩) s0).trans x0; replace x1 := (hbX.cell (p := ⟨w.heap.size, 1, none⟩) s0).trans x1; replace hA := belowTo hA hbX; have s3 := Nat.lt_of_lt_of_le s0 hbX.size; clear hbX)
      refine hK _ _ ?_
      clear hK K
      refine wpAny_ready (rs := [6]) (by kernel_rfl) (by simp) (AllReady.cons rfl (fun K hK => ?_) (AllReady.nil))
      go_simp
      (refine Calls.mono (HTr.out _ hA) ?_; rintro e w4 ⟨v4, rfl, hI, hbY⟩; replace x0 := (hbY.cell (p := ⟨w.heap.size, 0, none⟩) s3).trans x0; replace x1 := (hbY.cell (p := ⟨w.heap.size, 1, none⟩) s3).trans x1; replace hA := belowTo hA hbY; have hop := (hI.reads (by rw [HTl.out]; have := HN.out; omega)).open (by rw [HTl.out]; exact HN.out.1); rw [HTl.out] at hop; obtain ⟨bb2, off2, c2, rfl, _, hq, hcs⟩ := hop; have HQ2 := Lib.hid (HQ.out bb2 off2 c2 (gz T) _ hA (hcs _ (Below.refl _ _)) hq); clear hbY s3 hI hq hcs)
      refine hK _ _ ?_
      clear hK K
      refine wpAny_ready (rs := [7]) (by kernel_rfl) (by simp) (AllReady.cons rfl (fun K hK => ?_) (AllReady.nil))
      go_simp
      refine hK _ _ ?_
      clear hK K
      refine wpAny_ready (rs := [8]) (by kernel_rfl) (by simp) (AllReady.cons rfl (fun K hK => ?_) (AllReady.nil))
      go_simp
      (refine Calls.mono HQ2.out ?_; rintro e w5 ⟨rfl, hb5⟩; replace hA := belowTo hA hb5; clear hb5)
      refine hK _ _ ?_
      clear hK K
      refine wpAny_seq 9 rfl (by kernel_rfl) ?_
      simp only [List.drop_succ_cons, List.drop_zero]
    rotate_left 1
    focus
      go_simp
      refine hK _ _ ?_
      clear hK K
      refine wpAny_ready (rs := [3, 5]) (by kernel_rfl) (by simp) (AllReady.cons rfl (fun K hK => ?_) (AllReady.cons rfl (fun K hK => ?_) (AllReady.nil)))
      focus
        go_simp
        refine hK _ _ ?_
        clear hK K
        refine wpAny_ready (rs := [5]) (by kernel_rfl) (by simp) (AllReady.cons rfl (fun K hK => ?_) (AllReady.nil))
        go_simp
        (refine Calls.mono (HV.out _ (by go_grown)) ?_; rintro e w3 ⟨rfl, hbX⟩; replace hbX := undrew hbX; replace x0 := (hbX.cell (p := ⟨w.heap.size, 0, none⟩) s0).trans x0; replace x1 := (hbX.cell (p := ⟨w.heap.size, 1, none⟩) s0).trans x1; replace hA := belowTo hA hbX; have s3 := Nat.lt_of_lt_of_le s0 hbX.size; clear hbX)
        refine hK _ _ ?_
        clear hK K
        refine wpAny_ready (rs := [6]) (by kernel_rfl) (by simp) (AllReady.cons rfl (fun K hK => ?_) (AllReady.nil))
        go_simp
        (refine Calls.mono (HTr.out _ hA) ?_; rintro e w4 ⟨v4, rfl, hI, hbY⟩; replace x0 := (hbY.cell (p := ⟨w.heap.size, 0, none⟩) s3).trans x0; replace x1 := (hbY.cell (p := ⟨w.heap.size, 1, none⟩) s3).trans x1; replace hA := belowTo hA hbY; have hop := (hI.reads (by rw [HTl.out]; have := HN.out; omega)).open (by rw [HTl.out]; exact HN.out.1); rw [HTl.out] at hop; obtain ⟨bb2, off2, c2, rfl, _, hq, hcs⟩ := hop; have HQ2 := Lib.hid (HQ.out bb2 off2 c2 (gz T) _ hA (hcs _ (Below.refl _ _)) hq); clear hbY s3 hI hq hcs)
        refine hK _ _ ?_
        clear hK K
        refine wpAny_ready (rs := [7]) (by kernel_rfl) (by simp) (AllReady.cons rfl (fun K hK => ?_) (AllReady.nil))
        go_simp
        refine hK _ _ ?_
        clear hK K
        refine wpAny_ready (rs := [8]) (by kernel_rfl) (by simp) (AllReady.cons rfl (fun K hK => ?_) (AllReady.nil))
        go_simp
        (refine Calls.mono HQ2.out ?_; rintro e w5 ⟨rfl, hb5⟩; replace hA := belowTo hA hb5; clear hb5)
        refine hK _ _ ?_
        clear hK K
        refine wpAny_seq 9 rfl (by kernel_rfl) ?_
        simp only [List.drop_succ_cons, List.drop_zero]
      rotate_left 1
      focus
        go_simp
        (refine Calls.mono (HV.out _ (by go_grown)) ?_; rintro e w3 ⟨rfl, hbX⟩; replace hbX := undrew hbX; replace x0 := (hbX.cell (p := ⟨w.heap.size, 0, none⟩) s0).trans x0; replace x1 := (hbX.cell (p := ⟨w.heap.size, 1, none⟩) s0).trans x1; replace hA := belowTo hA hbX; have s3 := Nat.lt_of_lt_of_le s0 hbX.size; clear hbX)
        refine hK _ _ ?_
        clear hK K
        refine wpAny_ready (rs := [3]) (by kernel_rfl) (by simp) (AllReady.cons rfl (fun K hK => ?_) (AllReady.nil))
        go_simp
        refine hK _ _ ?_
        clear hK K
        refine wpAny_ready (rs := [6]) (by kernel_rfl) (by simp) (AllReady.cons rfl (fun K hK => ?_) (AllReady.nil))
        go_simp
        (refine Calls.mono (HTr.out _ hA) ?_; rintro e w4 ⟨v4, rfl, hI, hbY⟩; replace x0 := (hbY.cell (p := ⟨w.heap.size, 0, none⟩) s3).trans x0; replace x1 := (hbY.cell (p := ⟨w.heap.size, 1, none⟩) s3).trans x1; replace hA := belowTo hA hbY; have hop := (hI.reads (by rw [HTl.out]; have := HN.out; omega)).open (by rw [HTl.out]; exact HN.out.1); rw [HTl.out] at hop; obtain ⟨bb2, off2, c2, rfl, _, hq, hcs⟩ := hop; have HQ2 := Lib.hid (HQ.out bb2 off2 c2 (gz T) _ hA (hcs _ (Below.refl _ _)) hq); clear hbY s3 hI hq hcs)
        refine hK _ _ ?_
        clear hK K
        refine wpAny_ready (rs := [7]) (by kernel_rfl) (by simp) (AllReady.cons rfl (fun K hK => ?_) (AllReady.nil))
        go_simp
        refine hK _ _ ?_
        clear hK K
        refine wpAny_ready (rs := [8]) (by kernel_rfl) (by simp) (AllReady.cons rfl (fun K hK => ?_) (AllReady.nil))
        go_simp
        (refine Calls.mono HQ2.out ?_; rintro e w5 ⟨rfl, hb5⟩; replace hA := belowTo hA hb5; clear hb5)
        refine hK _ _ ?_
        clear hK K
        refine wpAny_seq 9 rfl (by kernel_rfl) ?_
        simp only [List.drop_succ_cons, List.drop_zero]
  rotate_left 3
  focus
    go_simp
    refine hK _ _ ?_
    clear hK K
    refine wpAny_ready (rs := [1, 4]) (by kernel_rfl) (by simp) (AllReady.cons rfl (fun K hK => ?_) (AllReady.cons rfl (fun K hK => ?_) (AllReady.nil)))
    focus
      go_simp
      refine hK _ _ ?_
      clear hK K
      refine wpAny_ready (rs := [4]) (by kernel_rfl) (by simp) (AllReady.cons rfl (fun K hK => ?_) (AllReady.nil))
      go_simp
      refine hK _ _ ?_
      clear hK K
      refine wpAny_ready (rs := [5]) (by kernel_rfl) (by simp) (AllReady.cons rfl (fun K hK => ?_) (AllReady.nil))
      go_simp
      (refine Calls.mono (HV.out _ (by go_grown)) ?_; rintro e w3 ⟨rfl, hbX⟩; replace hbX := undrew hbX; replace x0 := (hbX.cell (p := ⟨w.heap.size, 0, none⟩) s0).trans x0; replace x1 := (hbX.cell (p := ⟨w.heap.size, 1, none⟩) s0).trans x1; replace hA := belowTo hA hbX; have s3 := Nat.lt_of_lt_of_le s0 hbX.size; clear hbX)
      refine hK _ _ ?_
      clear hK K
      refine wpAny_ready (rs := [6]) (by kernel_rfl) (by simp) (AllReady.cons rfl (fun K hK => ?_) (AllReady.nil))
      go_simp
      (refine Calls.mono (HTr.out _ hA) ?_; rintro e w4 ⟨v4, rfl, hI, hbY⟩; replace x0 := (hbY.cell (p := ⟨w.heap.size, 0, none⟩) s3).trans x0; replace x1 := (hbY.cell (p := ⟨w.heap.size, 1, none⟩) s3).trans x1; replace hA := belowTo hA hbY; have hop := (hI.reads (by rw [HTl.out]; have := HN.out; omega)).open (by rw [HTl.out]; exact HN.out.1); rw [HTl.out] at hop; obtain ⟨bb2, off2, c2, rfl, _, hq, hcs⟩ := hop; have HQ2 := Lib.hid (HQ.out bb2 off2 c2 (gz T) _ hA (hcs _ (Below.refl _ _)) hq); clear hbY s3 hI hq hcs)
      refine hK _ _ ?_
      clear hK K
      refine wpAny_ready (rs := [7]) (by kernel_rfl) (by simp) (AllReady.cons rfl (fun K hK => ?_) (AllReady.nil))
      go_simp
      refine hK _ _ ?_
      clear hK K
      refine wpAny_ready (rs := [8]) (by kernel_rfl) (by simp) (AllReady.cons rfl (fun K hK => ?_) (AllReady.nil))
      go_simp
      (refine Calls.mono HQ2.out ?_; rintro e w5 ⟨rfl, hb5⟩; replace hA := belowTo hA hb5; clear hb5)
      refine hK _ _ ?_
      clear hK K
      refine wpAny_seq 9 rfl (by kernel_rfl) ?_
      simp only [List.drop_succ_cons, List.drop_zero]
    rotate_left 1
    focus
      go_simp
      refine hK _ _ ?_
      clear hK K
      refine wpAny_ready (rs := [1, 5]) (by kernel_rfl) (by simp) (AllReady.cons rfl (fun K hK => ?_) (AllReady.cons rfl (fun K hK => ?_) (AllReady.nil)))
      focus
        go_simp
        refine hK _ _ ?_
        clear hK K
        refine wpAny_ready (rs := [5]) (by kernel_rfl) (by simp) (AllReady.cons rfl (fun K hK => ?_) (AllReady.nil))
        go_simp
        (refine Calls.mono (HV.out _ (by go_grown)) ?_; rintro e w3 ⟨rfl, hbX⟩; replace hbX := undrew hbX; replace x0 := (hbX.cell (p := ⟨w.heap.size, 0, none⟩) s0).trans x0; replace x1 := (hbX.cell (p := ⟨w.heap.size, 1, none⟩) s0).trans x1; replace hA := belowTo hA hbX; have s3 := Nat.lt_of_lt_of_le s0 hbX.size; clear hbX)
        refine hK _ _ ?_
        clear hK K
        refine wpAny_ready (rs := [6]) (by kernel_rfl) (by simp) (AllReady.cons rfl (fun K hK => ?_) (AllReady.nil))
        go_simp
        (refine Calls.mono (HTr.out _ hA) ?_; rintro e w4 ⟨v4, rfl, hI, hbY⟩; replace x0 := (hbY.cell (p := ⟨w.heap.size, 0, none⟩) s3).trans x0; replace x1 := (hbY.cell (p := ⟨w.heap.size, 1, none⟩) s3).trans x1; replace hA := belowTo hA hbY; have hop := (hI.reads (by rw [HTl.out]; have := HN.out; omega)).open (by rw [HTl.out]; exact HN.out.1); rw [HTl.out] at hop; obtain ⟨bb2, off2, c2, rfl, _, hq, hcs⟩ := hop; have HQ2 := Lib.hid (HQ.out bb2 off2 c2 (gz T) _ hA (hcs _ (Below.refl _ _)) hq); clear hbY s3 hI hq hcs)
        refine hK _ _ ?_
        clear hK K
        refine wpAny_ready (rs := [7]) (by kernel_rfl) (by simp) (AllReady.cons rfl (fun K hK => ?_) (AllReady.nil))
        go_simp
        refine hK _ _ ?_
        clear hK K
        refine wpAny_ready (rs := [8]) (by kernel_rfl) (by simp) (AllReady.cons rfl (fun K hK => ?_) (AllReady.nil))
        go_simp
        (refine Calls.mono HQ2.out ?_; rintro e w5 ⟨rfl, hb5⟩; replace hA := belowTo hA hb5; clear hb5)
        refine hK _ _ ?_
        clear hK K
        refine wpAny_seq 9 rfl (by kernel_rfl) ?_
        simp only [List.drop_succ_cons, List.drop_zero]
      rotate_left 1
      focus
        go_simp
        (refine Calls.mono (HV.out _ (by go_grown)) ?_; rintro e w3 ⟨rfl, hbX⟩; replace hbX := undrew hbX; replace x0 := (hbX.cell (p := ⟨w.heap.size, 0, none⟩) s0).trans x0; replace x1 := (hbX.cell (p := ⟨w.heap.size, 1, none⟩) s0).trans x1; replace hA := belowTo hA hbX; have s3 := Nat.lt_of_lt_of_le s0 hbX.size; clear hbX)
        refine hK _ _ ?_
        clear hK K
        refine wpAny_ready (rs := [1, 6]) (by kernel_rfl) (by simp) (AllReady.cons rfl (fun K hK => ?_) (AllReady.cons rfl (fun K hK => ?_) (AllReady.nil)))
        focus
          go_simp
          refine hK _ _ ?_
          clear hK K
          refine wpAny_ready (rs := [6]) (by kernel_rfl) (by simp) (AllReady.cons rfl (fun K hK => ?_) (AllReady.nil))
          go_simp
          (refine Calls.mono (HTr.out _ hA) ?_; rintro e w4 ⟨v4, rfl, hI, hbY⟩; replace x0 := (hbY.cell (p := ⟨w.heap.size, 0, none⟩) s3).trans x0; replace x1 := (hbY.cell (p := ⟨w.heap.size, 1, none⟩) s3).trans x1; replace hA := belowTo hA hbY; have hop := (hI.reads (by rw [HTl.out]; have := HN.out; omega)).open (by rw [HTl.out]; exact HN.out.1); rw [HTl.out] at hop; obtain ⟨bb2, off2, c2, rfl, _, hq, hcs⟩ := hop; have HQ2 := Lib.hid (HQ.out bb2 off2 c2 (gz T) _ hA (hcs _ (Below.refl _ _)) hq); clear hbY s3 hI hq hcs)
          refine hK _ _ ?_
          clear hK K
          refine wpAny_ready (rs := [7]) (by kernel_rfl) (by simp) (AllReady.cons rfl (fun K hK => ?_) (AllReady.nil))
          go_simp
          refine hK _ _ ?_
          clear hK K
          refine wpAny_ready (rs := [8]) (by kernel_rfl) (by simp) (AllReady.cons rfl (fun K hK => ?_) (AllReady.nil))
          go_simp
          (refine Calls.mono HQ2.out ?_; rintro e w5 ⟨rfl, hb5⟩; replace hA := belowTo hA hb5; clear hb5)
          refine hK _ _ ?_
          clear hK K
          refine wpAny_seq 9 rfl (by kernel_rfl) ?_
          simp only [List.drop_succ_cons, List.drop_zero]
        rotate_left 1
        focus
          go_simp
          (refine Calls.mono (HTr.out _ hA) ?_; rintro e w4 ⟨v4, rfl, hI, hbY⟩; replace x0 := (hbY.cell (p := ⟨w.heap.size, 0, none⟩) s3).trans x0; replace x1 := (hbY.cell (p := ⟨w.heap.size, 1, none⟩) s3).trans x1; replace hA := belowTo hA hbY; have hop := (hI.reads (by rw [HTl.out]; have := HN.out; omega)).open (by rw [HTl.out]; exact HN.out.1); rw [HTl.out] at hop; obtain ⟨bb2, off2, c2, rfl, _, hq, hcs⟩ := hop; have HQ2 := Lib.hid (HQ.out bb2 off2 c2 (gz T) _ hA (hcs _ (Below.refl _ _)) hq); clear hbY s3 hI hq hcs)
          refine hK _ _ ?_
          clear hK K
          refine wpAny_ready (rs := [1, 7]) (by kernel_rfl) (by simp) (AllReady.cons rfl (fun K hK => ?_) (AllReady.cons rfl (fun K hK => ?_) (AllReady.nil)))
          focus
            go_simp
            refine hK _ _ ?_
            clear hK K
            refine wpAny_ready (rs := [7]) (by kernel_rfl) (by simp) (AllReady.cons rfl (fun K hK => ?_) (AllReady.nil))
            go_simp
            refine hK _ _ ?_
            clear hK K
            refine wpAny_ready (rs := [8]) (by kernel_rfl) (by simp) (AllReady.cons rfl (fun K hK => ?_) (AllReady.nil))
            go_simp
            (refine Calls.mono HQ2.out ?_; rintro e w5 ⟨rfl, hb5⟩; replace hA := belowTo hA hb5; clear hb5)
            refine hK _ _ ?_
            clear hK K
            refine wpAny_seq 9 rfl (by kernel_rfl) ?_
            simp only [List.drop_succ_cons, List.drop_zero]
          rotate_left 1
          focus
            go_simp
            refine hK _ _ ?_
            clear hK K
            refine wpAny_ready (rs := [1]) (by kernel_rfl) (by simp) (AllReady.cons rfl (fun K hK => ?_) (AllReady.nil))
            go_simp
            refine hK _ _ ?_
            clear hK K
            refine wpAny_ready (rs := [8]) (by kernel_rfl) (by simp) (AllReady.cons rfl (fun K hK => ?_) (AllReady.nil))
            go_simp
            (refine Calls.mono HQ2.out ?_; rintro e w5 ⟨rfl, hb5⟩; replace hA := belowTo hA hb5; clear hb5)
            refine hK _ _ ?_
            clear hK K
            refine wpAny_seq 9 rfl (by kernel_rfl) ?_
            simp only [List.drop_succ_cons, List.drop_zero]
  rotate_left 5
  focus
    go_simp
    refine hK _ _ ?_
    clear hK K
    refine wpAny_ready (rs := [1, 3, 5]) (by kernel_rfl) (by simp) (AllReady.cons rfl (fun K hK => ?_) (AllReady.cons rfl (fun K hK => ?_) (AllReady.cons rfl (fun K hK => ?_) (AllReady.nil))))
    focus
      go_simp
      refine hK _ _ ?_
      clear hK K
      refine wpAny_ready (rs := [3, 5]) (by kernel_rfl) (by simp) (AllReady.cons rfl (fun K hK => ?_) (AllReady.cons rfl (fun K hK => ?_) (AllReady.nil)))
      focus
        go_simp
        refine hK _ _ ?_
        clear hK K
        refine wpAny_ready (rs := [5]) (by kernel_rfl) (by simp) (AllReady.cons rfl (fun K hK => ?_) (AllReady.nil))
        go_simp
        (refine Calls.mono (HV.out _ (by go_grown)) ?_; rintro e w3 ⟨rfl, hbX⟩; replace hbX := undrew hbX; replace x0 := (hbX.cell (p := ⟨w.heap.size, 0, none⟩) s0).trans x0; replace x1 := (hbX.cell (p := ⟨w.heap.size, 1, none⟩) s0).trans x1; replace hA := belowTo hA hbX; have s3 := Nat.lt_of_lt_of_le s0 hbX.size; clear hbX)
        refine hK _ _ ?_
        clear hK K
        refine wpAny_ready (rs := [6]) (by kernel_rfl) (by simp) (AllReady.cons rfl (fun K hK => ?_) (AllReady.nil))
        go_simp
        (refine Calls.mono (HTr.out _ hA) ?_; rintro e w4 ⟨v4, rfl, hI, hbY⟩; replace x0 := (hbY.cell (p := ⟨w.heap.size, 0, none⟩) s3).trans x0; replace x1 := (hbY.cell (p := ⟨w.heap.size, 1, none⟩) s3).trans x1; replace hA := belowTo hA hbY; have hop := (hI.reads (by rw [HTl.out]; have := HN.out; omega)).open (by rw [HTl.out]; exact HN.out.1); rw [HTl.out] at hop; obtain ⟨bb2, off2, c2, rfl, _, hq, hcs⟩ := hop; have HQ2 := Lib.hid (HQ.out bb2 off2 c2 (gz T) _ hA (hcs _ (Below.refl _ _)) hq); clear hbY s3 hI hq hcs)
        refine hK _ _ ?_
        clear hK K
        refine wpAny_ready (rs := [7]) (by kernel_rfl) (by simp) (AllReady.cons rfl (fun K hK => ?_) (AllReady.nil))
        go_simp
        refine hK _ _ ?_
        clear hK K
        refine wpAny_ready (rs := [8]) (by kernel_rfl) (by simp) (AllReady.cons rfl (fun K hK => ?_) (AllReady.nil))
        go_simp
        (refine Calls.mono HQ2.out ?_; rintro e w5 ⟨rfl, hb5⟩; replace hA := belowTo hA hb5; clear hb5)
        refine hK _ _ ?_
        clear hK K
        refine wpAny_seq 9 rfl (by kernel_rfl) ?_
        simp only [List.drop_succ_cons, List.drop_zero]
      rotate_left 1
      focus
        go_simp
        (refine Calls.mono (HV.out _ (by go_grown)) ?_; rintro e w3 ⟨rfl, hbX⟩; replace hbX := undrew hbX; replace x0 := (hbX.cell (p := ⟨w.heap.size, 0, none⟩) s0).trans x0; replace x1 := (hbX.cell (p := ⟨w.heap.size, 1, none⟩) s0).trans x1; replace hA := belowTo hA hbX; have s3 := Nat.lt_of_lt_of_le s0 hbX.size; clear hbX)
        refine hK _ _ ?_
        clear hK K
        refine wpAny_ready (rs := [3]) (by kernel_rfl) (by simp) (AllReady.cons rfl (fun K hK => ?_) (AllReady.nil))
        go_simp
        refine hK _ _ ?_
        clear hK K
        refine wpAny_ready (rs := [6]) (by kernel_rfl) (by simp) (AllReady.cons rfl (fun K hK => ?_) (AllReady.nil))
        go_simp
        (refine Calls.mono (HTr.out _ hA) ?_; rintro e w4 ⟨v4, rfl, hI, hbY⟩; replace x0 := (hbY.cell (p := ⟨w.heap.size, 0, none⟩) s3).trans x0; replace x1 := (hbY.cell (p := ⟨w.heap.size, 1, none⟩) s3).trans x1; replace hA := belowTo hA hbY; have hop := (hI.reads (by rw [HTl.out]; have := HN.out; omega)).open (by rw [HTl.out]; exact HN.out.1); rw [HTl.out] at hop; obtain ⟨bb2, off2, c2, rfl, _, hq, hcs⟩ := hop; have HQ2 := Lib.hid (HQ.out bb2 off2 c2 (gz T) _ hA (hcs _ (Below.refl _ _)) hq); clear hbY s3 hI hq hcs)
        refine hK _ _ ?_
        clear hK K
        refine wpAny_ready (rs := [7]) (by kernel_rfl) (by simp) (AllReady.cons rfl (fun K hK => ?_) (AllReady.nil))
        go_simp
        refine hK _ _ ?_
        clear hK K
        refine wpAny_ready (rs := [8]) (by kernel_rfl) (by simp) (AllReady.cons rfl (fun K hK => ?_) (AllReady.nil))
        go_simp
        (refine Calls.mono HQ2.out ?_; rintro e w5 ⟨rfl, hb5⟩; replace hA := belowTo hA hb5; clear hb5)
        refine hK _ _ ?_
        clear hK K
        refine wpAny_seq 9 rfl (by kernel_rfl) ?_
        simp only [List.drop_succ_cons, List.drop_zero]
    rotate_left 2
    focus
      go_simp
      refine hK _ _ ?_
      clear hK K
      refine wpAny_ready (rs := [1, 5]) (by kernel_rfl) (by simp) (AllReady.cons rfl (fun K hK => ?_) (AllReady.cons rfl (fun K hK => ?_) (AllReady.nil)))
      focus
        go_simp
        refine hK _ _ ?_
        clear hK K
        refine wpAny_ready (rs := [5]) (by kernel_rfl) (by simp) (AllReady.cons rfl (fun K hK => ?_) (AllReady.nil))
        go_simp
        (refine Calls.mono (HV.out _ (by go_grown)) ?_; rintro e w3 ⟨rfl, hbX⟩; replace hbX := undrew hbX; replace x0 := (hbX.cell (p := ⟨w.heap.size, 0, none⟩) s0).trans x0; replace x1 := (hbX.cell (p := ⟨w.heap.size, 1, none⟩) s0).trans x1; replace hA := belowTo hA hbX; have s3 := Nat.lt_of_lt_of_le s0 hbX.size; clear hbX)
        refine hK _ _ ?_
        clear hK K
        refine wpAny_ready (rs := [6]) (by kernel_rfl) (by simp) (AllReady.cons rfl (fun K hK => ?_) (AllReady.nil))
        go_simp
        (refine Calls.mono (HTr.out _ hA) ?_; rintro e w4 ⟨v4, rfl, hI, hbY⟩; replace x0 := (hbY.cell (p := ⟨w.heap.size, 0, none⟩) s3).trans x0; replace x1 := (hbY.cell (p := ⟨w.heap.size, 1, none⟩) s3).trans x1; replace hA := belowTo hA hbY; have hop := (hI.reads (by rw [HTl.out]; have := HN.out; omega)).open (by rw [HTl.out]; exact HN.out.1); rw [HTl.out] at hop; obtain ⟨bb2, off2, c2, rfl, _, hq, hcs⟩ := hop; have HQ2 := Lib.hid (HQ.out bb2 off2 c2 (gz T) _ hA (hcs _ (Below.refl _ _)) hq); clear hbY s3 hI hq hcs)
        refine hK _ _ ?_
        clear hK K
        refine wpAny_ready (rs := [7]) (by kernel_rfl) (by simp) (AllReady.cons rfl (fun K hK => ?_) (AllReady.nil))
        go_simp
        refine hK _ _ ?_
        clear hK K
        refine wpAny_ready (rs := [8]) (by kernel_rfl) (by simp) (AllReady.cons rfl (fun K hK => ?_) (AllReady.nil))
        go_simp
        (refine Calls.mono HQ2.out ?_; rintro e w5 ⟨rfl, hb5⟩; replace hA := belowTo hA hb5; clear hb5)
        refine hK _ _ ?_
        clear hK K
        refine wpAny_seq 9 rfl (by kernel_rfl) ?_
        simp only [List.drop_succ_cons, List.drop_zero]
      rotate_left 1
      focus
        go_simp
        (refine Calls.mono (HV.out _ (by go_grown)) ?_; rintro e w3 ⟨rfl, hbX⟩; replace hbX := undrew hbX; replace x0 := (hbX.cell (p := ⟨w.heap.size, 0, none⟩) s0).trans x0; replace x1 := (hbX.cell (p := ⟨w.heap.size, 1, none⟩) s0).trans x1; replace hA := belowTo hA hbX; have s3 := Nat.lt_of_lt_of_le s0 hbX.size; clear hbX)
        refine hK _ _ ?_
        clear hK K
        refine wpAny_ready (rs := [1, 6]) (by kernel_rfl) (by simp) (AllReady.cons rfl (fun K hK => ?_) (AllReady.cons rfl (fun K hK => ?_) (AllReady.nil)))
        focus
          go_simp
          refine hK _ _ ?_
          clear hK K
          refine wpAny_ready (rs := [6]) (by kernel_rfl) (by simp) (AllReady.cons rfl (fun K hK => ?_) (AllReady.nil))
          go_simp
          (refine Calls.mono (HTr.out _ hA) ?_; rintro e w4 ⟨v4, rfl, hI, hbY⟩; replace x0 := (hbY.cell (p := ⟨w.heap.size, 0, none⟩) s3).trans x0; replace x1 := (hbY.cell (p := ⟨w.heap.size, 1, none⟩) s3).trans x1; replace hA := belowTo hA hbY; have hop := (hI.reads (by rw [HTl.out]; have := HN.out; omega)).open (by rw [HTl.out]; exact HN.out.1); rw [HTl.out] at hop; obtain ⟨bb2, off2, c2, rfl, _, hq, hcs⟩ := hop; have HQ2 := Lib.hid (HQ.out bb2 off2 c2 (gz T) _ hA (hcs _ (Below.refl _ _)) hq); clear hbY s3 hI hq hcs)
          refine hK _ _ ?_
          clear hK K
          refine wpAny_ready (rs := [7]) (by kernel_rfl) (by simp) (AllReady.cons rfl (fun K hK => ?_) (AllReady.nil))
          go_simp
          refine hK _ _ ?_
          clear hK K
          refine wpAny_ready (rs := [8]) (by kernel_rfl) (by simp) (AllReady.cons rfl (fun K hK => ?_) (AllReady.nil))
          go_simp
          (refine Calls.mono HQ2.out ?_; rintro e w5 ⟨rfl, hb5⟩; replace hA := belowTo hA hb5; clear hb5)
          refine hK _ _ ?_
          clear hK K
          refine wpAny_seq 9 rfl (by kernel_rfl) ?_
          simp only [List.drop_succ_cons, List.drop_zero]
        rotate_left 1
        focus
          go_simp
          (refine Calls.mono (HTr.out _ hA) ?_; rintro e w4 ⟨v4, rfl, hI, hbY⟩; replace x0 := (hbY.cell (p := ⟨w.heap.size, 0, none⟩) s3).trans x0; replace x1 := (hbY.cell (p := ⟨w.heap.size, 1, none⟩) s3).trans x1; replace hA := belowTo hA hbY; have hop := (hI.reads (by rw [HTl.out]; have := HN.out; omega)).open (by rw [HTl.out]; exact HN.out.1); rw [HTl.out] at hop; obtain ⟨bb2, off2, c2, rfl, _, hq, hcs⟩ := hop; have HQ2 := Lib.hid (HQ.out bb2 off2 c2 (gz T) _ hA (hcs _ (Below.refl _ _)) hq); clear hbY s3 hI hq hcs)
          refine hK _ _ ?_
          clear hK K
          refine wpAny_ready (rs := [1, 7]) (by kernel_rfl) (by simp) (AllReady.cons rfl (fun K hK => ?_) (AllReady.cons rfl (fun K hK => ?_) (AllReady.nil)))
          focus
            go_simp
            refine hK _ _ ?_
            clear hK K
            refine wpAny_ready (rs := [7]) (by kernel_rfl) (by simp) (AllReady.cons rfl (fun K hK => ?_) (AllReady.nil))
            go_simp
            refine hK _ _ ?_
            clear hK K
            refine wpAny_ready (rs := [8]) (by kernel_rfl) (by simp) (AllReady.cons rfl (fun K hK => ?_) (AllReady.nil))
            go_simp
            (refine Calls.mono HQ2.out ?_; rintro e w5 ⟨rfl, hb5⟩; replace hA := belowTo hA hb5; clear hb5)
            refine hK _ _ ?_
            clear hK K
            refine wpAny_seq 9 rfl (by kernel_rfl) ?_
            simp only [List.drop_succ_cons, List.drop_zero]
          rotate_left 1
          focus
            go_simp
            refine hK _ _ ?_
            clear hK K
            refine wpAny_ready (rs := [1]) (by kernel_rfl) (by simp) (AllReady.cons rfl (fun K hK => ?_) (AllReady.nil))
            go_simp
            refine hK _ _ ?_
            clear hK K
            refine wpAny_ready (rs := [8]) (by kernel_rfl) (by simp) (AllReady.cons rfl (fun K hK => ?_) (AllReady.nil))
            go_simp
            (refine Calls.mono HQ2.out ?_; rintro e w5 ⟨rfl, hb5⟩; replace hA := belowTo hA hb5; clear hb5)
            refine hK _ _ ?_
            clear hK K
            refine wpAny_seq 9 rfl (by kernel_rfl) ?_
            simp only [List.drop_succ_cons, List.drop_zero]
    rotate_left 4
    focus
      go_simp
      (refine Calls.mono (HV.out _ (by go_grown)) ?_; rintro e w3 ⟨rfl, hbX⟩; replace hbX := undrew hbX; replace x0 := (hbX.cell (p := ⟨w.heap.size, 0, none⟩) s0).trans x0; replace x1 := (hbX.cell (p := ⟨w.heap.size, 1, none⟩) s0).trans x1; replace hA := belowTo hA hbX; have s3 := Nat.lt_of_lt_of_le s0 hbX.size; clear hbX)
      refine hK _ _ ?_
      clear hK K
      refine wpAny_ready (rs := [1, 3]) (by kernel_rfl) (by simp) (AllReady.cons rfl (fun K hK => ?_) (AllReady.cons rfl (fun K hK => ?_) (AllReady.nil)))
      focus
        go_simp
        refine hK _ _ ?_
        clear hK K
        refine wpAny_ready (rs := [3]) (by kernel_rfl) (by simp) (AllReady.cons rfl (fun K hK => ?_) (AllReady.nil))
        go_simp
        refine hK _ _ ?_
        clear hK K
        refine wpAny_ready (rs := [6]) (by kernel_rfl) (by simp) (AllReady.cons rfl (fun K hK => ?_) (AllReady.nil))
        go_simp
        (refine Calls.mono (HTr.out _ hA) ?_; rintro e w4 ⟨v4, rfl, hI, hbY⟩; replace x0 := (hbY.cell (p := ⟨w.heap.size, 0, none⟩) s3).trans x0; replace x1 := (hbY.cell (p := ⟨w.heap.size, 1, none⟩) s3).trans x1; replace hA := belowTo hA hbY; have hop := (hI.reads (by rw [HTl.out]; have := HN.out; omega)).open (by rw [HTl.out]; exact HN.out.1); rw [HTl.out] at hop; obtain ⟨bb2, off2, c2, rfl, _, hq, hcs⟩ := hop; have HQ2 := Lib.hid (HQ.out bb2 off2 c2 (gz T) _ hA (hcs _ (Below.refl _ _)) hq); clear hbY s3 hI hq hcs)
        refine hK _ _ ?_
        clear hK K
        refine wpAny_ready (rs := [7]) (by kernel_rfl) (by simp) (AllReady.cons rfl (fun K hK => ?_) (AllReady.nil))
        go_simp
        refine hK _ _ ?_
        clear hK K
        refine wpAny_ready (rs := [8]) (by kernel_rfl) (by simp) (AllReady.cons rfl (fun K hK => ?_) (AllReady.nil))
        go_simp
        (refine Calls.mono HQ2.out ?_; rintro e w5 ⟨rfl, hb5⟩; replace hA := belowTo hA hb5; clear hb5)
        refine hK _ _ ?_
        clear hK K
        refine wpAny_seq 9 rfl (by kernel_rfl) ?_
        simp only [List.drop_succ_cons, List.drop_zero]
      rotate_left 1
      focus
        go_simp
        refine hK _ _ ?_
        clear hK K
        refine wpAny_ready (rs := [1, 6]) (by kernel_rfl) (by simp) (AllReady.cons rfl (fun K hK => ?_) (AllReady.cons rfl (fun K hK => ?_) (AllReady.nil)))
        focus
          go_simp
          refine hK _ _ ?_
          clear hK K
          refine wpAny_ready (rs := [6]) (by kernel_rfl) (by simp) (AllReady.cons rfl (fun K hK => ?_) (AllReady.nil))
          go_simp
          (refine Calls.mono (HTr.out _ hA) ?_; rintro e w4 ⟨v4, rfl, hI, hbY⟩; replace x0 := (hbY.cell (p := ⟨w.heap.size, 0, none⟩) s3).trans x0; replace x1 := (hbY.cell (p := ⟨w.heap.size, 1, none⟩) s3).trans x1; replace hA := belowTo hA hbY; have hop := (hI.reads (by rw [HTl.out]; have := HN.out; omega)).open (by rw [HTl.out]; exact HN.out.1); rw [HTl.out] at hop; obtain ⟨bb2, off2, c2, rfl, _, hq, hcs⟩ := hop; have HQ2 := Lib.hid (HQ.out bb2 off2 c2 (gz T) _ hA (hcs _ (Below.refl _ _)) hq); clear hbY s3 hI hq hcs)
          refine hK _ _ ?_
          clear hK K
          refine wpAny_ready (rs := [7]) (by kernel_rfl) (by simp) (AllReady.cons rfl (fun K hK => ?_) (AllReady.nil))
          go_simp
          refine hK _ _ ?_
          clear hK K
          refine wpAny_ready (rs := [8]) (by kernel_rfl) (by simp) (AllReady.cons rfl (fun K hK => ?_) (AllReady.nil))
          go_simp
          (refine Calls.mono HQ2.out ?_; rintro e w5 ⟨rfl, hb5⟩; replace hA := belowTo hA hb5; clear hb5)
          refine hK _ _ ?_
          clear hK K
          refine wpAny_seq 9 rfl (by kernel_rfl) ?_
          simp only [List.drop_succ_cons, List.drop_zero]
        rotate_left 1
        focus
          go_simp
          (refine Calls.mono (HTr.out _ hA) ?_; rintro e w4 ⟨v4, rfl, hI, hbY⟩; replace x0 := (hbY.cell (p := ⟨w.heap.size, 0, none⟩) s3).trans x0; replace x1 := (hbY.cell (p := ⟨w.heap.size, 1, none⟩) s3).trans x1; replace hA := belowTo hA hbY; have hop := (hI.reads (by rw [HTl.out]; have := HN.out; omega)).open (by rw [HTl.out]; exact HN.out.1); rw [HTl.out] at hop; obtain ⟨bb2, off2, c2, rfl, _, hq, hcs⟩ := hop; have HQ2 := Lib.hid (HQ.out bb2 off2 c2 (gz T) _ hA (hcs _ (Below.refl _ _)) hq); clear hbY s3 hI hq hcs)
          refine hK _ _ ?_
          clear hK K
          refine wpAny_ready (rs := [1, 7]) (by kernel_rfl) (by simp) (AllReady.cons rfl (fun K hK => ?_) (AllReady.cons rfl (fun K hK => ?_) (AllReady.nil)))
          focus
            go_simp
            refine hK _ _ ?_
            clear hK K
            refine wpAny_ready (rs := [7]) (by kernel_rfl) (by simp) (AllReady.cons rfl (fun K hK => ?_) (AllReady.nil))
            go_simp
            refine hK _ _ ?_
            clear hK K
            refine wpAny_ready (rs := [8]) (by kernel_rfl) (by simp) (AllReady.cons rfl (fun K hK => ?_) (AllReady.nil))
            go_simp
            (refine Calls.mono HQ2.out ?_; rintro e w5 ⟨rfl, hb5⟩; replace hA := belowTo hA hb5; clear hb5)
            refine hK _ _ ?_
            clear hK K
            refine wpAny_seq 9 rfl (by kernel_rfl) ?_
            simp only [List.drop_succ_cons, List.drop_zero]
          rotate_left 1
          focus
            go_simp
            refine hK _ _ ?_
            clear hK K
            refine wpAny_ready (rs := [1]) (by kernel_rfl) (by simp) (AllReady.cons rfl (fun K hK => ?_) (AllReady.nil))
            go_simp
            refine hK _ _ ?_
            clear hK K
            refine wpAny_ready (rs := [8]) (by kernel_rfl) (by simp) (AllReady.cons rfl (fun K hK => ?_) (AllReady.nil))
            go_simp
            (refine Calls.mono HQ2.out ?_; rintro e w5 ⟨rfl, hb5⟩; replace hA := belowTo hA hb5; clear hb5)
            refine hK _ _ ?_
            clear hK K
            refine wpAny_seq 9 rfl (by kernel_rfl) ?_
            simp only [List.drop_succ_cons, List.drop_zero]
  all_goals
    go_wp2
    go_returns
    exact ⟨rfl, hA⟩
set_option maxHeartbeats 8000000 in
theorem divisorEquivalent_any (v : Value) (l : List V2) (u1 : Value) (a : List Int) (u2 : Value) (b : List Int) (w : World) (hl : ReadsVecs w v l) (h1 : ReadsInts w u1 a) (h2 : ReadsInts w u2 b) (hg : EtOk w) :
    Calls Tryd.prog 43 #[v, u1, u2] w fun e w' => e = .returned (.bool (eqvDB l a b)) ∧ Below w.heap.size w w' := by
  have HO := Lib.hid (divisorsOf_any v u1 u2 l a b w hl h1 h2 hg)
  have HS := Lib.hid (fun g w' (hb : Below w.heap.size w w') (hk : (divB l a && divB l b) = true) => by
    rw [Bool.and_eq_true] at hk
    have := div_len hk.1
    have e1 := (div_in hk.1).2.1
    have e2 := (div_in hk.2).2.1
    exact divMinus_any g g u1 u2 a b w' (h1.below hb) (h2.below hb) (by omega) (by omega) (by omega) (bnd_big (div_bnd hk.1) (by omega)) (bnd_big (div_bnd hk.2) (by omega)))
  have HT := Lib.hid (fun base g (ns : List Node) v' b' w' (hF : FanAt w' base g ns) (hn : rays ns = l) (hI : Ints w' b' v' (sumL a (-1) b)) (hk : (divB l a && divB l b) = true) => by
    rw [Bool.and_eq_true] at hk
    have h3 := div_len hk.1
    have h4 := (div_in hk.1).2.1
    have h6 := (div_in hk.2).2.1
    have h5 : ns.length = l.length := by rw [← hn, rays_len]
    have hA := div_bnd hk.1
    have hB := div_bnd hk.2
    have hS : bnd 200 (sumL a (-1) b) := fun j => by
      by_cases hj : j < a.length
      · rw [gz_sumL hj]
        have := hA j
        have := hB j
        omega
      · rw [gz_out (by rw [sumL_len]; omega)]
        omega
    have h := isTrivial_any base g ns v' (sumL a (-1) b) w' hF (by omega) (by rw [hn]; exact (div_smooth hk.1).1) (hI.reads (by rw [sumL_len]; omega)) (by rw [sumL_len]; omega) (by rw [sumL_len]; omega) hS
    rw [hn] at h
    exact h)
  have HD : (divB l a && divB l b) = true → eqvDB l a b = trivB l (sumL a (-1) b) := fun hk => by
    rw [Bool.and_eq_true] at hk
    unfold eqvDB
    rw [hk.1, hk.2]
    rfl
  have HF : (divB l a && divB l b) = false → eqvDB l a b = false := fun hk => by
    unfold eqvDB
    rw [← Bool.and_assoc, hk]
    rfl
  obtain ⟨p1, q1, rfl, _⟩ := h1.len
  obtain ⟨p2, q2, rfl, _⟩ := h2.len
  clear hl h1 h2
  cases hk : (divB l a && divB l b)
  · rw [HF hk]
    rw [hk] at HO
    clear HF HD HT HS hk
    go_enter Tryd.func43, Tryd.ntmps43
    go_wp2_with fail
    refine Calls.mono HO.out ?_
    rintro e w1 ⟨⟨h, _⟩ | ⟨_, p, a', n', c', rfl⟩, hb1⟩
    · cases h
    have hs1 := hb1.size
    go_wp2
    go_returns
    exact ⟨rfl, by go_grown⟩
  · rw [HD hk]
    rw [hk] at HO
    have HS2 := Lib.hid (fun g w' hb => HS.out g w' hb hk)
    have HT2 := Lib.hid (fun base g ns v' b' w' hF hn hI => HT.out base g ns v' b' w' hF hn hI hk)
    clear HF HD HS HT hk
    generalize sumL a (-1) b = S at *
    generalize trivB l S = K at *
    go_enter Tryd.func43, Tryd.ntmps43
    go_wp2_with fail
    refine Calls.mono HO.out ?_
    rintro e w1 ⟨⟨_, g, ns, rfl, hF, hn⟩ | ⟨h, _⟩, hb1⟩
    case inr => cases h
    have HT3 := Lib.hid (fun v' b' w2 (h : Below w1.heap.size w1 w2) hI => HT2.out _ g ns v' b' w2 (hF.below h) hn hI)
    have hs1 := hb1.size
    clear hF hn HT2
    go_wp2_with fail
    refine Calls.mono (HS2.out g _ (belowTo hb1 (by go_grown))) ?_
    rintro e w2 ⟨v2, rfl, hI, hb2⟩
    have hA2 : Below w1.heap.size w1 w2 := belowTo (by go_grown) hb2
    have hB2 := belowTo hb1 hA2
    have HI2 := Lib.hid hI
    clear hI hb2
    go_wp2_with fail
    refine Calls.mono (HT3.out v2 _ _ hA2 HI2.out) ?_
    rintro e w3 ⟨rfl, hb3⟩
    have hB3 := belowTo hB2 hb3
    clear hb3 hA2 hB2
    go_wp2
    go_returns
    exact ⟨rfl, hB3⟩
end Go.Proofs.YtcieihbknfeddabDoor
