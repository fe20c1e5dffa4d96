/- Divisors made plain: the program. -/
import Derived.Test.YtcieihbknfeddabGreatDoorQ3
import Derived.Test.YtcieihbknfeddabGreatDoorJb
namespace Go.Proofs.YtcieihbknfeddabGreatDoor
open Go.RowKit

set_option maxRecDepth 100000 in
set_option maxHeartbeats 16000000 in
theorem plain_any (base g : Nat) (ns : List Node) (u : Value) (d : List Int) (w : World) (hF : FanAt w base g ns) (hm : ns.length ≤ 1000) (hv : allVec (rays ns)) (hu : ReadsInts w u d) (hl : d.length = ns.length) (h2 : 2 ≤ d.length) (hb : bnd 200 d) :
    Calls Tryz.prog 26 #[.agg #[.pointer (some ⟨g, 0, none⟩), u]] w (GivesDiv w g (plainL (rays ns) d)) := by
  have hvb := vec_bnd hv hb
  have HV := Lib.hid (fun w' (hb' : Below w.heap.size w w') => vectorAt0_any base g ns u d w' (hF.below hb') hm hv (hu.below hb') hl (by omega) hb)
  have HTr := Lib.hid (fun w' (hb' : Below w.heap.size w w') => trivial_any base g ns (vecZ (rays ns) d).1 (vecZ (rays ns) d).2 w' (hF.below hb') hm hv hvb)
  have HM := Lib.hid (fun v' b' w' (hb' : Below w.heap.size w w') (hI : Ints w' b' v' (trivL (rays ns) (vecZ (rays ns) d))) => divMinus_any g g u v' d (trivL (rays ns) (vecZ (rays ns) d)) w' (hu.below hb') (hI.reads (by rw [trivL_len, rays_len]; omega)) (by omega) (by omega) (by rw [trivL_len, rays_len]; omega) (bnd_big hb (by omega)) (bnd_mono (triv_bnd hv hvb) (by omega)))
  have HDl : Hid ((plainL (rays ns) d).length ≤ 1000) := by show _ ≤ _; rw [plain_len]; omega
  unfold plainL at HDl ⊢
  obtain ⟨p1, q1, rfl, _⟩ := hu.len
  clear hF hv hu hl h2 hb hvb hm
  generalize sumL d (-1) (trivL (rays ns) (vecZ (rays ns) d)) = R at *
  generalize (vecZ (rays ns) d) = V at *
  obtain ⟨x, y⟩ := V
  generalize trivL (rays ns) (x, y) = T at *
  generalize d.length = n at *
  dsimp only at HV HTr
  go_enter Tryz.func26, Tryz.ntmps26
  go_wp2
  have hA : Below w.heap.size w ((w.alloc (.cells #[.pointer (some ⟨g, 0, none⟩), .slice p1 n q1] 47)).alloc (.cells #[.pointer none, .slice none 0 0] 47)) := by go_grown
  have x0 : ((w.alloc (.cells #[.pointer (some ⟨g, 0, none⟩), .slice p1 n q1] 47)).alloc (.cells #[.pointer none, .slice none 0 0] 47)).cell? ⟨w.heap.size, 0, none⟩ = some (.pointer (some ⟨g, 0, none⟩)) := by first | (go_cell; done) | (go_simp; done) | (simp; done)
  have x1 : ((w.alloc (.cells #[.pointer (some ⟨g, 0, none⟩), .slice p1 n q1] 47)).alloc (.cells #[.pointer none, .slice none 0 0] 47)).cell? ⟨w.heap.size, 1, none⟩ = some (.slice p1 n q1) := by first | (go_cell; done) | (go_simp; done) | (simp; done)
  have r0 : ((w.alloc (.cells #[.pointer (some ⟨g, 0, none⟩), .slice p1 n q1] 47)).alloc (.cells #[.pointer none, .slice none 0 0] 47)).cell? ⟨w.heap.size + 1, 0, none⟩ = some (.pointer none) := by first | (go_cell; done) | (go_simp; done) | (simp; done)
  have r1 : ((w.alloc (.cells #[.pointer (some ⟨g, 0, none⟩), .slice p1 n q1] 47)).alloc (.cells #[.pointer none, .slice none 0 0] 47)).cell? ⟨w.heap.size + 1, 1, none⟩ = some (.slice none 0 0) := by first | (go_cell; done) | (go_simp; done) | (simp; done)
  have f0 : ((w.alloc (.cells #[.pointer (some ⟨g, 0, none⟩), .slice p1 n q1] 47)).alloc (.cells #[.pointer none, .slice none 0 0] 47)).frozen? ⟨w.heap.size + 1, 0, none⟩ = false := by first | (go_cell; done) | (go_simp; done) | (simp; done)
  have f1 : ((w.alloc (.cells #[.pointer (some ⟨g, 0, none⟩), .slice p1 n q1] 47)).alloc (.cells #[.pointer none, .slice none 0 0] 47)).frozen? ⟨w.heap.size + 1, 1, none⟩ = false := by first | (go_cell; done) | (go_simp; done) | (simp; done)
  have hz : ((w.alloc (.cells #[.pointer (some ⟨g, 0, none⟩), .slice p1 n q1] 47)).alloc (.cells #[.pointer none, .slice none 0 0] 47)).heap.size = w.heap.size + 1 + 1 := by simp
  generalize ((w.alloc (.cells #[.pointer (some ⟨g, 0, none⟩), .slice p1 n q1] 47)).alloc (.cells #[.pointer none, .slice none 0 0] 47)) = W2 at *
  have HZ := Lib.hid hz
  clear hz
  have s0 := cell_lt x0
  have sr := cell_lt r0
  have hA0 := hA
  refine wp_region_any (by kernel_rfl) ?_
  try (change wpAny _ _ _ _ _ _ _ (World.drew _))
  refine wpAny_take (i := 1) (v := ?_) rfl (by kernel_rfl) (by kernel_rfl) (by kernel_rfl) (fun _ _ _ h => h) (Or.inl ⟨by rfl, ?_⟩) ?_
  rotate_left
  focus (intro w0; go_simp; try with_reducible rfl)
  refine wpAny_ready (rs := [0, 2, 3]) (by kernel_rfl) (by simp) (AllReady.cons rfl (fun K hK => ?_) (AllReady.cons rfl (fun K hK => ?_) (AllReady.cons rfl (fun K hK => ?_) (AllReady.nil))))
  focus
    go_simp
    refine hK _ _ ?_
    clear hK K
    refine wpAny_ready (rs := [2, 3]) (by kernel_rfl) (by simp) (AllReady.cons rfl (fun K hK => ?_) (AllReady.cons rfl (fun K hK => ?_) (AllReady.nil)))
    focus
      go_simp
      refine hK _ _ ?_
      clear hK K
      refine wpAny_ready (rs := [3]) (by kernel_rfl) (by simp) (AllReady.cons rfl (fun K hK => ?_) (AllReady.nil))
      go_simp
      refine hK _ _ ?_
      clear hK K
      refine wpAny_ready (rs := [4]) (by kernel_rfl) (by simp) (AllReady.cons rfl (fun K hK => ?_) (AllReady.nil))
      go_simp
      (refine Calls.mono (HV.out _ (by go_grown)) ?_; rintro e w3 ⟨rfl, hbX⟩; replace hbX := undrew hbX; replace x0 := (hbX.cell (p := ⟨w.heap.size, 0, none⟩) s0).trans x0; replace x1 := (hbX.cell (p := ⟨w.heap.size, 1, none⟩) s0).trans x1; replace r0 := (hbX.cell (p := ⟨w.heap.size + 1, 0, none⟩) sr).trans r0; replace r1 := (hbX.cell (p := ⟨w.heap.size + 1, 1, none⟩) sr).trans r1; replace f0 := (hbX.frozen (p := ⟨w.heap.size + 1, 0, none⟩) sr).trans f0; replace f1 := (hbX.frozen (p := ⟨w.heap.size + 1, 1, none⟩) sr).trans f1; replace hA := belowTo hA hbX; have s3 := Nat.lt_of_lt_of_le s0 hbX.size; have sr3 := Nat.lt_of_lt_of_le sr hbX.size; have hs3 := hbX.size; clear hbX)
      refine hK _ _ ?_
      clear hK K
      refine wpAny_ready (rs := [5]) (by kernel_rfl) (by simp) (AllReady.cons rfl (fun K hK => ?_) (AllReady.nil))
      go_simp
      (refine Calls.mono (HTr.out _ hA) ?_; rintro e w4 ⟨v4, rfl, hI, hbY⟩; replace x0 := (hbY.cell (p := ⟨w.heap.size, 0, none⟩) s3).trans x0; replace x1 := (hbY.cell (p := ⟨w.heap.size, 1, none⟩) s3).trans x1; replace r0 := (hbY.cell (p := ⟨w.heap.size + 1, 0, none⟩) sr3).trans r0; replace r1 := (hbY.cell (p := ⟨w.heap.size + 1, 1, none⟩) sr3).trans r1; replace f0 := (hbY.frozen (p := ⟨w.heap.size + 1, 0, none⟩) sr3).trans f0; replace f1 := (hbY.frozen (p := ⟨w.heap.size + 1, 1, none⟩) sr3).trans f1; replace hA := belowTo hA hbY; have sr4 := Nat.lt_of_lt_of_le sr3 hbY.size; have hs4 := Nat.le_trans hs3 hbY.size; clear hbY s3 sr3 hs3)
      refine hK _ _ ?_
      clear hK K
      refine wpAny_ready (rs := [6]) (by kernel_rfl) (by simp) (AllReady.cons rfl (fun K hK => ?_) (AllReady.nil))
      go_simp
      (refine Calls.mono (HM.out _ _ _ hA hI) ?_; rintro e w5 ⟨v5, rfl, hI5, hb5⟩; replace r0 := (hb5.cell (p := ⟨w.heap.size + 1, 0, none⟩) sr4).trans r0; replace r1 := (hb5.cell (p := ⟨w.heap.size + 1, 1, none⟩) sr4).trans r1; replace f0 := (hb5.frozen (p := ⟨w.heap.size + 1, 0, none⟩) sr4).trans f0; replace f1 := (hb5.frozen (p := ⟨w.heap.size + 1, 1, none⟩) sr4).trans f1; replace hA := belowTo hA hb5; have HI5 := Lib.hid (hI5.lower (base' := W2.heap.size) hs4); clear hb5 hI5)
      refine hK _ _ ?_
      clear hK K
      refine wpAny_seq 7 rfl (by kernel_rfl) ?_
      simp only [List.drop_succ_cons, List.drop_zero]
    rotate_left 1
    focus
      go_simp
      refine hK _ _ ?_
      clear hK K
      refine wpAny_ready (rs := [2, 4]) (by kernel_rfl) (by simp) (AllReady.cons rfl (fun K hK => ?_) (AllReady.cons rfl (fun K hK => ?_) (AllReady.nil)))
      focus
        go_simp
        refine hK _ _ ?_
        clear hK K
        refine wpAny_ready (rs := [4]) (by kernel_rfl) (by simp) (AllReady.cons rfl (fun K hK => ?_) (AllReady.nil))
        go_simp
        (refine Calls.mono (HV.out _ (by go_grown)) ?_; rintro e w3 ⟨rfl, hbX⟩; replace hbX := undrew hbX; replace x0 := (hbX.cell (p := ⟨w.heap.size, 0, none⟩) s0).trans x0; replace x1 := (hbX.cell (p := ⟨w.heap.size, 1, none⟩) s0).trans x1; replace r0 := (hbX.cell (p := ⟨w.heap.size + 1, 0, none⟩) sr).trans r0; replace r1 := (hbX.cell (p := ⟨w.heap.size + 1, 1, none⟩) sr).trans r1; replace f0 := (hbX.frozen (p := ⟨w.heap.size + 1, 0, none⟩) sr).trans f0; replace f1 := (hbX.frozen (p := ⟨w.heap.size + 1, 1, none⟩) sr).trans f1; replace hA := belowTo hA hbX; have s3 := Nat.lt_of_lt_of_le s0 hbX.size; have sr3 := Nat.lt_of_lt_of_le sr hbX.size; have hs3 := hbX.size; clear hbX)
        refine hK _ _ ?_
        clear hK K
        refine wpAny_ready (rs := [5]) (by kernel_rfl) (by simp) (AllReady.cons rfl (fun K hK => ?_) (AllReady.nil))
        go_simp
        (refine Calls.mono (HTr.out _ hA) ?_; rintro e w4 ⟨v4, rfl, hI, hbY⟩; replace x0 := (hbY.cell (p := ⟨w.heap.size, 0, none⟩) s3).trans x0; replace x1 := (hbY.cell (p := ⟨w.heap.size, 1, none⟩) s3).trans x1; replace r0 := (hbY.cell (p := ⟨w.heap.size + 1, 0, none⟩) sr3).trans r0; replace r1 := (hbY.cell (p := ⟨w.heap.size + 1, 1, none⟩) sr3).trans r1; replace f0 := (hbY.frozen (p := ⟨w.heap.size + 1, 0, none⟩) sr3).trans f0; replace f1 := (hbY.frozen (p := ⟨w.heap.size + 1, 1, none⟩) sr3).trans f1; replace hA := belowTo hA hbY; have sr4 := Nat.lt_of_lt_of_le sr3 hbY.size; have hs4 := Nat.le_trans hs3 hbY.size; clear hbY s3 sr3 hs3)
        refine hK _ _ ?_
        clear hK K
        refine wpAny_ready (rs := [6]) (by kernel_rfl) (by simp) (AllReady.cons rfl (fun K hK => ?_) (AllReady.nil))
        go_simp
        (refine Calls.mono (HM.out _ _ _ hA hI) ?_; rintro e w5 ⟨v5, rfl, hI5, hb5⟩; replace r0 := (hb5.cell (p := ⟨w.heap.size + 1, 0, none⟩) sr4).trans r0; replace r1 := (hb5.cell (p := ⟨w.heap.size + 1, 1, none⟩) sr4).trans r1; replace f0 := (hb5.frozen (p := ⟨w.heap.size + 1, 0, none⟩) sr4).trans f0; replace f1 := (hb5.frozen (p := ⟨w.heap.size + 1, 1, none⟩) sr4).trans f1; replace hA := belowTo hA hb5; have HI5 := Lib.hid (hI5.lower (base' := W2.heap.size) hs4); clear hb5 hI5)
        refine hK _ _ ?_
        clear hK K
        refine wpAny_seq 7 rfl (by kernel_rfl) ?_
        simp only [List.drop_succ_cons, List.drop_zero]
      rotate_left 1
      focus
        go_simp
        (refine Calls.mono (HV.out _ (by go_grown)) ?_; rintro e w3 ⟨rfl, hbX⟩; replace hbX := undrew hbX; replace x0 := (hbX.cell (p := ⟨w.heap.size, 0, none⟩) s0).trans x0; replace x1 := (hbX.cell (p := ⟨w.heap.size, 1, none⟩) s0).trans x1; replace r0 := (hbX.cell (p := ⟨w.heap.size + 1, 0, none⟩) sr).trans r0; replace r1 := (hbX.cell (p := ⟨w.heap.size + 1, 1, none⟩) sr).trans r1; replace f0 := (hbX.frozen (p := ⟨w.heap.size + 1, 0, none⟩) sr).trans f0; replace f1 := (hbX.frozen (p := ⟨w.heap.size + 1, 1, none⟩) sr).trans f1; replace hA := belowTo hA hbX; have s3 := Nat.lt_of_lt_of_le s0 hbX.size; have sr3 := Nat.lt_of_lt_of_le sr hbX.size; have hs3 := hbX.size; clear hbX)
        refine hK _ _ ?_
        clear hK K
        refine wpAny_ready (rs := [2]) (by kernel_rfl) (by simp) (AllReady.cons rfl (fun K hK => ?_) (AllReady.nil))
        go_simp
        refine hK _ _ ?_
        clear hK K
        refine wpAny_ready (rs := [5]) (by kernel_rfl) (by simp) (AllReady.cons rfl (fun K hK => ?_) (AllReady.nil))
        go_simp
        (refine Calls.mono (HTr.out _ hA) ?_; rintro e w4 ⟨v4, rfl, hI, hbY⟩; replace x0 := (hbY.cell (p := ⟨w.heap.size, 0, none⟩) s3).trans x0; replace x1 := (hbY.cell (p := ⟨w.heap.size, 1, none⟩) s3).trans x1; replace r0 := (hbY.cell (p := ⟨w.heap.size + 1, 0, none⟩) sr3).trans r0; replace r1 := (hbY.cell (p := ⟨w.heap.size + 1, 1, none⟩) sr3).trans r1; replace f0 := (hbY.frozen (p := ⟨w.heap.size + 1, 0, none⟩) sr3).trans f0; replace f1 := (hbY.frozen (p := ⟨w.heap.size + 1, 1, none⟩) sr3).trans f1; replace hA := belowTo hA hbY; have sr4 := Nat.lt_of_lt_of_le sr3 hbY.size; have hs4 := Nat.le_trans hs3 hbY.size; clear hbY s3 sr3 hs3)
        refine hK _ _ ?_
        clear hK K
        refine wpAny_ready (rs := [6]) (by kernel_rfl) (by simp) (AllReady.cons rfl (fun K hK => ?_) (AllReady.nil))
        go_simp
        (refine Calls.mono (HM.out _ _ _ hA hI) ?_; rintro e w5 ⟨v5, rfl, hI5, hb5⟩; replace r0 := (hb5.cell (p := ⟨w.heap.size + 1, 0, none⟩) sr4).trans r0; replace r1 := (hb5.cell (p := ⟨w.heap.size + 1, 1, none⟩) sr4).trans r1; replace f0 := (hb5.frozen (p := ⟨w.heap.size + 1, 0, none⟩) sr4).trans f0; replace f1 := (hb5.frozen (p := ⟨w.heap.size + 1, 1, none⟩) sr4).trans f1; replace hA := belowTo hA hb5; have HI5 := Lib.hid (hI5.lower (base' := W2.heap.size) hs4); clear hb5 hI5)
        refine hK _ _ ?_
        clear hK K
        refine wpAny_seq 7 rfl (by kernel_rfl) ?_
        simp only [List.drop_succ_cons, List.drop_zero]
  rotate_left 3
  focus
    go_simp
    refine hK _ _ ?_
    clear hK K
    refine wpAny_ready (rs := [0, 3]) (by kernel_rfl) (by simp) (AllReady.cons rfl (fun K hK => ?_) (AllReady.cons rfl (fun K hK => ?_) (AllReady.nil)))
    focus
      go_simp
      refine hK _ _ ?_
      clear hK K
      refine wpAny_ready (rs := [3]) (by kernel_rfl) (by simp) (AllReady.cons rfl (fun K hK => ?_) (AllReady.nil))
      go_simp
      refine hK _ _ ?_
      clear hK K
      refine wpAny_ready (rs := [4]) (by kernel_rfl) (by simp) (AllReady.cons rfl (fun K hK => ?_) (AllReady.nil))
      go_simp
      (refine Calls.mono (HV.out _ (by go_grown)) ?_; rintro e w3 ⟨rfl, hbX⟩; replace hbX := undrew hbX; replace x0 := (hbX.cell (p := ⟨w.heap.size, 0, none⟩) s0).trans x0; replace x1 := (hbX.cell (p := ⟨w.heap.size, 1, none⟩) s0).trans x1; replace r0 := (hbX.cell (p := ⟨w.heap.size + 1, 0, none⟩) sr).trans r0; replace r1 := (hbX.cell (p := ⟨w.heap.size + 1, 1, none⟩) sr).trans r1; replace f0 := (hbX.frozen (p := ⟨w.heap.size + 1, 0, none⟩) sr).trans f0; replace f1 := (hbX.frozen (p := ⟨w.heap.size + 1, 1, none⟩) sr).trans f1; replace hA := belowTo hA hbX; have s3 := Nat.lt_of_lt_of_le s0 hbX.size; have sr3 := Nat.lt_of_lt_of_le sr hbX.size; have hs3 := hbX.size; clear hbX)
      refine hK _ _ ?_
      clear hK K
      refine wpAny_ready (rs := [5]) (by kernel_rfl) (by simp) (AllReady.cons rfl (fun K hK => ?_) (AllReady.nil))
      go_simp
      (refine Calls.mono (HTr.out _ hA) ?_; rintro e w4 ⟨v4, rfl, hI, hbY⟩; replace x0 := (hbY.cell (p := ⟨w.heap.size, 0, none⟩) s3).trans x0; replace x1 := (hbY.cell (p := ⟨w.heap.size, 1, none⟩) s3).trans x1; replace r0 := (hbY.cell (p := ⟨w.heap.size + 1, 0, none⟩) sr3).trans r0; replace r1 := (hbY.cell (p := ⟨w.heap.size + 1, 1, none⟩) sr3).trans r1; replace f0 := (hbY.frozen (p := ⟨w.heap.size + 1, 0, none⟩) sr3).trans f0; replace f1 := (hbY.frozen (p := ⟨w.heap.size + 1, 1, none⟩) sr3).trans f1; replace hA := belowTo hA hbY; have sr4 := Nat.lt_of_lt_of_le sr3 hbY.size; have hs4 := Nat.le_trans hs3 hbY.size; clear hbY s3 sr3 hs3)
      refine hK _ _ ?_
      clear hK K
      refine wpAny_ready (rs := [6]) (by kernel_rfl) (by simp) (AllReady.cons rfl (fun K hK => ?_) (AllReady.nil))
      go_simp
      (refine Calls.mono (HM.out _ _ _ hA hI) ?_; rintro e w5 ⟨v5, rfl, hI5, hb5⟩; replace r0 := (hb5.cell (p := ⟨w.heap.size + 1, 0, none⟩) sr4).trans r0; replace r1 := (hb5.cell (p := ⟨w.heap.size + 1, 1, none⟩) sr4).trans r1; replace f0 := (hb5.frozen (p := ⟨w.heap.size + 1, 0, none⟩) sr4).trans f0; replace f1 := (hb5.frozen (p := ⟨w.heap.size + 1, 1, none⟩) sr4).trans f1; replace hA := belowTo hA hb5; have HI5 := Lib.hid (hI5.lower (base' := W2.heap.size) hs4); clear hb5 hI5)
      refine hK _ _ ?_
      clear hK K
      refine wpAny_seq 7 rfl (by kernel_rfl) ?_
      simp only [List.drop_succ_cons, List.drop_zero]
    rotate_left 1
    focus
      go_simp
      refine hK _ _ ?_
      clear hK K
      refine wpAny_ready (rs := [0, 4]) (by kernel_rfl) (by simp) (AllReady.cons rfl (fun K hK => ?_) (AllReady.cons rfl (fun K hK => ?_) (AllReady.nil)))
      focus
        go_simp
        refine hK _ _ ?_
        clear hK K
        refine wpAny_ready (rs := [4]) (by kernel_rfl) (by simp) (AllReady.cons rfl (fun K hK => ?_) (AllReady.nil))
        go_simp
        (refine Calls.mono (HV.out _ (by go_grown)) ?_; rintro e w3 ⟨rfl, hbX⟩; replace hbX := undrew hbX; replace x0 := (hbX.cell (p := ⟨w.heap.size, 0, none⟩) s0).trans x0; replace x1 := (hbX.cell (p := ⟨w.heap.size, 1, none⟩) s0).trans x1; replace r0 := (hbX.cell (p := ⟨w.heap.size + 1, 0, none⟩) sr).trans r0; replace r1 := (hbX.cell (p := ⟨w.heap.size + 1, 1, none⟩) sr).trans r1; replace f0 := (hbX.frozen (p := ⟨w.heap.size + 1, 0, none⟩) sr).trans f0; replace f1 := (hbX.frozen (p := ⟨w.heap.size + 1, 1, none⟩) sr).trans f1; replace hA := belowTo hA hbX; have s3 := Nat.lt_of_lt_of_le s0 hbX.size; have sr3 := Nat.lt_of_lt_of_le sr hbX.size; have hs3 := hbX.size; clear hbX)
        refine hK _ _ ?_
        clear hK K
        refine wpAny_ready (rs := [5]) (by kernel_rfl) (by simp) (AllReady.cons rfl (fun K hK => ?_) (AllReady.nil))
        go_simp
        (refine Calls.mono (HTr.out _ hA) ?_; rintro e w4 ⟨v4, rfl, hI, hbY⟩; replace x0 := (hbY.cell (p := ⟨w.heap.size, 0, none⟩) s3).trans x0; replace x1 := (hbY.cell (p := ⟨w.heap.size, 1, none⟩) s3).trans x1; replace r0 := (hbY.cell (p := ⟨w.heap.size + 1, 0, none⟩) sr3).trans r0; replace r1 := (hbY.cell (p := ⟨w.heap.size + 1, 1, none⟩) sr3).trans r1; replace f0 := (hbY.frozen (p := ⟨w.heap.size + 1, 0, none⟩) sr3).trans f0; replace f1 := (hbY.frozen (p := ⟨w.heap.size + 1, 1, none⟩) sr3).trans f1; replace hA := belowTo hA hbY; have sr4 := Nat.lt_of_lt_of_le sr3 hbY.size; have hs4 := Nat.le_trans hs3 hbY.size; clear hbY s3 sr3 hs3)
        refine hK _ _ ?_
        clear hK K
        refine wpAny_ready (rs := [6]) (by kernel_rfl) (by simp) (AllReady.cons rfl (fun K hK => ?_) (AllReady.nil))
        go_simp
        (refine Calls.mono (HM.out _ _ _ hA hI) ?_; rintro e w5 ⟨v5, rfl, hI5, hb5⟩; replace r0 := (hb5.cell (p := ⟨w.heap.size + 1, 0, none⟩) sr4).trans r0; replace r1 := (hb5.cell (p := ⟨w.heap.size + 1, 1, none⟩) sr4).trans r1; replace f0 := (hb5.frozen (p := ⟨w.heap.size + 1, 0, none⟩) sr4).trans f0; replace f1 := (hb5.frozen (p := ⟨w.heap.size + 1, 1, none⟩) sr4).trans f1; replace hA := belowTo hA hb5; have HI5 := Lib.hid (hI5.lower (base' := W2.heap.size) hs4); clear hb5 hI5)
        refine hK _ _ ?_
        clear hK K
        refine wpAny_seq 7 rfl (by kernel_rfl) ?_
        simp only [List.drop_succ_cons, List.drop_zero]
      rotate_left 1
      focus
        go_simp
        (refine Calls.mono (HV.out _ (by go_grown)) ?_; rintro e w3 ⟨rfl, hbX⟩; replace hbX := undrew hbX; replace x0 := (hbX.cell (p := ⟨w.heap.size, 0, none⟩) s0).trans x0; replace x1 := (hbX.cell (p := ⟨w.heap.size, 1, none⟩) s0).trans x1; replace r0 := (hbX.cell (p := ⟨w.heap.size + 1, 0, none⟩) sr).trans r0; replace r1 := (hbX.cell (p := ⟨w.heap.size + 1, 1, none⟩) sr).trans r1; replace f0 := (hbX.frozen (p := ⟨w.heap.size + 1, 0, none⟩) sr).trans f0; replace f1 := (hbX.frozen (p := ⟨w.heap.size + 1, 1, none⟩) sr).trans f1; replace hA := belowTo hA hbX; have s3 := Nat.lt_of_lt_of_le s0 hbX.size; have sr3 := Nat.lt_of_lt_of_le sr hbX.size; have hs3 := hbX.size; clear hbX)
        refine hK _ _ ?_
        clear hK K
        refine wpAny_ready (rs := [0, 5]) (by kernel_rfl) (by simp) (AllReady.cons rfl (fun K hK => ?_) (AllReady.cons rfl (fun K hK => ?_) (AllReady.nil)))
        focus
          go_simp
          refine hK _ _ ?_
          clear hK K
          refine wpAny_ready (rs := [5]) (by kernel_rfl) (by simp) (AllReady.cons rfl (fun K hK => ?_) (AllReady.nil))
          go_simp
          (refine Calls.mono (HTr.out _ hA) ?_; rintro e w4 ⟨v4, rfl, hI, hbY⟩; replace x0 := (hbY.cell (p := ⟨w.heap.size, 0, none⟩) s3).trans x0; replace x1 := (hbY.cell (p := ⟨w.heap.size, 1, none⟩) s3).trans x1; replace r0 := (hbY.cell (p := ⟨w.heap.size + 1, 0, none⟩) sr3).trans r0; replace r1 := (hbY.cell (p := ⟨w.heap.size + 1, 1, none⟩) sr3).trans r1; replace f0 := (hbY.frozen (p := ⟨w.heap.size + 1, 0, none⟩) sr3).trans f0; replace f1 := (hbY.frozen (p := ⟨w.heap.size + 1, 1, none⟩) sr3).trans f1; replace hA := belowTo hA hbY; have sr4 := Nat.lt_of_lt_of_le sr3 hbY.size; have hs4 := Nat.le_trans hs3 hbY.size; clear hbY s3 sr3 hs3)
          refine hK _ _ ?_
          clear hK K
          refine wpAny_ready (rs := [6]) (by kernel_rfl) (by simp) (AllReady.cons rfl (fun K hK => ?_) (AllReady.nil))
          go_simp
          (refine Calls.mono (HM.out _ _ _ hA hI) ?_; rintro e w5 ⟨v5, rfl, hI5, hb5⟩; replace r0 := (hb5.cell (p := ⟨w.heap.size + 1, 0, none⟩) sr4).trans r0; replace r1 := (hb5.cell (p := ⟨w.heap.size + 1, 1, none⟩) sr4).trans r1; replace f0 := (hb5.frozen (p := ⟨w.heap.size + 1, 0, none⟩) sr4).trans f0; replace f1 := (hb5.frozen (p := ⟨w.heap.size + 1, 1, none⟩) sr4).trans f1; replace hA := belowTo hA hb5; have HI5 := Lib.hid (hI5.lower (base' := W2.heap.size) hs4); clear hb5 hI5)
          refine hK _ _ ?_
          clear hK K
          refine wpAny_seq 7 rfl (by kernel_rfl) ?_
          simp only [List.drop_succ_cons, List.drop_zero]
        rotate_left 1
        focus
          go_simp
          (refine Calls.mono (HTr.out _ hA) ?_; rintro e w4 ⟨v4, rfl, hI, hbY⟩; replace x0 := (hbY.cell (p := ⟨w.heap.size, 0, none⟩) s3).trans x0; replace x1 := (hbY.cell (p := ⟨w.heap.size, 1, none⟩) s3).trans x1; replace r0 := (hbY.cell (p := ⟨w.heap.size + 1, 0, none⟩) sr3).trans r0; replace r1 := (hbY.cell (p := ⟨w.heap.size + 1, 1, none⟩) sr3).trans r1; replace f0 := (hbY.frozen (p := ⟨w.heap.size + 1, 0, none⟩) sr3).trans f0; replace f1 := (hbY.frozen (p := ⟨w.heap.size + 1, 1, none⟩) sr3).trans f1; replace hA := belowTo hA hbY; have sr4 := Nat.lt_of_lt_of_le sr3 hbY.size; have hs4 := Nat.le_trans hs3 hbY.size; clear hbY s3 sr3 hs3)
          refine hK _ _ ?_
          clear hK K
          refine wpAny_ready (rs := [0]) (by kernel_rfl) (by simp) (AllReady.cons rfl (fun K hK => ?_) (AllReady.nil))
          go_simp
          refine hK _ _ ?_
          clear hK K
          refine wpAny_ready (rs := [6]) (by kernel_rfl) (by simp) (AllReady.cons rfl (fun K hK => ?_) (AllReady.nil))
          go_simp
          (refine Calls.mono (HM.out _ _ _ hA hI) ?_; rintro e w5 ⟨v5, rfl, hI5, hb5⟩; replace r0 := (hb5.cell (p := ⟨w.heap.size + 1, 0, none⟩) sr4).trans r0; replace r1 := (hb5.cell (p := ⟨w.heap.size + 1, 1, none⟩) sr4).trans r1; replace f0 := (hb5.frozen (p := ⟨w.heap.size + 1, 0, none⟩) sr4).trans f0; replace f1 := (hb5.frozen (p := ⟨w.heap.size + 1, 1, none⟩) sr4).trans f1; replace hA := belowTo hA hb5; have HI5 := Lib.hid (hI5.lower (base' := W2.heap.size) hs4); clear hb5 hI5)
          refine hK _ _ ?_
          clear hK K
          refine wpAny_seq 7 rfl (by kernel_rfl) ?_
          simp only [List.drop_succ_cons, List.drop_zero]
  rotate_left 4
  focus
    go_simp
    refine hK _ _ ?_
    clear hK K
    refine wpAny_ready (rs := [0, 2, 4]) (by kernel_rfl) (by simp) (AllReady.cons rfl (fun K hK => ?_) (AllReady.cons rfl (fun K hK => ?_) (AllReady.cons rfl (fun K hK => ?_) (AllReady.nil))))
    focus
      go_simp
      refine hK _ _ ?_
      clear hK K
      refine wpAny_ready (rs := [2, 4]) (by kernel_rfl) (by simp) (AllReady.cons rfl (fun K hK => ?_) (AllReady.cons rfl (fun K hK => ?_) (AllReady.nil)))
      focus
        go_simp
        refine hK _ _ ?_
        clear hK K
        refine wpAny_ready (rs := [4]) (by kernel_rfl) (by simp) (AllReady.cons rfl (fun K hK => ?_) (AllReady.nil))
        go_simp
        (refine Calls.mono (HV.out _ (by go_grown)) ?_; rintro e w3 ⟨rfl, hbX⟩; replace hbX := undrew hbX; replace x0 := (hbX.cell (p := ⟨w.heap.size, 0, none⟩) s0).trans x0; replace x1 := (hbX.cell (p := ⟨w.heap.size, 1, none⟩) s0).trans x1; replace r0 := (hbX.cell (p := ⟨w.heap.size + 1, 0, none⟩) sr).trans r0; replace r1 := (hbX.cell (p := ⟨w.heap.size + 1, 1, none⟩) sr).trans r1; replace f0 := (hbX.frozen (p := ⟨w.heap.size + 1, 0, none⟩) sr).trans f0; replace f1 := (hbX.frozen (p := ⟨w.heap.size + 1, 1, none⟩) sr).trans f1; replace hA := belowTo hA hbX; have s3 := Nat.lt_of_lt_of_le s0 hbX.size; have sr3 := Nat.lt_of_lt_of_le sr hbX.size; have hs3 := hbX.size; clear hbX)
        refine hK _ _ ?_
        clear hK K
        refine wpAny_ready (rs := [5]) (by kernel_rfl) (by simp) (AllReady.cons rfl (fun K hK => ?_) (AllReady.nil))
        go_simp
        (refine Calls.mono (HTr.out _ hA) ?_; rintro e w4 ⟨v4, rfl, hI, hbY⟩; replace x0 := (hbY.cell (p := ⟨w.heap.size, 0, none⟩) s3).trans x0; replace x1 := (hbY.cell (p := ⟨w.heap.size, 1, none⟩) s3).trans x1; replace r0 := (hbY.cell (p := ⟨w.heap.size + 1, 0, none⟩) sr3).trans r0; replace r1 := (hbY.cell (p := ⟨w.heap.size + 1, 1, none⟩) sr3).trans r1; replace f0 := (hbY.frozen (p := ⟨w.heap.size + 1, 0, none⟩) sr3).trans f0; replace f1 := (hbY.frozen (p := ⟨w.heap.size + 1, 1, none⟩) sr3).trans f1; replace hA := belowTo hA hbY; have sr4 := Nat.lt_of_lt_of_le sr3 hbY.size; have hs4 := Nat.le_trans hs3 hbY.size; clear hbY s3 sr3 hs3)
        refine hK _ _ ?_
        clear hK K
        refine wpAny_ready (rs := [6]) (by kernel_rfl) (by simp) (AllReady.cons rfl (fun K hK => ?_) (AllReady.nil))
        go_simp
        (refine Calls.mono (HM.out _ _ _ hA hI) ?_; rintro e w5 ⟨v5, rfl, hI5, hb5⟩; replace r0 := (hb5.cell (p := ⟨w.heap.size + 1, 0, none⟩) sr4).trans r0; replace r1 := (hb5.cell (p := ⟨w.heap.size + 1, 1, none⟩) sr4).trans r1; replace f0 := (hb5.frozen (p := ⟨w.heap.size + 1, 0, none⟩) sr4).trans f0; replace f1 := (hb5.frozen (p := ⟨w.heap.size + 1, 1, none⟩) sr4).trans f1; replace hA := belowTo hA hb5; have HI5 := Lib.hid (hI5.lower (base' := W2.heap.size) hs4); clear hb5 hI5)
        refine hK _ _ ?_
        clear hK K
        refine wpAny_seq 7 rfl (by kernel_rfl) ?_
        simp only [List.drop_succ_cons, List.drop_zero]
      rotate_left 1
      focus
        go_simp
        (refine Calls.mono (HV.out _ (by go_grown)) ?_; rintro e w3 ⟨rfl, hbX⟩; replace hbX := undrew hbX; replace x0 := (hbX.cell (p := ⟨w.heap.size, 0, none⟩) s0).trans x0; replace x1 := (hbX.cell (p := ⟨w.heap.size, 1, none⟩) s0).trans x1; replace r0 := (hbX.cell (p := ⟨w.heap.size + 1, 0, none⟩) sr).trans r0; replace r1 := (hbX.cell (p := ⟨w.heap.size + 1, 1, none⟩) sr).trans r1; replace f0 := (hbX.frozen (p := ⟨w.heap.size + 1, 0, none⟩) sr).trans f0; replace f1 := (hbX.frozen (p := ⟨w.heap.size + 1, 1, none⟩) sr).trans f1; replace hA := belowTo hA hbX; have s3 := Nat.lt_of_lt_of_le s0 hbX.size; have sr3 := Nat.lt_of_lt_of_le sr hbX.size; have hs3 := hbX.size; clear hbX)
        refine hK _ _ ?_
        clear hK K
        refine wpAny_ready (rs := [2]) (by kernel_rfl) (by simp) (AllReady.cons rfl (fun K hK => ?_) (AllReady.nil))
        go_simp
        refine hK _ _ ?_
        clear hK K
        refine wpAny_ready (rs := [5]) (by kernel_rfl) (by simp) (AllReady.cons rfl (fun K hK => ?_) (AllReady.nil))
        go_simp
        (refine Calls.mono (HTr.out _ hA) ?_; rintro e w4 ⟨v4, rfl, hI, hbY⟩; replace x0 := (hbY.cell (p := ⟨w.heap.size, 0, none⟩) s3).trans x0; replace x1 := (hbY.cell (p := ⟨w.heap.size, 1, none⟩) s3).trans x1; replace r0 := (hbY.cell (p := ⟨w.heap.size + 1, 0, none⟩) sr3).trans r0; replace r1 := (hbY.cell (p := ⟨w.heap.size + 1, 1, none⟩) sr3).trans r1; replace f0 := (hbY.frozen (p := ⟨w.heap.size + 1, 0, none⟩) sr3).trans f0; replace f1 := (hbY.frozen (p := ⟨w.heap.size + 1, 1, none⟩) sr3).trans f1; replace hA := belowTo hA hbY; have sr4 := Nat.lt_of_lt_of_le sr3 hbY.size; have hs4 := Nat.le_trans hs3 hbY.size; clear hbY s3 sr3 hs3)
        refine hK _ _ ?_
        clear hK K
        refine wpAny_ready (rs := [6]) (by kernel_rfl) (by simp) (AllReady.cons rfl (fun K hK => ?_) (AllReady.nil))
        go_simp
        (refine Calls.mono (HM.out _ _ _ hA hI) ?_; rintro e w5 ⟨v5, rfl, hI5, hb5⟩; replace r0 := (hb5.cell (p := ⟨w.heap.size + 1, 0, none⟩) sr4).trans r0; replace r1 := (hb5.cell (p := ⟨w.heap.size + 1, 1, none⟩) sr4).trans r1; replace f0 := (hb5.frozen (p := ⟨w.heap.size + 1, 0, none⟩) sr4).trans f0; replace f1 := (hb5.frozen (p := ⟨w.heap.size + 1, 1, none⟩) sr4).trans f1; replace hA := belowTo hA hb5; have HI5 := Lib.hid (hI5.lower (base' := W2.heap.size) hs4); clear hb5 hI5)
        refine hK _ _ ?_
        clear hK K
        refine wpAny_seq 7 rfl (by kernel_rfl) ?_
        simp only [List.drop_succ_cons, List.drop_zero]
    rotate_left 2
    focus
      go_simp
      refine hK _ _ ?_
      clear hK K
      refine wpAny_ready (rs := [0, 4]) (by kernel_rfl) (by simp) (AllReady.cons rfl (fun K hK => ?_) (AllReady.cons rfl (fun K hK => ?_) (AllReady.nil)))
      focus
        go_simp
        refine hK _ _ ?_
        clear hK K
        refine wpAny_ready (rs := [4]) (by kernel_rfl) (by simp) (AllReady.cons rfl (fun K hK => ?_) (AllReady.nil))
        go_simp
        (refine Calls.mono (HV.out _ (by go_grown)) ?_; rintro e w3 ⟨rfl, hbX⟩; replace hbX := undrew hbX; replace x0 := (hbX.cell (p := ⟨w.heap.size, 0, none⟩) s0).trans x0; replace x1 := (hbX.cell (p := ⟨w.heap.size, 1, none⟩) s0).trans x1; replace r0 := (hbX.cell (p := ⟨w.heap.size + 1, 0, none⟩) sr).trans r0; replace r1 := (hbX.cell (p := ⟨w.heap.size + 1, 1, none⟩) sr).trans r1; replace f0 := (hbX.frozen (p := ⟨w.heap.size + 1, 0, none⟩) sr).trans f0; replace f1 := (hbX.frozen (p := ⟨w.heap.size + 1, 1, none⟩) sr).trans f1; replace hA := belowTo hA hbX; have s3 := Nat.lt_of_lt_of_le s0 hbX.size; have sr3 := Nat.lt_of_lt_of_le sr hbX.size; have hs3 := hbX.size; clear hbX)
        refine hK _ _ ?_
        clear hK K
        refine wpAny_ready (rs := [5]) (by kernel_rfl) (by simp) (AllReady.cons rfl (fun K hK => ?_) (AllReady.nil))
        go_simp
        (refine Calls.mono (HTr.out _ hA) ?_; rintro e w4 ⟨v4, rfl, hI, hbY⟩; replace x0 := (hbY.cell (p := ⟨w.heap.size, 0, none⟩) s3).trans x0; replace x1 := (hbY.cell (p := ⟨w.heap.size, 1, none⟩) s3).trans x1; replace r0 := (hbY.cell (p := ⟨w.heap.size + 1, 0, none⟩) sr3).trans r0; replace r1 := (hbY.cell (p := ⟨w.heap.size + 1, 1, none⟩) sr3).trans r1; replace f0 := (hbY.frozen (p := ⟨w.heap.size + 1, 0, none⟩) sr3).trans f0; replace f1 := (hbY.frozen (p := ⟨w.heap.size + 1, 1, none⟩) sr3).trans f1; replace hA := belowTo hA hbY; have sr4 := Nat.lt_of_lt_of_le sr3 hbY.size; have hs4 := Nat.le_trans hs3 hbY.size; clear hbY s3 sr3 hs3)
        refine hK _ _ ?_
        clear hK K
        refine wpAny_ready (rs := [6]) (by kernel_rfl) (by simp) (AllReady.cons rfl (fun K hK => ?_) (AllReady.nil))
        go_simp
        (refine Calls.mono (HM.out _ _ _ hA hI) ?_; rintro e w5 ⟨v5, rfl, hI5, hb5⟩; replace r0 := (hb5.cell (p := ⟨w.heap.size + 1, 0, none⟩) sr4).trans r0; replace r1 := (hb5.cell (p := ⟨w.heap.size + 1, 1, none⟩) sr4).trans r1; replace f0 := (hb5.frozen (p := ⟨w.heap.size + 1, 0, none⟩) sr4).trans f0; replace f1 := (hb5.frozen (p := ⟨w.heap.size + 1, 1, none⟩) sr4).trans f1; replace hA := belowTo hA hb5; have HI5 := Lib.hid (hI5.lower (base' := W2.heap.size) hs4); clear hb5 hI5)
        refine hK _ _ ?_
        clear hK K
        refine wpAny_seq 7 rfl (by kernel_rfl) ?_
        simp only [List.drop_succ_cons, List.drop_zero]
      rotate_left 1
      focus
        go_simp
        (refine Calls.mono (HV.out _ (by go_grown)) ?_; rintro e w3 ⟨rfl, hbX⟩; replace hbX := undrew hbX; replace x0 := (hbX.cell (p := ⟨w.heap.size, 0, none⟩) s0).trans x0; replace x1 := (hbX.cell (p := ⟨w.heap.size, 1, none⟩) s0).trans x1; replace r0 := (hbX.cell (p := ⟨w.heap.size + 1, 0, none⟩) sr).trans r0; replace r1 := (hbX.cell (p := ⟨w.heap.size + 1, 1, none⟩) sr).trans r1; replace f0 := (hbX.frozen (p := ⟨w.heap.size + 1, 0, none⟩) sr).trans f0; replace f1 := (hbX.frozen (p := ⟨w.heap.size + 1, 1, none⟩) sr).trans f1; replace hA := belowTo hA hbX; have s3 := Nat.lt_of_lt_of_le s0 hbX.size; have sr3 := Nat.lt_of_lt_of_le sr hbX.size; have hs3 := hbX.size; clear hbX)
        refine hK _ _ ?_
        clear hK K
        refine wpAny_ready (rs := [0, 5]) (by kernel_rfl) (by simp) (AllReady.cons rfl (fun K hK => ?_) (AllReady.cons rfl (fun K hK => ?_) (AllReady.nil)))
        focus
          go_simp
          refine hK _ _ ?_
          clear hK K
          refine wpAny_ready (rs := [5]) (by kernel_rfl) (by simp) (AllReady.cons rfl (fun K hK => ?_) (AllReady.nil))
          go_simp
          (refine Calls.mono (HTr.out _ hA) ?_; rintro e w4 ⟨v4, rfl, hI, hbY⟩; replace x0 := (hbY.cell (p := ⟨w.heap.size, 0, none⟩) s3).trans x0; replace x1 := (hbY.cell (p := ⟨w.heap.size, 1, none⟩) s3).trans x1; replace r0 := (hbY.cell (p := ⟨w.heap.size + 1, 0, none⟩) sr3).trans r0; replace r1 := (hbY.cell (p := ⟨w.heap.size + 1, 1, none⟩) sr3).trans r1; replace f0 := (hbY.frozen (p := ⟨w.heap.size + 1, 0, none⟩) sr3).trans f0; replace f1 := (hbY.frozen (p := ⟨w.heap.size + 1, 1, none⟩) sr3).trans f1; replace hA := belowTo hA hbY; have sr4 := Nat.lt_of_lt_of_le sr3 hbY.size; have hs4 := Nat.le_trans hs3 hbY.size; clear hbY s3 sr3 hs3)
          refine hK _ _ ?_
          clear hK K
          refine wpAny_ready (rs := [6]) (by kernel_rfl) (by simp) (AllReady.cons rfl (fun K hK => ?_) (AllReady.nil))
          go_simp
          (refine Calls.mono (HM.out _ _ _ hA hI) ?_; rintro e w5 ⟨v5, rfl, hI5, hb5⟩; replace r0 := (hb5.cell (p := ⟨w.heap.size + 1, 0, none⟩) sr4).trans r0; replace r1 := (hb5.cell (p := ⟨w.heap.size + 1, 1, none⟩) sr4).trans r1; replace f0 := (hb5.frozen (p := ⟨w.heap.size + 1, 0, none⟩) sr4).trans f0; replace f1 := (hb5.frozen (p := ⟨w.heap.size + 1, 1, none⟩) sr4).trans f1; replace hA := belowTo hA hb5; have HI5 := Lib.hid (hI5.lower (base' := W2.heap.size) hs4); clear hb5 hI5)
          refine hK _ _ ?_
          clear hK K
          refine wpAny_seq 7 rfl (by kernel_rfl) ?_
          simp only [List.drop_succ_cons, List.drop_zero]
        rotate_left 1
        focus
          go_simp
          (refine Calls.mono (HTr.out _ hA) ?_; rintro e w4 ⟨v4, rfl, hI, hbY⟩; replace x0 := (hbY.cell (p := ⟨w.heap.size, 0, none⟩) s3).trans x0; replace x1 := (hbY.cell (p := ⟨w.heap.size, 1, none⟩) s3).trans x1; replace r0 := (hbY.cell (p := ⟨w.heap.size + 1, 0, none⟩) sr3).trans r0; replace r1 := (hbY.cell (p := ⟨w.heap.size + 1, 1, none⟩) sr3).trans r1; replace f0 := (hbY.frozen (p := ⟨w.heap.size + 1, 0, none⟩) sr3).trans f0; replace f1 := (hbY.frozen (p := ⟨w.heap.size + 1, 1, none⟩) sr3).trans f1; replace hA := belowTo hA hbY; have sr4 := Nat.lt_of_lt_of_le sr3 hbY.size; have hs4 := Nat.le_trans hs3 hbY.size; clear hbY s3 sr3 hs3)
          refine hK _ _ ?_
          clear hK K
          refine wpAny_ready (rs := [0]) (by kernel_rfl) (by simp) (AllReady.cons rfl (fun K hK => ?_) (AllReady.nil))
          go_simp
          refine hK _ _ ?_
          clear hK K
          refine wpAny_ready (rs := [6]) (by kernel_rfl) (by simp) (AllReady.cons rfl (fun K hK => ?_) (AllReady.nil))
          go_simp
          (refine Calls.mono (HM.out _ _ _ hA hI) ?_; rintro e w5 ⟨v5, rfl, hI5, hb5⟩; replace r0 := (hb5.cell (p := ⟨w.heap.size + 1, 0, none⟩) sr4).trans r0; replace r1 := (hb5.cell (p := ⟨w.heap.size + 1, 1, none⟩) sr4).trans r1; replace f0 := (hb5.frozen (p := ⟨w.heap.size + 1, 0, none⟩) sr4).trans f0; replace f1 := (hb5.frozen (p := ⟨w.heap.size + 1, 1, none⟩) sr4).trans f1; replace hA := belowTo hA hb5; have HI5 := Lib.hid (hI5.lower (base' := W2.heap.size) hs4); clear hb5 hI5)
          refine hK _ _ ?_
          clear hK K
          refine wpAny_seq 7 rfl (by kernel_rfl) ?_
          simp only [List.drop_succ_cons, List.drop_zero]
    rotate_left 3
    focus
      go_simp
      (refine Calls.mono (HV.out _ (by go_grown)) ?_; rintro e w3 ⟨rfl, hbX⟩; replace hbX := undrew hbX; replace x0 := (hbX.cell (p := ⟨w.heap.size, 0, none⟩) s0).trans x0; replace x1 := (hbX.cell (p := ⟨w.heap.size, 1, none⟩) s0).trans x1; replace r0 := (hbX.cell (p := ⟨w.heap.size + 1, 0, none⟩) sr).trans r0; replace r1 := (hbX.cell (p := ⟨w.heap.size + 1, 1, none⟩) sr).trans r1; replace f0 := (hbX.frozen (p := ⟨w.heap.size + 1, 0, none⟩) sr).trans f0; replace f1 := (hbX.frozen (p := ⟨w.heap.size + 1, 1, none⟩) sr).trans f1; replace hA := belowTo hA hbX; have s3 := Nat.lt_of_lt_of_le s0 hbX.size; have sr3 := Nat.lt_of_lt_of_le sr hbX.size; have hs3 := hbX.size; clear hbX)
      refine hK _ _ ?_
      clear hK K
      refine wpAny_ready (rs := [0, 2]) (by kernel_rfl) (by simp) (AllReady.cons rfl (fun K hK => ?_) (AllReady.cons rfl (fun K hK => ?_) (AllReady.nil)))
      focus
        go_simp
        refine hK _ _ ?_
        clear hK K
        refine wpAny_ready (rs := [2]) (by kernel_rfl) (by simp) (AllReady.cons rfl (fun K hK => ?_) (AllReady.nil))
        go_simp
        refine hK _ _ ?_
        clear hK K
        refine wpAny_ready (rs := [5]) (by kernel_rfl) (by simp) (AllReady.cons rfl (fun K hK => ?_) (AllReady.nil))
        go_simp
        (refine Calls.mono (HTr.out _ hA) ?_; rintro e w4 ⟨v4, rfl, hI, hbY⟩; replace x0 := (hbY.cell (p := ⟨w.heap.size, 0, none⟩) s3).trans x0; replace x1 := (hbY.cell (p := ⟨w.heap.size, 1, none⟩) s3).trans x1; replace r0 := (hbY.cell (p := ⟨w.heap.size + 1, 0, none⟩) sr3).trans r0; replace r1 := (hbY.cell (p := ⟨w.heap.size + 1, 1, none⟩) sr3).trans r1; replace f0 := (hbY.frozen (p := ⟨w.heap.size + 1, 0, none⟩) sr3).trans f0; replace f1 := (hbY.frozen (p := ⟨w.heap.size + 1, 1, none⟩) sr3).trans f1; replace hA := belowTo hA hbY; have sr4 := Nat.lt_of_lt_of_le sr3 hbY.size; have hs4 := Nat.le_trans hs3 hbY.size; clear hbY s3 sr3 hs3)
        refine hK _ _ ?_
        clear hK K
        refine wpAny_ready (rs := [6]) (by kernel_rfl) (by simp) (AllReady.cons rfl (fun K hK => ?_) (AllReady.nil))
        go_simp
        (refine Calls.mono (HM.out _ _ _ hA hI) ?_; rintro e w5 ⟨v5, rfl, hI5, hb5⟩; replace r0 := (hb5.cell (p := ⟨w.heap.size + 1, 0, none⟩) sr4).trans r0; replace r1 := (hb5.cell (p := ⟨w.heap.size + 1, 1, none⟩) sr4).trans r1; replace f0 := (hb5.frozen (p := ⟨w.heap.size + 1, 0, none⟩) sr4).trans f0; replace f1 := (hb5.frozen (p := ⟨w.heap.size + 1, 1, none⟩) sr4).trans f1; replace hA := belowTo hA hb5; have HI5 := Lib.hid (hI5.lower (base' := W2.heap.size) hs4); clear hb5 hI5)
        refine hK _ _ ?_
        clear hK K
        refine wpAny_seq 7 rfl (by kernel_rfl) ?_
        simp only [List.drop_succ_cons, List.drop_zero]
      rotate_left 1
      focus
        go_simp
        refine hK _ _ ?_
        clear hK K
        refine wpAny_ready (rs := [0, 5]) (by kernel_rfl) (by simp) (AllReady.cons rfl (fun K hK => ?_) (AllReady.cons rfl (fun K hK => ?_) (AllReady.nil)))
        focus
          go_simp
          refine hK _ _ ?_
          clear hK K
          refine wpAny_ready (rs := [5]) (by kernel_rfl) (by simp) (AllReady.cons rfl (fun K hK => ?_) (AllReady.nil))
          go_simp
          (refine Calls.mono (HTr.out _ hA) ?_; rintro e w4 ⟨v4, rfl, hI, hbY⟩; replace x0 := (hbY.cell (p := ⟨w.heap.size, 0, none⟩) s3).trans x0; replace x1 := (hbY.cell (p := ⟨w.heap.size, 1, none⟩) s3).trans x1; replace r0 := (hbY.cell (p := ⟨w.heap.size + 1, 0, none⟩) sr3).trans r0; replace r1 := (hbY.cell (p := ⟨w.heap.size + 1, 1, none⟩) sr3).trans r1; replace f0 := (hbY.frozen (p := ⟨w.heap.size + 1, 0, none⟩) sr3).trans f0; replace f1 := (hbY.frozen (p := ⟨w.heap.size + 1, 1, none⟩) sr3).trans f1; replace hA := belowTo hA hbY; have sr4 := Nat.lt_of_lt_of_le sr3 hbY.size; have hs4 := Nat.le_trans hs3 hbY.size; clear hbY s3 sr3 hs3)
          refine hK _ _ ?_
          clear hK K
          refine wpAny_ready (rs := [6]) (by kernel_rfl) (by simp) (AllReady.cons rfl (fun K hK => ?_) (AllReady.nil))
          go_simp
          (refine Calls.mono (HM.out _ _ _ hA hI) ?_; rintro e w5 ⟨v5, rfl, hI5, hb5⟩; replace r0 := (hb5.cell (p := ⟨w.heap.size + 1, 0, none⟩) sr4).trans r0; replace r1 := (hb5.cell (p := ⟨w.heap.size + 1, 1, none⟩) sr4).trans r1; replace f0 := (hb5.frozen (p := ⟨w.heap.size + 1, 0, none⟩) sr4).trans f0; replace f1 := (hb5.frozen (p := ⟨w.heap.size + 1, 1, none⟩) sr4).trans f1; replace hA := belowTo hA hb5; have HI5 := Lib.hid (hI5.lower (base' := W2.heap.size) hs4); clear hb5 hI5)
          refine hK _ _ ?_
          clear hK K
          refine wpAny_seq 7 rfl (by kernel_rfl) ?_
          simp only [List.drop_succ_cons, List.drop_zero]
        rotate_left 1
        focus
          go_simp
          (refine Calls.mono (HTr.out _ hA) ?_; rintro e w4 ⟨v4, rfl, hI, hbY⟩; replace x0 := (hbY.cell (p := ⟨w.heap.size, 0, none⟩) s3).trans x0; replace x1 := (hbY.cell (p := ⟨w.heap.size, 1, none⟩) s3).trans x1; replace r0 := (hbY.cell (p := ⟨w.heap.size + 1, 0, none⟩) sr3).trans r0; replace r1 := (hbY.cell (p := ⟨w.heap.size + 1, 1, none⟩) sr3).trans r1; replace f0 := (hbY.frozen (p := ⟨w.heap.size + 1, 0, none⟩) sr3).trans f0; replace f1 := (hbY.frozen (p := ⟨w.heap.size + 1, 1, none⟩) sr3).trans f1; replace hA := belowTo hA hbY; have sr4 := Nat.lt_of_lt_of_le sr3 hbY.size; have hs4 := Nat.le_trans hs3 hbY.size; clear hbY s3 sr3 hs3)
          refine hK _ _ ?_
          clear hK K
          refine wpAny_ready (rs := [0]) (by kernel_rfl) (by simp) (AllReady.cons rfl (fun K hK => ?_) (AllReady.nil))
          go_simp
          refine hK _ _ ?_
          clear hK K
          refine wpAny_ready (rs := [6]) (by kernel_rfl) (by simp) (AllReady.cons rfl (fun K hK => ?_) (AllReady.nil))
          go_simp
          (refine Calls.mono (HM.out _ _ _ hA hI) ?_; rintro e w5 ⟨v5, rfl, hI5, hb5⟩; replace r0 := (hb5.cell (p := ⟨w.heap.size + 1, 0, none⟩) sr4).trans r0; replace r1 := (hb5.cell (p := ⟨w.heap.size + 1, 1, none⟩) sr4).trans r1; replace f0 := (hb5.frozen (p := ⟨w.heap.size + 1, 0, none⟩) sr4).trans f0; replace f1 := (hb5.frozen (p := ⟨w.heap.size + 1, 1, none⟩) sr4).trans f1; replace hA := belowTo hA hb5; have HI5 := Lib.hid (hI5.lower (base' := W2.heap.size) hs4); clear hb5 hI5)
          refine hK _ _ ?_
          clear hK K
          refine wpAny_seq 7 rfl (by kernel_rfl) ?_
          simp only [List.drop_succ_cons, List.drop_zero]
  all_goals
    obtain ⟨a9, c9, hv9, _⟩ := (HI5.out.reads (show R.length ≤ 1152921504606846976 by have := HDl.out; omega)).len
    subst hv9
    have hsz := hA.size
    clear x0 x1 hI
    go_wp2
    refine bodyPost_ret (by simp [results, Tryz.results26, go_sem, *]; try rfl) rfl ?_
    exact ⟨_, rfl, Ints.lower (base := W2.heap.size) (by first | exact HI5.out | exact HI5.out.setLow sr _ | exact (HI5.out.setLow sr _).setLow sr _) (by have := HZ.out; omega), by go_grown⟩
set_option maxHeartbeats 8000000 in
theorem divisorPlain_any (v : Value) (l : List V2) (u1 : Value) (a : List Int) (w : World) (hl : ReadsVecs w v l) (h1 : ReadsInts w u1 a) (hg : EtOk w) :
    Calls Tryz.prog 10 #[v, u1] w (GivesIntsOk w (gV (plnDB l a) (plainL l a)) (plnDB l a)) := by
  have HO := Lib.hid (divisorOf_any v u1 l a w hl h1 hg)
  have HS := Lib.hid (fun base g (ns : List Node) w' (hF : FanAt w' base g ns) (hn : rays ns = l) (hb : Below w.heap.size w w') (hk : divB l a = true) => by
    have h3 := div_len hk
    have h4 := (div_in hk).2.1
    have h5 : ns.length = l.length := by rw [← hn, rays_len]
    have h := plain_any base g ns u1 a w' hF (by omega) (by rw [hn]; exact (div_smooth hk).1) (h1.below hb) (by omega) (by omega) (bnd_mono (div_bnd hk) (by omega))
    rw [hn] at h
    exact h)
  have HT := Lib.hid (fun g n v' base w' (hb : Below w.heap.size w w') (c1 : (w' : World).cell? ⟨g, 1, none⟩ = some (.int .i64 (n : Nat))) (hI : Ints w' base v' (plainL l a)) (hn : n = l.length) (hk : divB l a = true) => by
    have hs : n ≤ 1000 := by have := div_len hk; omega
    have h := told_any g n v' (plainL l a) w' (hg.below hb) c1 (hI.reads (by rw [plain_len]; obtain ⟨_, _, _, h⟩ := h1.len; exact h)) hs
    rw [hn] at h
    exact h)
  have HD : divB l a = true → plnDB l a = fitB l.length (plainL l a) := fun hk => by
    unfold plnDB
    rw [hk, div_fit hk]
    rfl
  obtain ⟨p1, q1, rfl, _⟩ := h1.len
  clear hl h1
  cases hk : divB l a
  · have e0 : plnDB l a = false := by unfold plnDB; rw [hk]; rfl
    rw [e0]
    rw [hk] at HO
    clear HD HT HS hk e0
    go_enter Tryz.func10, Tryz.ntmps10
    go_wp2_with fail
    refine Calls.mono HO.out ?_
    rintro e w1 ⟨⟨h, _⟩ | ⟨_, rfl⟩, hb1⟩
    · cases h
    have hs1 := hb1.size
    go_wp2
    go_returns
    exact ⟨_, rfl, Ints.nil _ _, by go_grown⟩
  · rw [HD hk]
    rw [hk] at HO
    have HS2 := Lib.hid (fun base g ns w' hF hn hb => HS.out base g ns w' hF hn hb hk)
    have HT2 := Lib.hid (fun g n v' base w' hb c1 hI hn => HT.out g n v' base w' hb c1 hI hn hk)
    clear HD HS HT hk
    generalize plainL l a = S at *
    generalize fitB l.length S = K at *
    go_enter Tryz.func10, Tryz.ntmps10
    go_wp2_with fail
    refine Calls.mono HO.out ?_
    rintro e w1 ⟨⟨_, g, ns, rfl, hF, hn⟩ | ⟨h, _⟩, hb1⟩
    case inr => cases h
    have HS3 := Lib.hid (fun w2 (h : Below w1.heap.size w1 w2) => HS2.out _ g ns w2 (hF.below h) hn (belowTo hb1 h))
    have HT3 := Lib.hid (fun v' base w2 (h : Below w1.heap.size w1 w2) hI => HT2.out g ns.length v' base w2 (belowTo hb1 h) ((h.cell (p := ⟨g, 1, none⟩) hF.head.lt).trans hF.head.c1) hI (by rw [← hn, rays_len]))
    have hs1 := hb1.size
    clear hF hn HT2 HS2
    go_wp2_with fail
    refine Calls.mono (HS3.out _ (by go_grown)) ?_
    rintro e w2 ⟨v2, rfl, hI, hb2⟩
    have hA2 : Below w1.heap.size w1 w2 := belowTo (by go_grown) hb2
    have hB2 := belowTo hb1 hA2
    have hI2 := hI.lower (base' := w.heap.size) (by simp; omega)
    clear hI hb2
    go_wp2_with fail
    refine Calls.mono (HT3.out v2 _ _ hA2 hI2) ?_
    rintro e w3 ⟨rfl, hb3⟩
    have hB3 := belowTo hB2 hb3
    have HI3 := Lib.hid (told_v (b := K) (hI2.below hb3))
    clear hI2 hb3 hA2 hB2
    cases K
    all_goals
      go_wp2
      go_returns
      exact ⟨_, rfl, HI3.out, hB3⟩
end Go.Proofs.YtcieihbknfeddabGreatDoor
