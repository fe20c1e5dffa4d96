/- Differences of divisors: the program. -/
import Derived.Test.YtcieihbknfeddabDoorQi
import Derived.Test.YtcieihbknfeddabDoorQh
import Derived.Test.YtcieihbknfeddabDoorCc
import Derived.Test.YtcieihbknfeddabDoorB7
namespace Go.Proofs.YtcieihbknfeddabDoor
open Go.RowKit

set_option maxRecDepth 100000 in
set_option maxHeartbeats 16000000 in
theorem divMinus_any (g g2 : Nat) (u v : Value) (d e : List Int) (w : World) (hu : ReadsInts w u d) (hv : ReadsInts w v e) (h0 : 0 < d.length) (hm : d.length ≤ 1000) (hl : e.length = d.length) (hb : bnd 1000000000 d) (hb2 : bnd 1000000000 e) :
    Calls Tryd.prog 80 #[.agg #[.pointer (some ⟨g, 0, none⟩), u], .agg #[.pointer (some ⟨g2, 0, none⟩), v]] w (GivesDiv w g (sumL d (-1) e)) := by
  have HT := Lib.hid (fun w' (hb' : Below w.heap.size w w') => divTimes_any g2 v e (-1) w' (hv.below hb') (by omega) hb2 (by omega))
  have hb3 : bnd 1000000000 (timesL e (-1)) := by
    intro j
    by_cases hj : j < e.length
    · rw [gz_timesL hj]
      have := hb2 j
      omega
    · rw [gz_out (by rw [timesL_len]; omega)]
      omega
  have HP := Lib.hid (fun v' w' (hb' : Below w.heap.size w w') (hI : ReadsInts w' v' (timesL e (-1))) => divPlus_any g g2 u v' d (timesL e (-1)) w' (hu.below hb') hI h0 hm (by rw [timesL_len]; exact hl) hb hb3)
  rw [minus_is hl.symm] at HP
  have HLn : Hid ((timesL e (-1)).length ≤ 1000) := by show _ ≤ _; rw [timesL_len]; omega
  have HDl : Hid ((sumL d (-1) e).length ≤ 1000) := by show _ ≤ _; rw [sumL_len]; omega
  obtain ⟨p1, q1, rfl, _⟩ := hu.len
  obtain ⟨p2, q2, rfl, _⟩ := hv.len
  clear hu hv h0 hm hl hb hb2 hb3
  generalize d.length = n1 at *
  generalize e.length = n2 at *
  generalize timesL e (-1) = T at *
  generalize sumL d (-1) e = R at *
  go_enter Tryd.func80, Tryd.ntmps80
  go_wp2
  have hA : Below w.heap.size w (((w.alloc (.cells #[.pointer (some ⟨g, 0, none⟩), .slice p1 n1 q1] 60)).alloc (.cells #[.pointer (some ⟨g2, 0, none⟩), .slice p2 n2 q2] 60)).alloc (.cells #[.pointer none, .slice none 0 0] 60)) := by go_grown
  have x0 : (((w.alloc (.cells #[.pointer (some ⟨g, 0, none⟩), .slice p1 n1 q1] 60)).alloc (.cells #[.pointer (some ⟨g2, 0, none⟩), .slice p2 n2 q2] 60)).alloc (.cells #[.pointer none, .slice none 0 0] 60)).cell? ⟨w.heap.size, 0, none⟩ = some (.pointer (some ⟨g, 0, none⟩)) := by first | (go_cell; done) | (go_simp; done) | (simp; done)
  have x1 : (((w.alloc (.cells #[.pointer (some ⟨g, 0, none⟩), .slice p1 n1 q1] 60)).alloc (.cells #[.pointer (some ⟨g2, 0, none⟩), .slice p2 n2 q2] 60)).alloc (.cells #[.pointer none, .slice none 0 0] 60)).cell? ⟨w.heap.size, 1, none⟩ = some (.slice p1 n1 q1) := by first | (go_cell; done) | (go_simp; done) | (simp; done)
  have y0 : (((w.alloc (.cells #[.pointer (some ⟨g, 0, none⟩), .slice p1 n1 q1] 60)).alloc (.cells #[.pointer (some ⟨g2, 0, none⟩), .slice p2 n2 q2] 60)).alloc (.cells #[.pointer none, .slice none 0 0] 60)).cell? ⟨w.heap.size + 1, 0, none⟩ = some (.pointer (some ⟨g2, 0, none⟩)) := by first | (go_cell; done) | (go_simp; done) | (simp; done)
  have y1 : (((w.alloc (.cells #[.pointer (some ⟨g, 0, none⟩), .slice p1 n1 q1] 60)).alloc (.cells #[.pointer (some ⟨g2, 0, none⟩), .slice p2 n2 q2] 60)).alloc (.cells #[.pointer none, .slice none 0 0] 60)).cell? ⟨w.heap.size + 1, 1, none⟩ = some (.slice p2 n2 q2) := by first | (go_cell; done) | (go_simp; done) | (simp; done)
  have r0 : (((w.alloc (.cells #[.pointer (some ⟨g, 0, none⟩), .slice p1 n1 q1] 60)).alloc (.cells #[.pointer (some ⟨g2, 0, none⟩), .slice p2 n2 q2] 60)).alloc (.cells #[.pointer none, .slice none 0 0] 60)).cell? ⟨w.heap.size + 1 + 1, 0, none⟩ = some (.pointer none) := by first | (go_cell; done) | (go_simp; done) | (simp; done)
  have r1 : (((w.alloc (.cells #[.pointer (some ⟨g, 0, none⟩), .slice p1 n1 q1] 60)).alloc (.cells #[.pointer (some ⟨g2, 0, none⟩), .slice p2 n2 q2] 60)).alloc (.cells #[.pointer none, .slice none 0 0] 60)).cell? ⟨w.heap.size + 1 + 1, 1, none⟩ = some (.slice none 0 0) := by first | (go_cell; done) | (go_simp; done) | (simp; done)
  have f0 : (((w.alloc (.cells #[.pointer (some ⟨g, 0, none⟩), .slice p1 n1 q1] 60)).alloc (.cells #[.pointer (some ⟨g2, 0, none⟩), .slice p2 n2 q2] 60)).alloc (.cells #[.pointer none, .slice none 0 0] 60)).frozen? ⟨w.heap.size + 1 + 1, 0, none⟩ = false := by first | (go_cell; done) | (go_simp; done) | (simp; done)
  have f1 : (((w.alloc (.cells #[.pointer (some ⟨g, 0, none⟩), .slice p1 n1 q1] 60)).alloc (.cells #[.pointer (some ⟨g2, 0, none⟩), .slice p2 n2 q2] 60)).alloc (.cells #[.pointer none, .slice none 0 0] 60)).frozen? ⟨w.heap.size + 1 + 1, 1, none⟩ = false := by first | (go_cell; done) | (go_simp; done) | (simp; done)
  have hz : (((w.alloc (.cells #[.pointer (some ⟨g, 0, none⟩), .slice p1 n1 q1] 60)).alloc (.cells #[.pointer (some ⟨g2, 0, none⟩), .slice p2 n2 q2] 60)).alloc (.cells #[.pointer none, .slice none 0 0] 60)).heap.size = w.heap.size + 1 + 1 + 1 := by simp
  generalize (((w.alloc (.cells #[.pointer (some ⟨g, 0, none⟩), .slice p1 n1 q1] 60)).alloc (.cells #[.pointer (some ⟨g2, 0, none⟩), .slice p2 n2 q2] 60)).alloc (.cells #[.pointer none, .slice none 0 0] 60)) = W2 at *
  have HZ := Lib.hid hz
  clear hz
  have s0 := cell_lt x0
  have sr := cell_lt r0
  have hA0 := hA
  refine wp_region_any (by kernel_rfl) ?_
  try (change wpAny _ _ _ _ _ _ _ (World.drew _))
  refine wpAny_ready (rs := [0, 1]) (by kernel_rfl) (by simp) (AllReady.cons rfl (fun K hK => ?_) (AllReady.cons rfl (fun K hK => ?_) (AllReady.nil)))
  focus
    go_simp
    refine hK _ _ ?_
    clear hK K
    refine wpAny_ready (rs := [1]) (by kernel_rfl) (by simp) (AllReady.cons rfl (fun K hK => ?_) (AllReady.nil))
    go_simp
    refine hK _ _ ?_
    clear hK K
    refine wpAny_ready (rs := [2]) (by kernel_rfl) (by simp) (AllReady.cons rfl (fun K hK => ?_) (AllReady.nil))
    go_simp
    (refine Calls.mono (HT.out _ (by go_grown)) ?_; rintro e w3 ⟨v3, rfl, hI, hbX⟩; replace hbX := undrew hbX; replace x0 := (hbX.cell (p := ⟨w.heap.size, 0, none⟩) s0).trans x0; replace x1 := (hbX.cell (p := ⟨w.heap.size, 1, none⟩) s0).trans x1; replace r0 := (hbX.cell (p := ⟨w.heap.size + 1 + 1, 0, none⟩) sr).trans r0; replace r1 := (hbX.cell (p := ⟨w.heap.size + 1 + 1, 1, none⟩) sr).trans r1; replace f0 := (hbX.frozen (p := ⟨w.heap.size + 1 + 1, 0, none⟩) sr).trans f0; replace f1 := (hbX.frozen (p := ⟨w.heap.size + 1 + 1, 1, none⟩) sr).trans f1; replace hA := belowTo hA hbX; have hR := hI.reads (show T.length ≤ 1152921504606846976 by have := HLn.out; omega); have sr3 := Nat.lt_of_lt_of_le sr hbX.size; have hs3 := hbX.size; clear hbX hI y0 y1)
    refine hK _ _ ?_
    clear hK K
    refine wpAny_ready (rs := [3]) (by kernel_rfl) (by simp) (AllReady.cons rfl (fun K hK => ?_) (AllReady.nil))
    go_simp
    (refine Calls.mono (HP.out _ _ hA hR) ?_; rintro e w4 ⟨v4, rfl, hI4, hb4⟩; replace r0 := (hb4.cell (p := ⟨w.heap.size + 1 + 1, 0, none⟩) sr3).trans r0; replace r1 := (hb4.cell (p := ⟨w.heap.size + 1 + 1, 1, none⟩) sr3).trans r1; replace f0 := (hb4.frozen (p := ⟨w.heap.size + 1 + 1, 0, none⟩) sr3).trans f0; replace f1 := (hb4.frozen (p := ⟨w.heap.size + 1 + 1, 1, none⟩) sr3).trans f1; replace hA := belowTo hA hb4; have HI4 := Lib.hid (hI4.lower (base' := W2.heap.size) hs3); clear hb4 hI4)
    refine hK _ _ ?_
    clear hK K
    refine wpAny_seq 4 rfl (by kernel_rfl) ?_
    simp only [List.drop_succ_cons, List.drop_zero]
  rotate_left 1
  focus
    go_simp
    refine hK _ _ ?_
    clear hK K
    refine wpAny_ready (rs := [0, 2]) (by kernel_rfl) (by simp) (AllReady.cons rfl (fun K hK => ?_) (AllReady.cons rfl (fun K hK => ?_) (AllReady.nil)))
    focus
      go_simp
      refine hK _ _ ?_
      clear hK K
      refine wpAny_ready (rs := [2]) (by kernel_rfl) (by simp) (AllReady.cons rfl (fun K hK => ?_) (AllReady.nil))
      go_simp
      (refine Calls.mono (HT.out _ (by go_grown)) ?_; rintro e w3 ⟨v3, rfl, hI, hbX⟩; replace hbX := undrew hbX; replace x0 := (hbX.cell (p := ⟨w.heap.size, 0, none⟩) s0).trans x0; replace x1 := (hbX.cell (p := ⟨w.heap.size, 1, none⟩) s0).trans x1; replace r0 := (hbX.cell (p := ⟨w.heap.size + 1 + 1, 0, none⟩) sr).trans r0; replace r1 := (hbX.cell (p := ⟨w.heap.size + 1 + 1, 1, none⟩) sr).trans r1; replace f0 := (hbX.frozen (p := ⟨w.heap.size + 1 + 1, 0, none⟩) sr).trans f0; replace f1 := (hbX.frozen (p := ⟨w.heap.size + 1 + 1, 1, none⟩) sr).trans f1; replace hA := belowTo hA hbX; have hR := hI.reads (show T.length ≤ 1152921504606846976 by have := HLn.out; omega); have sr3 := Nat.lt_of_lt_of_le sr hbX.size; have hs3 := hbX.size; clear hbX hI y0 y1)
      refine hK _ _ ?_
      clear hK K
      refine wpAny_ready (rs := [3]) (by kernel_rfl) (by simp) (AllReady.cons rfl (fun K hK => ?_) (AllReady.nil))
      go_simp
      (refine Calls.mono (HP.out _ _ hA hR) ?_; rintro e w4 ⟨v4, rfl, hI4, hb4⟩; replace r0 := (hb4.cell (p := ⟨w.heap.size + 1 + 1, 0, none⟩) sr3).trans r0; replace r1 := (hb4.cell (p := ⟨w.heap.size + 1 + 1, 1, none⟩) sr3).trans r1; replace f0 := (hb4.frozen (p := ⟨w.heap.size + 1 + 1, 0, none⟩) sr3).trans f0; replace f1 := (hb4.frozen (p := ⟨w.heap.size + 1 + 1, 1, none⟩) sr3).trans f1; replace hA := belowTo hA hb4; have HI4 := Lib.hid (hI4.lower (base' := W2.heap.size) hs3); clear hb4 hI4)
      refine hK _ _ ?_
      clear hK K
      refine wpAny_seq 4 rfl (by kernel_rfl) ?_
      simp only [List.drop_succ_cons, List.drop_zero]
    rotate_left 1
    focus
      go_simp
      (refine Calls.mono (HT.out _ (by go_grown)) ?_; rintro e w3 ⟨v3, rfl, hI, hbX⟩; replace hbX := undrew hbX; replace x0 := (hbX.cell (p := ⟨w.heap.size, 0, none⟩) s0).trans x0; replace x1 := (hbX.cell (p := ⟨w.heap.size, 1, none⟩) s0).trans x1; replace r0 := (hbX.cell (p := ⟨w.heap.size + 1 + 1, 0, none⟩) sr).trans r0; replace r1 := (hbX.cell (p := ⟨w.heap.size + 1 + 1, 1, none⟩) sr).trans r1; replace f0 := (hbX.frozen (p := ⟨w.heap.size + 1 + 1, 0, none⟩) sr).trans f0; replace f1 := (hbX.frozen (p := ⟨w.heap.size + 1 + 1, 1, none⟩) sr).trans f1; replace hA := belowTo hA hbX; have hR := hI.reads (show T.length ≤ 1152921504606846976 by have := HLn.out; omega); have sr3 := Nat.lt_of_lt_of_le sr hbX.size; have hs3 := hbX.size; clear hbX hI y0 y1)
      refine hK _ _ ?_
      clear hK K
      refine wpAny_ready (rs := [0]) (by kernel_rfl) (by simp) (AllReady.cons rfl (fun K hK => ?_) (AllReady.nil))
      go_simp
      refine hK _ _ ?_
      clear hK K
      refine wpAny_ready (rs := [3]) (by kernel_rfl) (by simp) (AllReady.cons rfl (fun K hK => ?_) (AllReady.nil))
      go_simp
      (refine Calls.mono (HP.out _ _ hA hR) ?_; rintro e w4 ⟨v4, rfl, hI4, hb4⟩; replace r0 := (hb4.cell (p := ⟨w.heap.size + 1 + 1, 0, none⟩) sr3).trans r0; replace r1 := (hb4.cell (p := ⟨w.heap.size + 1 + 1, 1, none⟩) sr3).trans r1; replace f0 := (hb4.frozen (p := ⟨w.heap.size + 1 + 1, 0, none⟩) sr3).trans f0; replace f1 := (hb4.frozen (p := ⟨w.heap.size + 1 + 1, 1, none⟩) sr3).trans f1; replace hA := belowTo hA hb4; have HI4 := Lib.hid (hI4.lower (base' := W2.heap.size) hs3); clear hb4 hI4)
      refine hK _ _ ?_
      clear hK K
      refine wpAny_seq 4 rfl (by kernel_rfl) ?_
      simp only [List.drop_succ_cons, List.drop_zero]
  all_goals
    obtain ⟨a9, c9, hv9, _⟩ := (HI4.out.reads (show R.length ≤ 1152921504606846976 by have := HDl.out; omega)).len
    subst hv9
    have hsz := hA.size
    clear x0 x1 hR
    go_wp2
    refine bodyPost_ret (by simp [results, Tryd.results80, go_sem, *]; try rfl) rfl ?_
    exact ⟨_, rfl, Ints.lower (base := W2.heap.size) (by first | exact HI4.out | exact HI4.out.setLow sr _ | exact (HI4.out.setLow sr _).setLow sr _) (by have := HZ.out; omega), by go_grown⟩
end Go.Proofs.YtcieihbknfeddabDoor
