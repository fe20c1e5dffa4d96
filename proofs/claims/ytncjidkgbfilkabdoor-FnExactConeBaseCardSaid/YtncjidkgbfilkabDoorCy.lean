/- Chapter 2: the fraction of a cone: both sides. -/
import Derived.Test.YtncjidkgbfilkabDoorCd
import Derived.Test.YtncjidkgbfilkabDoorSc
namespace Go.Proofs.YtncjidkgbfilkabDoor
open Go.RowKit

theorem fracC_len {a b c d : Int} (h : coneB a b c d = true) : (fracC a b c d).length ≤ 2000000 := by
  obtain ⟨h1, _, h2, _, _⟩ := cone_in h
  have := frac_len (detZ a b c d) (kindC a b c d)
  have := det_sz h1 h2
  have := kindC_rng h
  unfold fracC
  omega
set_option maxHeartbeats 4000000 in
theorem coneFractionM_any (a b c d : Int) (w : World) (h : coneB a b c d = true) :
    Calls Tryd.prog 66 #[.agg #[.int .i64 (a), .int .i64 (b), .int .i64 (c), .int .i64 (d)]] w (GivesInts w (fracC a b c d)) := by
  obtain ⟨h1, _, h2, _, _⟩ := cone_in h
  have hn := det_sz h1 h2
  have hk := kindC_rng h
  have HF := Lib.hid (fun w' => fractionOf_any (detZ a b c d) (kindC a b c d) w' hk.1 hk.2 (by omega))
  obtain ⟨_, _⟩ := hk
  obtain ⟨_, _⟩ := hn
  go_enter Tryd.func66, Tryd.ntmps66
  go_upto_region 1 with fail
  go_region_held3 (fun w' => w'.cell? ⟨w.heap.size, 0, none⟩ = some (.int .i64 (a)) ∧ w'.cell? ⟨w.heap.size, 1, none⟩ = some (.int .i64 (b)) ∧ w'.cell? ⟨w.heap.size, 2, none⟩ = some (.int .i64 (c)) ∧ w'.cell? ⟨w.heap.size, 3, none⟩ = some (.int .i64 (d)) ∧ Below w.heap.size w w') ((go_split_ands; refine ⟨by (first | (with_reducible assumption) | (go_keep; done) | (go_cell; done) | (go_simp; done) | (simp [*]; done)), by (first | (with_reducible assumption) | (go_keep; done) | (go_cell; done) | (go_simp; done) | (simp [*]; done)), by (first | (with_reducible assumption) | (go_keep; done) | (go_cell; done) | (go_simp; done) | (simp [*]; done)), by (first | (with_reducible assumption) | (go_keep; done) | (go_cell; done) | (go_simp; done) | (simp [*]; done)), by first | (with_reducible assumption) | (go_grown; done)⟩)) (first | (go_at_call 61; go_call (index_any _ _ _ _ _ h1 h2) as e w1 ⟨rfl, hb0⟩; go_split_ands; have q0 : w1.cell? ⟨w.heap.size, 0, none⟩ = some (.int .i64 (a)) := (hb0.cell (p := ⟨w.heap.size, 0, none⟩) (by first | (with_reducible assumption) | (go_size; done) | (simp; omega))).trans (by first | (with_reducible assumption) | (go_keep; done) | (go_cell; done) | (go_simp; done) | (simp [*]; done)); have q1 : w1.cell? ⟨w.heap.size, 1, none⟩ = some (.int .i64 (b)) := (hb0.cell (p := ⟨w.heap.size, 1, none⟩) (by first | (with_reducible assumption) | (go_size; done) | (simp; omega))).trans (by first | (with_reducible assumption) | (go_keep; done) | (go_cell; done) | (go_simp; done) | (simp [*]; done)); have q2 : w1.cell? ⟨w.heap.size, 2, none⟩ = some (.int .i64 (c)) := (hb0.cell (p := ⟨w.heap.size, 2, none⟩) (by first | (with_reducible assumption) | (go_size; done) | (simp; omega))).trans (by first | (with_reducible assumption) | (go_keep; done) | (go_cell; done) | (go_simp; done) | (simp [*]; done)); have q3 : w1.cell? ⟨w.heap.size, 3, none⟩ = some (.int .i64 (d)) := (hb0.cell (p := ⟨w.heap.size, 3, none⟩) (by first | (with_reducible assumption) | (go_size; done) | (simp; omega))).trans (by first | (with_reducible assumption) | (go_keep; done) | (go_cell; done) | (go_simp; done) | (simp [*]; done)); have hs0 : w.heap.size < w1.heap.size := Nat.lt_of_lt_of_le (by first | (with_reducible assumption) | (go_size; done) | (simp; omega)) hb0.size; have hT : Below w.heap.size w w1 := belowTo (by first | (with_reducible assumption) | (go_grown; done)) hb0; have hTs := hT.size; clear hb0) | (go_at_call 65; go_call (kind_any _ _ _ _ _ h) as e w1 ⟨rfl, hb0⟩; go_split_ands; have q0 : w1.cell? ⟨w.heap.size, 0, none⟩ = some (.int .i64 (a)) := (hb0.cell (p := ⟨w.heap.size, 0, none⟩) (by first | (with_reducible assumption) | (go_size; done) | (simp; omega))).trans (by first | (with_reducible assumption) | (go_keep; done) | (go_cell; done) | (go_simp; done) | (simp [*]; done)); have q1 : w1.cell? ⟨w.heap.size, 1, none⟩ = some (.int .i64 (b)) := (hb0.cell (p := ⟨w.heap.size, 1, none⟩) (by first | (with_reducible assumption) | (go_size; done) | (simp; omega))).trans (by first | (with_reducible assumption) | (go_keep; done) | (go_cell; done) | (go_simp; done) | (simp [*]; done)); have q2 : w1.cell? ⟨w.heap.size, 2, none⟩ = some (.int .i64 (c)) := (hb0.cell (p := ⟨w.heap.size, 2, none⟩) (by first | (with_reducible assumption) | (go_size; done) | (simp; omega))).trans (by first | (with_reducible assumption) | (go_keep; done) | (go_cell; done) | (go_simp; done) | (simp [*]; done)); have q3 : w1.cell? ⟨w.heap.size, 3, none⟩ = some (.int .i64 (d)) := (hb0.cell (p := ⟨w.heap.size, 3, none⟩) (by first | (with_reducible assumption) | (go_size; done) | (simp; omega))).trans (by first | (with_reducible assumption) | (go_keep; done) | (go_cell; done) | (go_simp; done) | (simp [*]; done)); have hs0 : w.heap.size < w1.heap.size := Nat.lt_of_lt_of_le (by first | (with_reducible assumption) | (go_size; done) | (simp; omega)) hb0.size; have hT : Below w.heap.size w w1 := belowTo (by first | (with_reducible assumption) | (go_grown; done)) hb0; have hTs := hT.size; clear hb0) | (go_at_call 44; refine Calls.mono (HF.out _) ?_; rintro e w1 ⟨v, rfl, hI, hb0⟩; replace hI := Lib.hid (hI.lower (base' := w.heap.size) (by first | (go_size; done) | omega | assumption)); go_split_ands; have q0 : w1.cell? ⟨w.heap.size, 0, none⟩ = some (.int .i64 (a)) := (hb0.cell (p := ⟨w.heap.size, 0, none⟩) (by first | (with_reducible assumption) | (go_size; done) | (simp; omega))).trans (by first | (with_reducible assumption) | (go_keep; done) | (go_cell; done) | (go_simp; done) | (simp [*]; done)); have q1 : w1.cell? ⟨w.heap.size, 1, none⟩ = some (.int .i64 (b)) := (hb0.cell (p := ⟨w.heap.size, 1, none⟩) (by first | (with_reducible assumption) | (go_size; done) | (simp; omega))).trans (by first | (with_reducible assumption) | (go_keep; done) | (go_cell; done) | (go_simp; done) | (simp [*]; done)); have q2 : w1.cell? ⟨w.heap.size, 2, none⟩ = some (.int .i64 (c)) := (hb0.cell (p := ⟨w.heap.size, 2, none⟩) (by first | (with_reducible assumption) | (go_size; done) | (simp; omega))).trans (by first | (with_reducible assumption) | (go_keep; done) | (go_cell; done) | (go_simp; done) | (simp [*]; done)); have q3 : w1.cell? ⟨w.heap.size, 3, none⟩ = some (.int .i64 (d)) := (hb0.cell (p := ⟨w.heap.size, 3, none⟩) (by first | (with_reducible assumption) | (go_size; done) | (simp; omega))).trans (by first | (with_reducible assumption) | (go_keep; done) | (go_cell; done) | (go_simp; done) | (simp [*]; done)); have hs0 : w.heap.size < w1.heap.size := Nat.lt_of_lt_of_le (by first | (with_reducible assumption) | (go_size; done) | (simp; omega)) hb0.size; have hT : Below w.heap.size w w1 := belowTo (by first | (with_reducible assumption) | (go_grown; done)) hb0; have hTs := hT.size; clear hb0))
  all_goals (go_wp2; go_returns; exact ⟨_, rfl, Hid.out (by assumption), by go_grown⟩)
set_option maxHeartbeats 4000000 in
theorem l2List_any (a b c d : Int) (w : World) (h : coneB a b c d = true) :
    Calls Tryd.prog 56 #[.agg #[.int .i64 (a), .int .i64 (b), .int .i64 (c), .int .i64 (d)]] w (GivesInts w (fracC a b c d)) := by
  obtain ⟨h1, _, h2, _, _⟩ := cone_in h
  have hn := det_sz h1 h2
  have hk := kindC_rng h
  have HF := Lib.hid (fun w' => l2Fraction_any (detZ a b c d) (kindC a b c d) w' hk.1 hk.2 (by omega))
  by_cases h0 : detZ a b c d = 1
  · have hE := Lib.hid (fun w' : World => Ints.empty w')
    have e0 : fracC a b c d = [] := frac_zero _ (by omega)
    have E0 := Lib.hid e0
    have hb0 : (detZ a b c d == 1) = true := by simpa using h0
    clear hk hn HF e0 h
    go_enter Tryd.func56, Tryd.ntmps56
    (go_wp2_with fail; go_call (l1Det_any a b c d _ h1 h2) as e w1 ⟨rfl, hb1⟩); obtain ⟨hc1, hf1⟩ := bcell hb1; have hz1 := bsize hb1
    have hA : Below w.heap.size w w1 := belowTo (by go_grown) hb1
    clear hc1 hf1 hz1 hb1
    go_wp2
    go_returns
    refine ⟨_, rfl, ?_, by have := hA.size; go_grown⟩
    rw [E0.out]
    exact (hE.out _).lower hA.size
  · have hb0 : (detZ a b c d == 1) = false := by simpa using h0
    clear hk hn
    go_enter Tryd.func56, Tryd.ntmps56
    (go_wp2_with fail; go_call (l1Det_any a b c d _ h1 h2) as e w1 ⟨rfl, hb1⟩); obtain ⟨hc1, hf1⟩ := bcell hb1; have hz1 := bsize hb1
    (go_wp2_with fail; go_call (l2Kind_any a b c d _ h) as e w2 ⟨rfl, hb2⟩); replace hb1 := belowTo hb1 hb2; clear hb2 hc1 hf1 hz1; obtain ⟨hc1, hf1⟩ := bcell hb1; have hz1 := bsize hb1
    have hA : Below w.heap.size w w2 := belowTo (by go_grown) hb1
    go_wp2_with fail
    refine Calls.mono (HF.out _) ?_
    rintro e w3 ⟨v, rfl, hI, hb3⟩
    have hI' := Lib.hid (hI.lower hA.size)
    have hB := belowTo hA hb3
    clear hI hb3 hc1 hf1 hz1 hb1
    go_wp2
    go_returns
    exact ⟨_, rfl, hI'.out, hB⟩
end Go.Proofs.YtncjidkgbfilkabDoor
