/- Tables: both functions of the model. -/
import Derived.Test.YtnhanbaaclkjaaaDoorEs
namespace Go.Proofs.YtnhanbaaclkjaaaDoor
open Go.RowKit

def gL (b : Bool) (L : List (List Int)) : List (List Int) := if b then L else []
def GivesRowsOk (w : World) (b : Bool) (L : List (List Int)) (e : Ending) (w' : World) : Prop := ∃ u hi, e = .returned (.tuple #[u, .bool b]) ∧ Rows2 w' w.heap.size hi u (gL b L) ∧ Below w.heap.size w w'
theorem givesRowsOk {w w' : World} {b : Bool} {L : List (List Int)} {u : Value} {hi : Nat} (h1 : Rows2 w' w.heap.size hi u (gL b L)) (h2 : Below w.heap.size w w') : GivesRowsOk w b L (.returned (.tuple #[u, .bool b])) w' := ⟨u, hi, rfl, h1, h2⟩
set_option maxHeartbeats 4000000 in
theorem specSurfaceTable_any (v : Value) (l : List V2) (w : World) (hl : ReadsVecs w v l) :
    Calls Tryd.prog 35 #[v] w (GivesRowsOk w (smoothB l) (tabLL l)) := by
  have HF := Lib.hid (specFanSmooth_any v l w hl)
  have HT := Lib.hid (fun w' (hb : Below w.heap.size w w') (h : smoothB l = true) => l8Table_any v l w' (hl.below hb) (smooth_all h) (smooth_len h).1 (smooth_len h).2)
  have hR0 := Lib.hid (fun W : World => Rows2.made W 25 rfl)
  obtain ⟨a, c, rfl, _, _, _⟩ := hl
  cases hs : smoothB l
  · rw [hs] at HF
    clear hs HT
    go_enter Tryd.func35, Tryd.ntmps35
    go_wp2_with fail
    refine Calls.mono HF.out ?_
    rintro e w1 ⟨rfl, hb1⟩
    have HR := Lib.hid ((hR0.out w1).lower hb1.size)
    have HB := Lib.hid (hb1.alloc hb1.size (.cells #[] 25))
    go_wp2
    go_returns
    exact givesRowsOk HR.out HB.out
  · have HT2 := Lib.hid (fun w' hb => HT.out w' hb hs)
    rw [hs] at HF
    clear hs HT hR0
    go_enter Tryd.func35, Tryd.ntmps35
    go_wp2_with fail
    refine Calls.mono HF.out ?_
    rintro e w1 ⟨rfl, hb1⟩
    have HT3 := Lib.hid (HT2.out w1 hb1)
    have HB := Lib.hid hb1
    go_wp2_with fail
    refine Calls.mono HT3.out ?_
    rintro e w2 ⟨u, hi, rfl, hR, hb2⟩
    have HR := Lib.hid (hR.lower HB.out.size)
    have HB2 := Lib.hid (belowTo HB.out hb2)
    clear hR hb2
    go_wp2
    go_returns
    exact givesRowsOk HR.out HB2.out
set_option maxHeartbeats 4000000 in
theorem specSurfaceDet_any (v : Value) (l : List V2) (w : World) (hl : ReadsVecs w v l) :
    Calls Tryd.prog 19 #[v] w fun e w' => e = .returned (.tuple #[.int .i64 (gate (smoothB l && decide (l.length ≤ 9)) (dtJ l (l.length - 2))), .bool (smoothB l && decide (l.length ≤ 9))]) ∧ Below w.heap.size w w' := by
  have HF := Lib.hid (specFanSmooth_any v l w hl)
  have HT := Lib.hid (fun w' (hb : Below w.heap.size w w') (h : smoothB l = true) => l8Table_any v l w' (hl.below hb) (smooth_all h) (smooth_len h).1 (smooth_len h).2)
  have HD := Lib.hid (fun v lo hi w' (h : smoothB l = true) (hv : Rows2 w' lo hi v (tabLL l)) => l8Det_any v l lo hi w' hv (smooth_all h) (smooth_len h).1 (smooth_len h).2)
  obtain ⟨a, c, rfl, _, _, _⟩ := hl
  cases hs : smoothB l
  · rw [hs] at HF
    clear hs HT HD
    go_enter Tryd.func19, Tryd.ntmps19
    go_wp2_with fail
    refine Calls.mono HF.out ?_
    rintro e w1 ⟨rfl, hb1⟩
    go_wp2
    go_returns
    exact ⟨rfl, hb1⟩
  · have HT2 := Lib.hid (fun w' hb => HT.out w' hb hs)
    have HD2 := Lib.hid (fun v lo hi w' hv => HD.out v lo hi w' hs hv)
    rw [hs] at HF
    rw [Bool.true_and]
    clear hs HT HD
    by_cases h9 : l.length ≤ 9
    · have g1 : ¬ (9 : Int) < (l.length : Int) := by omega
      rw [decide_eq_true h9, gate_true]
      clear h9
      generalize l.length = n at *
      generalize dtJ l (n - 2) = z at *
      go_enter Tryd.func19, Tryd.ntmps19
      go_wp2_with fail
      refine Calls.mono HF.out ?_
      rintro e w1 ⟨rfl, hb1⟩
      have HT3 := Lib.hid (HT2.out w1 hb1)
      have HB := Lib.hid hb1
      go_wp2_with fail
      refine Calls.mono HT3.out ?_
      rintro e w2 ⟨u, hi, rfl, hR, hb2⟩
      have HD3 := Lib.hid (HD2.out _ _ _ _ hR)
      have HB2 := Lib.hid (belowTo HB.out hb2)
      clear hR hb2
      go_wp2_with fail
      refine Calls.mono HD3.out ?_
      rintro e w3 ⟨rfl, hb3⟩
      have HB3 := Lib.hid (belowTo HB2.out hb3)
      clear hb3
      go_wp2
      go_returns
      exact ⟨rfl, HB3.out⟩
    · have g1 : (9 : Int) < (l.length : Int) := by omega
      rw [decide_eq_false h9]
      clear h9
      generalize l.length = n at *
      generalize dtJ l (n - 2) = z at *
      go_enter Tryd.func19, Tryd.ntmps19
      go_wp2_with fail
      refine Calls.mono HF.out ?_
      rintro e w1 ⟨rfl, hb1⟩
      go_wp2
      go_returns
      exact ⟨rfl, hb1⟩
end Go.Proofs.YtnhanbaaclkjaaaDoor
