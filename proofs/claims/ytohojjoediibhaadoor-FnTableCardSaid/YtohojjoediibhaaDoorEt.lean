/- Tables: both functions of the model. -/
import Derived.Test.YtohojjoediibhaaDoorEs
namespace Go.Proofs.YtohojjoediibhaaDoor
open Go.RowKit

def gL (b : Bool) (L : List (List Int)) : List (List Int) := if b then L else []
def GivesRowsOk (w : World) (b : Bool) (L : List (List Int)) (e : Ending) (w' : World) : Prop := ∃ u hi, e = .returned (.tuple #[u, .bool b]) ∧ Rows2 w' w.heap.size hi u (gL b L) ∧ Below w.heap.size w w'
theorem givesRowsOk {w w' : World} {b : Bool} {L : List (List Int)} {u : Value} {hi : Nat} (h1 : Rows2 w' w.heap.size hi u (gL b L)) (h2 : Below w.heap.size w w') : GivesRowsOk w b L (.returned (.tuple #[u, .bool b])) w' := ⟨u, hi, rfl, h1, h2⟩
set_option maxHeartbeats 4000000 in
theorem specSurfaceTable_any (v : Value) (l : List V2) (w : World) (hl : ReadsVecs w v l) :
    Calls Tryd.prog 72 #[v] w (GivesRowsOk w (smoothB l) (tabLL l)) := by
  have HF := Lib.hid (specFanSmooth_any v l w hl)
  have HT := Lib.hid (fun w' (hb : Below w.heap.size w w') (h : smoothB l = true) => l8Table_any v l w' (hl.below hb) (smooth_all h) (smooth_len h).1 (smooth_len h).2)
  have hR0 := Lib.hid (fun W : World => Rows2.made W 24 rfl)
  obtain ⟨a, c, rfl, _, _, _⟩ := hl
  cases hs : smoothB l
  · rw [hs] at HF
    clear hs HT
    go_enter Tryd.func72, Tryd.ntmps72
    go_wp2_with fail
    refine Calls.mono HF.out ?_
    rintro e w1 ⟨rfl, hb1⟩
    have HR := Lib.hid ((hR0.out w1).lower hb1.size)
    have HB := Lib.hid (hb1.alloc hb1.size (.cells #[] 24))
    go_wp2
    go_returns
    exact givesRowsOk HR.out HB.out
  · have HT2 := Lib.hid (fun w' hb => HT.out w' hb hs)
    rw [hs] at HF
    clear hs HT hR0
    go_enter Tryd.func72, Tryd.ntmps72
    go_wp2_with fail
    refine Calls.mono HF.out ?_
    rintro e w1 ⟨rfl, hb1⟩
    have HT3 := Lib.hid (HT2.out w1 hb1)
    have HB := Lib.hid hb1
    go_wp2_with fail
    refine Calls.mono HT3.out ?_
    rintro e w2 ⟨u, hi, rfl, hR, hb2⟩
    have HR := Lib.hid (hR.lower HB.out.size)
    have HB2 := Lib.hid (belowTo HB.out hb2)
    clear hR hb2
    go_wp2
    go_returns
    exact givesRowsOk HR.out HB2.out
end Go.Proofs.YtohojjoediibhaaDoor
