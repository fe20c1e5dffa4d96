/- Sections: is a vector one: the model's exported function. -/
import Derived.Test.YtmencjdlfeojkaaDoorJh
import Derived.Test.YtmencjdlfeojkaaDoorQq
namespace Go.Proofs.YtmencjdlfeojkaaDoor
open Go.RowKit

set_option maxHeartbeats 8000000 in
theorem specSectionHas_any (v : Value) (l : List V2) (u : Value) (d : List Int) (x0 y0 : Int) (w : World) (hl : ReadsVecs w v l) (hd : ReadsInts w u d) :
    Calls Tryd.prog 15 #[v, u, .agg #[.int .i64 (x0), .int .i64 (y0)]] w fun e w' => e = .returned (.bool (divB l d && (vecB x0 y0 && hasZ l d (x0, y0)))) ∧ Below w.heap.size w w' := by
  have HO := Lib.hid (fun w' (hb : Below w.heap.size w w') => specDivisorIn_any v l u d w' (hl.below hb) (hd.below hb))
  have HX := Lib.hid (fun w' (hb : Below w.heap.size w w') (hk : divB l d = true) (ha : vecB x0 y0 = true) => by
    have h3 := div_len hk
    have h := l5Has_any v l u d x0 y0 0 w' (hl.below hb) (hd.below hb) (by omega) (by omega) (div_smooth hk).1 (div_in hk).2.1 (bnd_mono (div_bnd hk) (by omega)) ha (by omega)
    rw [hasE_zero] at h
    exact h)
  have HV := Lib.hid (fun w' => specVecIn_any x0 y0 w')
  obtain ⟨va, vc, rfl, _⟩ := hl
  obtain ⟨a, c, rfl, _⟩ := hd.len
  clear hd
  generalize hasZ l d (x0, y0) = K at *
  cases hk : divB l d
  · rw [hk] at HO
    clear HX hk HV
    go_enter Tryd.func15, Tryd.ntmps15
    go_wp2_with fail
    refine Calls.mono (HO.out _ (by go_grown)) ?_
    rintro e w1 ⟨rfl, hb1⟩
    have hB : Below w.heap.size w w1 := belowTo (by go_grown) hb1
    clear hb1
    go_wp2
    go_returns
    exact ⟨rfl, hB⟩
  · rw [hk] at HO
    have HX2 := Lib.hid (fun w' hb => HX.out w' hb hk)
    clear HX hk
    cases ha : vecB x0 y0
    · rw [ha] at HV
      clear ha HX2
      go_enter Tryd.func15, Tryd.ntmps15
      go_wp2_with fail
      refine Calls.mono (HO.out _ (by go_grown)) ?_
      rintro e w1 ⟨rfl, hb1⟩
      have hB : Below w.heap.size w w1 := belowTo (by go_grown) hb1
      have hc0 : w1.cell? ⟨w.heap.size, 0, none⟩ = some (.int .i64 x0) := (hb1.cell (p := ⟨w.heap.size, 0, none⟩) (by simp)).trans (by simp)
      have hc1 : w1.cell? ⟨w.heap.size, 1, none⟩ = some (.int .i64 y0) := (hb1.cell (p := ⟨w.heap.size, 1, none⟩) (by simp)).trans (by simp)
      clear hb1
      go_wp2_with fail
      refine Calls.mono (HV.out _) ?_
      rintro e w2 ⟨rfl, hb2⟩
      have hB2 := belowTo hB hb2
      clear hb2
      go_wp2
      go_returns
      exact ⟨rfl, hB2⟩
    · rw [ha] at HV
      have HX3 := Lib.hid (fun w' hb => HX2.out w' hb ha)
      clear ha HX2
      go_enter Tryd.func15, Tryd.ntmps15
      go_wp2_with fail
      refine Calls.mono (HO.out _ (by go_grown)) ?_
      rintro e w1 ⟨rfl, hb1⟩
      have hB : Below w.heap.size w w1 := belowTo (by go_grown) hb1
      have hc0 : w1.cell? ⟨w.heap.size, 0, none⟩ = some (.int .i64 x0) := (hb1.cell (p := ⟨w.heap.size, 0, none⟩) (by simp)).trans (by simp)
      have hc1 : w1.cell? ⟨w.heap.size, 1, none⟩ = some (.int .i64 y0) := (hb1.cell (p := ⟨w.heap.size, 1, none⟩) (by simp)).trans (by simp)
      clear hb1
      go_wp2_with fail
      refine Calls.mono (HV.out _) ?_
      rintro e w2 ⟨rfl, hb2⟩
      have hB2 := belowTo hB hb2
      replace hc0 := (hb2.cell (p := ⟨w.heap.size, 0, none⟩) (cell_lt hc0)).trans hc0
      replace hc1 := (hb2.cell (p := ⟨w.heap.size, 1, none⟩) (cell_lt hc1)).trans hc1
      clear hb2
      go_wp2_with fail
      refine Calls.mono (HX3.out _ hB2) ?_
      rintro e w3 ⟨rfl, hb3⟩
      have hB3 := belowTo hB2 hb3
      clear hb3
      go_wp2
      go_returns
      exact ⟨rfl, hB3⟩
end Go.Proofs.YtmencjdlfeojkaaDoor
