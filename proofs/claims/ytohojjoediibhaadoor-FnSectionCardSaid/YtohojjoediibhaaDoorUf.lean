/- The draws of chapters 4 and 5 of a fan with a divisor and a number or a vector. -/
import Derived.Test.YtohojjoediibhaaDoorUd
import Derived.Test.YtohojjoediibhaaDoorUg
import Derived.Test.YtohojjoediibhaaDoorQf
namespace Go.Proofs.YtohojjoediibhaaDoor
open Go.RowKit

theorem Reads.seek {w : World} {B : Nat} {a : Option Addr} {len cap : Nat} {p : Int} (h : Reads w B a len cap p) (q : Int) (hq : 0 ≤ q) : Reads (w.setCell ⟨B, 1, none⟩ (.int .i64 q)) B a len cap q := by
  obtain ⟨h1, h2, h3, h4, h5, h6⟩ := h
  refine ⟨h1.below ((Below.refl B w).setCell (p := ⟨B, 1, none⟩) (Nat.le_refl B) (.int .i64 q)), ?_, World.cell?_setCell_same _ _ _ h3, ?_, by simpa using h5, hq⟩
  · rw [World.cell?_setCell_other _ _ _ _ (by simp)]
    exact h2
  · rw [World.frozen?_setCell]; exact h4
def GivenN (w : World) (e : Ending) (w' : World) : Prop :=
  ∃ (v u : Value) (l : List V2) (d : List Int) (n : Int), e = .returned (.tuple #[v, u, .int .i64 n]) ∧ ReadsVecs w' v l ∧ ReadsInts w' u d ∧ 2 ≤ l.length ∧ l.length ≤ 20 ∧ d.length = l.length ∧ Below w.heap.size w w'
set_option maxHeartbeats 4000000 in
theorem drawDivisorTimes_any (w : World) (a : Option Addr) (len cap : Nat) (h : Bytes w a len cap) :
    Calls Tryd.prog 28 #[.slice a len cap] w (GivenN w) := by
  have HO := Lib.hid (l92Given_any w a len cap h)
  have HH := Lib.hid h
  clear h
  go_enter Tryd.func28, Tryd.ntmps28
  go_wp2_with fail
  refine Calls.mono HO.out ?_
  rintro e w1 ⟨v, u, l, d, rfl, hV, hI, h2, h20, hd, hb1⟩
  have HO2 := Lib.hid (l6Open_any w1 a len cap (HH.out.below hb1))
  have HV := Lib.hid hV
  have HI := Lib.hid hI
  have HB1 := Lib.hid hb1
  have hs1 := hb1.size
  clear hV hI hb1 HO HH
  go_wp2_with fail
  refine Calls.mono HO2.out ?_
  rintro e w2 ⟨l1, c1, rfl, r2, hb2, hs2⟩
  have HR2 := Lib.hid r2
  have HB2 := Lib.hid hb2
  have x1 := r2.2.2.1
  have xf := r2.2.2.2.1
  clear r2 hb2 HO2
  go_wp2_with fail
  refine Calls.mono (pickG_any _ w1.heap.size a l1 c1 61 7 (HR2.out.seek 61 (by omega)) (by omega) (by omega)) ?_
  rintro e w3 ⟨⟨x, rfl, x0, x7, r3, -, -, -, b3⟩, g3⟩
  have HR3 := Lib.hid r3
  have HB3 := Lib.hid (HB2.out.trans (Below.trans (by go_grown) b3))
  clear r3 b3 g3 x1 xf HR2 HB2
  go_wp2_with fail
  refine Calls.mono (pickG_any _ w1.heap.size a l1 c1 (61 + 1) 20 HR3.out (by omega) (by omega)) ?_
  rintro e w4 ⟨⟨y, rfl, y0, y7, r4, -, -, -, b4⟩, g4⟩
  have HB4 := Lib.hid (HB3.out.trans b4)
  have HV4 := Lib.hid (HV.out.below HB4.out)
  have HI4 := Lib.hid (HI.out.below HB4.out)
  have HB := Lib.hid (HB1.out.trans (HB4.out.mono hs1))
  have e9 : y.tdiv 19 = y / 19 := Int.tdiv_eq_ediv_of_nonneg y0
  have HD := Lib.hid hd
  clear r4 b4 g4 HR3 HB3 HB4 HV HI HB1 hd
  go_wp2
  go_returns
  exact ⟨_, _, l, d, _, rfl, HV4.out, HI4.out, h2, h20, HD.out, HB.out⟩
theorem VecsO.setTwo {w : World} {base g : Nat} {v : Value} {l : List V2} (h : VecsO w base v l) (hg : g < base) (x y : Value) : VecsO ((w.setCell ⟨g, 0, none⟩ x).setCell ⟨g, 1, none⟩ y) base v l := by
  obtain ⟨⟨a, c, rfl, hc, hm, hcell⟩, h2⟩ := h
  refine ⟨⟨a, c, rfl, hc, hm, fun h0 => ?_⟩, h2⟩
  obtain ⟨bb, off, rfl, hb, hcs⟩ := hcell h0
  have hbb := h2 bb off _ _ rfl
  refine ⟨bb, off, rfl, by simpa using hb, fun j hj => ⟨?_, ?_⟩⟩
  · rw [World.cell?_setCell_far _ _ _ _ (by show g ≠ bb; omega), World.cell?_setCell_far _ _ _ _ (by show g ≠ bb; omega)]
    exact (hcs j hj).1
  · rw [World.cell?_setCell_far _ _ _ _ (by show g ≠ bb; omega), World.cell?_setCell_far _ _ _ _ (by show g ≠ bb; omega)]
    exact (hcs j hj).2
def GivenM (w : World) (e : Ending) (w' : World) : Prop :=
  ∃ (v u : Value) (l : List V2) (d : List Int) (x y : Int), e = .returned (.tuple #[v, u, .agg #[.int .i64 (x), .int .i64 (y)]]) ∧ ReadsVecs w' v l ∧ ReadsInts w' u d ∧ 2 ≤ l.length ∧ l.length ≤ 20 ∧ d.length = l.length ∧ vecB x y = true ∧ vecB (x * 2) (y * 2) = true ∧ Below w.heap.size w w'
set_option maxHeartbeats 4000000 in
theorem drawSectionHas_any (w : World) (a : Option Addr) (len cap : Nat) (h : Bytes w a len cap) :
    Calls Tryd.prog 43 #[.slice a len cap] w (GivenM w) := by
  have HH := Lib.hid h
  clear h
  go_enter Tryd.func43, Tryd.ntmps43
  go_wp2_with fail
  refine Calls.mono (l92NefO_any _ a len cap (HH.out.below (by go_grown))) ?_
  rintro e w1 ⟨v, u, l, d, rfl, hV, hI, h2, h20, hd, hb1⟩
  have hA : Below w.heap.size w w1 := belowTo (by go_grown) hb1
  have e0 : w1.cell? ⟨w.heap.size, 0, none⟩ = some (.int .i64 0) := (hb1.cell (p := ⟨w.heap.size, 0, none⟩) (by simp)).trans (by simp)
  have e1 : w1.cell? ⟨w.heap.size, 1, none⟩ = some (.int .i64 0) := (hb1.cell (p := ⟨w.heap.size, 1, none⟩) (by simp)).trans (by simp)
  have f0 : w1.frozen? ⟨w.heap.size, 0, none⟩ = false := (hb1.frozen (p := ⟨w.heap.size, 0, none⟩) (by simp)).trans (by simp)
  have f1 : w1.frozen? ⟨w.heap.size, 1, none⟩ = false := (hb1.frozen (p := ⟨w.heap.size, 1, none⟩) (by simp)).trans (by simp)
  have hs1 : w.heap.size + 1 ≤ w1.heap.size := by have := hb1.size; simpa using this
  have HO2 := Lib.hid (l6Open_any w1 a len cap (HH.out.below hA))
  have hW1 : w.heap.size + 1 ≤ (w.alloc (.cells #[.int .i64 0, .int .i64 0] 43)).heap.size := by simp
  have HV := Lib.hid (hV.lower hW1)
  have HI := Lib.hid (hI.lower hW1)
  have HB1 := Lib.hid hA
  clear hV hI hb1 HH hA hW1
  go_wp2_with fail
  refine Calls.mono HO2.out ?_
  rintro e w2 ⟨l1, c1, rfl, r2, hb2, hs2⟩
  replace e0 := (hb2.cell (p := ⟨w.heap.size, 0, none⟩) (by show w.heap.size < _; omega)).trans e0
  replace e1 := (hb2.cell (p := ⟨w.heap.size, 1, none⟩) (by show w.heap.size < _; omega)).trans e1
  replace f0 := (hb2.frozen (p := ⟨w.heap.size, 0, none⟩) (by show w.heap.size < _; omega)).trans f0
  replace f1 := (hb2.frozen (p := ⟨w.heap.size, 1, none⟩) (by show w.heap.size < _; omega)).trans f1
  have HR2 := Lib.hid r2
  have HB2 := Lib.hid hb2
  have x1 := r2.2.2.1
  have xf := r2.2.2.2.1
  have ne : ¬ w.heap.size = w1.heap.size := by omega
  have ne' : ¬ w1.heap.size = w.heap.size := by omega
  clear r2 hb2 HO2
  go_wp2_with fail
  refine Calls.mono (pickG_any _ w1.heap.size a l1 c1 61 7 (HR2.out.seek 61 (by omega)) (by omega) (by omega)) ?_
  rintro e w3 ⟨⟨x, rfl, x0, x7, r3, -, -, -, b3⟩, g3⟩
  have hB3 : Below w1.heap.size w1 w3 := HB2.out.trans (Below.trans (by go_grown) b3)
  have b23 : Below w1.heap.size w2 w3 := Below.trans (by go_grown) b3
  replace e0 := (b23.cell (p := ⟨w.heap.size, 0, none⟩) (by show w.heap.size < _; omega)).trans e0
  replace e1 := (b23.cell (p := ⟨w.heap.size, 1, none⟩) (by show w.heap.size < _; omega)).trans e1
  replace f0 := (b23.frozen (p := ⟨w.heap.size, 0, none⟩) (by show w.heap.size < _; omega)).trans f0
  replace f1 := (b23.frozen (p := ⟨w.heap.size, 1, none⟩) (by show w.heap.size < _; omega)).trans f1
  have HR3 := Lib.hid r3
  have HB3 := Lib.hid hB3
  clear r3 b3 g3 x1 xf HR2 HB2 b23 hB3
  go_wp2_with fail
  refine Calls.mono (pickG_any _ w1.heap.size a l1 c1 (61 + 1) 7 HR3.out (by omega) (by omega)) ?_
  rintro e w4 ⟨⟨y, rfl, y0, y7, r4, -, -, -, b4⟩, g4⟩
  replace e0 := (b4.cell (p := ⟨w.heap.size, 0, none⟩) (by show w.heap.size < _; omega)).trans e0
  replace e1 := (b4.cell (p := ⟨w.heap.size, 1, none⟩) (by show w.heap.size < _; omega)).trans e1
  replace f0 := (b4.frozen (p := ⟨w.heap.size, 0, none⟩) (by show w.heap.size < _; omega)).trans f0
  replace f1 := (b4.frozen (p := ⟨w.heap.size, 1, none⟩) (by show w.heap.size < _; omega)).trans f1
  have hB4 := HB3.out.trans b4
  have hV4 := HV.out.below hB4
  have hI4 := HI.out.below hB4
  have hB := HB1.out.trans (hB4.mono (by omega))
  have hs4 := hB4.size
  have hlt : w.heap.size < w4.heap.size := by omega
  have HV4 := Lib.hid hV4
  have HI4 := Lib.hid hI4
  have HB4 := Lib.hid hB
  have HD := Lib.hid hd
  clear r4 b4 g4 HR3 HB3 hB4 HV HI HB1 hV4 hI4 hB hd
  go_wp2
  have hW : Below (w.heap.size + 1) w4 ((w4.setCell ⟨w.heap.size, 0, none⟩ (.int .i64 (x - 3))).setCell ⟨w.heap.size, 1, none⟩ (.int .i64 (y - 3))) ∨ True := .inr trivial
  clear hW
  have hBf := HB4.out
  refine bodyPost_ret (by simp [results, Tryd.results43, go_sem, *]; try rfl) rfl ?_
  refine ⟨_, _, l, d, _, _, rfl, ?_, ?_, h2, h20, HD.out, ?_, ?_, by go_grown⟩
  · exact (HV4.out.setTwo (by omega) _ _).1
  · exact ((HI4.out.setLow (show w.heap.size < w.heap.size + 1 by omega) _).setLow (show w.heap.size < w.heap.size + 1 by omega) _).reads (by have := HD.out; omega)
  · unfold vecB szB; simp; omega
  · unfold vecB szB; simp; omega
end Go.Proofs.YtohojjoediibhaaDoor
