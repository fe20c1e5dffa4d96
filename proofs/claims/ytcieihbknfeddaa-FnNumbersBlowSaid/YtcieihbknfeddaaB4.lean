import Derived.Test.YtcieihbknfeddaaB1
import Derived.Test.YtcieihbknfeddaaB2
import Derived.Deep.RegionHeld3
import Derived.Deep.DeepCutAuto
import Derived.Test.YtcieihbknfeddaaB3
/- Chapter 2: what a cone is, both sides. -/
namespace Go.Proofs.Ytcieihbknfeddaa
open Go.RowKit

set_option maxHeartbeats 1000000 in
theorem l2Primitive_any (x y : Int) (w : World) :
    Calls Try.prog 32 #[.agg #[.int .i64 (x), .int .i64 (y)]] w fun e w' => e = .returned (.bool (primB x y)) ∧ Below w.heap.size w w' := by
  unfold primB
  cases h : vecB x y
  · go_enter Try.func32, Try.ntmps32
    (go_wp2_with fail; go_call (specVecIn_any x y _) as e w1 ⟨rfl, hb1⟩); obtain ⟨hc1, hf1⟩ := bcell hb1; have hz1 := bsize hb1
    go_wp2
    go_returns
    exact ⟨rfl, belowTo (by go_grown) hb1⟩
  · obtain ⟨hx, hy⟩ := szs h
    go_enter Try.func32, Try.ntmps32
    (go_wp2_with fail; go_call (specVecIn_any x y _) as e w1 ⟨rfl, hb1⟩); obtain ⟨hc1, hf1⟩ := bcell hb1; have hz1 := bsize hb1
    (go_wp2_with fail; go_call (l1Gcd_any x y _ hx hy) as e w2 ⟨rfl, hb2⟩); replace hb1 := belowTo hb1 hb2; clear hb2 hc1 hf1 hz1; obtain ⟨hc1, hf1⟩ := bcell hb1; have hz1 := bsize hb1
    go_wp2
    go_returns
    exact ⟨by rfl, belowTo (by go_grown) hb1⟩
end Go.Proofs.Ytcieihbknfeddaa

/- Chapter 2: the index, what a cone has, parts, duals, moved cones: both sides. -/
namespace Go.Proofs.Ytcieihbknfeddaa
open Go.RowKit

/-! ConeIndex -/
/-! what a cone has -/
theorem cv_in {a b c d x y : Int} (h : cvOk a b c d x y = true) : coneB a b c d = true ∧ vecB x y = true := by simpa [cvOk] using h
/-! ConeParts -/
theorem has_in {a b c d x y : Int} (h : hasOk a b c d x y = true) : cvOk a b c d x y = true ∧ inB a b c d x y = true := by simpa [hasOk] using h
end Go.Proofs.Ytcieihbknfeddaa

/- Fractions: the model's loop; FractionOf, both sides. -/
namespace Go.Proofs.Ytcieihbknfeddaa
open Go.RowKit

theorem Ints.empty (w : World) : Ints (w.alloc (.cells #[] 3)) w.heap.size (.slice (some ⟨w.heap.size, 0, none⟩) 0 0) [] :=
  World.ownsRow_made w #[] 0 (Nat.le_refl _) (by simp [maxLen]) rfl
/-! FractionOf -/
def gateL (b : Bool) (l : List Int) : List Int := if b then l else []
def fractOk (n q : Int) : Bool := decide (1 ≤ q) && (decide (q < n) && (decide (n ≤ 10000) && (gcdZ n q == 1)))
theorem fract_in {n q : Int} (h : fractOk n q = true) : 1 ≤ q ∧ q < n ∧ n ≤ 10000 ∧ gcdZ n q = 1 := by simpa [fractOk] using h
theorem fract_out {n q : Int} (h : fractOk n q = false) : q < 1 ∨ (1 ≤ q ∧ n ≤ q) ∨ (1 ≤ q ∧ q < n ∧ 10000 < n) ∨ (1 ≤ q ∧ q < n ∧ n ≤ 10000 ∧ gcdZ n q ≠ 1) := by
  by_cases h1 : 1 ≤ q <;> by_cases h2 : q < n <;> by_cases h3 : n ≤ 10000 <;> simp [fractOk, h1, h2, h3] at h ⊢ <;> omega
def FracGives (w : World) (n q : Int) (e : Ending) (w' : World) : Prop := GivesIntsOk w (gateL (fractOk n q) (fracZ n q)) (fractOk n q) e w'
theorem frac_none {w w' : World} {n q : Int} {v : Value} {e : Ending} (h : fractOk n q = false) (he : e = .returned (.tuple #[v, .bool false])) (hI : Ints w' w.heap.size v []) (hB : Below w.heap.size w w') : FracGives w n q e w' := by
  unfold FracGives
  rw [h]
  exact ⟨v, he, hI, hB⟩
end Go.Proofs.Ytcieihbknfeddaa

/- Chapter 2: the kind and the fraction of a cone: both sides. -/
namespace Go.Proofs.Ytcieihbknfeddaa
open Go.RowKit

theorem mul_bd2 {q a : Int} (hq : 0 ≤ q ∧ q ≤ 2000000) (ha : -1000 ≤ a ∧ a ≤ 1000) : -2000000000 ≤ q * a ∧ q * a ≤ 2000000000 := by
  have h : (q * a).natAbs ≤ 2000000000 := by
    rw [Int.natAbs_mul]
    have := Nat.mul_le_mul (show q.natAbs ≤ 2000000 by omega) (show a.natAbs ≤ 1000 by omega)
    omega
  omega
end Go.Proofs.Ytcieihbknfeddaa

/- Chapter 2: the fraction of a cone: both sides. -/
namespace Go.Proofs.Ytcieihbknfeddaa
open Go.RowKit

theorem fracC_len {a b c d : Int} (h : coneB a b c d = true) : (fracC a b c d).length ≤ 2000000 := by
  obtain ⟨h1, _, h2, _, _⟩ := cone_in h
  have := frac_len (detZ a b c d) (kindC a b c d)
  have := det_sz h1 h2
  have := kindC_rng h
  unfold fracC
  omega
end Go.Proofs.Ytcieihbknfeddaa
