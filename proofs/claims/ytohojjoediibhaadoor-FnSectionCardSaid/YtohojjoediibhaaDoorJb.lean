/- The vector whose products with a ray and the next one are the coefficients: the program. -/
import Derived.Test.YtohojjoediibhaaDoorBe
import Derived.Test.YtohojjoediibhaaDoorCc
import Derived.Test.YtohojjoediibhaaDoorB7
import Derived.Test.YtohojjoediibhaaDoorB9
namespace Go.Proofs.YtohojjoediibhaaDoor
open Go.RowKit

/-- the vector whose products with ray i and the next one are the coefficients there -/
def vecAt (l : List V2) (d : List Int) (i : Nat) : V2 := (gz d i * (cyc l (i + 1)).2 - gz d ((i + 1) % l.length) * (cyc l i).2, gz d ((i + 1) % l.length) * (cyc l i).1 - gz d i * (cyc l (i + 1)).1)
theorem vecAt_zero {l : List V2} (h : 2 ≤ l.length) (d : List Int) : vecAt l d 0 = vecZ l d := by
  unfold vecAt vecZ
  rw [Nat.zero_add, Nat.mod_eq_of_lt (show 1 < l.length by omega)]
theorem vecAt_bnd {l : List V2} {d : List Int} (hv : allVec l) (hd : bnd 200 d) (i : Nat) : (-400000 ≤ (vecAt l d i).1 ∧ (vecAt l d i).1 ≤ 400000) ∧ -400000 ≤ (vecAt l d i).2 ∧ (vecAt l d i).2 ≤ 400000 := by
  unfold vecAt
  have h1 := szs (hv i)
  have h2 := szs (hv (i + 1))
  have m1 := mul_le (hd i) h2.2
  have m2 := mul_le (hd ((i + 1) % l.length)) h1.2
  have m3 := mul_le (hd ((i + 1) % l.length)) h1.1
  have m4 := mul_le (hd i) h2.1
  dsimp only
  omega
set_option maxHeartbeats 1000000 in
theorem timesB_any (x y n : Int) (w : World) (h1 : vecB x y = true) (h2 : -200 ≤ n ∧ n ≤ 200) :
    Calls Tryd.prog 112 #[.agg #[.int .i64 (x), .int .i64 (y)], .int .i64 n] w fun e w' => e = .returned (.agg #[.int .i64 (x * n), .int .i64 (y * n)]) ∧ Below w.heap.size w w' := by
  obtain ⟨hx, hy⟩ := szs h1
  have m1 := mul_le hx h2
  have m2 := mul_le hy h2
  obtain ⟨_, _⟩ := m1
  obtain ⟨_, _⟩ := m2
  clear h1 h2 hx hy
  go_enter Tryd.func112, Tryd.ntmps112
  go_wp2
  go_returns
  exact ⟨rfl, by go_grown⟩
set_option maxHeartbeats 1000000 in
theorem plusB_any (x1 y1 x2 y2 : Int) (w : World) (h1 : (-200000 ≤ x1 ∧ x1 ≤ 200000) ∧ -200000 ≤ y1 ∧ y1 ≤ 200000) (h2 : (-200000 ≤ x2 ∧ x2 ≤ 200000) ∧ -200000 ≤ y2 ∧ y2 ≤ 200000) :
    Calls Tryd.prog 153 #[.agg #[.int .i64 (x1), .int .i64 (y1)], .agg #[.int .i64 (x2), .int .i64 (y2)]] w fun e w' => e = .returned (.agg #[.int .i64 (x1 + x2), .int .i64 (y1 + y2)]) ∧ Below w.heap.size w w' := by
  obtain ⟨⟨_, _⟩, _, _⟩ := h1
  obtain ⟨⟨_, _⟩, _, _⟩ := h2
  go_enter Tryd.func153, Tryd.ntmps153
  go_wp2
  go_returns
  exact ⟨rfl, by go_grown⟩
end Go.Proofs.YtohojjoediibhaaDoor
