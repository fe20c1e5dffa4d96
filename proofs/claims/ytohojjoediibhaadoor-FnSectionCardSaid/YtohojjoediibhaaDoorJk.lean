/- Corners of nef divisors and twice their area: the mathematics, the program. -/
import Derived.Test.YtohojjoediibhaaDoorJb
import Derived.Test.YtohojjoediibhaaDoorJn
import Derived.Test.YtohojjoediibhaaDoorQx
import Derived.Test.YtohojjoediibhaaDoorBa
import Derived.Test.YtohojjoediibhaaDoorBe
import Derived.Test.YtohojjoediibhaaDoorB2
namespace Go.Proofs.YtohojjoediibhaaDoor
open Go.RowKit

/-- the corner of a cone -/
def cornZ (l : List V2) (d : List Int) (i : Nat) : V2 := (-(vecAt l d i).1, -(vecAt l d i).2)
def cornL (l : List V2) (d : List Int) : List V2 := (List.range l.length).map (cornZ l d)
theorem corn_len (l : List V2) (d : List Int) : (cornL l d).length = l.length := by simp [cornL]
theorem corn_cyc {l : List V2} {d : List Int} {k : Nat} (h : k < l.length) : cyc (cornL l d) k = cornZ l d k := by
  unfold cyc
  rw [corn_len, Nat.mod_eq_of_lt h]
  simp [cornL, h]
theorem corn_snoc (l : List V2) (d : List Int) (k : Nat) : (List.range (k + 1)).map (cornZ l d) = (List.range k).map (cornZ l d) ++ [cornZ l d k] := by simp [List.range_succ]
/-- are the corners those of a nef divisor, and vectors -/
def cornDB (l : List V2) (d : List Int) : Bool := nefDB l d && allV (cornL l d)
/-! the program -/
set_option maxHeartbeats 1000000 in
theorem timesNeg_any (x y : Int) (w : World) (h : (-400000 ≤ x ∧ x ≤ 400000) ∧ -400000 ≤ y ∧ y ≤ 400000) :
    Calls Tryd.prog 112 #[.agg #[.int .i64 (x), .int .i64 (y)], .int .i64 (-1)] w fun e w' => e = .returned (.agg #[.int .i64 (-x), .int .i64 (-y)]) ∧ Below w.heap.size w w' := by
  obtain ⟨⟨_, _⟩, _, _⟩ := h
  go_enter Tryd.func112, Tryd.ntmps112
  go_wp2
  go_returns
  exact ⟨rfl, by go_grown⟩
theorem cornD_in {l : List V2} {d : List Int} (h : cornDB l d = true) : divB l d = true ∧ nefL (degsZ l d) = true ∧ allV (cornL l d) = true := by
  unfold cornDB nefDB at h
  simp only [Bool.and_eq_true] at h
  exact ⟨h.1.1, h.1.2, h.2⟩
theorem cornD_len {l : List V2} {d : List Int} (h : cornDB l d = true) : l.length ≤ 20 := (div_len (cornD_in h).1).2
end Go.Proofs.YtohojjoediibhaaDoor
