/- Divisors of vectors: the program. -/
import Derived.Test.YtohojjoediibhaaDoorBe
import Derived.Test.YtohojjoediibhaaDoorQf
import Derived.Test.YtohojjoediibhaaDoorQh
import Derived.Test.YtohojjoediibhaaDoorB9
import Derived.Test.YtohojjoediibhaaDoorB2
import Derived.Test.YtohojjoediibhaaDoorB7
namespace Go.Proofs.YtohojjoediibhaaDoor
open Go.RowKit Go.Shelf

attribute [local go_sem] Oper.semAt_some

set_option maxHeartbeats 1000000 in
theorem productBig_any (x1 y1 x2 y2 : Int) (w : World) (h1 : (-400000 ≤ x1 ∧ x1 ≤ 400000) ∧ -400000 ≤ y1 ∧ y1 ≤ 400000) (h2 : vecB x2 y2 = true) :
    Calls Tryd.prog 150 #[.agg #[.int .i64 (x1), .int .i64 (y1)], .agg #[.int .i64 (x2), .int .i64 (y2)]] w fun e w' => e = .returned (.int .i64 (dotZ x1 y1 x2 y2)) ∧ Below w.heap.size w w' := by
  have h3 := dot_big h1 h2
  obtain ⟨⟨_, _⟩, _, _⟩ := h3
  clear h1 h2
  go_enter Tryd.func150, Tryd.ntmps150
  go_wp2
  go_returns
  exact ⟨rfl, by go_grown⟩
theorem cell_of_block {W W' : World} {b o : Nat} (h : W'.heap[b]? = W.heap[b]?) : W'.cell? ⟨b, o, none⟩ = W.cell? ⟨b, o, none⟩ := by simp [World.cell?, h]
def trivAt (l : List V2) (x y : Int) (pre : List Nat) : List Int := pre.map (fun i => dotZ x y (cyc l i).1 (cyc l i).2)
theorem trivAt_snoc (l : List V2) (x y : Int) (pre : List Nat) (k : Nat) : trivAt l x y (pre ++ [k]) = trivAt l x y pre ++ [dotZ x y (cyc l k).1 (cyc l k).2] := by simp [trivAt]
end Go.Proofs.YtohojjoediibhaaDoor
