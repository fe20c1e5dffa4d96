import Derived.Test.YtohojjoediibhaaGreatDoorHc
import Derived.Test.YtohojjoediibhaaGreatDoorBf
import Derived.Test.YtohojjoediibhaaGreatDoorBp
import Derived.Test.YtohojjoediibhaaGreatDoorBe
/- Sections: bounds and boxes: the model. -/
namespace Go.Proofs.YtohojjoediibhaaGreatDoor
open Go.RowKit

theorem l3NextB_any (a : Option Addr) (n c k : Nat) (w : World) (hk : k < n) (hn : n ≤ 4611686018427387904) :
    Calls Tryz.prog 88 #[.slice a n c, .int .i64 k] w fun e w' => e = .returned (.int .i64 ((k + 1) % n : Nat)) ∧ Below w.heap.size w w' :=
  (l3Next_any a n c k w hk hn).mono (fun _ _ h => ⟨h.1, by rw [← h.2]; exact Below.refl _ _⟩)
end Go.Proofs.YtohojjoediibhaaGreatDoor

/- Sections: boxes, sections: the model's functions. -/
namespace Go.Proofs.YtohojjoediibhaaGreatDoor
open Go.RowKit

/-- is m a section whose products are by e more than they must be -/
def hasE (l : List V2) (d : List Int) (m : V2) (e : Int) : Bool := (List.range l.length).all (fun i => decide (e - gz d i ≤ dotZ m.1 m.2 (cyc l i).1 (cyc l i).2))
theorem hasE_zero (l : List V2) (d : List Int) (m : V2) : hasE l d m 0 = hasZ l d m := by
  unfold hasE hasZ
  simp only [Int.zero_sub]
theorem hasE_bad {l : List V2} {d : List Int} {m : V2} {e : Int} {i : Nat} (hi : i < l.length) (h : dotZ m.1 m.2 (cyc l i).1 (cyc l i).2 < e - gz d i) : hasE l d m e = false := by
  unfold hasE
  rw [List.all_eq_false]
  exact ⟨i, List.mem_range.2 hi, by simpa using h⟩
theorem hasE_good {l : List V2} {d : List Int} {m : V2} {e : Int} (h : ∀ i, i < l.length → e - gz d i ≤ dotZ m.1 m.2 (cyc l i).1 (cyc l i).2) : hasE l d m e = true :=
  List.all_eq_true.2 (fun i hi => by simpa using h i (List.mem_range.1 hi))
end Go.Proofs.YtohojjoediibhaaGreatDoor

/- Sections: is a vector one: the model's exported function. -/
namespace Go.Proofs.YtohojjoediibhaaGreatDoor
open Go.RowKit

end Go.Proofs.YtohojjoediibhaaGreatDoor
