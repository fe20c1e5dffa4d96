import Derived.Test.YtgaeibibeekclabGreatDoorS13
namespace Go.Proofs.YtgaeibibeekclabGreatDoor
theorem RoundV.rnd {n : Nat} {u : Nat → P2} (h : RoundV n u) : RndV n u := ⟨h.per, h.turn, fun _ _ _ a b c d => h.neg a b c d⟩
end Go.Proofs.YtgaeibibeekclabGreatDoor
namespace Go.Proofs.YtgaeibibeekclabGreatDoor
variable {n : Nat} {p s : Nat → P2} {g : Nat → Nat}
variable {m : Nat} {E : Nat → P2} {base : Nat → Nat}
end Go.Proofs.YtgaeibibeekclabGreatDoor
