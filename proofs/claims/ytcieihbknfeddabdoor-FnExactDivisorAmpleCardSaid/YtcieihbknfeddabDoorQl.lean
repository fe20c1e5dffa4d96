/- What the exact laws of divisors ask of lists of whole numbers. -/
import Derived.Test.YtcieihbknfeddabDoorRi
import Derived.Test.YtcieihbknfeddabDoorK0
import Derived.Test.YtcieihbknfeddabDoorBl
import Derived.Test.YtcieihbknfeddabDoorB9
namespace Go.Proofs.YtcieihbknfeddabDoor
open Go.RowKit

theorem IntRow.le_max {w : World} {a : Option Addr} {len cap : Nat} (h : IntRow w a len cap) : len ≤ 9223372036854775807 := by
  obtain ⟨h1, h2, _⟩ := h
  unfold maxLen at h2
  omega
theorem markIntS_from (v : Value) (b k : Nat) (l : List Int) (w : World) (I : Ints w b v l) (hk : k ≤ 1125899906842624) (hm : l.length ≤ 1152921504606846976) :
    Calls Tryd.prog 28 #[v, .int .i64 k] w fun e w' => e = .returned (.int .i64 ((k + l.length : Nat) : Int)) ∧ w.grownBy w' v.ownBlock := by
  rcases I.form with ⟨rfl, a, c, rfl⟩ | ⟨hne, g, c, rfl, _, _, _⟩
  · refine Calls.mono (markIntS_nil a c k w) ?_
    rintro e w' ⟨rfl, rfl⟩
    exact ⟨rfl, World.grownBy.refl _ _⟩
  · refine Calls.mono (markIntS_row g c b k l.length l w rfl I hk hm) ?_
    rintro e w' ⟨rfl, h2, h3⟩
    exact ⟨rfl, h3⟩
theorem toIntS_row (a : Option Addr) (len cap : Nat) (w : World) (h : IntRow w a len cap) (hl : len ≤ 1048576) : ∃ l, l.length = len ∧ ReadsInts w (.slice a len cap) l := h.reads hl
end Go.Proofs.YtcieihbknfeddabDoor
