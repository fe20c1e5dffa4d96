import Derived.Test.YtgaeibibeekclabGreatDoorS08
import Derived.Test.YtgaeibibeekclabGreatDoorS14
import Derived.Test.YtgaeibibeekclabGreatDoorS31
import Derived.Test.YtgaeibibeekclabGreatDoorS50
namespace Go.Proofs.YtgaeibibeekclabGreatDoor
def sum3 (l : List V2) (k : Nat) : Int := sumZ (fun i => 3 + numZ l i) k
theorem sum3_succ (l : List V2) (k : Nat) : sum3 l (k + 1) = sum3 l k + (3 + numZ l k) := rfl
theorem smooth_round {l : List V2} (h : smoothB l = true) : RndV l.length (cyc l) := by
  obtain ⟨hf, hs⟩ := smooth_in h
  have h3 := fan_len hf
  exact (round_of (by omega) (fun i _ => by rw [allS_at hs (by omega)]; decide) (fan_in hf).2.2).rnd
end Go.Proofs.YtgaeibibeekclabGreatDoor
namespace Go.Proofs.YtgaeibibeekclabGreatDoor
open Go.RowKit
theorem fan_smV {l : List V2} (h : smoothB l = true) : SmV l.length (cyc l) := ⟨smooth_round h, fun i => (smooth_all h).2 i, (smooth_len h).1⟩
theorem twelve_sum {l : List V2} (h : smoothB l = true) : sum3 l l.length = 12 := by
  have hS := smooth_all h
  have h3 := (smooth_len h).1
  have h12 := noether l.length _ ((fan_smV h).shift (l.length - 1))
  have e : ∀ n, sum3 l n = twV n (fun i => cyc l (l.length - 1 + i)) := by
    intro n
    induction n with
    | zero => rfl
    | succ n ih =>
      rw [sum3_succ, ih]
      unfold twV
      rw [sumI_succ]
      unfold numZ detV detZ dtV
      dsimp only
      rw [show n + l.length - 1 = l.length - 1 + n by omega, show l.length - 1 + (n + 2) = n + 1 + l.length by omega, cyc_add]
      omega
  rw [e, h12]
end Go.Proofs.YtgaeibibeekclabGreatDoor
