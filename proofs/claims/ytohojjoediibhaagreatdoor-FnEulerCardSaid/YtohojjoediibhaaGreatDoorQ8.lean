/- Degrees and rays add up to 0: the mathematics. -/
import Derived.Test.YtohojjoediibhaaGreatDoorBe
namespace Go.Proofs.YtohojjoediibhaaGreatDoor
open Go.RowKit

theorem sumZ_succ (f : Nat → Int) (k : Nat) : sumZ f (k + 1) = sumZ f k + f k := rfl
theorem sumZ_head (f : Nat → Int) (m : Nat) : sumZ f (m + 1) = f 0 + sumZ (fun i => f (i + 1)) m := by
  induction m with
  | zero => simp [sumZ]
  | succ m ih =>
    rw [sumZ_succ, ih, sumZ_succ]
    omega
theorem sumZ_turn (f : Nat → Int) {n : Nat} (hn : 0 < n) : sumZ (fun i => f ((i + 1) % n)) n = sumZ f n := by
  obtain ⟨m, rfl⟩ : ∃ m, n = m + 1 := ⟨n - 1, by omega⟩
  rw [sumZ_head f m, sumZ_succ, Nat.mod_self]
  rw [sumZ_congr (g := fun i => f (i + 1)) (fun i hi => by rw [Nat.mod_eq_of_lt (by omega)])]
  omega
theorem sumZ_plus (f g : Nat → Int) (n : Nat) : sumZ (fun i => f i + g i) n = sumZ f n + sumZ g n := by
  induction n with
  | zero => rfl
  | succ n ih =>
    rw [sumZ_succ, sumZ_succ, sumZ_succ, ih]
    omega
theorem sumZ_nil {f : Nat → Int} {n : Nat} (h : ∀ i, i < n → f i = 0) : sumZ f n = 0 := by
  induction n with
  | zero => rfl
  | succ n ih =>
    rw [sumZ_succ, ih (fun i hi => h i (by omega)), h n (by omega)]
    rfl
theorem mod_back {n i : Nat} (hi : i < n) : ((i + 1) % n + n - 1) % n = i := by
  by_cases h : i + 1 = n
  · rw [h, Nat.mod_self, Nat.zero_add, show n - 1 = i by omega]
    exact Nat.mod_eq_of_lt hi
  · rw [Nat.mod_eq_of_lt (by omega : i + 1 < n), show i + 1 + n - 1 = i + n by omega, Nat.add_mod_right]
    exact Nat.mod_eq_of_lt hi
/-- a cyclic function q that is met by its neighbours -/
theorem deg_cycle {l : List V2} {d : List Int} (q : Nat → Int) (hn : 0 < l.length) (hq : ∀ i, q (i % l.length) = q i) (h3 : ∀ i, q (i + l.length - 1) + q (i + 1) = -(numZ l i) * q i) : sumZ (fun i => degZ l d i * q i) l.length = 0 := by
  have e1 : sumZ (fun i => gz d ((i + l.length - 1) % l.length) * q i) l.length = sumZ (fun i => gz d i * q (i + 1)) l.length := by
    rw [← sumZ_turn _ hn]
    exact sumZ_congr (fun i hi => by
      try dsimp only
      rw [mod_back hi, hq])
  have e2 : sumZ (fun i => gz d ((i + 1) % l.length) * q i) l.length = sumZ (fun i => gz d i * q (i + l.length - 1)) l.length := by
    rw [← sumZ_turn (fun i => gz d i * q (i + l.length - 1)) hn]
    exact sumZ_congr (fun i hi => by
      try dsimp only
      rw [← hq ((i + 1) % l.length + l.length - 1), mod_back hi])
  have e3 : sumZ (fun i => degZ l d i * q i) l.length = sumZ (fun i => gz d ((i + l.length - 1) % l.length) * q i + (gz d i * numZ l i * q i + gz d ((i + 1) % l.length) * q i)) l.length := sumZ_congr (fun i _ => by
    unfold degZ
    rw [Int.add_mul, Int.add_mul]
    omega)
  rw [e3, sumZ_plus, sumZ_plus, e1, e2, ← sumZ_plus, ← sumZ_plus]
  refine sumZ_nil (fun i _ => ?_)
  have h := h3 i
  rw [show gz d i * q (i + 1) + (gz d i * numZ l i * q i + gz d i * q (i + l.length - 1)) = gz d i * (q (i + l.length - 1) + q (i + 1) + numZ l i * q i) by grind, h]
  grind
theorem deg_rays {l : List V2} {d : List Int} (hS : Smooth l) (hn : 0 < l.length) : sumZ (fun i => degZ l d i * (cyc l i).1) l.length = 0 ∧ sumZ (fun i => degZ l d i * (cyc l i).2) l.length = 0 := by
  have h3 : ∀ i, (cyc l (i + l.length - 1)).1 + (cyc l (i + 1)).1 = -(numZ l i) * (cyc l i).1 ∧ (cyc l (i + l.length - 1)).2 + (cyc l (i + 1)).2 = -(numZ l i) * (cyc l i).2 := fun i => by
    have h1 := hS.2 (i + l.length - 1)
    rw [show i + l.length - 1 + 1 = i + l.length by omega, cyc_add] at h1
    have h := three h1 (hS.2 i)
    unfold numZ
    rw [Int.neg_neg]
    exact h
  have hc : ∀ i, cyc l (i % l.length) = cyc l i := fun i => by unfold cyc; rw [Nat.mod_mod]
  exact ⟨deg_cycle (fun i => (cyc l i).1) hn (fun i => by show _ = _; rw [hc]) (fun i => (h3 i).1), deg_cycle (fun i => (cyc l i).2) hn (fun i => by show _ = _; rw [hc]) (fun i => (h3 i).2)⟩
end Go.Proofs.YtohojjoediibhaaGreatDoor
