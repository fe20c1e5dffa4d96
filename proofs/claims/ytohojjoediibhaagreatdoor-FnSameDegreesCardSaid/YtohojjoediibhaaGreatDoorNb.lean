/- Convex functions on smooth fans that are 0 at two rays beside each other are nowhere negative (plain mathematics). -/
import Derived.Test.YtohojjoediibhaaGreatDoorBh
namespace Go.Proofs.YtohojjoediibhaaGreatDoor

theorem near_side {n : Nat} {u : Nat → P2} (h : RndV n u) (j : Nat) : (∀ k, 1 ≤ k → k < j → 0 ≤ dtV (u k) (u j)) ∨ (∀ k, j < k → k ≤ n → 0 ≤ dtV (u j) (u k)) := by
  by_cases hA : ∃ k, 1 ≤ k ∧ k < j ∧ dtV (u k) (u j) < 0
  · obtain ⟨k, h1, h2, h3⟩ := hA
    refine .inr (fun s h4 h5 => ?_)
    by_cases hs : 0 ≤ dtV (u j) (u s)
    · exact hs
    · exfalso
      have := h.neg j (s - j) (k + n - j) (by omega) (by omega) (by omega) (by rw [show j + (s - j) = s by omega]; omega)
      rw [show j + (k + n - j) = k + n by omega, h.per] at this
      have hf := dt_flip (u k) (u j)
      omega
  · refine .inl (fun k h1 h2 => ?_)
    by_cases hs : 0 ≤ dtV (u k) (u j)
    · exact hs
    · exact absurd ⟨k, h1, h2, by omega⟩ hA
def fwdV (g : Nat → Int) (u : Nat → P2) (x : P2) : Nat → Int
  | 0 => 0
  | k + 1 => fwdV g u x k + g (k + 1) * dtV (u (k + 1)) x
def bwdV (n : Nat) (g : Nat → Int) (u : Nat → P2) (x : P2) : Nat → Int
  | 0 => 0
  | k + 1 => bwdV n g u x k + g (n - k) * dtV x (u (n - k))
theorem fwd_lin (g : Nat → Int) (u : Nat → P2) {a m c : P2} {b : Int} (h : a.1 + c.1 = b * m.1 ∧ a.2 + c.2 = b * m.2) (k : Nat) : fwdV g u c k = b * fwdV g u m k - fwdV g u a k := by
  induction k with
  | zero => simp [fwdV]
  | succ k ih =>
    unfold fwdV
    rw [ih]
    have e : dtV (u (k + 1)) c = b * dtV (u (k + 1)) m - dtV (u (k + 1)) a := by
      unfold dtV
      have h1 : c.1 = b * m.1 - a.1 := by omega
      have h2 : c.2 = b * m.2 - a.2 := by omega
      rw [h1, h2]
      grind
    rw [e]
    grind
theorem bwd_lin (n : Nat) (g : Nat → Int) (u : Nat → P2) {a m c : P2} {b : Int} (h : a.1 + c.1 = b * m.1 ∧ a.2 + c.2 = b * m.2) (k : Nat) : bwdV n g u a k = b * bwdV n g u m k - bwdV n g u c k := by
  induction k with
  | zero => simp [bwdV]
  | succ k ih =>
    unfold bwdV
    rw [ih]
    have e : dtV a (u (n - k)) = b * dtV m (u (n - k)) - dtV c (u (n - k)) := by
      unfold dtV
      have h1 : a.1 = b * m.1 - c.1 := by omega
      have h2 : a.2 = b * m.2 - c.2 := by omega
      rw [h1, h2]
      grind
    rw [e]
    grind
theorem dt_same (a : P2) : dtV a a = 0 := by unfold dtV; grind
theorem fwd_is {g b f : Nat → Int} {u : Nat → P2} (hu : ∀ i, (u i).1 + (u (i + 2)).1 = b (i + 1) * (u (i + 1)).1 ∧ (u i).2 + (u (i + 2)).2 = b (i + 1) * (u (i + 1)).2) (h1 : ∀ i, dtV (u i) (u (i + 1)) = 1)
    (hf : ∀ i, f i + f (i + 2) = b (i + 1) * f (i + 1) + g (i + 1)) (f0 : f 0 = 0) (f1 : f 1 = 0) : ∀ j, f (j + 1) = fwdV g u (u (j + 1)) j ∧ f (j + 2) = fwdV g u (u (j + 2)) (j + 1) := by
  intro j
  induction j with
  | zero =>
    refine ⟨by rw [f1]; rfl, ?_⟩
    have h := hf 0
    have e := h1 1
    unfold fwdV fwdV
    rw [show (0 : Nat) + 2 = 1 + 1 from rfl] at *
    rw [show (0 : Nat) + 1 = 1 from rfl] at *
    rw [e]
    rw [f0, f1] at h
    omega
  | succ j ih =>
    obtain ⟨e1, e2⟩ := ih
    refine ⟨e2, ?_⟩
    have h := hf (j + 1)
    have hl := fwd_lin g u (hu (j + 1)) (j + 1)
    have e3 : fwdV g u (u (j + 3)) (j + 2) = fwdV g u (u (j + 3)) (j + 1) + g (j + 2) * dtV (u (j + 2)) (u (j + 3)) := rfl
    have e4 : fwdV g u (u (j + 1)) (j + 1) = fwdV g u (u (j + 1)) j + g (j + 1) * dtV (u (j + 1)) (u (j + 1)) := rfl
    rw [dt_same] at e4
    have e5 := h1 (j + 2)
    rw [show j + 1 + 2 = j + 3 by omega, show j + 1 + 1 = j + 2 by omega] at *
    rw [show j + 2 + 1 = j + 3 by omega] at e5
    rw [e3, e5, hl, e4]
    rw [← e1, ← e2]
    omega
theorem bwd_is {n : Nat} {g b f : Nat → Int} {u : Nat → P2} (hu : ∀ i, (u i).1 + (u (i + 2)).1 = b (i + 1) * (u (i + 1)).1 ∧ (u i).2 + (u (i + 2)).2 = b (i + 1) * (u (i + 1)).2) (h1 : ∀ i, dtV (u i) (u (i + 1)) = 1)
    (hf : ∀ i, f i + f (i + 2) = b (i + 1) * f (i + 1) + g (i + 1)) (f0 : f n = 0) (f1 : f (n + 1) = 0) : ∀ j, j + 1 ≤ n → f (n - j) = bwdV n g u (u (n - j)) j ∧ f (n - (j + 1)) = bwdV n g u (u (n - (j + 1))) (j + 1) := by
  intro j
  induction j with
  | zero =>
    intro hn
    refine ⟨by rw [Nat.sub_zero, f0]; rfl, ?_⟩
    obtain ⟨m, rfl⟩ : ∃ m, n = m + 1 := ⟨n - 1, by omega⟩
    have h := hf m
    have e := h1 m
    unfold bwdV bwdV
    rw [show m + 1 - (0 + 1) = m by omega, Nat.sub_zero, e]
    rw [show m + 2 = m + 1 + 1 from rfl, f0, f1] at h
    omega
  | succ j ih =>
    intro hn
    obtain ⟨e1, e2⟩ := ih (by omega)
    refine ⟨e2, ?_⟩
    obtain ⟨m, rfl⟩ : ∃ m, n = m + (j + 2) := ⟨n - (j + 2), by omega⟩
    have h := hf m
    have hl := bwd_lin (m + (j + 2)) g u (hu m) (j + 1)
    have e3 : bwdV (m + (j + 2)) g u (u m) (j + 2) = bwdV (m + (j + 2)) g u (u m) (j + 1) + g (m + (j + 2) - (j + 1)) * dtV (u m) (u (m + (j + 2) - (j + 1))) := rfl
    have e4 : bwdV (m + (j + 2)) g u (u (m + 2)) (j + 1) = bwdV (m + (j + 2)) g u (u (m + 2)) j + g (m + (j + 2) - j) * dtV (u (m + 2)) (u (m + (j + 2) - j)) := rfl
    rw [show m + (j + 2) - (j + 1) = m + 1 by omega] at e2 e3
    rw [show m + (j + 2) - j = m + 2 by omega] at e1 e4
    rw [dt_same] at e4
    rw [show m + (j + 2) - (j + 1 + 1) = m by omega, show j + 1 + 1 = j + 2 from rfl, e3, h1, hl, e4, ← e1, ← e2]
    omega
theorem fwd_up {g : Nat → Int} {u : Nat → P2} {x : P2} (hg : ∀ i, 0 ≤ g i) : ∀ k, (∀ i, 1 ≤ i → i ≤ k → 0 ≤ dtV (u i) x) → 0 ≤ fwdV g u x k := by
  intro k
  induction k with
  | zero => intro _; exact Int.le_refl _
  | succ k ih =>
    intro h
    have h1 := ih (fun i a b => h i a (by omega))
    have h2 := Int.mul_nonneg (hg (k + 1)) (h (k + 1) (by omega) (by omega))
    unfold fwdV
    omega
theorem bwd_up {n : Nat} {g : Nat → Int} {u : Nat → P2} {x : P2} (hg : ∀ i, 0 ≤ g i) : ∀ k, (∀ i, i < k → 0 ≤ dtV x (u (n - i))) → 0 ≤ bwdV n g u x k := by
  intro k
  induction k with
  | zero => intro _; exact Int.le_refl _
  | succ k ih =>
    intro h
    have h1 := ih (fun i a => h i (by omega))
    have h2 := Int.mul_nonneg (hg (n - k)) (h k (by omega))
    unfold bwdV
    omega
/-- a function that bends upwards at each ray, and is 0 at two of them, is nowhere negative -/
theorem all_up {n : Nat} {g b f : Nat → Int} {u : Nat → P2} (h : SmV n u) (hu : ∀ i, (u i).1 + (u (i + 2)).1 = b (i + 1) * (u (i + 1)).1 ∧ (u i).2 + (u (i + 2)).2 = b (i + 1) * (u (i + 1)).2)
    (hf : ∀ i, f i + f (i + 2) = b (i + 1) * f (i + 1) + g (i + 1)) (hg : ∀ i, 0 ≤ g i) (f0 : f 0 = 0) (f1 : f 1 = 0) (fn : f n = 0) (fn1 : f (n + 1) = 0) {j : Nat} (hj : j < n) : 0 ≤ f j := by
  by_cases h0 : j = 0
  · subst h0; omega
  rcases near_side h.rnd j with hk | hk
  · obtain ⟨i, rfl⟩ : ∃ i, j = i + 1 := ⟨j - 1, by omega⟩
    rw [(fwd_is hu h.one hf f0 f1 i).1]
    exact fwd_up hg i (fun k a b => hk k a (by omega))
  · have e := (bwd_is hu h.one hf fn fn1 (n - j) (by omega)).1
    rw [show n - (n - j) = j by omega] at e
    rw [e]
    exact bwd_up hg (n - j) (fun i a => hk (n - i) (by omega) (by omega))
end Go.Proofs.YtohojjoediibhaaGreatDoor
