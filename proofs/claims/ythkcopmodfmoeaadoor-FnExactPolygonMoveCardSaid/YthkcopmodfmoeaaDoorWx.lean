/- Directions in order from the one that is met first; plain mathematics. -/
import Derived.Test.YthkcopmodfmoeaaDoorWm
namespace Go.Proofs.YthkcopmodfmoeaaDoor
/-! in order from the one that is met first -/
structure RndV (n : Nat) (u : Nat → P2) : Prop where
  per : ∀ i, u (i + n) = u i
  turn : ∀ i, 0 < dtV (u i) (u (i + 1))
  neg : ∀ j t t', 0 < t → t < t' → t' < n → dtV (u j) (u (j + t)) ≤ 0 → dtV (u j) (u (j + t')) < 0
theorem RoundV.rnd {n : Nat} {u : Nat → P2} (h : RoundV n u) : RndV n u := ⟨h.per, h.turn, fun _ _ _ a b c d => h.neg a b c d⟩
theorem low_upp_ng {a : P2} (h : lowV a) : uppV (ngV a) := upp_ng h
theorem RndV.nz {n : Nat} {u : Nat → P2} (h : RndV n u) (i : Nat) : uppV (u i) ∨ lowV (u i) := (nz_of_dt (h.turn i)).1
theorem RndV.sorted {n : Nat} {u : Nat → P2} (h : RndV n u) {K : Nat} (hmin : ∀ j, ¬ ahdV (u j) (u K)) : ∀ t' t, t < t' → t' < n → ahdV (u (K + t)) (u (K + t')) := by
  have step : ∀ t, t + 1 < n → ahdV (u (K + t)) (u (K + t + 1)) := by
    intro t ht
    have hd := h.turn (K + t)
    refine ahd_of hd (fun hk => ?_)
    have hf := dt_flip (u (K + t)) (u (K + t + 1))
    rcases hk with ⟨b1, a1⟩ | ⟨_, _, hp⟩ | ⟨_, _, hp⟩
    · by_cases h0 : t = 0
      · subst h0
        exact hmin (K + 0 + 1) (.inl ⟨b1, a1⟩)
      · have hc : uppV (u K) := by
          rcases h.nz K with c | c
          · exact c
          · exact (hmin (K + t + 1) (.inl ⟨b1, c⟩)).elim
        have hbc : ¬ 0 < dtV (u (K + t + 1)) (u K) := fun q => hmin (K + t + 1) (.inr (.inl ⟨b1, hc, q⟩))
        have hf2 := dt_flip (u (K + t + 1)) (u K)
        rcases Int.lt_or_le 0 (dtV (u K) (u (K + t))) with q | q
        · have e1 : 0 < dtV (u (K + t + 1)) (ngV (u (K + t))) := by rw [dt_ngr]; omega
          have e2 : 0 < dtV (ngV (u (K + t))) (u K) := by
            have := dt_flip (u K) (u (K + t))
            rw [dt_ngl]; omega
          exact hbc (upp_trans b1 (upp_ng a1) hc (Int.le_of_lt e1) e2)
        · have := h.neg K t (t + 1) (by omega) (by omega) ht q
          rw [← Nat.add_assoc] at this
          omega
    · omega
    · omega
  intro t'
  induction t' with
  | zero => omega
  | succ t' ih =>
    intro t htt ht
    by_cases e : t = t'
    · subst e; exact step t ht
    · exact ahd_trans (ih t (by omega) (by omega)) (step t' ht)
end Go.Proofs.YthkcopmodfmoeaaDoor
