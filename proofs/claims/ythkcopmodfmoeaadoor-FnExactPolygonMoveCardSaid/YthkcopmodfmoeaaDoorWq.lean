/- Vectors of a polygon: Pick's formula, whichever corner is the first one; plain mathematics. -/
import Derived.Test.YthkcopmodfmoeaaDoorWp
namespace Go.Proofs.YthkcopmodfmoeaaDoor
/-! whichever corner is the first one -/
theorem exists_min (p : Nat → P2) : ∀ n, 0 < n → ∃ K, K < n ∧ ∀ j, j < n → p K = p j ∨ lexV (subV (p j) (p K)) := by
  intro n
  induction n with
  | zero => omega
  | succ n ih =>
    intro _
    by_cases h0 : n = 0
    · subst h0
      exact ⟨0, by omega, fun j hj => by rw [show j = 0 by omega]; exact .inl rfl⟩
    · obtain ⟨K, hK, hm⟩ := ih (by omega)
      rcases lex_or (p K) (p n) with e | e | e
      · refine ⟨K, by omega, fun j hj => ?_⟩
        by_cases c : j = n
        · rw [c]; exact .inl e
        · exact hm j (by omega)
      · refine ⟨K, by omega, fun j hj => ?_⟩
        by_cases c : j = n
        · rw [c]; exact .inr e
        · exact hm j (by omega)
      · refine ⟨n, by omega, fun j hj => ?_⟩
        by_cases c : j = n
        · rw [c]; exact .inl rfl
        · rcases hm j (by omega) with q | q
          · rw [← q]; exact .inr e
          · exact .inr (lex_add e q)
theorem ConvS.rot {n : Nat} {p : Nat → P2} (h : ConvS n p) (m : Nat) : ConvS n (fun i => p (m + i)) where
  three := h.three
  per := fun i => by
    show p (m + (i + n)) = _
    rw [← Nat.add_assoc, h.per]
  inner := fun i t h2 hn => by
    have := h.inner (m + i) t h2 hn
    unfold farZ at this ⊢
    dsimp only
    rw [← Nat.add_assoc, ← Nat.add_assoc]
    exact this
theorem ConvS.rot_min {n : Nat} {p : Nat → P2} (h : ConvS n p) {K : Nat} (hK : K < n) (hm : ∀ j, j < n → p K = p j ∨ lexV (subV (p j) (p K))) : MinAt n (fun i => p (K + i)) := by
  intro j hj h0
  show lexV (subV (p (K + j)) (p (K + 0)))
  rw [Nat.add_zero, ← h.mod (K + j)]
  have hne : K ≠ (K + j) % n := by
    intro e
    by_cases c : K + j < n
    · rw [Nat.mod_eq_of_lt c] at e; omega
    · rw [Nat.mod_eq_sub_mod (by omega), Nat.mod_eq_of_lt (by omega)] at e; omega
  have hl := Nat.mod_lt (K + j) (show 0 < n by omega)
  rcases hm _ hl with e | e
  · exact (h.ne hK hl hne e).elim
  · exact e
theorem sumI_turn {f : Nat → Int} {n : Nat} (h : f n = f 0) : sumI (fun i => f (i + 1)) n = sumI f n := by
  have a := sumI_head f n
  have b := sumI_succ f n
  omega
theorem sumI_rot {f : Nat → Int} {n : Nat} (h : ∀ i, f (i + n) = f i) : ∀ K, sumI (fun i => f (K + i)) n = sumI f n := by
  intro K
  induction K with
  | zero => exact sumI_congr (fun i _ => by rw [Nat.zero_add])
  | succ K ih =>
    rw [← ih, ← sumI_turn (f := fun i => f (K + i)) (by show f (K + n) = f (K + 0); rw [h]; rfl)]
    exact sumI_congr (fun i _ => by congr 1; omega)
theorem ins_rot {n : Nat} {p : Nat → P2} (hn : 0 < n) (h : ∀ i, p (i + n) = p i) (K : Nat) (s : Int) (z : P2) : insB (fun i => p (K + i)) n s z = insB p n s z := by
  have hk : ∀ k, p (k % n) = p k := by
    have : ∀ k i, p (i + n * k) = p i := by
      intro k
      induction k with
      | zero => intro i; rfl
      | succ k ih => intro i; rw [Nat.mul_succ, ← Nat.add_assoc, h, ih]
    intro i
    have e := this (i / n) (i % n)
    rw [Nat.mod_add_div] at e
    exact e.symm
  have hs : ∀ k, sideZ p (k % n) z = sideZ p k z := by
    intro k
    have e : p (k % n + 1) = p (k + 1) := by rw [← hk (k % n + 1), ← hk (k + 1), Nat.add_mod, Nat.mod_mod, ← Nat.add_mod]
    unfold sideZ wyV
    rw [hk, e]
  rw [Bool.eq_iff_iff, ins_iff, ins_iff]
  have hr : ∀ k, sideZ (fun i => p (K + i)) k z = sideZ p (K + k) z := fun k => rfl
  constructor
  · intro a k hkn
    have q := a ((k + n - K % n) % n) (Nat.mod_lt _ hn)
    rw [hr, ← hs] at q
    have hK := Nat.mod_lt K hn
    have e : (K + (k + n - K % n) % n) % n = k := by
      have hd := Nat.div_add_mod K n
      rw [Nat.add_mod_mod, show K + (k + n - K % n) = k + n * (K / n + 1) by rw [Nat.mul_succ]; omega, Nat.add_mul_mod_self_left, Nat.mod_eq_of_lt hkn]
    rwa [e] at q
  · intro a k hkn
    rw [hr, ← hs]
    exact a _ (Nat.mod_lt _ hn)
theorem pick_all {n : Nat} {p : Nat → P2} (h : ConvS n p) {b : Int} {H : Nat} (hb : InBox p b H) {x0 : Int} {W : Nat} (hx : ∀ k, x0 ≤ (p k).1 ∧ (p k).1 ≤ x0 + W) (h0 : ∃ k, (p k).1 = x0) (h1 : ∃ k, (p k).1 = x0 + W) :
    2 * sumI (fun a => colN p n 0 (x0 + a) b H) (W + 1) = areaI p n + edgeI p n + 2 ∧ 2 * sumI (fun a => colN p n 1 (x0 + a) b H) (W + 1) = areaI p n - edgeI p n + 2 := by
  have h3 := h.three
  obtain ⟨K, hK, hm⟩ := exists_min p n (by omega)
  have hc := h.rot K
  obtain ⟨m, ha⟩ := hc.arcs (h.rot_min hK hm)
  have hr := ha.range hc
  have e0 : (p (K + 0)).1 = x0 := by
    obtain ⟨k, hk⟩ := h0
    have a := hx (K + 0)
    have c := (hr (k + n * K - K)).1
    have e : p (K + (k + n * K - K)) = p k := by
      refine h.shift _ _ ?_
      have : K ≤ n * K := Nat.le_mul_of_pos_left K (by omega)
      rw [show K + (k + n * K - K) = k + n * K by omega, Nat.add_mul_mod_self_left]
    rw [e] at c
    omega
  have e1 : (p (K + m)).1 = x0 + W := by
    obtain ⟨k, hk⟩ := h1
    have a := hx (K + m)
    have c := (hr (k + n * K - K)).2
    have e : p (K + (k + n * K - K)) = p k := by
      refine h.shift _ _ ?_
      have : K ≤ n * K := Nat.le_mul_of_pos_left K (by omega)
      rw [show K + (k + n * K - K) = k + n * K by omega, Nat.add_mul_mod_self_left]
    rw [e] at c
    omega
  have hb' : InBox (fun i => p (K + i)) b H := fun k => hb (K + k)
  have a0 := pick0 ha hc hb' (W := W) (by omega)
  have a1 := pick1 ha hc hb' (W := W) (by omega)
  have hA : areaI (fun i => p (K + i)) n = areaI p n := sumI_rot (f := fun k => dtV (p k) (p (k + 1))) (fun i => by show dtV (p (i + n)) (p (i + n + 1)) = _; rw [h.per, show i + n + 1 = i + 1 + n by omega, h.per]) K
  have hE : edgeI (fun i => p (K + i)) n = edgeI p n := sumI_rot (f := fun k => (Int.gcd (wyV p k).1 (wyV p k).2 : Int)) (fun i => by
    have : wyV p (i + n) = wyV p i := by unfold wyV; rw [h.per, show i + n + 1 = i + 1 + n by omega, h.per]
    show (Int.gcd (wyV p (i + n)).1 (wyV p (i + n)).2 : Int) = _
    rw [this]) K
  have hC : ∀ s x, colN (fun i => p (K + i)) n s x b H = colN p n s x b H := fun s x => by
    unfold colN
    exact sumI_congr (fun t _ => by rw [ins_rot (by omega) h.per])
  unfold pickN at a0 a1
  dsimp only at a0 a1
  rw [hA, hE] at a0 a1
  simp only [hC, e0] at a0 a1
  exact ⟨a0, a1⟩
end Go.Proofs.YthkcopmodfmoeaaDoor
