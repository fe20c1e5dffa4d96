import Derived.Test.YtgaeibibeekclabGreatDoorS13
namespace Go.Proofs.YtgaeibibeekclabGreatDoor
theorem sumI_add (f g : Nat → Int) (n : Nat) : sumI (fun i => f i + g i) n = sumI f n + sumI g n := by
  induction n with
  | zero => rfl
  | succ n ih => unfold sumI; rw [ih]; omega
theorem sumI_mul (c : Int) (f : Nat → Int) (n : Nat) : sumI (fun i => c * f i) n = c * sumI f n := by
  induction n with
  | zero => simp [sumI]
  | succ n ih => unfold sumI; rw [ih, Int.mul_add]
theorem sumI_back (f : Nat → Int) (n : Nat) : sumI (fun i => f (n - 1 - i)) n = sumI f n := by
  induction n generalizing f with
  | zero => rfl
  | succ n ih =>
    rw [sumI_head, Nat.add_sub_cancel, Nat.sub_zero]
    have : sumI (fun i => f (n - (i + 1))) n = sumI (fun i => f (n - 1 - i)) n := sumI_congr (fun i _ => by congr 1; omega)
    rw [this, ih, sumI_succ]
    omega
theorem sumI_swap (f : Nat → Nat → Int) (n m : Nat) : sumI (fun i => sumI (fun j => f i j) m) n = sumI (fun j => sumI (fun i => f i j) n) m := by
  induction n with
  | zero => simp [sumI]; exact (sumI_zero (fun _ _ => rfl)).symm
  | succ n ih =>
    rw [show sumI (fun i => sumI (fun j => f i j) m) (n + 1) = sumI (fun i => sumI (fun j => f i j) m) n + sumI (fun j => f n j) m from rfl, ih, ← sumI_add]
    exact sumI_congr (fun _ _ => rfl)
/-- how many there are in a run -/
theorem sum_run (b c f : Int) (H : Nat) (h1 : b ≤ c) (h2 : f ≤ b + H - 1) (h3 : c ≤ f + 1) : sumI (fun t => if c ≤ b + t ∧ b + t ≤ f then 1 else 0) H = f - c + 1 := by
  have key : ∀ H : Nat, sumI (fun t => if c ≤ b + t ∧ b + t ≤ f then 1 else 0) H = max 0 (min f (b + H - 1) - c + 1) := by
    intro H
    induction H with
    | zero => simp only [sumI]; omega
    | succ H ih => unfold sumI; rw [ih]; split <;> omega
  rw [key]
  omega
theorem fl_is {n x q : Int} (hn : 0 < n) (h1 : n * q ≤ x) (h2 : x < n * q + n) : x / n = q := by
  have e := Int.mul_ediv_add_emod x n
  have r1 := Int.emod_nonneg x (show n ≠ 0 by omega)
  have r2 := Int.emod_lt_of_pos x hn
  generalize x / n = z at *
  have a : z - q < 1 := by
    rcases Int.lt_or_le (z - q) 1 with k | k
    · exact k
    · have := Int.mul_le_mul_of_nonneg_left k (show 0 ≤ n by omega)
      rw [Int.mul_sub] at this
      omega
  have b : q - z < 1 := by
    rcases Int.lt_or_le (q - z) 1 with k | k
    · exact k
    · have := Int.mul_le_mul_of_nonneg_left k (show 0 ≤ n by omega)
      rw [Int.mul_sub] at this
      omega
  omega
theorem fl_le {n x : Int} (hn : 0 < n) : n * (x / n) ≤ x ∧ x < n * (x / n) + n := by
  have e := Int.mul_ediv_add_emod x n
  have r1 := Int.emod_nonneg x (show n ≠ 0 by omega)
  have r2 := Int.emod_lt_of_pos x hn
  omega
theorem le_fl {n x q : Int} (hn : 0 < n) : q ≤ x / n ↔ n * q ≤ x := by
  have h := fl_le (x := x) hn
  constructor
  · intro k
    have := Int.mul_le_mul_of_nonneg_left k (show 0 ≤ n by omega)
    omega
  · intro k
    rcases Int.lt_or_le (x / n) q with a | a
    · have := Int.mul_le_mul_of_nonneg_left (show x / n + 1 ≤ q by omega) (show 0 ≤ n by omega)
      rw [Int.mul_add] at this
      omega
    · exact a
def dvd1 (n x : Int) : Int := if n ∣ x then 1 else 0
theorem fl_neg {n x : Int} (hn : 0 < n) : (-x) / n = -(x / n) - 1 + dvd1 n x := by
  have h := fl_le (x := x) hn
  unfold dvd1
  split
  · next hd =>
    obtain ⟨q, rfl⟩ := hd
    rw [Int.mul_ediv_cancel_left _ (by omega), show -(n * q) = n * (-q) by grind, Int.mul_ediv_cancel_left _ (by omega)]
    omega
  · next hd =>
    refine fl_is hn ?_ ?_
    · have : n * (-(x / n) - 1 + 0) = -(n * (x / n)) - n := by grind
      omega
    · have : n * (-(x / n) - 1 + 0) = -(n * (x / n)) - n := by grind
      rcases Int.lt_or_le (n * (x / n)) x with k | k
      · omega
      · exact (hd ⟨x / n, by omega⟩).elim
theorem fl_shift {n x : Int} (hn : 0 < n) (a : Int) : (x + n * a) / n = x / n + a := Int.add_mul_ediv_left _ _ (by omega)
/-- how many multiples there are -/
theorem dvd_run (k g : Nat) (hk : 0 < k) : sumI (fun t => dvd1 k t) (g * k) = g := by
  induction g with
  | zero => simp [sumI]
  | succ g ih =>
    rw [Nat.succ_mul, sumI_split, ih]
    rw [sumI_one (k := 0) hk]
    · have : dvd1 (k : Int) ((g * k + 0 : Nat) : Int) = 1 := by
        unfold dvd1
        rw [if_pos ⟨g, by rw [Nat.add_zero]; simp [Int.mul_comm]⟩]
      rw [this]
      omega
    · intro i hi h0
      unfold dvd1
      rw [if_neg]
      intro hd
      have hd2 : k ∣ g * k + i := Int.ofNat_dvd.1 hd
      rw [Nat.dvd_add_right (Nat.dvd_mul_left k g)] at hd2
      have := Nat.le_of_dvd (by omega) hd2
      omega
theorem dvd_count (a : Int) (n : Nat) (hn : 0 < n) : sumI (fun t => dvd1 n (a * t)) n = Int.gcd a n := by
  have hg : 0 < Nat.gcd a.natAbs n := Nat.gcd_pos_of_pos_right _ hn
  obtain ⟨k, hk⟩ := Nat.gcd_dvd_right a.natAbs n
  obtain ⟨b, hb⟩ := Nat.gcd_dvd_left a.natAbs n
  have e : Int.gcd a n = Nat.gcd a.natAbs n := by simp [Int.gcd]
  rw [e]
  generalize hgg : Nat.gcd a.natAbs n = g at *
  have hk0 : 0 < k := by
    rcases Nat.eq_zero_or_pos k with h | h
    · rw [h] at hk; omega
    · exact h
  have hcop : Nat.Coprime k b := by
    have h1 : Nat.gcd (g * b) (g * k) = g := by rw [← hb, ← hk, hgg]
    rw [Nat.gcd_mul_left] at h1
    have h2 : g * Nat.gcd b k = g * 1 := by omega
    have h3 := Nat.eq_of_mul_eq_mul_left hg h2
    rw [Nat.Coprime, Nat.gcd_comm]
    exact h3
  have : sumI (fun t => dvd1 n (a * t)) n = sumI (fun t => dvd1 k t) (g * k) := by
    rw [← hk]
    refine sumI_congr (fun t _ => ?_)
    unfold dvd1
    have : ((n : Int) ∣ a * t) ↔ ((k : Int) ∣ (t : Int)) := by
      have q1 : ((n : Int) ∣ a * t) ↔ n ∣ (a * t).natAbs := Int.ofNat_dvd_left
      rw [q1, Int.natAbs_mul, Int.natAbs_natCast, hb, hk, Nat.mul_assoc]
      rw [Nat.mul_dvd_mul_iff_left hg, Int.ofNat_dvd]
      exact ⟨fun h => hcop.dvd_of_dvd_mul_left h, fun h => Nat.dvd_trans h (Nat.dvd_mul_left t b)⟩
    simp only [this]
  rw [this]
  exact dvd_run k g hk0
/-- floors along an edge -/
theorem floor_sum (a : Int) (n : Nat) (hn : 0 < n) : 2 * sumI (fun t => (a * t) / n) n = (n - 1) * (a - 1) + Int.gcd a n - 1 := by
  obtain ⟨m, rfl⟩ : ∃ m, n = m + 1 := ⟨n - 1, by omega⟩
  have hp : (0 : Int) < ((m + 1 : Nat) : Int) := by omega
  have hc := dvd_count a (m + 1) hn
  rw [sumI_head] at hc ⊢
  have z1 : a * ((0 : Nat) : Int) / ((m + 1 : Nat) : Int) = 0 := by simp
  have z2 : dvd1 ((m + 1 : Nat) : Int) (a * ((0 : Nat) : Int)) = 1 := by unfold dvd1; rw [if_pos (by simp)]
  rw [z1]
  rw [z2] at hc
  have hb := sumI_back (fun i => a * ((i + 1 : Nat) : Int) / ((m + 1 : Nat) : Int)) m
  have hs : sumI (fun i => a * ((i + 1 : Nat) : Int) / ((m + 1 : Nat) : Int)) m + sumI (fun i => a * ((i + 1 : Nat) : Int) / ((m + 1 : Nat) : Int)) m = sumI (fun i => (a - 1) + dvd1 ((m + 1 : Nat) : Int) (a * ((i + 1 : Nat) : Int))) m := by
    rw [← hb]
    conv => lhs; arg 1; rw [hb]
    rw [← sumI_add]
    refine sumI_congr (fun i hi => ?_)
    have e : a * ((m - 1 - i + 1 : Nat) : Int) = -(a * ((i + 1 : Nat) : Int)) + ((m + 1 : Nat) : Int) * a := by
      have : ((m - 1 - i + 1 : Nat) : Int) = ((m + 1 : Nat) : Int) - ((i + 1 : Nat) : Int) := by omega
      rw [this]
      grind
    rw [e, fl_shift hp, fl_neg hp]
    omega
  rw [sumI_add, sumI_const] at hs
  have e5 : (((m + 1 : Nat) : Int) - 1) * (a - 1) = (m : Int) * (a - 1) := by congr 1; omega
  rw [e5]
  omega
/-- floors and ceilings of an edge at its columns, but for the last one -/
def flE (u v : P2) (x : Int) : Int := u.2 + ((v.2 - u.2) * (x - u.1)) / (v.1 - u.1)
def ceE (u v : P2) (x : Int) : Int := u.2 - (-((v.2 - u.2) * (x - u.1))) / (v.1 - u.1)
theorem flE_sum (u v : P2) (n : Nat) (hn : 0 < n) (h : v.1 - u.1 = n) : 2 * sumI (fun t => flE u v (u.1 + t)) n = n * (u.2 + v.2) - n - (v.2 - u.2) + Int.gcd (v.2 - u.2) n := by
  have e : sumI (fun t => flE u v (u.1 + t)) n = sumI (fun t => u.2 + ((v.2 - u.2) * t) / n) n := sumI_congr (fun t _ => by
    unfold flE
    rw [h, show u.1 + (t : Int) - u.1 = t by omega])
  rw [e, sumI_add, sumI_const, Int.mul_add, floor_sum _ n hn]
  generalize ((Int.gcd (v.2 - u.2) n : Nat) : Int) = g
  grind
theorem ceE_sum (u v : P2) (n : Nat) (hn : 0 < n) (h : v.1 - u.1 = n) : 2 * sumI (fun t => ceE u v (u.1 + t)) n = n * (u.2 + v.2) + n - (v.2 - u.2) - Int.gcd (v.2 - u.2) n := by
  have e : sumI (fun t => ceE u v (u.1 + t)) n = sumI (fun t => u.2 + (-1) * (((-(v.2 - u.2)) * t) / n)) n := sumI_congr (fun t _ => by
    unfold ceE
    rw [h, show u.1 + (t : Int) - u.1 = t by omega, ← Int.neg_mul]
    omega)
  rw [e, sumI_add, sumI_const, sumI_mul, Int.mul_add]
  have := floor_sum (-(v.2 - u.2)) n hn
  rw [Int.neg_gcd] at this
  generalize ((Int.gcd (v.2 - u.2) n : Nat) : Int) = g at *
  generalize sumI (fun t => -(v.2 - u.2) * (t : Int) / (n : Int)) n = s at *
  grind
theorem Arcs.up_le {n m : Nat} {p : Nat → P2} (h : Arcs n p m) : ∀ b a, a ≤ b → b ≤ m → (p a).1 ≤ (p b).1 := by
  intro b
  induction b with
  | zero => intro a ha _; have e : a = 0 := (by omega); rw [e]; exact Int.le_refl _
  | succ b ih =>
    intro a ha hb
    by_cases e : a = b + 1
    · subst e; exact Int.le_refl _
    · have h1 := ih a (by omega) (by omega)
      have h2 := h.up b (by omega)
      unfold lexV wyV subV at h2
      dsimp only at h2
      omega
theorem Arcs.down_le {n m : Nat} {p : Nat → P2} (h : Arcs n p m) : ∀ b a, m ≤ a → a ≤ b → b ≤ n → (p b).1 ≤ (p a).1 := by
  intro b
  induction b with
  | zero => intro a h1 ha _; have e : a = 0 := (by omega); rw [e]; exact Int.le_refl _
  | succ b ih =>
    intro a h1 ha hb
    by_cases e : a = b + 1
    · subst e; exact Int.le_refl _
    · have h1 := ih a (by omega) (by omega) (by omega)
      have h2 := h.down b (by omega) (by omega)
      unfold lexV subV at h2
      dsimp only at h2
      omega
/-- an edge straight up is the last one on the way up -/
theorem Arcs.vert {n m : Nat} {p : Nat → P2} (h : Arcs n p m) (hc : ConvS n p) {k : Nat} (hk : k < m) (h0 : (wyV p k).1 = 0) : k + 1 = m := by
  by_cases e : k + 1 < m
  · exfalso
    have t := hc.turn k
    have a := h.up k hk
    have b := h.up (k + 1) e
    unfold lexV wyV at *
    generalize subV (p (k + 1 + 1)) (p (k + 1)) = v at *
    generalize subV (p (k + 1)) (p k) = u at *
    unfold dtV at t
    rw [h0] at t
    have := Int.mul_nonneg (show 0 ≤ u.2 by omega) (show 0 ≤ v.1 by omega)
    omega
  · omega
/-- .. and one straight down the last one of all -/
theorem Arcs.vert' {n m : Nat} {p : Nat → P2} (h : Arcs n p m) (hc : ConvS n p) {k : Nat} (h1 : m ≤ k) (hk : k < n) (h0 : (wyV p k).1 = 0) : k + 1 = n := by
  by_cases e : k + 1 < n
  · exfalso
    have t := hc.turn k
    have a := h.down k h1 hk
    have b := h.down (k + 1) (by omega) e
    unfold lexV wyV subV at *
    dsimp only at *
    unfold dtV at t
    dsimp only at t
    rw [h0] at t
    have := Int.mul_nonneg (show 0 ≤ (p k).2 - (p (k + 1)).2 by omega) (show 0 ≤ (p (k + 1)).1 - (p (k + 1 + 1)).1 by omega)
    have e2 : ((p k).2 - (p (k + 1)).2) * ((p (k + 1)).1 - (p (k + 1 + 1)).1) = ((p (k + 1)).2 - (p k).2) * ((p (k + 1 + 1)).1 - (p (k + 1)).1) := by grind
    omega
  · omega
theorem Arcs.first {n m : Nat} {p : Nat → P2} (h : Arcs n p m) (hc : ConvS n p) : 0 < (wyV p 0).1 := by
  have h3 := hc.three
  have a := h.up 0 h.pos
  unfold lexV at a
  rcases a with a | ⟨a0, a⟩
  · exact a
  · exfalso
    have hm := h.vert hc h.pos a0
    have t := hc.turn 0
    have b := h.down 1 (by omega) (by omega)
    have c := h.down_le n 2 (by omega) (by omega) (Nat.le_refl _)
    rw [show n = 0 + n by omega, hc.per] at c
    unfold lexV wyV subV at *
    dsimp only at *
    unfold dtV at t
    dsimp only at t
    simp only [Nat.zero_add, Nat.reduceAdd] at *
    rw [a0] at t
    have := Int.mul_nonneg (show 0 ≤ (p 1).2 - (p 0).2 by omega) (show 0 ≤ (p 2).1 - (p 1).1 by omega)
    omega
theorem Arcs.top {n m : Nat} {p : Nat → P2} (h : Arcs n p m) (hc : ConvS n p) : (wyV p m).1 < 0 := by
  have h3 := hc.three
  have a := h.down m (Nat.le_refl _) h.lt
  unfold lexV wyV subV at *
  dsimp only at *
  rcases a with a | ⟨a0, a⟩
  · omega
  · exfalso
    have hm := h.vert' hc (Nat.le_refl _) h.lt (by unfold wyV subV; dsimp only; omega)
    have t := hc.turn (m - 1)
    have b := h.up (m - 1) (by have := h.pos; omega)
    have c := h.up_le (m - 1) 0 (by omega) (by omega)
    have e0 : p (m + 1) = p 0 := by rw [show m + 1 = 0 + n by omega, hc.per]
    have em : m - 1 + 1 = m := by have := h.pos; omega
    rw [e0] at a0 a
    rw [em, e0] at t
    unfold wyV at b
    rw [em] at b
    unfold lexV subV at *
    dsimp only at *
    unfold dtV at t
    dsimp only at t
    rw [show (p 0).1 - (p m).1 = 0 by omega] at t
    have := Int.mul_nonneg (show 0 ≤ (p m).1 - (p (m - 1)).1 by omega) (show 0 ≤ (p m).2 - (p 0).2 by omega)
    have e2 : ((p m).1 - (p (m - 1)).1) * ((p m).2 - (p 0).2) = -(((p m).1 - (p (m - 1)).1) * ((p 0).2 - (p m).2)) := by grind
    omega
theorem side_mix (p : Nat → P2) (i k : Nat) (z : P2) : (wyV p i).1 * sideZ p k z = (wyV p k).1 * sideZ p i z + ((p (i + 1)).1 - z.1) * sideZ p k (p i) + (z.1 - (p i).1) * sideZ p k (p (i + 1)) := by
  unfold sideZ wyV dtV subV
  dsimp only
  grind
/-- between its ends an edge has the numbers between -/
theorem side_ends (p : Nat → P2) (i : Nat) (z : P2) : sideZ p i z = ((p (i + 1)).1 - z.1) * (z.2 - (p i).2) + (z.1 - (p i).1) * (z.2 - (p (i + 1)).2) := by
  unfold sideZ wyV dtV subV
  dsimp only
  grind
theorem neg_of_mul {a b : Int} (h : a * b < 0) (ha : a < 0) : 0 < b := by
  refine pos_of_mul (b := -a) ?_ (by omega)
  rw [Int.mul_neg, Int.mul_comm]
  omega
theorem nneg_of_mul {a b : Int} (h : a * b ≤ 0) (ha : a < 0) : 0 ≤ b := by
  refine nonneg_of_mul (b := -a) ?_ (by omega)
  rw [Int.mul_neg, Int.mul_comm]
  omega
structure Over (p : Nat → P2) (i j : Nat) (x : Int) : Prop where
  up : 0 < (wyV p i).1
  i1 : (p i).1 ≤ x
  i2 : x ≤ (p (i + 1)).1
  dn : (wyV p j).1 < 0
  j1 : (p (j + 1)).1 ≤ x
  j2 : x ≤ (p j).1
theorem Over.all {n : Nat} {p : Nat → P2} {i j : Nat} {z : P2} (o : Over p i j z.1) (h : ConvS n p) (a : 0 ≤ sideZ p i z) (b : 0 ≤ sideZ p j z) (k : Nat) : 0 ≤ sideZ p k z := by
  rcases Int.lt_or_le (wyV p k).1 0 with hk | hk
  · have e := side_mix p j k z
    have m1 := Int.mul_nonneg (show 0 ≤ -(wyV p k).1 by omega) b
    have m2 := Int.mul_nonneg (show 0 ≤ z.1 - (p (j + 1)).1 by have := o.j1; omega) (h.side0 k j)
    have m3 := Int.mul_nonneg (show 0 ≤ (p j).1 - z.1 by have := o.j2; omega) (h.side0 k (j + 1))
    refine nneg_of_mul (a := (wyV p j).1) ?_ o.dn
    have e1 : (p (j + 1)).1 - z.1 = -(z.1 - (p (j + 1)).1) := by omega
    have e2 : z.1 - (p j).1 = -((p j).1 - z.1) := by omega
    rw [e1, e2, Int.neg_mul, Int.neg_mul] at e
    rw [Int.neg_mul] at m1
    omega
  · have e := side_mix p i k z
    have m1 := Int.mul_nonneg hk a
    have m2 := Int.mul_nonneg (show 0 ≤ (p (i + 1)).1 - z.1 by have := o.i2; omega) (h.side0 k i)
    have m3 := Int.mul_nonneg (show 0 ≤ z.1 - (p i).1 by have := o.i1; omega) (h.side0 k (i + 1))
    refine nonneg_of_mul (b := (wyV p i).1) ?_ o.up
    rw [Int.mul_comm]
    omega
theorem Over.strict {n : Nat} {p : Nat → P2} {i j : Nat} {z : P2} (o : Over p i j z.1) (h : ConvS n p) (a : 0 < sideZ p i z) (b : 0 < sideZ p j z) (k : Nat) (hk0 : (wyV p k).1 ≠ 0) : 0 < sideZ p k z := by
  rcases Int.lt_or_le (wyV p k).1 0 with hk | hk
  · have e := side_mix p j k z
    have m1 := Int.mul_pos (show 0 < -(wyV p k).1 by omega) b
    have m2 := Int.mul_nonneg (show 0 ≤ z.1 - (p (j + 1)).1 by have := o.j1; omega) (h.side0 k j)
    have m3 := Int.mul_nonneg (show 0 ≤ (p j).1 - z.1 by have := o.j2; omega) (h.side0 k (j + 1))
    refine neg_of_mul (a := (wyV p j).1) ?_ o.dn
    have e1 : (p (j + 1)).1 - z.1 = -(z.1 - (p (j + 1)).1) := by omega
    have e2 : z.1 - (p j).1 = -((p j).1 - z.1) := by omega
    rw [e1, e2, Int.neg_mul, Int.neg_mul] at e
    rw [Int.neg_mul] at m1
    omega
  · have e := side_mix p i k z
    have m1 := Int.mul_pos (show 0 < (wyV p k).1 by omega) a
    have m2 := Int.mul_nonneg (show 0 ≤ (p (i + 1)).1 - z.1 by have := o.i2; omega) (h.side0 k i)
    have m3 := Int.mul_nonneg (show 0 ≤ z.1 - (p i).1 by have := o.i1; omega) (h.side0 k (i + 1))
    refine pos_of_mul (b := (wyV p i).1) ?_ o.up
    rw [Int.mul_comm]
    omega
theorem up_geP {p : Nat → P2} {i : Nat} {z : P2} (h : 0 < (wyV p i).1) : 0 ≤ sideZ p i z ↔ ceE (p i) (p (i + 1)) z.1 ≤ z.2 := by
  unfold wyV subV at h
  dsimp only at h
  have k := le_fl (n := (p (i + 1)).1 - (p i).1) (x := -(((p (i + 1)).2 - (p i).2) * (z.1 - (p i).1))) (q := (p i).2 - z.2) h
  have e : sideZ p i z = -(((p (i + 1)).2 - (p i).2) * (z.1 - (p i).1)) - ((p (i + 1)).1 - (p i).1) * ((p i).2 - z.2) := by
    unfold sideZ wyV dtV subV
    dsimp only
    grind
  unfold ceE
  rw [e]
  omega
theorem up_gt {p : Nat → P2} {i : Nat} {z : P2} (h : 0 < (wyV p i).1) : 0 < sideZ p i z ↔ flE (p i) (p (i + 1)) z.1 + 1 ≤ z.2 := by
  unfold wyV subV at h
  dsimp only at h
  have k := le_fl (n := (p (i + 1)).1 - (p i).1) (x := ((p (i + 1)).2 - (p i).2) * (z.1 - (p i).1)) (q := z.2 - (p i).2) h
  have e : sideZ p i z = ((p (i + 1)).1 - (p i).1) * (z.2 - (p i).2) - ((p (i + 1)).2 - (p i).2) * (z.1 - (p i).1) := by
    unfold sideZ wyV dtV subV
    dsimp only
  unfold flE
  rw [e]
  omega
theorem dn_ge {p : Nat → P2} {j : Nat} {z : P2} (h : (wyV p j).1 < 0) : 0 ≤ sideZ p j z ↔ z.2 ≤ flE (p (j + 1)) (p j) z.1 := by
  unfold wyV subV at h
  dsimp only at h
  have k := le_fl (n := (p j).1 - (p (j + 1)).1) (x := ((p j).2 - (p (j + 1)).2) * (z.1 - (p (j + 1)).1)) (q := z.2 - (p (j + 1)).2) (by omega)
  have e : sideZ p j z = ((p j).2 - (p (j + 1)).2) * (z.1 - (p (j + 1)).1) - ((p j).1 - (p (j + 1)).1) * (z.2 - (p (j + 1)).2) := by
    unfold sideZ wyV dtV subV
    dsimp only
    grind
  unfold flE
  rw [e]
  omega
theorem dn_gt {p : Nat → P2} {j : Nat} {z : P2} (h : (wyV p j).1 < 0) : 0 < sideZ p j z ↔ z.2 ≤ ceE (p (j + 1)) (p j) z.1 - 1 := by
  unfold wyV subV at h
  dsimp only at h
  have k := le_fl (n := (p j).1 - (p (j + 1)).1) (x := -(((p j).2 - (p (j + 1)).2) * (z.1 - (p (j + 1)).1))) (q := (p (j + 1)).2 - z.2) (by omega)
  have e : sideZ p j z = ((p j).1 - (p (j + 1)).1) * ((p (j + 1)).2 - z.2) + ((p j).2 - (p (j + 1)).2) * (z.1 - (p (j + 1)).1) := by
    unfold sideZ wyV dtV subV
    dsimp only
    grind
  unfold ceE
  rw [e]
  omega
def insB (p : Nat → P2) (n : Nat) (s : Int) (z : P2) : Bool := (List.range n).all fun k => decide (s ≤ sideZ p k z)
theorem ins_iff {p : Nat → P2} {n : Nat} {s : Int} {z : P2} : insB p n s z = true ↔ ∀ k, k < n → s ≤ sideZ p k z := by
  unfold insB
  rw [List.all_eq_true]
  simp
def colN (p : Nat → P2) (n : Nat) (s x b : Int) (H : Nat) : Int := sumI (fun t => if insB p n s (x, b + t) then 1 else 0) H
def InBox (p : Nat → P2) (b : Int) (H : Nat) : Prop := ∀ k, b ≤ (p k).2 ∧ (p k).2 ≤ b + H - 1
theorem Over.col0 {n : Nat} {p : Nat → P2} {i j : Nat} {x b : Int} {H : Nat} (o : Over p i j x) (h : ConvS n p) (hi : i < n) (hj : j < n) (hb : InBox p b H) :
    colN p n 0 x b H = flE (p (j + 1)) (p j) x - ceE (p i) (p (i + 1)) x + 1 := by
  have hu := o.up
  have hd := o.dn
  have := o.i1
  have := o.i2
  have := o.j1
  have := o.j2
  have e : colN p n 0 x b H = sumI (fun t => if ceE (p i) (p (i + 1)) x ≤ b + t ∧ b + t ≤ flE (p (j + 1)) (p j) x then 1 else 0) H := by
    unfold colN
    refine sumI_congr (fun t _ => ?_)
    have q : (insB p n 0 (x, b + t) = true) ↔ (ceE (p i) (p (i + 1)) x ≤ b + t ∧ b + t ≤ flE (p (j + 1)) (p j) x) := by
      rw [ins_iff]
      have a1 := up_geP (z := (x, b + (t : Int))) hu
      have a2 := dn_ge (z := (x, b + (t : Int))) hd
      constructor
      · intro k
        exact ⟨a1.1 (k i hi), a2.1 (k j hj)⟩
      · rintro ⟨k1, k2⟩ k _
        exact Over.all (z := (x, b + (t : Int))) o h (a1.2 k1) (a2.2 k2) k
    simp only [q]
  rw [e]
  unfold wyV subV at hu hd
  dsimp only at hu hd
  refine sum_run _ _ _ _ ?_ ?_ ?_
  · rcases Int.lt_or_le (ceE (p i) (p (i + 1)) x) b with k | k
    · exfalso
      have a := (up_geP (z := (x, b - 1)) o.up).2 (show ceE (p i) (p (i + 1)) x ≤ b - 1 by omega)
      rw [side_ends] at a
      dsimp only at a
      have b1 := (hb i).1
      have b2 := (hb (i + 1)).1
      have m1 := Int.mul_nonneg (show 0 ≤ (p (i + 1)).1 - x by omega) (show 0 ≤ (p i).2 - b by omega)
      have m2 := Int.mul_nonneg (show 0 ≤ x - (p i).1 by omega) (show 0 ≤ (p (i + 1)).2 - b by omega)
      have e2 : ((p (i + 1)).1 - x) * (b - 1 - (p i).2) + (x - (p i).1) * (b - 1 - (p (i + 1)).2) = -(((p (i + 1)).1 - x) * ((p i).2 - b)) - (x - (p i).1) * ((p (i + 1)).2 - b) - ((p (i + 1)).1 - (p i).1) := by grind
      omega
    · exact k
  · rcases Int.lt_or_le (b + H - 1) (flE (p (j + 1)) (p j) x) with k | k
    · exfalso
      have a := (dn_ge (z := (x, b + H)) o.dn).2 (show b + H ≤ flE (p (j + 1)) (p j) x by omega)
      rw [side_ends] at a
      dsimp only at a
      have b1 := (hb j).2
      have b2 := (hb (j + 1)).2
      have m1 := Int.mul_nonneg (show 0 ≤ x - (p (j + 1)).1 by omega) (show 0 ≤ b + H - 1 - (p j).2 by omega)
      have m2 := Int.mul_nonneg (show 0 ≤ (p j).1 - x by omega) (show 0 ≤ b + H - 1 - (p (j + 1)).2 by omega)
      have e2 : ((p (j + 1)).1 - x) * (b + H - (p j).2) + (x - (p j).1) * (b + H - (p (j + 1)).2) = -((x - (p (j + 1)).1) * (b + H - 1 - (p j).2)) - ((p j).1 - x) * (b + H - 1 - (p (j + 1)).2) - ((p j).1 - (p (j + 1)).1) := by grind
      omega
    · exact k
  · have a := (not_congr (dn_ge (z := (x, flE (p (j + 1)) (p j) x + 1)) o.dn)).2 (by dsimp only; omega)
    refine (up_geP (z := (x, flE (p (j + 1)) (p j) x + 1)) o.up).1 ?_
    have e2 := side_mix p i j (x, flE (p (j + 1)) (p j) x + 1)
    dsimp only at e2
    have m1 := Int.mul_nonneg (show 0 ≤ (p (i + 1)).1 - x by omega) (h.side0 j i)
    have m2 := Int.mul_nonneg (show 0 ≤ x - (p i).1 by omega) (h.side0 j (i + 1))
    have m3 := Int.mul_pos o.up (show 0 < -sideZ p j (x, flE (p (j + 1)) (p j) x + 1) by omega)
    rw [Int.mul_neg] at m3
    exact nneg_of_mul (a := (wyV p j).1) (by omega) o.dn
theorem Over.col1 {n : Nat} {p : Nat → P2} {i j : Nat} {x b : Int} {H : Nat} (o : Over p i j x) (h : ConvS n p) (hi : i < n) (hj : j < n) (hb : InBox p b H)
    (hv : ∀ k z, (wyV p k).1 = 0 → z.1 = x → 0 < sideZ p k z) (hs : 0 < ((p (i + 1)).1 - x) * sideZ p j (p i) + (x - (p i).1) * sideZ p j (p (i + 1))) :
    colN p n 1 x b H = ceE (p (j + 1)) (p j) x - flE (p i) (p (i + 1)) x - 1 := by
  have hu := o.up
  have hd := o.dn
  have := o.i1
  have := o.i2
  have := o.j1
  have := o.j2
  have e : colN p n 1 x b H = sumI (fun t => if flE (p i) (p (i + 1)) x + 1 ≤ b + t ∧ b + t ≤ ceE (p (j + 1)) (p j) x - 1 then 1 else 0) H := by
    unfold colN
    refine sumI_congr (fun t _ => ?_)
    have q : (insB p n 1 (x, b + t) = true) ↔ (flE (p i) (p (i + 1)) x + 1 ≤ b + t ∧ b + t ≤ ceE (p (j + 1)) (p j) x - 1) := by
      rw [ins_iff]
      have a1 := up_gt (z := (x, b + (t : Int))) hu
      have a2 := dn_gt (z := (x, b + (t : Int))) hd
      constructor
      · intro k
        exact ⟨a1.1 (by have := k i hi; omega), a2.1 (by have := k j hj; omega)⟩
      · rintro ⟨k1, k2⟩ k _
        by_cases k0 : (wyV p k).1 = 0
        · have := hv k (x, b + (t : Int)) k0 rfl
          omega
        · have := Over.strict (z := (x, b + (t : Int))) o h (a1.2 k1) (a2.2 k2) k k0
          omega
    simp only [q]
  rw [e]
  unfold wyV subV at hu hd
  dsimp only at hu hd
  have fin := sum_run b (flE (p i) (p (i + 1)) x + 1) (ceE (p (j + 1)) (p j) x - 1) H ?_ ?_ ?_
  · rw [fin]; omega
  · rcases Int.lt_or_le (flE (p i) (p (i + 1)) x + 1) b with k | k
    · exfalso
      have a := (up_gt (z := (x, b - 1)) o.up).2 (show flE (p i) (p (i + 1)) x + 1 ≤ b - 1 by omega)
      rw [side_ends] at a
      dsimp only at a
      have b1 := (hb i).1
      have b2 := (hb (i + 1)).1
      have m1 := Int.mul_nonneg (show 0 ≤ (p (i + 1)).1 - x by omega) (show 0 ≤ (p i).2 - b by omega)
      have m2 := Int.mul_nonneg (show 0 ≤ x - (p i).1 by omega) (show 0 ≤ (p (i + 1)).2 - b by omega)
      have e2 : ((p (i + 1)).1 - x) * (b - 1 - (p i).2) + (x - (p i).1) * (b - 1 - (p (i + 1)).2) = -(((p (i + 1)).1 - x) * ((p i).2 - b)) - (x - (p i).1) * ((p (i + 1)).2 - b) - ((p (i + 1)).1 - (p i).1) := by grind
      omega
    · exact k
  · rcases Int.lt_or_le (b + H - 1) (ceE (p (j + 1)) (p j) x - 1) with k | k
    · exfalso
      have a := (dn_gt (z := (x, b + H)) o.dn).2 (show b + H ≤ ceE (p (j + 1)) (p j) x - 1 by omega)
      rw [side_ends] at a
      dsimp only at a
      have b1 := (hb j).2
      have b2 := (hb (j + 1)).2
      have m1 := Int.mul_nonneg (show 0 ≤ x - (p (j + 1)).1 by omega) (show 0 ≤ b + H - 1 - (p j).2 by omega)
      have m2 := Int.mul_nonneg (show 0 ≤ (p j).1 - x by omega) (show 0 ≤ b + H - 1 - (p (j + 1)).2 by omega)
      have e2 : ((p (j + 1)).1 - x) * (b + H - (p j).2) + (x - (p j).1) * (b + H - (p (j + 1)).2) = -((x - (p (j + 1)).1) * (b + H - 1 - (p j).2)) - ((p j).1 - x) * (b + H - 1 - (p (j + 1)).2) - ((p j).1 - (p (j + 1)).1) := by grind
      omega
    · exact k
  · have a := (not_congr (dn_gt (z := (x, ceE (p (j + 1)) (p j) x)) o.dn)).2 (by dsimp only; omega)
    have g := (up_gt (z := (x, ceE (p (j + 1)) (p j) x)) o.up).1 ?_
    · dsimp only at g; omega
    have e2 := side_mix p i j (x, ceE (p (j + 1)) (p j) x)
    dsimp only at e2
    have m3 := Int.mul_nonneg (Int.le_of_lt o.up) (show 0 ≤ -sideZ p j (x, ceE (p (j + 1)) (p j) x) by omega)
    rw [Int.mul_neg] at m3
    exact neg_of_mul (a := (wyV p j).1) (by omega) o.dn
def covZ (p : Nat → P2) (f g : P2 → P2 → Int → Int) (k : Nat) (x : Int) : Int :=
  (if (wyV p k).1 < 0 ∧ (p (k + 1)).1 ≤ x ∧ x < (p k).1 then f (p (k + 1)) (p k) x else 0) + (-1) * (if 0 < (wyV p k).1 ∧ (p k).1 ≤ x ∧ x < (p (k + 1)).1 then g (p k) (p (k + 1)) x else 0)
theorem find_step (s : Nat → Int) (x : Int) : ∀ m, s 0 ≤ x → x < s m → ∃ i, i < m ∧ s i ≤ x ∧ x < s (i + 1) := by
  intro m
  induction m with
  | zero => intro h1 h2; omega
  | succ m ih =>
    intro h1 h2
    rcases Int.lt_or_le x (s m) with k | k
    · obtain ⟨i, a, b⟩ := ih h1 k
      exact ⟨i, by omega, b⟩
    · exact ⟨m, by omega, k, h2⟩
theorem Arcs.cover {n m : Nat} {p : Nat → P2} (h : Arcs n p m) (hc : ConvS n p) {x : Int} (h0 : (p 0).1 ≤ x) (h1 : x < (p m).1) :
    ∃ i j, i < m ∧ m ≤ j ∧ j < n ∧ (p i).1 ≤ x ∧ x < (p (i + 1)).1 ∧ (p (j + 1)).1 ≤ x ∧ x < (p j).1 ∧ ∀ f g, sumI (fun k => covZ p f g k x) n = f (p (j + 1)) (p j) x - g (p i) (p (i + 1)) x := by
  have hpn : p n = p 0 := by rw [show n = 0 + n by omega, hc.per]
  obtain ⟨i, hi, i1, i2⟩ := find_step (fun t => (p t).1) x m h0 h1
  obtain ⟨t, ht, t1, t2⟩ := find_step (fun t => (p (n - t)).1) x (n - m) (by show (p (n - 0)).1 ≤ x; rw [Nat.sub_zero, hpn]; exact h0) (by show x < (p (n - (n - m))).1; rw [show n - (n - m) = m by have := h.lt; omega]; exact h1)
  have hl := h.lt
  obtain ⟨j, hj⟩ : ∃ j, j + 1 = n - t := ⟨n - t - 1, by omega⟩
  rw [← hj] at t1
  rw [show n - (t + 1) = j by omega] at t2
  refine ⟨i, j, hi, by omega, by omega, i1, i2, t1, t2, fun f g => ?_⟩
  have w1 : 0 < (wyV p i).1 := by unfold wyV subV; dsimp only; omega
  have w2 : (wyV p j).1 < 0 := by unfold wyV subV; dsimp only; omega
  unfold covZ
  rw [sumI_add, sumI_mul]
  rw [sumI_one (k := j) (by omega), sumI_one (k := i) (by omega)]
  · rw [if_pos ⟨w2, t1, t2⟩, if_pos ⟨w1, i1, i2⟩]
    omega
  · intro k hk hne
    rw [if_neg]
    rintro ⟨a, b, c⟩
    have hkm : k < m := by
      rcases Nat.lt_or_ge k m with q | q
      · exact q
      · have := h.down k q hk
        unfold lexV wyV subV at *
        dsimp only at *
        omega
    rcases Nat.lt_or_ge k i with q | q
    · have := h.up_le i (k + 1) (by omega) (by omega)
      omega
    · have := h.up_le k (i + 1) (by omega) (by omega)
      omega
  · intro k hk hne
    rw [if_neg]
    rintro ⟨a, b, c⟩
    have hkm : m ≤ k := by
      rcases Nat.lt_or_ge k m with q | q
      · have := h.up k q
        unfold lexV wyV subV at *
        dsimp only at *
        omega
      · exact q
    rcases Nat.lt_or_ge k j with q | q
    · have := h.down_le j (k + 1) (by omega) (by omega) (by omega)
      omega
    · have := h.down_le k (j + 1) (by omega) (by omega) (by omega)
      omega
theorem sum_window (g : Int → Int) (x0 lo hi : Int) (W : Nat) (h1 : x0 ≤ lo) (h2 : lo ≤ hi) (h3 : hi ≤ x0 + W) :
    sumI (fun s => if lo ≤ x0 + s ∧ x0 + s < hi then g (x0 + s) else 0) W = sumI (fun t => g (lo + t)) (hi - lo).toNat := by
  obtain ⟨a, ha⟩ : ∃ a : Nat, lo = x0 + a := ⟨(lo - x0).toNat, by omega⟩
  obtain ⟨d, hd⟩ : ∃ d : Nat, hi = lo + d := ⟨(hi - lo).toNat, by omega⟩
  obtain ⟨r, rfl⟩ : ∃ r, W = a + d + r := ⟨W - a - d, by omega⟩
  rw [sumI_split, sumI_split, show (hi - lo).toNat = d by omega]
  have e1 : sumI (fun s : Nat => if lo ≤ x0 + s ∧ x0 + s < hi then g (x0 + s) else 0) a = 0 := sumI_zero (fun i hi' => by rw [if_neg (by omega)])
  have e2 : sumI (fun i : Nat => if lo ≤ x0 + ((a + d + i : Nat) : Int) ∧ x0 + ((a + d + i : Nat) : Int) < hi then g (x0 + ((a + d + i : Nat) : Int)) else 0) r = 0 := sumI_zero (fun i hi' => by rw [if_neg (by omega)])
  rw [e1, e2]
  have e3 : sumI (fun i : Nat => if lo ≤ x0 + ((a + i : Nat) : Int) ∧ x0 + ((a + i : Nat) : Int) < hi then g (x0 + ((a + i : Nat) : Int)) else 0) d = sumI (fun t : Nat => g (lo + t)) d := sumI_congr (fun i hi' => by
    rw [if_pos (by omega), show x0 + ((a + i : Nat) : Int) = lo + i by omega])
  rw [e3]
  omega
def totZ (p : Nat → P2) (f g : P2 → P2 → Int → Int) (k : Nat) : Int :=
  if (wyV p k).1 < 0 then sumI (fun t => f (p (k + 1)) (p k) ((p (k + 1)).1 + t)) ((p k).1 - (p (k + 1)).1).toNat
  else if 0 < (wyV p k).1 then -sumI (fun t => g (p k) (p (k + 1)) ((p k).1 + t)) ((p (k + 1)).1 - (p k).1).toNat else 0
theorem cover_total {n : Nat} {p : Nat → P2} {x0 : Int} {W : Nat} (hx : ∀ k, x0 ≤ (p k).1 ∧ (p k).1 ≤ x0 + W) (f g : P2 → P2 → Int → Int) :
    sumI (fun s => sumI (fun k => covZ p f g k (x0 + s)) n) W = sumI (totZ p f g) n := by
  rw [sumI_swap]
  refine sumI_congr (fun k _ => ?_)
  have a := hx k
  have b := hx (k + 1)
  unfold covZ totZ
  rw [sumI_add, sumI_mul]
  have ew : (wyV p k).1 = (p (k + 1)).1 - (p k).1 := rfl
  by_cases h1 : (wyV p k).1 < 0
  · have z : sumI (fun s : Nat => if 0 < (wyV p k).1 ∧ (p k).1 ≤ x0 + s ∧ x0 + s < (p (k + 1)).1 then g (p k) (p (k + 1)) (x0 + s) else 0) W = 0 := sumI_zero (fun i _ => by rw [if_neg (by omega)])
    rw [z, if_pos h1]
    have := sum_window (f (p (k + 1)) (p k)) x0 (p (k + 1)).1 (p k).1 W (by omega) (by omega) (by omega)
    rw [← this]
    simp only [h1, true_and]
    omega
  · have z : sumI (fun s : Nat => if (wyV p k).1 < 0 ∧ (p (k + 1)).1 ≤ x0 + s ∧ x0 + s < (p k).1 then f (p (k + 1)) (p k) (x0 + s) else 0) W = 0 := sumI_zero (fun i _ => by rw [if_neg (by omega)])
    rw [z, if_neg h1]
    by_cases h2 : 0 < (wyV p k).1
    · rw [if_pos h2]
      have := sum_window (g (p k) (p (k + 1))) x0 (p k).1 (p (k + 1)).1 W (by omega) (by omega) (by omega)
      rw [← this]
      simp only [h2, true_and]
      omega
    · rw [if_neg h2]
      have z2 : sumI (fun s : Nat => if 0 < (wyV p k).1 ∧ (p k).1 ≤ x0 + s ∧ x0 + s < (p (k + 1)).1 then g (p k) (p (k + 1)) (x0 + s) else 0) W = 0 := sumI_zero (fun i _ => by rw [if_neg (by omega)])
      rw [z2]
      rfl
/-- twice the area, the vectors on the edges, as sums over the edges -/
def areaI (p : Nat → P2) (n : Nat) : Int := sumI (fun k => dtV (p k) (p (k + 1))) n
def edgeI (p : Nat → P2) (n : Nat) : Int := sumI (fun k => (Int.gcd (wyV p k).1 (wyV p k).2 : Int)) n
theorem sum_tele (f : Nat → Int) (n : Nat) : sumI (fun k => f (k + 1) - f k) n = f n - f 0 := by
  induction n with
  | zero => simp [sumI]
  | succ n ih => rw [sumI_succ, ih]; omega
theorem area_trap {n : Nat} {p : Nat → P2} (h : p n = p 0) : sumI (fun k => -((wyV p k).1 * ((p k).2 + (p (k + 1)).2))) n = areaI p n := by
  have t := sum_tele (fun k => (p k).1 * (p k).2) n
  rw [h] at t
  have e : sumI (fun k => -((wyV p k).1 * ((p k).2 + (p (k + 1)).2))) n + sumI (fun k => (p (k + 1)).1 * (p (k + 1)).2 - (p k).1 * (p k).2) n = areaI p n := by
    rw [← sumI_add]
    refine sumI_congr (fun k _ => ?_)
    unfold wyV subV dtV
    dsimp only
    grind
  omega
def absZ (a : Int) : Int := max a (-a)
theorem gcd_zero (b : Int) : (Int.gcd 0 b : Int) = absZ b := by unfold absZ; rw [Int.gcd_zero_left]; omega
def vuZ (p : Nat → P2) (k : Nat) : Int := if (wyV p k).1 = 0 then (wyV p k).2 + absZ (wyV p k).2 else 0
def vdZ (p : Nat → P2) (k : Nat) : Int := if (wyV p k).1 = 0 then (wyV p k).2 - absZ (wyV p k).2 else 0
theorem tot0 (p : Nat → P2) (k : Nat) : 2 * totZ p flE ceE k = -((wyV p k).1 * ((p k).2 + (p (k + 1)).2)) + (wyV p k).2 + Int.gcd (wyV p k).1 (wyV p k).2 - absZ (wyV p k).1 - vuZ p k := by
  have ew : (wyV p k).1 = (p (k + 1)).1 - (p k).1 := rfl
  have ew2 : (wyV p k).2 = (p (k + 1)).2 - (p k).2 := rfl
  unfold totZ vuZ
  by_cases h1 : (wyV p k).1 < 0
  · rw [if_pos h1, if_neg (by omega)]
    obtain ⟨N, hN⟩ : ∃ N : Nat, (p k).1 - (p (k + 1)).1 = N := ⟨((p k).1 - (p (k + 1)).1).toNat, by omega⟩
    have := flE_sum (p (k + 1)) (p k) N (by omega) hN
    rw [show ((p k).1 - (p (k + 1)).1).toNat = N by omega, this]
    have eg : Int.gcd ((p k).2 - (p (k + 1)).2) N = Int.gcd (wyV p k).1 (wyV p k).2 := by
      rw [show (wyV p k).1 = -(N : Int) by omega, show (wyV p k).2 = -((p k).2 - (p (k + 1)).2) by omega, Int.neg_gcd, Int.gcd_neg, Int.gcd_comm]
    rw [eg]
    have ea : absZ (wyV p k).1 = N := by unfold absZ; omega
    rw [ea]
    generalize ((Int.gcd (wyV p k).1 (wyV p k).2 : Nat) : Int) = g
    have : (wyV p k).1 * ((p k).2 + (p (k + 1)).2) = -((N : Int) * ((p (k + 1)).2 + (p k).2)) := by rw [show (wyV p k).1 = -(N : Int) by omega]; grind
    omega
  · rw [if_neg h1]
    by_cases h2 : 0 < (wyV p k).1
    · rw [if_pos h2, if_neg (by omega)]
      obtain ⟨N, hN⟩ : ∃ N : Nat, (p (k + 1)).1 - (p k).1 = N := ⟨((p (k + 1)).1 - (p k).1).toNat, by omega⟩
      have := ceE_sum (p k) (p (k + 1)) N (by omega) hN
      rw [show ((p (k + 1)).1 - (p k).1).toNat = N by omega, Int.mul_neg, this]
      have eg : Int.gcd ((p (k + 1)).2 - (p k).2) N = Int.gcd (wyV p k).1 (wyV p k).2 := by
        rw [show (wyV p k).1 = (N : Int) by omega, ew2, Int.gcd_comm]
      rw [eg]
      have ea : absZ (wyV p k).1 = N := by unfold absZ; omega
      rw [ea, show (wyV p k).1 = (N : Int) by omega]
      generalize ((Int.gcd (N : Int) (wyV p k).2 : Nat) : Int) = g
      omega
    · have h0 : (wyV p k).1 = 0 := by omega
      rw [if_neg h2, if_pos h0, h0, gcd_zero]
      unfold absZ
      omega
theorem tot1 (p : Nat → P2) (k : Nat) : 2 * totZ p ceE flE k = -((wyV p k).1 * ((p k).2 + (p (k + 1)).2)) + (wyV p k).2 - Int.gcd (wyV p k).1 (wyV p k).2 + absZ (wyV p k).1 - vdZ p k := by
  have ew : (wyV p k).1 = (p (k + 1)).1 - (p k).1 := rfl
  have ew2 : (wyV p k).2 = (p (k + 1)).2 - (p k).2 := rfl
  unfold totZ vdZ
  by_cases h1 : (wyV p k).1 < 0
  · rw [if_pos h1, if_neg (by omega)]
    obtain ⟨N, hN⟩ : ∃ N : Nat, (p k).1 - (p (k + 1)).1 = N := ⟨((p k).1 - (p (k + 1)).1).toNat, by omega⟩
    have := ceE_sum (p (k + 1)) (p k) N (by omega) hN
    rw [show ((p k).1 - (p (k + 1)).1).toNat = N by omega, this]
    have eg : Int.gcd ((p k).2 - (p (k + 1)).2) N = Int.gcd (wyV p k).1 (wyV p k).2 := by
      rw [show (wyV p k).1 = -(N : Int) by omega, show (wyV p k).2 = -((p k).2 - (p (k + 1)).2) by omega, Int.neg_gcd, Int.gcd_neg, Int.gcd_comm]
    rw [eg]
    have ea : absZ (wyV p k).1 = N := by unfold absZ; omega
    rw [ea]
    generalize ((Int.gcd (wyV p k).1 (wyV p k).2 : Nat) : Int) = g
    have : (wyV p k).1 * ((p k).2 + (p (k + 1)).2) = -((N : Int) * ((p (k + 1)).2 + (p k).2)) := by rw [show (wyV p k).1 = -(N : Int) by omega]; grind
    omega
  · rw [if_neg h1]
    by_cases h2 : 0 < (wyV p k).1
    · rw [if_pos h2, if_neg (by omega)]
      obtain ⟨N, hN⟩ : ∃ N : Nat, (p (k + 1)).1 - (p k).1 = N := ⟨((p (k + 1)).1 - (p k).1).toNat, by omega⟩
      have := flE_sum (p k) (p (k + 1)) N (by omega) hN
      rw [show ((p (k + 1)).1 - (p k).1).toNat = N by omega, Int.mul_neg, this]
      have eg : Int.gcd ((p (k + 1)).2 - (p k).2) N = Int.gcd (wyV p k).1 (wyV p k).2 := by
        rw [show (wyV p k).1 = (N : Int) by omega, ew2, Int.gcd_comm]
      rw [eg]
      have ea : absZ (wyV p k).1 = N := by unfold absZ; omega
      rw [ea, show (wyV p k).1 = (N : Int) by omega]
      generalize ((Int.gcd (N : Int) (wyV p k).2 : Nat) : Int) = g
      omega
    · have h0 : (wyV p k).1 = 0 := by omega
      rw [if_neg h2, if_pos h0, h0, gcd_zero]
      unfold absZ
      omega
theorem sum_abs {n m : Nat} {p : Nat → P2} (h : Arcs n p m) (hc : ConvS n p) : sumI (fun k => absZ (wyV p k).1) n = 2 * ((p m).1 - (p 0).1) := by
  have hpn : p n = p 0 := by rw [show n = 0 + n by omega, hc.per]
  obtain ⟨r, hr⟩ : ∃ r, n = m + r := ⟨n - m, by have := h.lt; omega⟩
  rw [hr, sumI_split]
  have e1 : sumI (fun k => absZ (wyV p k).1) m = sumI (fun k => (p (k + 1)).1 - (p k).1) m := sumI_congr (fun k hk => by
    have := h.up k hk
    unfold lexV wyV subV at this
    unfold absZ wyV subV
    dsimp only at *
    omega)
  have e2 : sumI (fun k => absZ (wyV p (m + k)).1) r = sumI (fun k => (fun k => -(p (m + k)).1) (k + 1) - (fun k => -(p (m + k)).1) k) r := sumI_congr (fun k hk => by
    have := h.down (m + k) (by omega) (by omega)
    unfold lexV subV at this
    unfold absZ wyV subV
    dsimp only at *
    rw [← Nat.add_assoc]
    omega)
  have e3 := sum_tele (fun k => -(p (m + k)).1) r
  have e4 := sum_tele (fun k => (p k).1) m
  rw [Nat.add_zero, ← hr, hpn] at e3
  rw [e1, e2, e3, e4]
  omega
theorem sum_dy {n : Nat} {p : Nat → P2} (h : p n = p 0) : sumI (fun k => (wyV p k).2) n = 0 := by
  have := sum_tele (fun k => (p k).2) n
  rw [h] at this
  have e : sumI (fun k => (wyV p k).2) n = sumI (fun k => (p (k + 1)).2 - (p k).2) n := rfl
  rw [e, this]
  omega
theorem sums0 {n m : Nat} {p : Nat → P2} (h : Arcs n p m) (hc : ConvS n p) : 2 * sumI (totZ p flE ceE) n = areaI p n + edgeI p n - 2 * ((p m).1 - (p 0).1) - sumI (vuZ p) n := by
  have hpn : p n = p 0 := by rw [show n = 0 + n by omega, hc.per]
  rw [← sumI_mul, ← sum_abs h hc, ← area_trap hpn]
  have e : sumI (fun k => 2 * totZ p flE ceE k) n = sumI (fun k => (-((wyV p k).1 * ((p k).2 + (p (k + 1)).2)) + (wyV p k).2) + ((Int.gcd (wyV p k).1 (wyV p k).2 : Int) + ((-1) * absZ (wyV p k).1 + (-1) * vuZ p k))) n := sumI_congr (fun k _ => by
    rw [tot0]
    omega)
  rw [e, sumI_add, sumI_add, sumI_add, sumI_add, sumI_mul, sumI_mul, sum_dy hpn]
  unfold edgeI
  have : sumI (fun i => vuZ p i) n = sumI (vuZ p) n := rfl
  omega
theorem sums1 {n m : Nat} {p : Nat → P2} (h : Arcs n p m) (hc : ConvS n p) : 2 * sumI (totZ p ceE flE) n = areaI p n - edgeI p n + 2 * ((p m).1 - (p 0).1) - sumI (vdZ p) n := by
  have hpn : p n = p 0 := by rw [show n = 0 + n by omega, hc.per]
  rw [← sumI_mul, ← sum_abs h hc, ← area_trap hpn]
  have e : sumI (fun k => 2 * totZ p ceE flE k) n = sumI (fun k => (-((wyV p k).1 * ((p k).2 + (p (k + 1)).2)) + (wyV p k).2) + ((-1) * (Int.gcd (wyV p k).1 (wyV p k).2 : Int) + (absZ (wyV p k).1 + (-1) * vdZ p k))) n := sumI_congr (fun k _ => by
    rw [tot1]
    omega)
  rw [e, sumI_add, sumI_add, sumI_add, sumI_add, sumI_mul, sumI_mul, sum_dy hpn]
  unfold edgeI
  have : sumI (fun i => vdZ p i) n = sumI (vdZ p) n := rfl
  omega
theorem side_vert {p : Nat → P2} {k : Nat} {z : P2} (h : (wyV p k).1 = 0) : sideZ p k z = (wyV p k).2 * ((p k).1 - z.1) := by
  unfold sideZ dtV subV
  dsimp only
  rw [h]
  grind
theorem nonneg_right {a b : Int} (h : 0 ≤ a * b) (ha : 0 < a) : 0 ≤ b := nonneg_of_mul (b := a) (by rw [Int.mul_comm]; exact h) ha
theorem Arcs.range {n m : Nat} {p : Nat → P2} (h : Arcs n p m) (hc : ConvS n p) (k : Nat) : (p 0).1 ≤ (p k).1 ∧ (p k).1 ≤ (p m).1 := by
  have hpn : p n = p 0 := by rw [show n = 0 + n by omega, hc.per]
  have hk := Nat.mod_lt k (show 0 < n by have := h.lt; omega)
  have hl := h.lt
  rw [← hc.mod k]
  generalize k % n = k at *
  rcases Nat.lt_or_ge k m with q | q
  · exact ⟨h.up_le k 0 (by omega) (by omega), h.up_le m k (by omega) (by omega)⟩
  · have a := h.down_le n k (by omega) (by omega) (by omega)
    rw [hpn] at a
    exact ⟨a, h.down_le k m (by omega) (by omega) (by omega)⟩
theorem Arcs.wide {n m : Nat} {p : Nat → P2} (h : Arcs n p m) (hc : ConvS n p) : (p 0).1 < (p m).1 := by
  have a := h.first hc
  have b := h.up_le m 1 (by have := h.pos; omega) (by omega)
  unfold wyV subV at a
  rw [Nat.zero_add] at a
  dsimp only at a
  omega
theorem flE_left (u v : P2) : flE u v u.1 = u.2 := by unfold flE; simp
theorem ceE_left (u v : P2) : ceE u v u.1 = u.2 := by unfold ceE; simp
theorem flE_right {u v : P2} (h : u.1 < v.1) : flE u v v.1 = v.2 := by
  unfold flE
  rw [Int.mul_ediv_cancel _ (by omega)]
  omega
theorem ceE_right {u v : P2} (h : u.1 < v.1) : ceE u v v.1 = v.2 := by
  unfold ceE
  rw [← Int.neg_mul, Int.mul_ediv_cancel _ (by omega)]
  omega
def pickN (p : Nat → P2) (n : Nat) (s b : Int) (W H : Nat) : Int := sumI (fun a => colN p n s ((p 0).1 + a) b H) W
theorem last0 {n m : Nat} {p : Nat → P2} {b : Int} {H : Nat} (h : Arcs n p m) (hc : ConvS n p) (hb : InBox p b H) : 2 * colN p n 0 (p m).1 b H = sumI (vuZ p) n + 2 := by
  have hl := h.lt
  have hp := h.pos
  have ht := h.top hc
  have hf := h.first hc
  have ht' : (p (m + 1)).1 < (p m).1 := by unfold wyV subV at ht; dsimp only at ht; omega
  have down0 : ∀ k, m ≤ k → k < n → vuZ p k = 0 := by
    intro k h1 h2
    have := h.down k h1 h2
    unfold vuZ
    split
    · next e =>
      unfold lexV wyV subV at *
      dsimp only at *
      unfold absZ
      omega
    · rfl
  have em : m - 1 + 1 = m := by omega
  have hup := h.up (m - 1) (by omega)
  by_cases h0 : (wyV p (m - 1)).1 = 0
  · have hm2 : 2 ≤ m := by
      rcases Nat.lt_or_ge m 2 with q | q
      · exfalso
        obtain rfl : m = 1 := by omega
        rw [show 1 - 1 = 0 from rfl] at h0
        omega
      · exact q
    have em2 : m - 2 + 1 = m - 1 := by omega
    have hup2 := h.up (m - 2) (by omega)
    have h2 : 0 < (wyV p (m - 2)).1 := by
      unfold lexV at hup2
      rcases hup2 with a | ⟨a, _⟩
      · exact a
      · have := h.vert hc (show m - 2 < m by omega) a
        omega
    have hx : (p (m - 1)).1 = (p m).1 := by
      unfold wyV subV at h0
      rw [em] at h0
      dsimp only at h0
      omega
    have hx2 : (p (m - 2)).1 < (p (m - 1)).1 := by
      unfold wyV subV at h2
      rw [em2] at h2
      dsimp only at h2
      omega
    have o : Over p (m - 2) m (p m).1 := ⟨h2, by omega, by rw [em2]; omega, ht, by omega, Int.le_refl _⟩
    rw [o.col0 hc (by omega) hl hb, flE_right ht', em2, ← hx, ceE_right hx2]
    rw [sumI_one (k := m - 1) (by omega)]
    · unfold vuZ absZ
      rw [if_pos h0]
      unfold lexV at hup
      unfold wyV subV at *
      rw [em] at *
      dsimp only at *
      omega
    · intro k hk hne
      rcases Nat.lt_or_ge k m with q | q
      · unfold vuZ
        rw [if_neg]
        intro e
        have := h.vert hc q e
        omega
      · exact down0 k q hk
  · have h2 : 0 < (wyV p (m - 1)).1 := by
      unfold lexV at hup
      omega
    have hx2 : (p (m - 1)).1 < (p m).1 := by
      unfold wyV subV at h2
      rw [em] at h2
      dsimp only at h2
      omega
    have o : Over p (m - 1) m (p m).1 := ⟨h2, by omega, by rw [em]; exact Int.le_refl _, ht, by omega, Int.le_refl _⟩
    rw [o.col0 hc (by omega) hl hb, flE_right ht', em, ceE_right hx2]
    rw [sumI_zero]
    · omega
    · intro k hk
      rcases Nat.lt_or_ge k m with q | q
      · unfold vuZ
        rw [if_neg]
        intro e
        have e2 := h.vert hc q e
        rw [show k = m - 1 by omega] at e
        exact h0 e
      · exact down0 k q hk
/-- the vectors of a polygon, its edges among them -/
theorem pick0 {n m : Nat} {p : Nat → P2} {b : Int} {W H : Nat} (h : Arcs n p m) (hc : ConvS n p) (hb : InBox p b H) (hW : (p m).1 - (p 0).1 = W) : 2 * pickN p n 0 b (W + 1) H = areaI p n + edgeI p n + 2 := by
  have hl := h.lt
  have hx : ∀ k, (p 0).1 ≤ (p k).1 ∧ (p k).1 ≤ (p 0).1 + W := fun k => by
    have := h.range hc k
    omega
  unfold pickN
  rw [sumI_succ]
  have e1 : sumI (fun a : Nat => colN p n 0 ((p 0).1 + a) b H) W = sumI (fun s : Nat => sumI (fun k => covZ p flE ceE k ((p 0).1 + s)) n + 1) W := sumI_congr (fun a ha => by
    obtain ⟨i, j, hi, hj, hjn, i1, i2, j1, j2, hs⟩ := h.cover hc (x := (p 0).1 + a) (by omega) (by omega)
    rw [hs]
    have o : Over p i j ((p 0).1 + a) := ⟨by unfold wyV subV; dsimp only; omega, i1, by omega, by unfold wyV subV; dsimp only; omega, j1, by omega⟩
    exact o.col0 hc (by omega) hjn hb)
  rw [e1, sumI_add, sumI_const, cover_total hx]
  have a := sums0 h hc
  have c := last0 h hc hb
  rw [show (p 0).1 + (W : Int) = (p m).1 by omega]
  omega
theorem first1 {n m : Nat} {p : Nat → P2} {b : Int} {H : Nat} (h : Arcs n p m) (hc : ConvS n p) : colN p n 1 (p 0).1 b H = 0 := by
  have hpn : p n = p 0 := by rw [show n = 0 + n by omega, hc.per]
  have hl := h.lt
  have hp := h.pos
  have hf := h.first hc
  have en : n - 1 + 1 = n := by omega
  unfold colN
  refine sumI_zero (fun t _ => ?_)
  rw [if_neg]
  rw [ins_iff]
  intro k
  have a := (up_gt (z := ((p 0).1, b + (t : Int))) hf).1 (by have := k 0 (by omega); omega)
  have k2 := k (n - 1) (by omega)
  have d := h.down (n - 1) (by omega) (by omega)
  rw [flE_left] at a
  dsimp only at a
  by_cases h0 : (wyV p (n - 1)).1 = 0
  · rw [side_vert h0] at k2
    dsimp only at k2
    have : (p (n - 1)).1 = (p 0).1 := by
      unfold wyV subV at h0
      rw [en, hpn] at h0
      dsimp only at h0
      omega
    rw [this, Int.sub_self, Int.mul_zero] at k2
    omega
  · have hd : (wyV p (n - 1)).1 < 0 := by
      unfold lexV at d
      unfold wyV subV at *
      dsimp only at *
      omega
    have c := (dn_gt (z := ((p 0).1, b + (t : Int))) hd).1 (by omega)
    rw [en, hpn] at c
    dsimp only at c
    rw [ceE_left] at c
    omega
theorem last1 {n m : Nat} {p : Nat → P2} {b : Int} {H : Nat} (h : Arcs n p m) (hc : ConvS n p) : colN p n 1 (p m).1 b H = 0 := by
  have hl := h.lt
  have hp := h.pos
  have ht := h.top hc
  have ht' : (p (m + 1)).1 < (p m).1 := by unfold wyV subV at ht; dsimp only at ht; omega
  have em : m - 1 + 1 = m := by omega
  unfold colN
  refine sumI_zero (fun t _ => ?_)
  rw [if_neg]
  rw [ins_iff]
  intro k
  have a := (dn_gt (z := ((p m).1, b + (t : Int))) ht).1 (by have := k m hl; omega)
  have k2 := k (m - 1) (by omega)
  have d := h.up (m - 1) (by omega)
  dsimp only at a
  rw [ceE_right ht'] at a
  by_cases h0 : (wyV p (m - 1)).1 = 0
  · rw [side_vert h0] at k2
    dsimp only at k2
    have : (p (m - 1)).1 = (p m).1 := by
      unfold wyV subV at h0
      rw [em] at h0
      dsimp only at h0
      omega
    rw [this, Int.sub_self, Int.mul_zero] at k2
    omega
  · have hd : 0 < (wyV p (m - 1)).1 := by
      unfold lexV at d
      omega
    have c := (up_gt (z := ((p m).1, b + (t : Int))) hd).1 (by omega)
    rw [em] at c
    dsimp only at c
    have hx2 : (p (m - 1)).1 < (p m).1 := by
      unfold wyV subV at hd
      rw [em] at hd
      dsimp only at hd
      omega
    rw [flE_right hx2] at c
    omega
theorem start1 {n m : Nat} {p : Nat → P2} (h : Arcs n p m) (hc : ConvS n p) : 2 * sumI (fun k => covZ p ceE flE k (p 0).1) n = -sumI (vdZ p) n := by
  have hpn : p n = p 0 := by rw [show n = 0 + n by omega, hc.per]
  have hl := h.lt
  have hf := h.first hc
  obtain ⟨i, j, hi, hj, hjn, i1, i2, j1, j2, hs⟩ := h.cover hc (x := (p 0).1) (Int.le_refl _) (h.wide hc)
  rw [hs]
  have i0 : i = 0 := by
    rcases Nat.eq_zero_or_pos i with q | q
    · exact q
    · have := h.up_le i 1 (by omega) (by omega)
      unfold wyV subV at hf
      rw [Nat.zero_add] at hf
      dsimp only at hf
      omega
  subst i0
  have hr := h.range hc (j + 1)
  have ej : (p (j + 1)).1 = (p 0).1 := by omega
  rw [flE_left]
  conv => lhs; rw [← ej, ceE_left]
  have up0 : ∀ k, k < m → vdZ p k = 0 := by
    intro k h1
    have := h.up k h1
    unfold vdZ
    split
    · next e =>
      unfold lexV at this
      unfold absZ
      omega
    · rfl
  by_cases e : j + 1 = n
  · rw [e, hpn, sumI_zero]
    · omega
    · intro k hk
      rcases Nat.lt_or_ge k m with q | q
      · exact up0 k q
      · unfold vdZ
        rw [if_neg]
        intro z
        have := h.vert' hc q hk z
        obtain rfl : k = j := by omega
        unfold wyV subV at z
        dsimp only at z
        omega
  · have z0 : (wyV p (j + 1)).1 = 0 := by
      have a := h.down_le (j + 1 + 1) (j + 1) (by omega) (by omega) (by omega)
      have c := h.range hc (j + 1 + 1)
      unfold wyV subV
      dsimp only
      omega
    have e2 := h.vert' hc (show m ≤ j + 1 by omega) (by omega) z0
    rw [sumI_one (k := j + 1) (by omega)]
    · have d := h.down (j + 1) (by omega) (by omega)
      unfold vdZ absZ
      rw [if_pos z0]
      unfold lexV at d
      unfold wyV subV at *
      rw [e2, hpn] at *
      dsimp only at *
      omega
    · intro k hk hne
      rcases Nat.lt_or_ge k m with q | q
      · exact up0 k q
      · unfold vdZ
        rw [if_neg]
        intro z
        have := h.vert' hc q hk z
        omega
/-- the inner vectors of a polygon -/
theorem pick1 {n m : Nat} {p : Nat → P2} {b : Int} {W H : Nat} (h : Arcs n p m) (hc : ConvS n p) (hb : InBox p b H) (hW : (p m).1 - (p 0).1 = W) : 2 * pickN p n 1 b (W + 1) H = areaI p n - edgeI p n + 2 := by
  have hl := h.lt
  have h3 := hc.three
  have hw := h.wide hc
  have hx : ∀ k, (p 0).1 ≤ (p k).1 ∧ (p k).1 ≤ (p 0).1 + W := fun k => by
    have := h.range hc k
    omega
  have st := start1 h hc
  unfold pickN
  rw [sumI_succ]
  have e1 : sumI (fun a : Nat => colN p n 1 ((p 0).1 + a) b H) W = sumI (fun s : Nat => sumI (fun k => covZ p ceE flE k ((p 0).1 + s)) n + ((-1) + (-1) * (if s = 0 then sumI (fun k => covZ p ceE flE k (p 0).1) n - 1 else 0))) W := sumI_congr (fun a ha => by
    by_cases h0 : a = 0
    · subst h0
      rw [if_pos rfl]
      have := first1 (b := b) (H := H) h hc
      simp only [Int.natCast_zero, Int.add_zero] at *
      omega
    · rw [if_neg h0]
      obtain ⟨i, j, hi, hj, hjn, i1, i2, j1, j2, hs⟩ := h.cover hc (x := (p 0).1 + a) (by omega) (by omega)
      rw [hs]
      have o : Over p i j ((p 0).1 + a) := ⟨by unfold wyV subV; dsimp only; omega, i1, by omega, by unfold wyV subV; dsimp only; omega, j1, by omega⟩
      have hv : ∀ k z, (wyV p k).1 = 0 → z.1 = (p 0).1 + a → 0 < sideZ p k z := by
        intro k z hk hz
        have s0 := hc.side0 k 0
        have s1 := hc.side0 k m
        rw [side_vert hk] at s0 s1 ⊢
        have hne := wy_nz hc k
        have hxk := hx k
        have hy : (wyV p k).2 ≠ 0 := by
          intro e
          unfold lexV at hne
          unfold wyV subV at *
          dsimp only at *
          omega
        rcases Int.lt_or_le 0 (wyV p k).2 with q | q
        · have := nonneg_right s1 q
          exact Int.mul_pos q (by omega)
        · have := nneg_of_mul (a := (wyV p k).2) (b := -((p k).1 - (p 0).1)) (by rw [Int.mul_neg]; omega) (by omega)
          have m1 := Int.mul_pos (show 0 < -(wyV p k).2 by omega) (show 0 < -((p k).1 - z.1) by omega)
          rw [Int.neg_mul_neg] at m1
          exact m1
      have hs2 : 0 < ((p (i + 1)).1 - ((p 0).1 + a)) * sideZ p j (p i) + ((p 0).1 + a - (p i).1) * sideZ p j (p (i + 1)) := by
        have m1 := Int.mul_nonneg (show 0 ≤ (p (i + 1)).1 - ((p 0).1 + a) by omega) (hc.side0 j i)
        have m2 := Int.mul_nonneg (show 0 ≤ (p 0).1 + a - (p i).1 by omega) (hc.side0 j (i + 1))
        by_cases ei : i = 0
        · subst ei
          rcases Nat.lt_or_ge (j + 1) n with q | q
          · have s := hc.side (show j < n by omega) (show 0 < n by omega) (by omega) (by rw [Nat.mod_eq_of_lt q]; omega)
            have := Int.mul_pos (show 0 < (p (0 + 1)).1 - ((p 0).1 + a) by omega) (show 0 < sideZ p j (p 0) from s)
            omega
          · have s := hc.side (show j < n by omega) (show 1 < n by omega) (by omega) (by rw [show j + 1 = n by omega, Nat.mod_self]; omega)
            have := Int.mul_pos (show 0 < (p 0).1 + a - (p 0).1 by omega) (show 0 < sideZ p j (p (0 + 1)) from s)
            omega
        · have s := hc.side (show j < n by omega) (show i < n by omega) (by omega) (by
            rcases Nat.lt_or_ge (j + 1) n with q | q
            · rw [Nat.mod_eq_of_lt q]; omega
            · rw [show j + 1 = n by omega, Nat.mod_self]; omega)
          have := Int.mul_pos (show 0 < (p (i + 1)).1 - ((p 0).1 + a) by omega) (show 0 < sideZ p j (p i) from s)
          omega
      rw [o.col1 hc (by omega) hjn hb hv hs2]
      omega)
  rw [e1, sumI_add, sumI_add, sumI_const, sumI_mul, cover_total hx]
  have e2 : sumI (fun s : Nat => if s = 0 then sumI (fun k => covZ p ceE flE k (p 0).1) n - 1 else 0) W = sumI (fun k => covZ p ceE flE k (p 0).1) n - 1 := by
    rw [sumI_one (k := 0) (by omega)]
    · rw [if_pos rfl]
    · intro i _ hi
      rw [if_neg hi]
  rw [e2]
  have a := sums1 h hc
  have c := last1 (b := b) (H := H) h hc
  rw [show (p 0).1 + (W : Int) = (p m).1 by omega, c]
  omega
end Go.Proofs.YtgaeibibeekclabGreatDoor
namespace Go.Proofs.YtgaeibibeekclabGreatDoor
theorem ConvS.rot_min {n : Nat} {p : Nat → P2} (h : ConvS n p) {K : Nat} (hK : K < n) (hm : ∀ j, j < n → p K = p j ∨ lexV (subV (p j) (p K))) : MinAt n (fun i => p (K + i)) := by
  intro j hj h0
  show lexV (subV (p (K + j)) (p (K + 0)))
  rw [Nat.add_zero, ← h.mod (K + j)]
  have hne : K ≠ (K + j) % n := by
    intro e
    by_cases c : K + j < n
    · rw [Nat.mod_eq_of_lt c] at e; omega
    · rw [Nat.mod_eq_sub_mod (by omega), Nat.mod_eq_of_lt (by omega)] at e; omega
  have hl := Nat.mod_lt (K + j) (show 0 < n by omega)
  rcases hm _ hl with e | e
  · exact (h.ne hK hl hne e).elim
  · exact e
theorem ins_rot {n : Nat} {p : Nat → P2} (hn : 0 < n) (h : ∀ i, p (i + n) = p i) (K : Nat) (s : Int) (z : P2) : insB (fun i => p (K + i)) n s z = insB p n s z := by
  have hk : ∀ k, p (k % n) = p k := by
    have : ∀ k i, p (i + n * k) = p i := by
      intro k
      induction k with
      | zero => intro i; rfl
      | succ k ih => intro i; rw [Nat.mul_succ, ← Nat.add_assoc, h, ih]
    intro i
    have e := this (i / n) (i % n)
    rw [Nat.mod_add_div] at e
    exact e.symm
  have hs : ∀ k, sideZ p (k % n) z = sideZ p k z := by
    intro k
    have e : p (k % n + 1) = p (k + 1) := by rw [← hk (k % n + 1), ← hk (k + 1), Nat.add_mod, Nat.mod_mod, ← Nat.add_mod]
    unfold sideZ wyV
    rw [hk, e]
  rw [Bool.eq_iff_iff, ins_iff, ins_iff]
  have hr : ∀ k, sideZ (fun i => p (K + i)) k z = sideZ p (K + k) z := fun k => rfl
  constructor
  · intro a k hkn
    have q := a ((k + n - K % n) % n) (Nat.mod_lt _ hn)
    rw [hr, ← hs] at q
    have hK := Nat.mod_lt K hn
    have e : (K + (k + n - K % n) % n) % n = k := by
      have hd := Nat.div_add_mod K n
      rw [Nat.add_mod_mod, show K + (k + n - K % n) = k + n * (K / n + 1) by rw [Nat.mul_succ]; omega, Nat.add_mul_mod_self_left, Nat.mod_eq_of_lt hkn]
    rwa [e] at q
  · intro a k hkn
    rw [hr, ← hs]
    exact a _ (Nat.mod_lt _ hn)
theorem pick_all {n : Nat} {p : Nat → P2} (h : ConvS n p) {b : Int} {H : Nat} (hb : InBox p b H) {x0 : Int} {W : Nat} (hx : ∀ k, x0 ≤ (p k).1 ∧ (p k).1 ≤ x0 + W) (h0 : ∃ k, (p k).1 = x0) (h1 : ∃ k, (p k).1 = x0 + W) :
    2 * sumI (fun a => colN p n 0 (x0 + a) b H) (W + 1) = areaI p n + edgeI p n + 2 ∧ 2 * sumI (fun a => colN p n 1 (x0 + a) b H) (W + 1) = areaI p n - edgeI p n + 2 := by
  have h3 := h.three
  obtain ⟨K, hK, hm⟩ := exists_min p n (by omega)
  have hc := h.rot K
  obtain ⟨m, ha⟩ := hc.arcs (h.rot_min hK hm)
  have hr := ha.range hc
  have e0 : (p (K + 0)).1 = x0 := by
    obtain ⟨k, hk⟩ := h0
    have a := hx (K + 0)
    have c := (hr (k + n * K - K)).1
    have e : p (K + (k + n * K - K)) = p k := by
      refine h.shift _ _ ?_
      have : K ≤ n * K := Nat.le_mul_of_pos_left K (by omega)
      rw [show K + (k + n * K - K) = k + n * K by omega, Nat.add_mul_mod_self_left]
    rw [e] at c
    omega
  have e1 : (p (K + m)).1 = x0 + W := by
    obtain ⟨k, hk⟩ := h1
    have a := hx (K + m)
    have c := (hr (k + n * K - K)).2
    have e : p (K + (k + n * K - K)) = p k := by
      refine h.shift _ _ ?_
      have : K ≤ n * K := Nat.le_mul_of_pos_left K (by omega)
      rw [show K + (k + n * K - K) = k + n * K by omega, Nat.add_mul_mod_self_left]
    rw [e] at c
    omega
  have hb' : InBox (fun i => p (K + i)) b H := fun k => hb (K + k)
  have a0 := pick0 ha hc hb' (W := W) (by omega)
  have a1 := pick1 ha hc hb' (W := W) (by omega)
  have hA : areaI (fun i => p (K + i)) n = areaI p n := sumI_rot (f := fun k => dtV (p k) (p (k + 1))) (fun i => by show dtV (p (i + n)) (p (i + n + 1)) = _; rw [h.per, show i + n + 1 = i + 1 + n by omega, h.per]) K
  have hE : edgeI (fun i => p (K + i)) n = edgeI p n := sumI_rot (f := fun k => (Int.gcd (wyV p k).1 (wyV p k).2 : Int)) (fun i => by
    have : wyV p (i + n) = wyV p i := by unfold wyV; rw [h.per, show i + n + 1 = i + 1 + n by omega, h.per]
    show (Int.gcd (wyV p (i + n)).1 (wyV p (i + n)).2 : Int) = _
    rw [this]) K
  have hC : ∀ s x, colN (fun i => p (K + i)) n s x b H = colN p n s x b H := fun s x => by
    unfold colN
    exact sumI_congr (fun t _ => by rw [ins_rot (by omega) h.per])
  unfold pickN at a0 a1
  dsimp only at a0 a1
  rw [hA, hE] at a0 a1
  simp only [hC, e0] at a0 a1
  exact ⟨a0, a1⟩
end Go.Proofs.YtgaeibibeekclabGreatDoor
namespace Go.Proofs.YtgaeibibeekclabGreatDoor
variable {n : Nat} {p s : Nat → P2} {g : Nat → Nat}
variable {m : Nat} {E : Nat → P2} {base : Nat → Nat}
end Go.Proofs.YtgaeibibeekclabGreatDoor
