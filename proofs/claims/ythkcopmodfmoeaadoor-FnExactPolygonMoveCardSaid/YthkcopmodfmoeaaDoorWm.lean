/- Lists of directions that go round once, polygons, hulls: plain mathematics. -/
namespace Go.Proofs.YthkcopmodfmoeaaDoor

/-- the plane -/
abbrev P2 := Int × Int
def dtV (u v : P2) : Int := u.1 * v.2 - u.2 * v.1
def subV (u v : P2) : P2 := (u.1 - v.1, u.2 - v.2)
def uppV (u : P2) : Prop := 0 < u.2 ∨ (u.2 = 0 ∧ 0 < u.1)
def lowV (u : P2) : Prop := u.2 < 0 ∨ (u.2 = 0 ∧ u.1 < 0)
def lexV (u : P2) : Prop := 0 < u.1 ∨ (u.1 = 0 ∧ 0 < u.2)
theorem dt_flip (u v : P2) : dtV v u = -dtV u v := by unfold dtV; grind
theorem dt_self (u : P2) : dtV u u = 0 := by unfold dtV; grind
theorem pos_of_mul {a b : Int} (h : 0 < a * b) (hb : 0 < b) : 0 < a := by
  rcases Int.lt_or_le 0 a with h1 | h1
  · exact h1
  · have := Int.mul_nonneg (show 0 ≤ -a by omega) (show 0 ≤ b by omega)
    rw [Int.neg_mul] at this
    omega
theorem nonneg_of_mul {a b : Int} (h : 0 ≤ a * b) (hb : 0 < b) : 0 ≤ a := by
  rcases Int.lt_or_le a 0 with h1 | h1
  · have := Int.mul_pos (show 0 < -a by omega) hb
    rw [Int.neg_mul] at this
    omega
  · exact h1
theorem plane_2 (a b c : P2) : dtV a c * b.2 = dtV a b * c.2 + dtV b c * a.2 := by unfold dtV; grind
theorem plane_1 (a b c : P2) : dtV a c * b.1 = dtV a b * c.1 + dtV b c * a.1 := by unfold dtV; grind
/-- within one half of the plane directions have an order -/
theorem upp_trans {a b c : P2} (ha : uppV a) (hb : uppV b) (hc : uppV c) (h1 : 0 ≤ dtV a b) (h2 : 0 < dtV b c) : 0 < dtV a c := by
  have hp := plane_2 a b c
  unfold uppV at ha hb hc
  rcases hb with hb | ⟨hb0, hb⟩
  · have hc2 : 0 ≤ c.2 := by omega
    have m1 := Int.mul_nonneg h1 hc2
    rcases ha with ha | ⟨ha0, ha⟩
    · have m2 := Int.mul_pos h2 ha
      exact pos_of_mul (by omega) hb
    · rcases hc with hc | ⟨hc0, hc⟩
      · have := Int.mul_pos ha hc
        unfold dtV
        rw [ha0]
        omega
      · have := Int.mul_pos hb hc
        unfold dtV at h2
        rw [hc0] at h2
        omega
  · have e1 : a.2 = 0 ∧ 0 < a.1 := by
      rcases ha with ha | ha
      · have := Int.mul_pos ha hb
        unfold dtV at h1
        rw [hb0] at h1
        omega
      · exact ha
    have e2 : 0 < c.2 := by
      unfold dtV at h2
      rw [hb0] at h2
      exact pos_of_mul (b := b.1) (by rw [Int.mul_comm]; omega) hb
    have := Int.mul_pos e1.2 e2
    unfold dtV
    rw [e1.1]
    omega
theorem upp_trans' {a b c : P2} (ha : uppV a) (hb : uppV b) (hc : uppV c) (h1 : 0 < dtV a b) (h2 : 0 ≤ dtV b c) : 0 < dtV a c := by
  have hp := plane_2 a b c
  unfold uppV at ha hb hc
  rcases hb with hb | ⟨hb0, hb⟩
  · have ha2 : 0 ≤ a.2 := by omega
    have m1 := Int.mul_nonneg h2 ha2
    rcases hc with hc | ⟨hc0, hc⟩
    · have m2 := Int.mul_pos h1 hc
      exact pos_of_mul (by omega) hb
    · have := Int.mul_pos hb hc
      unfold dtV at h2
      rw [hc0] at h2
      omega
  · rcases ha with ha | ⟨ha0, ha⟩
    · have := Int.mul_pos ha hb
      unfold dtV at h1
      rw [hb0] at h1
      omega
    · unfold dtV at h1
      rw [hb0, ha0] at h1
      omega
def ngV (u : P2) : P2 := (-u.1, -u.2)
theorem dt_ng (u v : P2) : dtV (ngV u) (ngV v) = dtV u v := by unfold dtV ngV; grind
theorem dt_ngl (u v : P2) : dtV (ngV u) v = -dtV u v := by unfold dtV ngV; grind
theorem dt_ngr (u v : P2) : dtV u (ngV v) = -dtV u v := by unfold dtV ngV; grind
theorem upp_ng {u : P2} (h : lowV u) : uppV (ngV u) := by unfold lowV at h; unfold uppV ngV; dsimp only; omega
theorem low_trans {a b c : P2} (ha : lowV a) (hb : lowV b) (hc : lowV c) (h1 : 0 ≤ dtV a b) (h2 : 0 < dtV b c) : 0 < dtV a c := by
  have := upp_trans (upp_ng ha) (upp_ng hb) (upp_ng hc) (by rw [dt_ng]; exact h1) (by rw [dt_ng]; exact h2)
  rwa [dt_ng] at this
/-- the order in which directions are met -/
def ahdV (a b : P2) : Prop := (uppV a ∧ lowV b) ∨ (uppV a ∧ uppV b ∧ 0 < dtV a b) ∨ (lowV a ∧ lowV b ∧ 0 < dtV a b)
theorem upp_low {a : P2} (h : uppV a) (k : lowV a) : False := by unfold uppV at h; unfold lowV at k; omega
theorem ahd_trans {a b c : P2} (h : ahdV a b) (k : ahdV b c) : ahdV a c := by
  rcases h with ⟨h1, h2⟩ | ⟨h1, h2, h3⟩ | ⟨h1, h2, h3⟩
  · rcases k with ⟨k1, k2⟩ | ⟨k1, k2, k3⟩ | ⟨k1, k2, k3⟩
    · exact (upp_low k1 h2).elim
    · exact (upp_low k1 h2).elim
    · exact .inl ⟨h1, k2⟩
  · rcases k with ⟨k1, k2⟩ | ⟨k1, k2, k3⟩ | ⟨k1, k2, k3⟩
    · exact .inl ⟨h1, k2⟩
    · exact .inr (.inl ⟨h1, k2, upp_trans h1 h2 k2 (by omega) k3⟩)
    · exact (upp_low h2 k1).elim
  · rcases k with ⟨k1, k2⟩ | ⟨k1, k2, k3⟩ | ⟨k1, k2, k3⟩
    · exact (upp_low k1 h2).elim
    · exact (upp_low k1 h2).elim
    · exact .inr (.inr ⟨h1, k2, low_trans h1 h2 k2 (by omega) k3⟩)
/-- what is half a turn behind stays behind -/
theorem tri_a {a x y : P2} (h1 : ahdV a x) (h2 : ahdV x y) (h : dtV a x ≤ 0) : dtV a y < 0 := by
  rcases h1 with ⟨a1, x1⟩ | ⟨a1, x1, hp⟩ | ⟨a1, x1, hp⟩
  · rcases h2 with ⟨x2, y1⟩ | ⟨x2, y1, hq⟩ | ⟨x2, y1, hq⟩
    · exact (upp_low x2 x1).elim
    · exact (upp_low x2 x1).elim
    · have := upp_trans a1 (upp_ng x1) (upp_ng y1) (by rw [dt_ngr]; omega) (by rw [dt_ng]; exact hq)
      rw [dt_ngr] at this
      omega
  · omega
  · omega
theorem tri_b {a x y : P2} (h1 : ahdV a x) (h2 : ahdV y a) (h : dtV a x ≤ 0) : dtV a y < 0 := by
  have hf := dt_flip a y
  rcases h1 with ⟨a1, x1⟩ | ⟨a1, x1, hp⟩ | ⟨a1, x1, hp⟩
  · rcases h2 with ⟨y1, a2⟩ | ⟨y1, a2, hq⟩ | ⟨y1, a2, hq⟩
    · exact (upp_low a1 a2).elim
    · omega
    · omega
  · omega
  · omega
theorem tri_c {a x y : P2} (h1 : ahdV x y) (h2 : ahdV y a) (h : dtV a x ≤ 0) : dtV a y < 0 := by
  have hf := dt_flip a y
  rcases h2 with ⟨y1, a2⟩ | ⟨y1, a2, hq⟩ | ⟨y1, a2, hq⟩
  · rcases h1 with ⟨x1, y2⟩ | ⟨x1, y2, hp⟩ | ⟨x1, y2, hp⟩
    · exact (upp_low y1 y2).elim
    · have := upp_trans (upp_ng a2) x1 y1 (by rw [dt_ngl]; omega) hp
      rw [dt_ngl] at this
      omega
    · exact (upp_low y1 y2).elim
  · omega
  · omega
/-- directions that go round once -/
structure RoundV (n : Nat) (u : Nat → P2) : Prop where
  per : ∀ i, u (i + n) = u i
  turn : ∀ i, 0 < dtV (u i) (u (i + 1))
  once : ∃ b, b < n ∧ ∀ i, i < n → i ≠ b → ¬ ahdV (u (i + 1)) (u i)
theorem nz_of_dt {a b : P2} (h : 0 < dtV a b) : (uppV a ∨ lowV a) ∧ (uppV b ∨ lowV b) := by
  obtain ⟨x, y⟩ := a
  obtain ⟨z, t⟩ := b
  unfold dtV at h
  unfold uppV lowV
  dsimp only at *
  constructor
  · by_cases hx : x = 0
    · by_cases hy : y = 0
      · subst hx hy; omega
      · omega
    · omega
  · by_cases hx : z = 0
    · by_cases hy : t = 0
      · subst hx hy; omega
      · omega
    · omega
theorem ahd_of {a b : P2} (h : 0 < dtV a b) (k : ¬ ahdV b a) : ahdV a b := by
  obtain ⟨h1, h2⟩ := nz_of_dt h
  rcases h1 with h1 | h1 <;> rcases h2 with h2 | h2
  · exact .inr (.inl ⟨h1, h2, h⟩)
  · exact .inl ⟨h1, h2⟩
  · exact (k (.inl ⟨h2, h1⟩)).elim
  · exact .inr (.inr ⟨h1, h2, h⟩)
theorem RoundV.mod {n : Nat} {u : Nat → P2} (h : RoundV n u) (i : Nat) : u (i % n) = u i := by
  have : ∀ k i, u (i + n * k) = u i := by
    intro k
    induction k with
    | zero => intro i; rfl
    | succ k ih => intro i; rw [Nat.mul_succ, ← Nat.add_assoc, h.per, ih]
  have e := this (i / n) (i % n)
  rw [Nat.mod_add_div] at e
  exact e.symm
theorem RoundV.mod1 {n : Nat} {u : Nat → P2} (h : RoundV n u) (i : Nat) : u (i % n + 1) = u (i + 1) := by
  rw [← h.mod (i % n + 1), ← h.mod (i + 1), Nat.add_mod, Nat.mod_mod, ← Nat.add_mod]
/-- from behind the one back on they are in order -/
theorem RoundV.order {n : Nat} {u : Nat → P2} (h : RoundV n u) : ∃ b, b < n ∧ ∀ t t', t < t' → t' < n → ahdV (u (b + 1 + t)) (u (b + 1 + t')) := by
  obtain ⟨b, hb, hq⟩ := h.once
  refine ⟨b, hb, ?_⟩
  have step : ∀ t, t + 1 < n → ahdV (u (b + 1 + t)) (u (b + 1 + (t + 1))) := by
    intro t ht
    refine ahd_of (h.turn _) (fun hk => ?_)
    have hm : (b + 1 + t) % n ≠ b := by
      intro e
      by_cases hl : b + 1 + t < n
      · rw [Nat.mod_eq_of_lt hl] at e; omega
      · rw [Nat.mod_eq_sub_mod (by omega), Nat.mod_eq_of_lt (by omega)] at e; omega
    refine hq _ (Nat.mod_lt _ (by omega)) hm ?_
    rw [h.mod1, h.mod]
    exact hk
  intro t t' htt
  induction t' with
  | zero => omega
  | succ t' ih =>
    intro ht
    by_cases e : t = t'
    · subst e; exact step t ht
    · exact ahd_trans (ih (by omega) (by omega)) (step t' ht)
theorem RoundV.neg {n : Nat} {u : Nat → P2} (h : RoundV n u) {j t t' : Nat} (h0 : 0 < t) (h1 : t < t') (h2 : t' < n) (hd : dtV (u j) (u (j + t)) ≤ 0) : dtV (u j) (u (j + t')) < 0 := by
  obtain ⟨b, hb, ho⟩ := h.order
  obtain ⟨a, ha, hj⟩ : ∃ a, a < n ∧ (b + 1 + a) % n = j % n := by
    refine ⟨(j % n + n - (b + 1)) % n, Nat.mod_lt _ (by omega), ?_⟩
    have hjn := Nat.mod_lt j (show 0 < n by omega)
    by_cases hl : b + 1 ≤ j % n
    · rw [show j % n + n - (b + 1) = (j % n - (b + 1)) + n by omega, Nat.add_mod_right, Nat.mod_eq_of_lt (show j % n - (b + 1) < n by omega)]
      rw [show b + 1 + (j % n - (b + 1)) = j % n by omega, Nat.mod_mod]
    · rw [Nat.mod_eq_of_lt (show j % n + n - (b + 1) < n by omega)]
      rw [show b + 1 + (j % n + n - (b + 1)) = j % n + n by omega, Nat.add_mod_right, Nat.mod_mod]
  have hu : ∀ s, u (j + s) = u (b + 1 + a + s) := by
    intro s
    rw [← h.mod (j + s), ← h.mod (b + 1 + a + s), Nat.add_mod, ← hj, ← Nat.add_mod]
  have hu0 : u j = u (b + 1 + a) := hu 0
  have hlow : ∀ s, n ≤ a + s → u (j + s) = u (b + 1 + (a + s - n)) := by
    intro s hs
    rw [hu, ← h.per (b + 1 + (a + s - n))]
    congr 1
    omega
  have hup : ∀ s, u (j + s) = u (b + 1 + (a + s)) := by intro s; rw [hu]; congr 1; omega
  by_cases w1 : a + t < n
  · by_cases w2 : a + t' < n
    · rw [hu0, hup] at hd ⊢
      exact tri_a (ho a (a + t) (by omega) w1) (ho (a + t) (a + t') (by omega) w2) hd
    · rw [hlow t' (by omega), hu0]
      rw [hu0, hup] at hd
      exact tri_b (ho a (a + t) (by omega) w1) (ho (a + t' - n) a (by omega) ha) hd
  · rw [hlow t' (by omega), hu0]
    rw [hlow t (by omega), hu0] at hd
    exact tri_c (ho (a + t - n) (a + t' - n) (by omega) (by omega)) (ho (a + t' - n) a (by omega) ha) hd

/-! polygons -/
/-- corners that go round once and always turn -/
structure ConvP (n : Nat) (p : Nat → P2) : Prop where
  three : 3 ≤ n
  per : ∀ i, p (i + n) = p i
  round : RoundV n (fun i => subV (p (i + 1)) (p i))
def farZ (p : Nat → P2) (i t : Nat) : Int := dtV (subV (p (i + 1)) (p i)) (subV (p (i + t)) (p i))
theorem far_step (p : Nat → P2) (i t : Nat) : farZ p i (t + 1) = farZ p i t + dtV (subV (p (i + 1)) (p i)) (subV (p (i + t + 1)) (p (i + t))) := by
  unfold farZ dtV subV
  rw [Nat.add_assoc]
  dsimp only
  grind
/-- each corner but both of an edge is on its inner side -/
theorem ConvP.inner {n : Nat} {p : Nat → P2} (h : ConvP n p) (i : Nat) : ∀ t, 2 ≤ t → t < n → 0 < farZ p i t := by
  have hn : farZ p i n = 0 := by
    unfold farZ
    rw [h.per]
    unfold dtV subV
    simp
  have f1 : farZ p i 1 = 0 := by unfold farZ; exact dt_self _
  intro t
  induction t with
  | zero => omega
  | succ t ih =>
    intro h2 hlt
    by_cases h1 : t = 1
    · subst h1
      rw [far_step, f1]
      have := h.round.turn i
      omega
    · have hf := ih (by omega) (by omega)
      rcases Int.lt_or_le (dtV (subV (p (i + 1)) (p i)) (subV (p (i + t + 1)) (p (i + t)))) 0 with hg | hg
      · have hneg : ∀ s, t < s → s < n → dtV (subV (p (i + 1)) (p i)) (subV (p (i + s + 1)) (p (i + s))) < 0 := fun s a b => h.round.neg (j := i) (t := t) (t' := s) (by omega) a b (by show dtV _ _ ≤ 0; omega)
        have hdown : ∀ s, t + 1 ≤ s → s ≤ n → farZ p i s ≤ farZ p i (t + 1) ∧ (t + 1 < s → farZ p i s < farZ p i (t + 1)) := by
          intro s
          induction s with
          | zero => omega
          | succ s ihs =>
            intro a b
            by_cases e : t + 1 = s + 1
            · rw [e]; exact ⟨Int.le_refl _, by omega⟩
            · have := ihs (by omega) (by omega)
              have k := hneg s (by omega) (by omega)
              have hs := far_step p i s
              exact ⟨by omega, fun _ => by omega⟩
        have := (hdown n (by omega) (by omega)).2 (by omega)
        omega
      · have := far_step p i t
        omega
/-- a closed way that has all corners but both of an edge strictly on the inner side of it -/
structure ConvS (n : Nat) (p : Nat → P2) : Prop where
  three : 3 ≤ n
  per : ∀ i, p (i + n) = p i
  inner : ∀ i t, 2 ≤ t → t < n → 0 < farZ p i t
theorem ConvP.conv {n : Nat} {p : Nat → P2} (h : ConvP n p) : ConvS n p := ⟨h.three, h.per, h.inner⟩
theorem ConvS.turn {n : Nat} {p : Nat → P2} (h : ConvS n p) (i : Nat) : 0 < dtV (subV (p (i + 1)) (p i)) (subV (p (i + 1 + 1)) (p (i + 1))) := by
  have h3 := h.three
  have := h.inner i 2 (by omega) (by omega)
  rw [far_step] at this
  have f1 : farZ p i 1 = 0 := by unfold farZ; exact dt_self _
  omega
theorem ConvS.mod {n : Nat} {p : Nat → P2} (h : ConvS n p) (i : Nat) : p (i % n) = p i := by
  have : ∀ k i, p (i + n * k) = p i := by
    intro k
    induction k with
    | zero => intro i; rfl
    | succ k ih => intro i; rw [Nat.mul_succ, ← Nat.add_assoc, h.per, ih]
  have e := this (i / n) (i % n)
  rw [Nat.mod_add_div] at e
  exact e.symm
/-- .. said of two indexes -/
theorem ConvS.side {n : Nat} {p : Nat → P2} (h : ConvS n p) {i j : Nat} (hi : i < n) (hj : j < n) (h1 : j ≠ i) (h2 : j ≠ (i + 1) % n) : 0 < dtV (subV (p (i + 1)) (p i)) (subV (p j) (p i)) := by
  have h3 := h.three
  by_cases hl : i < j
  · have := h.inner i (j - i) (by
      rcases Nat.lt_or_ge (i + 1) n with a | a
      · rw [Nat.mod_eq_of_lt a] at h2; omega
      · omega) (by omega)
    unfold farZ at this
    rwa [show i + (j - i) = j by omega] at this
  · have := h.inner i (j + n - i) (by
      rcases Nat.lt_or_ge (i + 1) n with a | a
      · omega
      · rw [show i + 1 = n by omega, Nat.mod_self] at h2; omega) (by omega)
    unfold farZ at this
    rwa [show i + (j + n - i) = j + n by omega, h.per] at this
theorem ConvS.side_le {n : Nat} {p : Nat → P2} (h : ConvS n p) (i j : Nat) : 0 ≤ dtV (subV (p (i + 1)) (p i)) (subV (p j) (p i)) := by
  have h3 := h.three
  have hi := Nat.mod_lt i (show 0 < n by omega)
  have hj := Nat.mod_lt j (show 0 < n by omega)
  have e1 : p (i % n + 1) = p (i + 1) := by rw [← h.mod (i % n + 1), ← h.mod (i + 1), Nat.add_mod, Nat.mod_mod, ← Nat.add_mod]
  rw [← h.mod j, ← h.mod i, ← e1]
  generalize i % n = i at *
  generalize j % n = j at *
  by_cases h1 : j = i
  · subst h1; unfold dtV subV; simp
  · by_cases h2 : j = (i + 1) % n
    · subst h2; rw [h.mod, dt_self]; exact Int.le_refl _
    · exact Int.le_of_lt (h.side hi hj h1 h2)
theorem ConvS.ne {n : Nat} {p : Nat → P2} (h : ConvS n p) {i j : Nat} (hi : i < n) (hj : j < n) (hne : i ≠ j) : p i ≠ p j := by
  intro e
  by_cases h2 : j = (i + 1) % n
  · have := h.turn i
    have e2 : p (i + 1) = p j := by rw [h2, h.mod]
    rw [e2, ← e] at this
    unfold dtV subV at this
    simp at this
  · have := h.side hi hj (fun x => hne x.symm) h2
    rw [e] at this
    unfold dtV subV at this
    simp at this
/-! halves of hulls -/
theorem lex_trans {a b c : P2} (ha : lexV a) (hb : lexV b) (hc : lexV c) (h1 : 0 ≤ dtV a b) (h2 : 0 < dtV b c) : 0 < dtV a c := by
  have hp := plane_1 a b c
  unfold lexV at ha hb hc
  rcases hb with hb | ⟨hb0, hb⟩
  · have ha1 : 0 < a.1 := by
      rcases ha with ha | ⟨ha0, ha⟩
      · exact ha
      · have := Int.mul_pos ha hb
        unfold dtV at h1
        rw [ha0] at h1
        omega
    have m1 := Int.mul_nonneg h1 (show 0 ≤ c.1 by omega)
    have m2 := Int.mul_pos h2 ha1
    exact pos_of_mul (by omega) hb
  · have := Int.mul_nonneg (show 0 ≤ b.2 by omega) (show 0 ≤ c.1 by omega)
    unfold dtV at h2
    rw [hb0] at h2
    omega
theorem lex_trans_le {a b c : P2} (ha : lexV a) (hb : lexV b) (hc : lexV c) (h1 : 0 ≤ dtV a b) (h2 : 0 ≤ dtV b c) : 0 ≤ dtV a c := by
  have hp := plane_1 a b c
  unfold lexV at ha hb hc
  rcases hb with hb | ⟨hb0, hb⟩
  · have m1 := Int.mul_nonneg h1 (show 0 ≤ c.1 by omega)
    have m2 := Int.mul_nonneg h2 (show 0 ≤ a.1 by omega)
    exact nonneg_of_mul (by omega) hb
  · have c0 : c.1 = 0 := by
      rcases hc with hc | hc
      · have := Int.mul_pos hb hc
        unfold dtV at h2
        rw [hb0] at h2
        omega
      · exact hc.1
    have := Int.mul_nonneg (show 0 ≤ a.1 by omega) (show 0 ≤ c.2 by omega)
    unfold dtV
    rw [c0]
    omega
theorem lex_add {a b c : P2} (h1 : lexV (subV b a)) (h2 : lexV (subV c b)) : lexV (subV c a) := by
  unfold lexV subV at *
  dsimp only at *
  omega
theorem lex_asym {a b : P2} (h1 : lexV (subV b a)) (h2 : lexV (subV a b)) : False := by
  unfold lexV subV at *
  dsimp only at *
  omega
theorem lex_or (a b : P2) : a = b ∨ lexV (subV b a) ∨ lexV (subV a b) := by
  obtain ⟨x, y⟩ := a
  obtain ⟨z, t⟩ := b
  unfold lexV subV
  simp only [Prod.mk.injEq]
  omega
/-- a point is taken, ahead of which the way no longer bends -/
def pushH : List P2 → P2 → List P2
  | b :: a :: st, c => if 0 < dtV (subV b a) (subV c b) then c :: b :: a :: st else pushH (a :: st) c
  | [a], c => [c, a]
  | [], c => [c]
def halfH (l : List P2) : List P2 := l.foldl pushH []
/-- a half that is made: ascending, bending, with all points on one side -/
def Stk (D : P2 → Prop) : List P2 → Prop
  | [] => False
  | [a] => D a ∧ ∀ p, D p → a = p ∨ lexV (subV p a)
  | b :: a :: st => D b ∧ lexV (subV b a) ∧ (∀ p, D p → 0 ≤ dtV (subV b a) (subV p a)) ∧ (∀ o, st.head? = some o → 0 < dtV (subV a o) (subV b a)) ∧ Stk D (a :: st)
theorem Stk.head {D : P2 → Prop} : ∀ {st : List P2} {b : P2}, Stk D (b :: st) → D b
  | [], _, h => h.1
  | _ :: _, _, h => h.1
theorem Stk.mem {D : P2 → Prop} : ∀ {st : List P2}, Stk D st → ∀ p ∈ st, D p
  | [], _, p, hp => by cases hp
  | [a], h, p, hp => by
    obtain rfl := List.mem_singleton.1 hp
    exact h.1
  | b :: a :: st, h, p, hp => by
    rcases List.mem_cons.1 hp with rfl | hp
    · exact h.1
    · exact Stk.mem h.2.2.2.2 p hp
def andP (D : P2 → Prop) (c p : P2) : Prop := D p ∨ p = c
theorem Stk.ext {D : P2 → Prop} {c : P2} : ∀ {st : List P2} {b a : P2}, Stk D (b :: a :: st) → 0 < dtV (subV b a) (subV c b) → lexV (subV c b) → Stk (andP D c) (b :: a :: st)
  | [], b, a, h, hc, hl => by
    obtain ⟨h1, h2, h3, _, h5, h6⟩ := h
    refine ⟨.inl h1, h2, ?_, (by intro o ho; cases ho), .inl h5, ?_⟩
    · rintro p (hp | rfl)
      · exact h3 p hp
      · unfold dtV subV at hc ⊢; dsimp only at *; grind
    · rintro p (hp | rfl)
      · exact h6 p hp
      · exact .inr (lex_add h2 hl)
  | o :: st, b, a, h, hc, hl => by
    obtain ⟨h1, h2, h3, h4, h5⟩ := h
    have h4o := h4 o rfl
    have h5' : lexV (subV a o) := h5.2.1
    have hd := lex_trans h5' h2 hl (Int.le_of_lt h4o) hc
    refine ⟨.inl h1, h2, ?_, h4, Stk.ext h5 ?_ (lex_add h2 hl)⟩
    · rintro p (hp | rfl)
      · exact h3 p hp
      · unfold dtV subV at hc ⊢; dsimp only at *; grind
    · unfold dtV subV at hd h4o ⊢; dsimp only at *; grind
theorem Stk.push {D : P2 → Prop} {c : P2} : ∀ {st : List P2} {b : P2}, Stk D (b :: st) → lexV (subV c b) → (∀ p, D p → b = p ∨ lexV (subV p b) → 0 ≤ dtV (subV c b) (subV p b)) → Stk (andP D c) (pushH (b :: st) c)
  | [], b, h, hl, hs => by
    show Stk _ [c, b]
    refine ⟨.inr rfl, hl, ?_, (by intro o ho; cases ho), .inl h.1, ?_⟩
    · rintro p (hp | rfl)
      · exact hs p hp (h.2 p hp)
      · rw [dt_self]; exact Int.le_refl _
    · rintro p (hp | rfl)
      · exact h.2 p hp
      · exact .inr hl
  | a :: st, b, h, hl, hs => by
    unfold pushH
    obtain ⟨h1, h2, h3, h4, h5⟩ := h
    by_cases hc : 0 < dtV (subV b a) (subV c b)
    · rw [if_pos hc]
      refine ⟨.inr rfl, hl, ?_, (by intro o ho; cases ho; exact hc), Stk.ext ⟨h1, h2, h3, h4, h5⟩ hc hl⟩
      rintro p (hp | rfl)
      · rcases lex_or b p with e | e | e
        · exact hs p hp (.inl e)
        · exact hs p hp (.inr e)
        · have h3p := h3 p hp
          have hw : 0 ≤ dtV (subV b p) (subV b a) := by unfold dtV subV at h3p ⊢; dsimp only at *; grind
          have := lex_trans e h2 hl hw hc
          unfold dtV subV at this ⊢; dsimp only at *; grind
      · rw [dt_self]; exact Int.le_refl _
    · rw [if_neg hc]
      refine Stk.push h5 (lex_add h2 hl) ?_
      rintro p hp (rfl | e)
      · unfold dtV subV; simp
      · have hw : 0 ≤ dtV (subV c a) (subV b a) := by unfold dtV subV at hc ⊢; dsimp only at *; grind
        exact lex_trans_le (lex_add h2 hl) h2 e hw (h3 p hp)
theorem Stk.same {D E : P2 → Prop} (h : ∀ p, D p ↔ E p) {st : List P2} (k : Stk D st) : Stk E st := by
  have : D = E := funext fun p => propext (h p)
  rwa [← this]
theorem push_head (st : List P2) (c : P2) : ∃ r, pushH st c = c :: r := by
  induction st with
  | nil => exact ⟨_, rfl⟩
  | cons b st ih =>
    cases st with
    | nil => exact ⟨_, rfl⟩
    | cons a st =>
      unfold pushH
      split
      · exact ⟨_, rfl⟩
      · exact ih
theorem snoc_ind {α : Type} {P : List α → Prop} (h0 : P []) (h1 : ∀ m c, P m → P (m ++ [c])) (l : List α) : P l := by
  have : ∀ r : List α, P r.reverse := by
    intro r
    induction r with
    | nil => exact h0
    | cons a r ih => rw [List.reverse_cons]; exact h1 _ _ ih
  have e := this l.reverse
  rwa [List.reverse_reverse] at e
def Asc (l : List P2) : Prop := l.Pairwise fun a b => lexV (subV b a)
/-- what a half of ascending points is -/
theorem half_stk {l : List P2} (h : Asc l) (h0 : l ≠ []) : Stk (· ∈ l) (halfH l) ∧ (halfH l).head? = l.getLast? := by
  have key : ∀ (m : List P2), ∀ (a : P2), Asc (a :: m) → Stk (· ∈ a :: m) (halfH (a :: m)) ∧ (halfH (a :: m)).head? = (a :: m).getLast? := by
    intro m
    refine snoc_ind (P := fun m => ∀ (a : P2), Asc (a :: m) → Stk (· ∈ a :: m) (halfH (a :: m)) ∧ (halfH (a :: m)).head? = (a :: m).getLast?) ?_ ?_ m
    · intro a _
      refine ⟨⟨by simp, fun p hp => ?_⟩, rfl⟩
      simp at hp
      exact .inl hp.symm
    · intro m c ih a ha
      have ha' : Asc ((a :: m) ++ [c]) := ha
      unfold Asc at ha'
      rw [List.pairwise_append] at ha'
      obtain ⟨h1, _, h3⟩ := ha'
      obtain ⟨s1, s2⟩ := ih a h1
      have e : halfH (a :: (m ++ [c])) = pushH (halfH (a :: m)) c := by
        unfold halfH
        rw [← List.cons_append, List.foldl_append]
        rfl
      rw [e]
      generalize halfH (a :: m) = st at s1 s2
      cases st with
      | nil => exact s1.elim
      | cons b st =>
        have hb : (a :: m).getLast? = some b := s2.symm
        have hbm : b ∈ a :: m := List.mem_of_getLast? hb
        refine ⟨?_, ?_⟩
        · refine Stk.same (D := andP (· ∈ a :: m) c) (fun p => ?_) (Stk.push s1 (h3 b hbm c (by simp)) ?_)
          · unfold andP
            simp only [List.mem_cons, List.mem_append, List.mem_nil_iff, or_false]
            constructor
            · rintro ((h | h) | h)
              · exact .inl h
              · exact .inr (.inl h)
              · exact .inr (.inr h)
            · rintro (h | h | h)
              · exact .inl (.inl h)
              · exact .inl (.inr h)
              · exact .inr h
          · rintro p hp (rfl | e)
            · unfold dtV subV; simp
            · exfalso
              obtain ⟨ys, hy⟩ := List.getLast?_eq_some_iff.1 hb
              rw [hy] at hp h1
              rw [List.pairwise_append] at h1
              rcases List.mem_append.1 hp with hp | hp
              · exact lex_asym e (h1.2.2 p hp b (by simp))
              · obtain rfl := List.mem_singleton.1 hp
                unfold lexV subV at e
                simp at e
        · obtain ⟨r, hr⟩ := push_head (b :: st) c
          rw [hr]
          exact (List.getLast?_concat (l := a :: m)).symm
  cases l with
  | nil => exact (h0 rfl).elim
  | cons a m => exact key m a h
/-- the lower half of a polygon's corners -/
theorem half_conv {n : Nat} {p : Nat → P2} (h : ConvS n p) {D : P2 → Prop} (hD : ∀ q, D q ↔ ∃ j, j < n ∧ q = p j) (hmin : ∀ q, D q → p 0 = q ∨ lexV (subV q (p 0))) :
    ∀ (st : List P2) (k : Nat), k < n → Stk D st → st.head? = some (p k) → st = ((List.range (k + 1)).map p).reverse := by
  have h3 := h.three
  intro st
  induction st with
  | nil => intro k _ _ hh; cases hh
  | cons b st ih =>
    intro k hk hs hh
    obtain rfl : b = p k := by simpa using hh
    cases st with
    | nil =>
      have h0 : k = 0 := by
        by_cases e : k = 0
        · exact e
        · exfalso
          rcases hs.2 (p 0) ((hD _).2 ⟨0, by omega, rfl⟩) with e1 | e1
          · exact h.ne hk (by omega) e e1
          · rcases hmin (p k) ((hD _).2 ⟨k, hk, rfl⟩) with e2 | e2
            · exact h.ne hk (by omega) e e2.symm
            · exact lex_asym e1 e2
      subst h0
      rfl
    | cons a st =>
      obtain ⟨_, h2, h3s, _, h5⟩ := hs
      obtain ⟨j, hj, rfl⟩ := (hD a).1 h5.head
      have hk0 : k ≠ 0 := by
        rintro rfl
        rcases hmin (p j) ((hD _).2 ⟨j, hj, rfl⟩) with e2 | e2
        · rw [← e2] at h2
          unfold lexV subV at h2
          simp at h2
        · exact lex_asym h2 e2
      obtain ⟨k, rfl⟩ : ∃ q, k = q + 1 := ⟨k - 1, by omega⟩
      have hjk : j = k := by
        by_cases e : j = k
        · exact e
        · exfalso
          by_cases e2 : j = (k + 1) % n
          · rw [Nat.mod_eq_of_lt hk] at e2
            subst e2
            unfold lexV subV at h2
            simp at h2
          · have hi := h.side (by omega) hj e e2
            have hq := h3s (p k) ((hD _).2 ⟨k, by omega, rfl⟩)
            have : dtV (subV (p (k + 1)) (p j)) (subV (p k) (p j)) = -dtV (subV (p (k + 1)) (p k)) (subV (p j) (p k)) := by unfold dtV subV; dsimp only; grind
            omega
      subst hjk
      rw [ih j (by omega) h5 rfl]
      simp [List.range_succ]

def hullZ (S : List P2) : List P2 := (halfH S).tail.reverse ++ (halfH S.reverse).tail.reverse
theorem push_ng (st : List P2) (c : P2) : pushH (st.map ngV) (ngV c) = (pushH st c).map ngV := by
  induction st with
  | nil => rfl
  | cons b st ih =>
    cases st with
    | nil => rfl
    | cons a st =>
      have e : dtV (subV (ngV b) (ngV a)) (subV (ngV c) (ngV b)) = dtV (subV b a) (subV c b) := by unfold dtV subV ngV; dsimp only; grind
      simp only [List.map_cons] at ih ⊢
      unfold pushH
      rw [e]
      split
      · rfl
      · exact ih
theorem half_ng (l : List P2) : halfH (l.map ngV) = (halfH l).map ngV := by
  have key : ∀ st : List P2, (l.map ngV).foldl pushH (st.map ngV) = (l.foldl pushH st).map ngV := by
    induction l with
    | nil => intro st; rfl
    | cons a l ih =>
      intro st
      simp only [List.map_cons, List.foldl_cons]
      rw [push_ng, ih]
  exact key []
theorem ng_ng (u : P2) : ngV (ngV u) = u := by unfold ngV; simp
theorem ConvS.neg {n : Nat} {p : Nat → P2} (h : ConvS n p) (m : Nat) : ConvS n (fun i => ngV (p (m + i))) where
  three := h.three
  per := fun i => by
    show ngV (p (m + (i + n))) = _
    rw [← Nat.add_assoc, h.per]
  inner := fun i t h2 hn => by
    have := h.inner (m + i) t h2 hn
    unfold farZ at this ⊢
    dsimp only
    rw [← Nat.add_assoc, ← Nat.add_assoc]
    unfold dtV subV ngV at *
    dsimp only at *
    grind
theorem asc_back {l : List P2} (h : Asc l) : Asc (l.reverse.map ngV) := by
  unfold Asc at h ⊢
  rw [List.pairwise_map, List.pairwise_reverse]
  refine h.imp (fun {a b} hab => ?_)
  unfold lexV subV ngV at *
  dsimp only at *
  omega
theorem ConvS.shift {n : Nat} {p : Nat → P2} (h : ConvS n p) (i j : Nat) (e : i % n = j % n) : p i = p j := by
  rw [← h.mod i, e, h.mod]
/-- the hull of a polygon's corners is the polygon, from the least corner on -/
theorem hull_conv {n : Nat} {p : Nat → P2} (h : ConvS n p) {S : List P2} (hS : Asc S) (hD : ∀ q, q ∈ S ↔ ∃ j, j < n ∧ q = p j) (hmin : ∀ q, q ∈ S → p 0 = q ∨ lexV (subV q (p 0))) :
    hullZ S = (List.range n).map p := by
  have h3 := h.three
  have h0 : p 0 ∈ S := (hD _).2 ⟨0, by omega, rfl⟩
  have hne : S ≠ [] := by intro e; rw [e] at h0; cases h0
  obtain ⟨s1, t1⟩ := half_stk hS hne
  obtain ⟨m, hm, hmax⟩ : ∃ m, m < n ∧ S.getLast? = some (p m) := by
    cases hl : S.getLast? with
    | none => rw [List.getLast?_eq_none_iff] at hl; exact (hne hl).elim
    | some q =>
      obtain ⟨j, hj, rfl⟩ := (hD q).1 (List.mem_of_getLast? hl)
      exact ⟨j, hj, rfl⟩
  have hle : ∀ q, q ∈ S → p m = q ∨ lexV (subV (p m) q) := by
    intro q hq
    obtain ⟨ys, hy⟩ := List.getLast?_eq_some_iff.1 hmax
    unfold Asc at hS
    rw [hy] at hq hS
    rw [List.pairwise_append] at hS
    rcases List.mem_append.1 hq with hq | hq
    · exact .inr (hS.2.2 q hq _ (by simp))
    · exact .inl (List.mem_singleton.1 hq).symm
  have hm0 : 0 < m := by
    rcases Nat.eq_zero_or_pos m with e | e
    · exfalso
      subst e
      have h1 : p 1 ∈ S := (hD _).2 ⟨1, by omega, rfl⟩
      rcases hmin _ h1 with a | a
      · exact h.ne (show 0 < n by omega) (show 1 < n by omega) (by omega) a
      · rcases hle _ h1 with b | b
        · exact h.ne (show 0 < n by omega) (show 1 < n by omega) (by omega) b
        · exact lex_asym a b
    · exact e
  have e1 := half_conv h hD hmin _ m hm s1 (by rw [t1, hmax])
  have hN := h.neg m
  have hS2 := asc_back hS
  have hne2 : S.reverse.map ngV ≠ [] := by simpa using hne
  obtain ⟨s2, t2⟩ := half_stk hS2 hne2
  have hD2 : ∀ q, q ∈ S.reverse.map ngV ↔ ∃ j, j < n ∧ q = ngV (p (m + j)) := by
    intro q
    simp only [List.mem_map, List.mem_reverse]
    constructor
    · rintro ⟨a, ha, rfl⟩
      obtain ⟨j, hj, rfl⟩ := (hD a).1 ha
      refine ⟨(j + n - m) % n, Nat.mod_lt _ (by omega), ?_⟩
      congr 1
      refine (h.shift _ _ ?_).symm
      rw [Nat.add_mod, Nat.mod_mod, ← Nat.add_mod, show m + (j + n - m) = j + n by omega, Nat.add_mod_right]
    · rintro ⟨j, hj, rfl⟩
      exact ⟨_, (hD _).2 ⟨(m + j) % n, Nat.mod_lt _ (by omega), (h.mod _).symm⟩, rfl⟩
  have hmin2 : ∀ q, q ∈ S.reverse.map ngV → ngV (p (m + 0)) = q ∨ lexV (subV q (ngV (p (m + 0)))) := by
    intro q hq
    simp only [List.mem_map, List.mem_reverse] at hq
    obtain ⟨a, ha, rfl⟩ := hq
    rw [Nat.add_zero]
    rcases hle a ha with e | e
    · rw [e]; exact .inl rfl
    · refine .inr ?_
      unfold lexV subV ngV at *
      dsimp only at *
      omega
  have hlast : (S.reverse.map ngV).getLast? = some (ngV (p (m + (n - m)))) := by
    have hh : S.head? = some (p 0) := by
      cases S with
      | nil => cases h0
      | cons a S =>
        rcases List.mem_cons.1 h0 with e | e
        · rw [e]; rfl
        · exfalso
          unfold Asc at hS
          rw [List.pairwise_cons] at hS
          have := hS.1 _ e
          rcases hmin a (by simp) with b | b
          · rw [b] at this
            unfold lexV subV at this
            simp at this
          · exact lex_asym this b
    rw [List.getLast?_map, List.getLast?_reverse, hh, show m + (n - m) = 0 + n by omega, h.per]
    rfl
  have e2 := half_conv hN hD2 hmin2 _ (n - m) (by omega) s2 (by rw [t2, hlast])
  have e3 : halfH S.reverse = (halfH (S.reverse.map ngV)).map ngV := by
    rw [half_ng, List.map_map, show (ngV ∘ ngV) = id from funext ng_ng, List.map_id]
  unfold hullZ
  rw [e3, e2, e1]
  have key : ∀ (f : Nat → P2) (k : Nat), (((List.range (k + 1)).map f).reverse).tail.reverse = (List.range k).map f := by
    intro f k
    simp [List.range_succ]
  rw [key, ← List.map_reverse, List.map_map]
  have e4 : (ngV ∘ fun i => ngV (p (m + i))) = fun i => p (m + i) := funext fun i => ng_ng _
  rw [e4, List.map_reverse, key]
  obtain ⟨k, rfl⟩ : ∃ k, n = m + k := ⟨n - m, by omega⟩
  rw [Nat.add_sub_cancel_left, List.range_add, List.map_append, List.map_map]
  rfl
/-! points in order, each once -/
def lessB (a b : P2) : Bool := decide (a.1 < b.1) || (decide (a.1 = b.1) && decide (a.2 < b.2))
theorem less_lex {a b : P2} : lessB a b = true ↔ lexV (subV b a) := by
  unfold lessB lexV subV
  simp only [Bool.or_eq_true, Bool.and_eq_true, decide_eq_true_eq]
  omega
theorem less_not {a b : P2} (h : lessB a b = false) : a = b ∨ lexV (subV a b) := by
  rcases lex_or a b with e | e | e
  · exact .inl e
  · rw [less_lex.2 e] at h; cases h
  · exact .inr e
def insD (v : P2) : List P2 → List P2
  | [] => [v]
  | a :: l => if lessB v a then v :: a :: l else if a = v then a :: l else a :: insD v l
def sortD (l : List P2) : List P2 := l.foldl (fun s v => insD v s) []
theorem ins_mem (v : P2) (l : List P2) (q : P2) : q ∈ insD v l ↔ q = v ∨ q ∈ l := by
  induction l with
  | nil => simp [insD]
  | cons a l ih =>
    unfold insD
    split
    · simp
    · split
      · next h => subst h; simp
      · simp only [List.mem_cons, ih]
        constructor
        · rintro (h | h | h)
          · exact .inr (.inl h)
          · exact .inl h
          · exact .inr (.inr h)
        · rintro (h | h | h)
          · exact .inr (.inl h)
          · exact .inl h
          · exact .inr (.inr h)
theorem ins_asc (v : P2) {l : List P2} (h : Asc l) : Asc (insD v l) := by
  induction l with
  | nil => exact List.pairwise_singleton _ _
  | cons a l ih =>
    unfold Asc at h ⊢
    have h' := List.pairwise_cons.1 h
    unfold insD
    split
    · next hv =>
      rw [less_lex] at hv
      refine List.pairwise_cons.2 ⟨fun x hx => ?_, h⟩
      rcases List.mem_cons.1 hx with rfl | hx
      · exact hv
      · exact lex_add hv (h'.1 x hx)
    · next hv =>
      split
      · exact h
      · next hne =>
        refine List.pairwise_cons.2 ⟨fun x hx => ?_, ih h'.2⟩
        rcases (ins_mem v l x).1 hx with rfl | hx
        · rcases less_not (by simpa using hv) with e | e
          · exact (hne e.symm).elim
          · exact e
        · exact h'.1 x hx
theorem sortD_snoc (l : List P2) (v : P2) : sortD (l ++ [v]) = insD v (sortD l) := by
  unfold sortD
  rw [List.foldl_append]
  rfl
theorem sortD_asc (l : List P2) : Asc (sortD l) := by
  refine snoc_ind (P := fun l => Asc (sortD l)) ?_ ?_ l
  · exact List.Pairwise.nil
  · intro m c h
    rw [sortD_snoc]
    exact ins_asc c h
theorem sortD_mem (l : List P2) (q : P2) : q ∈ sortD l ↔ q ∈ l := by
  refine snoc_ind (P := fun l => q ∈ sortD l ↔ q ∈ l) ?_ ?_ l
  · simp [sortD]
  · intro m c h
    rw [sortD_snoc, ins_mem, h]
    simp only [List.mem_append, List.mem_singleton]
    exact Or.comm
theorem asc_ext : ∀ {l m : List P2}, Asc l → Asc m → (∀ q, q ∈ l ↔ q ∈ m) → l = m
  | [], [], _, _, _ => rfl
  | [], b :: m, _, _, h => by have := (h b).2 (by simp); cases this
  | a :: l, [], _, _, h => by have := (h a).1 (by simp); cases this
  | a :: l, b :: m, hl, hm, h => by
    have hl' := List.pairwise_cons.1 hl
    have hm' := List.pairwise_cons.1 hm
    have e : a = b := by
      rcases List.mem_cons.1 ((h a).1 (by simp)) with e | e
      · exact e
      · rcases List.mem_cons.1 ((h b).2 (by simp)) with k | k
        · exact k.symm
        · exact (lex_asym (hm'.1 a e) (hl'.1 b k)).elim
    subst e
    have irr : ∀ q : P2, ¬ lexV (subV q q) := fun q => by unfold lexV subV; omega
    rw [asc_ext hl'.2 hm'.2 (fun q => ?_)]
    have hq := h q
    simp only [List.mem_cons] at hq
    constructor
    · intro k
      rcases hq.1 (.inr k) with rfl | e
      · exact (irr _ (hl'.1 _ k)).elim
      · exact e
    · intro k
      rcases hq.2 (.inr k) with rfl | e
      · exact (irr _ (hm'.1 _ k)).elim
      · exact e
/-- in order, some perhaps more than once -/
def Wk (l : List P2) : Prop := l.Pairwise fun a b => a = b ∨ lexV (subV b a)
/-- those that stand more than once make no difference to a half, but where there is none but them -/
theorem half_wk {l : List P2} (h : Wk l) : halfH l = halfH (sortD l) ∨ ∃ c, sortD l = [c] ∧ halfH l = [c, c] := by
  refine (snoc_ind (P := fun l => Wk l → (l.getLast? = (sortD l).getLast?) ∧ (halfH l = halfH (sortD l) ∨ ∃ c, sortD l = [c] ∧ halfH l = [c, c])) ?_ ?_ l h).2
  · intro _; exact ⟨rfl, .inl rfl⟩
  · intro m c ih hw
    unfold Wk at hw
    rw [List.pairwise_append] at hw
    obtain ⟨h1, _, h3⟩ := hw
    obtain ⟨hl, hh⟩ := ih h1
    have hA := sortD_asc m
    have e : halfH (m ++ [c]) = pushH (halfH m) c := by unfold halfH; rw [List.foldl_append]; rfl
    rw [e]
    rcases List.eq_nil_or_concat m with rfl | ⟨r, d, rfl⟩
    · refine ⟨rfl, .inl rfl⟩
    · rw [List.concat_eq_append] at *
      have hd : (sortD (r ++ [d])).getLast? = some d := by rw [← hl]; simp
      have hne : sortD (r ++ [d]) ≠ [] := by intro k; rw [k] at hd; cases hd
      obtain ⟨s1, s2⟩ := half_stk hA hne
      rw [hd] at s2
      rcases h3 d (by simp) c (by simp) with rfl | hlt
      · have e2 : sortD (r ++ [d] ++ [d]) = sortD (r ++ [d]) := by
          refine asc_ext (sortD_asc _) hA (fun q => ?_)
          rw [sortD_mem, sortD_mem]
          simp
        rw [e2]
        refine ⟨by rw [hd]; simp, ?_⟩
        rcases hh with hh | ⟨z, hz, hh⟩
        · rw [hh]
          generalize hst : halfH (sortD (r ++ [d])) = st at s1 s2
          match st, s1, s2 with
          | [], s1, _ => exact s1.elim
          | [a], s1, s2 =>
            obtain rfl : a = d := by simpa using s2
            refine .inr ⟨a, ?_, rfl⟩
            refine asc_ext hA (List.pairwise_singleton _ _) (fun q => ?_)
            rw [List.mem_singleton]
            constructor
            · intro hq
              rcases s1.2 q hq with k | k
              · exact k.symm
              · exfalso
                obtain ⟨ys, hy⟩ := List.getLast?_eq_some_iff.1 hd
                unfold Asc at hA
                rw [hy] at hA hq
                rw [List.pairwise_append] at hA
                rcases List.mem_append.1 hq with hq | hq
                · exact lex_asym k (hA.2.2 q hq a (by simp))
                · obtain rfl := List.mem_singleton.1 hq
                  unfold lexV subV at k
                  omega
            · rintro rfl; exact s1.1
          | [b, a], s1, s2 =>
            obtain rfl : b = d := by simpa using s2
            left
            have : ¬ 0 < dtV (subV b a) (subV b b) := by unfold dtV subV; simp
            unfold pushH
            rw [if_neg this]
            rfl
          | b :: a :: o :: st, s1, s2 =>
            obtain rfl : b = d := by simpa using s2
            left
            have : ¬ 0 < dtV (subV b a) (subV b b) := by unfold dtV subV; simp
            unfold pushH
            rw [if_neg this]
            unfold pushH
            rw [if_pos (s1.2.2.2.1 o rfl)]
        · obtain rfl : z = d := by rw [hz] at hd; simpa using hd
          refine .inr ⟨z, hz, ?_⟩
          rw [hh]
          have : ¬ 0 < dtV (subV z z) (subV z z) := by unfold dtV subV; simp
          unfold pushH
          rw [if_neg this]
          rfl
      · have e2 : sortD (r ++ [d] ++ [c]) = sortD (r ++ [d]) ++ [c] := by
          refine asc_ext (sortD_asc _) ?_ (fun q => ?_)
          · unfold Asc
            rw [List.pairwise_append]
            refine ⟨hA, List.pairwise_singleton _ _, fun a ha b hb => ?_⟩
            obtain rfl := List.mem_singleton.1 hb
            rw [sortD_mem] at ha
            rcases List.mem_append.1 ha with ha | ha
            · rcases h3 a (by simp [ha]) b (by simp) with k | k
              · rw [List.pairwise_append] at h1
                rcases h1.2.2 a ha d (by simp) with k2 | k2
                · rw [k2]; exact hlt
                · rw [k] at k2
                  exact (lex_asym k2 hlt).elim
              · exact k
            · obtain rfl := List.mem_singleton.1 ha
              exact hlt
          · rw [sortD_mem]; simp only [List.mem_append, sortD_mem]
        rw [e2]
        refine ⟨by simp, .inl ?_⟩
        have e3 : halfH (sortD (r ++ [d]) ++ [c]) = pushH (halfH (sortD (r ++ [d]))) c := by unfold halfH; rw [List.foldl_append]; rfl
        rw [e3]
        rcases hh with hh | ⟨z, hz, hh⟩
        · rw [hh]
        · rw [hh, hz]
          have : ¬ 0 < dtV (subV z z) (subV c z) := by unfold dtV subV; simp
          show pushH [z, z] c = pushH [z] c
          unfold pushH
          rw [if_neg this]
          rfl
theorem wk_back {l : List P2} (h : Wk l) : Wk (l.reverse.map ngV) := by
  unfold Wk at h ⊢
  rw [List.pairwise_map, List.pairwise_reverse]
  refine h.imp (fun {a b} hab => ?_)
  rcases hab with rfl | hab
  · exact .inl rfl
  · refine .inr ?_
    unfold lexV subV ngV at *
    dsimp only at *
    omega
theorem half_ng' (l : List P2) : halfH l = (halfH (l.map ngV)).map ngV := by
  rw [half_ng, List.map_map, show (ngV ∘ ngV) = id from funext ng_ng, List.map_id]
/-- .. nor to the hull -/
theorem hull_wk {l : List P2} (h : Wk l) : hullZ l = hullZ (sortD l) ∨ (∃ c, sortD l = [c]) ∧ (hullZ l).length ≤ 2 := by
  have h1 := half_wk h
  have h2 := half_wk (wk_back h)
  have e : sortD (l.reverse.map ngV) = (sortD l).reverse.map ngV := by
    refine asc_ext (sortD_asc _) (asc_back (sortD_asc l)) (fun q => ?_)
    rw [sortD_mem]
    simp only [List.mem_map, List.mem_reverse, sortD_mem]
  rw [e] at h2
  have h3 : halfH l.reverse = halfH (sortD l).reverse ∨ ∃ c, sortD l = [c] ∧ halfH l.reverse = [c, c] := by
    rcases h2 with k | ⟨c, k1, k2⟩
    · left
      rw [half_ng' l.reverse, half_ng' (sortD l).reverse, k]
    · right
      refine ⟨ngV c, ?_, ?_⟩
      · have : ((sortD l).reverse.map ngV).map ngV = [ngV c] := by rw [k1]; rfl
        rw [List.map_map, show (ngV ∘ ngV) = id from funext ng_ng, List.map_id] at this
        have := congrArg List.reverse this
        rwa [List.reverse_reverse] at this
      · rw [half_ng' l.reverse, k2]
        rfl
  rcases h1 with a | ⟨c, a1, a2⟩
  · rcases h3 with b | ⟨d, b1, b2⟩
    · left
      unfold hullZ
      rw [a, b]
    · right
      refine ⟨⟨d, b1⟩, ?_⟩
      unfold hullZ
      rw [a, b1, b2]
      simp [halfH, pushH]
  · right
    refine ⟨⟨c, a1⟩, ?_⟩
    rcases h3 with b | ⟨d, b1, b2⟩
    · unfold hullZ
      rw [a2, b, a1]
      simp [halfH, pushH]
    · unfold hullZ
      rw [a2, b2]
      simp
/-! numbers of a hull -/
theorem low_bound {D : P2 → Prop} {B : Int} : ∀ {st : List P2} {b : P2}, Stk D (b :: st) → (∀ q ∈ b :: st, -B ≤ q.2) → ∀ p, D p → (p = b ∨ lexV (subV b p)) → -B ≤ p.2
  | [], b, h, hB, p, hp, hl => by
    rcases hl with rfl | hl
    · exact hB _ (by simp)
    · rcases h.2 p hp with rfl | k
      · exact hB _ (by simp)
      · exact (lex_asym hl k).elim
  | a :: st, b, h, hB, p, hp, hl => by
    rcases hl with rfl | hl
    · exact hB _ (by simp)
    · obtain ⟨_, h2, h3, _, h5⟩ := h
      rcases lex_or a p with e | e | e
      · exact low_bound h5 (fun q hq => hB q (List.mem_cons_of_mem _ hq)) p hp (.inl e.symm)
      · have ha := hB a (by simp)
        have hb := hB b (by simp)
        have hd := h3 p hp
        unfold dtV subV at hd
        unfold lexV subV at hl e h2
        dsimp only at hd hl e h2
        by_cases hx : b.1 - a.1 = 0
        · omega
        · have hx0 : 0 < b.1 - a.1 := by omega
          have m1 := Int.mul_nonneg (show 0 ≤ a.2 + B by omega) (show 0 ≤ b.1 - p.1 by omega)
          have m2 := Int.mul_nonneg (show 0 ≤ b.2 + B by omega) (show 0 ≤ p.1 - a.1 by omega)
          have e3 : (p.2 + B) * (b.1 - a.1) = ((b.1 - a.1) * (p.2 - a.2) - (b.2 - a.2) * (p.1 - a.1)) + (a.2 + B) * (b.1 - p.1) + (b.2 + B) * (p.1 - a.1) := by grind
          have := nonneg_of_mul (a := p.2 + B) (by rw [e3]; omega) hx0
          omega
      · exact low_bound h5 (fun q hq => hB q (List.mem_cons_of_mem _ hq)) p hp (.inr e)
theorem asc_last {S : List P2} {z : P2} (hS : Asc S) (hz : S.getLast? = some z) : ∀ q ∈ S, q = z ∨ lexV (subV z q) := by
  intro q hq
  obtain ⟨ys, hy⟩ := List.getLast?_eq_some_iff.1 hz
  unfold Asc at hS
  rw [hy] at hq hS
  rw [List.pairwise_append] at hS
  rcases List.mem_append.1 hq with hq | hq
  · exact .inr (hS.2.2 q hq _ (by simp))
  · exact .inl (List.mem_singleton.1 hq)
theorem stk_last {D : P2 → Prop} : ∀ {st : List P2} {b : P2}, Stk D (b :: st) → ∃ a, (b :: st).getLast? = some a ∧ D a ∧ ∀ p, D p → a = p ∨ lexV (subV p a)
  | [], b, h => ⟨b, rfl, h.1, h.2⟩
  | a :: st, b, h => by
    obtain ⟨z, h1, h2, h3⟩ := stk_last h.2.2.2.2
    exact ⟨z, by rw [← h1]; exact List.getLast?_cons_cons, h2, h3⟩
/-- both halves are parts of the hull -/
theorem hull_halves {S : List P2} (hS : Asc S) (h3 : 2 ≤ S.length) : (∀ q ∈ halfH S, q ∈ hullZ S) ∧ ∀ q ∈ halfH S.reverse, q ∈ hullZ S := by
  have main : ∀ T : List P2, Asc T → 2 ≤ T.length → ∃ b st a, halfH T = b :: st ∧ T.getLast? = some b ∧ (b :: st).getLast? = some a ∧ T.head? = some a ∧ a ≠ b := by
    intro T hT hl
    have hne : T ≠ [] := by rintro rfl; simp at hl
    obtain ⟨s1, s2⟩ := half_stk hT hne
    match hst : halfH T, s1, s2 with
    | [], s1, _ => exact s1.elim
    | b :: st, s1, s2 =>
      obtain ⟨a, ha, hDa, hmin⟩ := stk_last s1
      refine ⟨b, st, a, rfl, by rw [← s2]; rfl, ha, ?_, ?_⟩
      · cases T with
        | nil => exact (hne rfl).elim
        | cons t T =>
          rcases List.mem_cons.1 hDa with e | e
          · rw [e]; rfl
          · have k1 := (List.pairwise_cons.1 hT).1 a e
            rcases hmin t (by simp) with k2 | k2
            · rw [k2] at k1; unfold lexV subV at k1; omega
            · exact (lex_asym k1 k2).elim
      · rintro rfl
        match T, hT, hl with
        | x :: y :: T, hT, _ =>
          have kx := asc_last hT (by rw [← s2]; rfl)
          have k1 := (List.pairwise_cons.1 hT).1 y (by simp)
          have mx : ∀ q ∈ x :: y :: T, q = a := by
            intro q hq
            rcases kx q hq with e | e
            · exact e
            · rcases hmin q hq with e2 | e2
              · exact e2.symm
              · exact (lex_asym e e2).elim
          rw [mx x (by simp), mx y (by simp)] at k1
          unfold lexV subV at k1
          omega
  obtain ⟨b, st, a, e1, e2, e3, e4, hab⟩ := main S hS h3
  obtain ⟨b', st', a', f1, f2, f3, f4, hab'⟩ := main (S.reverse.map ngV) (asc_back hS) (by simpa using h3)
  have g1 : halfH S.reverse = (b' :: st').map ngV := by rw [half_ng', f1]
  have hb' : ngV b' = a := by
    rw [List.getLast?_map, List.getLast?_reverse, e4] at f2
    have : ngV a = b' := by simpa using f2
    rw [← this, ng_ng]
  have ha' : ngV a' = b := by
    rw [List.head?_map, List.head?_reverse, e2] at f4
    have : ngV b = a' := by simpa using f4
    rw [← this, ng_ng]
  have t1 : ∀ q, q ∈ b :: st → q ≠ b → q ∈ hullZ S := by
    intro q hq hne
    unfold hullZ
    rw [e1]
    refine List.mem_append_left _ ?_
    rw [List.mem_reverse, List.tail_cons]
    rcases List.mem_cons.1 hq with k | k
    · exact (hne k).elim
    · exact k
  have t2 : ∀ q, q ∈ (b' :: st').map ngV → q ≠ a → q ∈ hullZ S := by
    intro q hq hne
    unfold hullZ
    rw [g1]
    refine List.mem_append_right _ ?_
    rw [List.mem_reverse, List.map_cons, List.tail_cons]
    rw [List.map_cons] at hq
    rcases List.mem_cons.1 hq with k | k
    · rw [hb'] at k; exact (hne k).elim
    · exact k
  have hbm : b ∈ hullZ S := t2 b (by rw [← ha']; exact List.mem_map_of_mem (List.mem_of_getLast? f3)) (fun e => hab e.symm)
  have ham : a ∈ hullZ S := t1 a (List.mem_of_getLast? e3) hab
  constructor
  · intro q hq
    rw [e1] at hq
    by_cases k : q = b
    · rw [k]; exact hbm
    · exact t1 q hq k
  · intro q hq
    rw [g1] at hq
    by_cases k : q = a
    · rw [k]; exact ham
    · exact t2 q hq k
/-- the numbers of a hull are the greatest -/
theorem hull_bound {S : List P2} {B : Int} (hS : Asc S) (h2 : 2 ≤ S.length) (hB : ∀ q ∈ hullZ S, (-B ≤ q.1 ∧ q.1 ≤ B) ∧ -B ≤ q.2 ∧ q.2 ≤ B) : ∀ q ∈ S, (-B ≤ q.1 ∧ q.1 ≤ B) ∧ -B ≤ q.2 ∧ q.2 ≤ B := by
  obtain ⟨m1, m2⟩ := hull_halves hS h2
  have half : ∀ T : List P2, Asc T → 2 ≤ T.length → (∀ q ∈ halfH T, (-B ≤ q.1 ∧ q.1 ≤ B) ∧ -B ≤ q.2 ∧ q.2 ≤ B) → ∀ q ∈ T, -B ≤ q.2 ∧ q.1 ≤ B := by
    intro T hT hl hq q hqT
    have hne : T ≠ [] := by rintro rfl; simp at hl
    obtain ⟨s1, s2⟩ := half_stk hT hne
    match hst : halfH T, s1, s2 with
    | [], s1, _ => exact s1.elim
    | b :: st, s1, s2 =>
      rw [hst] at hq
      have hk := asc_last hT (by rw [← s2]; rfl) q hqT
      refine ⟨low_bound s1 (fun x hx => (hq x hx).2.1) q hqT hk, ?_⟩
      have := (hq b (by simp)).1.2
      rcases hk with rfl | hk
      · exact this
      · unfold lexV subV at hk
        dsimp only at hk
        omega
  intro q hq
  have a1 := half S hS h2 (fun x hx => hB x (m1 x hx)) q hq
  have a2 := half (S.reverse.map ngV) (asc_back hS) (by simpa using h2) (fun x hx => by
    rw [half_ng] at hx
    obtain ⟨y, hy, rfl⟩ := List.mem_map.1 hx
    have := hB y (m2 y hy)
    unfold ngV
    dsimp only
    omega) (ngV q) (List.mem_map_of_mem (by simpa using hq))
  unfold ngV at a2
  dsimp only at a2
  omega
/-- a hull begins with the least point; it has none but those of which it is made -/
theorem hull_mem {S : List P2} (hS : Asc S) (q : P2) (hq : q ∈ hullZ S) : q ∈ S := by
  have h0 : S ≠ [] := by rintro rfl; cases hq
  unfold hullZ at hq
  rcases List.mem_append.1 hq with hq | hq
  · rw [List.mem_reverse] at hq
    exact Stk.mem (half_stk hS h0).1 q (List.mem_of_mem_tail hq)
  · rw [List.mem_reverse] at hq
    have := List.mem_of_mem_tail hq
    rw [half_ng'] at this
    obtain ⟨y, hy, rfl⟩ := List.mem_map.1 this
    have h1 : S.reverse.map ngV ≠ [] := by simpa using h0
    have hm := Stk.mem (half_stk (asc_back hS) h1).1 y hy
    obtain ⟨z, hz, rfl⟩ := List.mem_map.1 hm
    rw [ng_ng]
    simpa using hz
theorem hull_head {S : List P2} {a : P2} (hS : Asc S) (h2 : 2 ≤ S.length) (ha : S.head? = some a) : ∃ r, hullZ S = a :: r := by
  have h0 : S ≠ [] := by rintro rfl; simp at h2
  obtain ⟨s1, s2⟩ := half_stk hS h0
  match hst : halfH S, s1, s2 with
  | [], s1, _ => exact s1.elim
  | [b], s1, s2 =>
    exfalso
    match S, hS, h2 with
    | x :: y :: T, hS, _ =>
      have kx := asc_last hS (by rw [← s2]; rfl)
      have k1 := (List.pairwise_cons.1 hS).1 y (by simp)
      have mx : ∀ q ∈ x :: y :: T, q = b := by
        intro q hq
        rcases kx q hq with e | e
        · exact e
        · rcases s1.2 q hq with e2 | e2
          · exact e2.symm
          · exact (lex_asym e e2).elim
      rw [mx x (by simp), mx y (by simp)] at k1
      unfold lexV subV at k1
      omega
  | b :: c :: st, s1, s2 =>
    obtain ⟨z, hz, hDz, hmin⟩ := stk_last s1.2.2.2.2
    have hza : z = a := by
      cases S with
      | nil => exact (h0 rfl).elim
      | cons t T =>
        obtain rfl : t = a := by simpa using ha
        rcases List.mem_cons.1 hDz with e | e
        · exact e
        · have k1 := (List.pairwise_cons.1 hS).1 z e
          rcases hmin t (by simp) with k2 | k2
          · exact k2
          · exact (lex_asym k1 k2).elim
    subst hza
    obtain ⟨ys, hy⟩ := List.getLast?_eq_some_iff.1 hz
    unfold hullZ
    rw [hst, List.tail_cons, hy, List.reverse_append]
    exact ⟨_, rfl⟩
end Go.Proofs.YthkcopmodfmoeaaDoor
