/- Lists of directions that go round once, polygons, hulls: plain mathematics. -/
namespace Go.Proofs.YtcieihbknfeddaaDoor

/-- the plane -/
abbrev P2 := Int × Int
def dtV (u v : P2) : Int := u.1 * v.2 - u.2 * v.1
def subV (u v : P2) : P2 := (u.1 - v.1, u.2 - v.2)
def uppV (u : P2) : Prop := 0 < u.2 ∨ (u.2 = 0 ∧ 0 < u.1)
def lowV (u : P2) : Prop := u.2 < 0 ∨ (u.2 = 0 ∧ u.1 < 0)
def lexV (u : P2) : Prop := 0 < u.1 ∨ (u.1 = 0 ∧ 0 < u.2)
theorem dt_flip (u v : P2) : dtV v u = -dtV u v := by unfold dtV; grind
theorem dt_self (u : P2) : dtV u u = 0 := by unfold dtV; grind
theorem pos_of_mul {a b : Int} (h : 0 < a * b) (hb : 0 < b) : 0 < a := by
  rcases Int.lt_or_le 0 a with h1 | h1
  · exact h1
  · have := Int.mul_nonneg (show 0 ≤ -a by omega) (show 0 ≤ b by omega)
    rw [Int.neg_mul] at this
    omega
theorem nonneg_of_mul {a b : Int} (h : 0 ≤ a * b) (hb : 0 < b) : 0 ≤ a := by
  rcases Int.lt_or_le a 0 with h1 | h1
  · have := Int.mul_pos (show 0 < -a by omega) hb
    rw [Int.neg_mul] at this
    omega
  · exact h1
theorem plane_2 (a b c : P2) : dtV a c * b.2 = dtV a b * c.2 + dtV b c * a.2 := by unfold dtV; grind
theorem plane_1 (a b c : P2) : dtV a c * b.1 = dtV a b * c.1 + dtV b c * a.1 := by unfold dtV; grind
/-- within one half of the plane directions have an order -/
theorem upp_trans {a b c : P2} (ha : uppV a) (hb : uppV b) (hc : uppV c) (h1 : 0 ≤ dtV a b) (h2 : 0 < dtV b c) : 0 < dtV a c := by
  have hp := plane_2 a b c
  unfold uppV at ha hb hc
  rcases hb with hb | ⟨hb0, hb⟩
  · have hc2 : 0 ≤ c.2 := by omega
    have m1 := Int.mul_nonneg h1 hc2
    rcases ha with ha | ⟨ha0, ha⟩
    · have m2 := Int.mul_pos h2 ha
      exact pos_of_mul (by omega) hb
    · rcases hc with hc | ⟨hc0, hc⟩
      · have := Int.mul_pos ha hc
        unfold dtV
        rw [ha0]
        omega
      · have := Int.mul_pos hb hc
        unfold dtV at h2
        rw [hc0] at h2
        omega
  · have e1 : a.2 = 0 ∧ 0 < a.1 := by
      rcases ha with ha | ha
      · have := Int.mul_pos ha hb
        unfold dtV at h1
        rw [hb0] at h1
        omega
      · exact ha
    have e2 : 0 < c.2 := by
      unfold dtV at h2
      rw [hb0] at h2
      exact pos_of_mul (b := b.1) (by rw [Int.mul_comm]; omega) hb
    have := Int.mul_pos e1.2 e2
    unfold dtV
    rw [e1.1]
    omega
theorem upp_trans' {a b c : P2} (ha : uppV a) (hb : uppV b) (hc : uppV c) (h1 : 0 < dtV a b) (h2 : 0 ≤ dtV b c) : 0 < dtV a c := by
  have hp := plane_2 a b c
  unfold uppV at ha hb hc
  rcases hb with hb | ⟨hb0, hb⟩
  · have ha2 : 0 ≤ a.2 := by omega
    have m1 := Int.mul_nonneg h2 ha2
    rcases hc with hc | ⟨hc0, hc⟩
    · have m2 := Int.mul_pos h1 hc
      exact pos_of_mul (by omega) hb
    · have := Int.mul_pos hb hc
      unfold dtV at h2
      rw [hc0] at h2
      omega
  · rcases ha with ha | ⟨ha0, ha⟩
    · have := Int.mul_pos ha hb
      unfold dtV at h1
      rw [hb0] at h1
      omega
    · unfold dtV at h1
      rw [hb0, ha0] at h1
      omega
def ngV (u : P2) : P2 := (-u.1, -u.2)
theorem dt_ng (u v : P2) : dtV (ngV u) (ngV v) = dtV u v := by unfold dtV ngV; grind
theorem dt_ngl (u v : P2) : dtV (ngV u) v = -dtV u v := by unfold dtV ngV; grind
theorem dt_ngr (u v : P2) : dtV u (ngV v) = -dtV u v := by unfold dtV ngV; grind
theorem upp_ng {u : P2} (h : lowV u) : uppV (ngV u) := by unfold lowV at h; unfold uppV ngV; dsimp only; omega
theorem low_trans {a b c : P2} (ha : lowV a) (hb : lowV b) (hc : lowV c) (h1 : 0 ≤ dtV a b) (h2 : 0 < dtV b c) : 0 < dtV a c := by
  have := upp_trans (upp_ng ha) (upp_ng hb) (upp_ng hc) (by rw [dt_ng]; exact h1) (by rw [dt_ng]; exact h2)
  rwa [dt_ng] at this
/-- the order in which directions are met -/
def ahdV (a b : P2) : Prop := (uppV a ∧ lowV b) ∨ (uppV a ∧ uppV b ∧ 0 < dtV a b) ∨ (lowV a ∧ lowV b ∧ 0 < dtV a b)
theorem upp_low {a : P2} (h : uppV a) (k : lowV a) : False := by unfold uppV at h; unfold lowV at k; omega
theorem ahd_trans {a b c : P2} (h : ahdV a b) (k : ahdV b c) : ahdV a c := by
  rcases h with ⟨h1, h2⟩ | ⟨h1, h2, h3⟩ | ⟨h1, h2, h3⟩
  · rcases k with ⟨k1, k2⟩ | ⟨k1, k2, k3⟩ | ⟨k1, k2, k3⟩
    · exact (upp_low k1 h2).elim
    · exact (upp_low k1 h2).elim
    · exact .inl ⟨h1, k2⟩
  · rcases k with ⟨k1, k2⟩ | ⟨k1, k2, k3⟩ | ⟨k1, k2, k3⟩
    · exact .inl ⟨h1, k2⟩
    · exact .inr (.inl ⟨h1, k2, upp_trans h1 h2 k2 (by omega) k3⟩)
    · exact (upp_low h2 k1).elim
  · rcases k with ⟨k1, k2⟩ | ⟨k1, k2, k3⟩ | ⟨k1, k2, k3⟩
    · exact (upp_low k1 h2).elim
    · exact (upp_low k1 h2).elim
    · exact .inr (.inr ⟨h1, k2, low_trans h1 h2 k2 (by omega) k3⟩)
/-- what is half a turn behind stays behind -/
theorem tri_a {a x y : P2} (h1 : ahdV a x) (h2 : ahdV x y) (h : dtV a x ≤ 0) : dtV a y < 0 := by
  rcases h1 with ⟨a1, x1⟩ | ⟨a1, x1, hp⟩ | ⟨a1, x1, hp⟩
  · rcases h2 with ⟨x2, y1⟩ | ⟨x2, y1, hq⟩ | ⟨x2, y1, hq⟩
    · exact (upp_low x2 x1).elim
    · exact (upp_low x2 x1).elim
    · have := upp_trans a1 (upp_ng x1) (upp_ng y1) (by rw [dt_ngr]; omega) (by rw [dt_ng]; exact hq)
      rw [dt_ngr] at this
      omega
  · omega
  · omega
theorem tri_b {a x y : P2} (h1 : ahdV a x) (h2 : ahdV y a) (h : dtV a x ≤ 0) : dtV a y < 0 := by
  have hf := dt_flip a y
  rcases h1 with ⟨a1, x1⟩ | ⟨a1, x1, hp⟩ | ⟨a1, x1, hp⟩
  · rcases h2 with ⟨y1, a2⟩ | ⟨y1, a2, hq⟩ | ⟨y1, a2, hq⟩
    · exact (upp_low a1 a2).elim
    · omega
    · omega
  · omega
  · omega
theorem tri_c {a x y : P2} (h1 : ahdV x y) (h2 : ahdV y a) (h : dtV a x ≤ 0) : dtV a y < 0 := by
  have hf := dt_flip a y
  rcases h2 with ⟨y1, a2⟩ | ⟨y1, a2, hq⟩ | ⟨y1, a2, hq⟩
  · rcases h1 with ⟨x1, y2⟩ | ⟨x1, y2, hp⟩ | ⟨x1, y2, hp⟩
    · exact (upp_low y1 y2).elim
    · have := upp_trans (upp_ng a2) x1 y1 (by rw [dt_ngl]; omega) hp
      rw [dt_ngl] at this
      omega
    · exact (upp_low y1 y2).elim
  · omega
  · omega
/-- directions that go round once -/
structure RoundV (n : Nat) (u : Nat → P2) : Prop where
  per : ∀ i, u (i + n) = u i
  turn : ∀ i, 0 < dtV (u i) (u (i + 1))
  once : ∃ b, b < n ∧ ∀ i, i < n → i ≠ b → ¬ ahdV (u (i + 1)) (u i)
theorem nz_of_dt {a b : P2} (h : 0 < dtV a b) : (uppV a ∨ lowV a) ∧ (uppV b ∨ lowV b) := by
  obtain ⟨x, y⟩ := a
  obtain ⟨z, t⟩ := b
  unfold dtV at h
  unfold uppV lowV
  dsimp only at *
  constructor
  · by_cases hx : x = 0
    · by_cases hy : y = 0
      · subst hx hy; omega
      · omega
    · omega
  · by_cases hx : z = 0
    · by_cases hy : t = 0
      · subst hx hy; omega
      · omega
    · omega
theorem ahd_of {a b : P2} (h : 0 < dtV a b) (k : ¬ ahdV b a) : ahdV a b := by
  obtain ⟨h1, h2⟩ := nz_of_dt h
  rcases h1 with h1 | h1 <;> rcases h2 with h2 | h2
  · exact .inr (.inl ⟨h1, h2, h⟩)
  · exact .inl ⟨h1, h2⟩
  · exact (k (.inl ⟨h2, h1⟩)).elim
  · exact .inr (.inr ⟨h1, h2, h⟩)
theorem RoundV.mod {n : Nat} {u : Nat → P2} (h : RoundV n u) (i : Nat) : u (i % n) = u i := by
  have : ∀ k i, u (i + n * k) = u i := by
    intro k
    induction k with
    | zero => intro i; rfl
    | succ k ih => intro i; rw [Nat.mul_succ, ← Nat.add_assoc, h.per, ih]
  have e := this (i / n) (i % n)
  rw [Nat.mod_add_div] at e
  exact e.symm
theorem RoundV.mod1 {n : Nat} {u : Nat → P2} (h : RoundV n u) (i : Nat) : u (i % n + 1) = u (i + 1) := by
  rw [← h.mod (i % n + 1), ← h.mod (i + 1), Nat.add_mod, Nat.mod_mod, ← Nat.add_mod]
/-- from behind the one back on they are in order -/
theorem RoundV.order {n : Nat} {u : Nat → P2} (h : RoundV n u) : ∃ b, b < n ∧ ∀ t t', t < t' → t' < n → ahdV (u (b + 1 + t)) (u (b + 1 + t')) := by
  obtain ⟨b, hb, hq⟩ := h.once
  refine ⟨b, hb, ?_⟩
  have step : ∀ t, t + 1 < n → ahdV (u (b + 1 + t)) (u (b + 1 + (t + 1))) := by
    intro t ht
    refine ahd_of (h.turn _) (fun hk => ?_)
    have hm : (b + 1 + t) % n ≠ b := by
      intro e
      by_cases hl : b + 1 + t < n
      · rw [Nat.mod_eq_of_lt hl] at e; omega
      · rw [Nat.mod_eq_sub_mod (by omega), Nat.mod_eq_of_lt (by omega)] at e; omega
    refine hq _ (Nat.mod_lt _ (by omega)) hm ?_
    rw [h.mod1, h.mod]
    exact hk
  intro t t' htt
  induction t' with
  | zero => omega
  | succ t' ih =>
    intro ht
    by_cases e : t = t'
    · subst e; exact step t ht
    · exact ahd_trans (ih (by omega) (by omega)) (step t' ht)
theorem RoundV.neg {n : Nat} {u : Nat → P2} (h : RoundV n u) {j t t' : Nat} (h0 : 0 < t) (h1 : t < t') (h2 : t' < n) (hd : dtV (u j) (u (j + t)) ≤ 0) : dtV (u j) (u (j + t')) < 0 := by
  obtain ⟨b, hb, ho⟩ := h.order
  obtain ⟨a, ha, hj⟩ : ∃ a, a < n ∧ (b + 1 + a) % n = j % n := by
    refine ⟨(j % n + n - (b + 1)) % n, Nat.mod_lt _ (by omega), ?_⟩
    have hjn := Nat.mod_lt j (show 0 < n by omega)
    by_cases hl : b + 1 ≤ j % n
    · rw [show j % n + n - (b + 1) = (j % n - (b + 1)) + n by omega, Nat.add_mod_right, Nat.mod_eq_of_lt (show j % n - (b + 1) < n by omega)]
      rw [show b + 1 + (j % n - (b + 1)) = j % n by omega, Nat.mod_mod]
    · rw [Nat.mod_eq_of_lt (show j % n + n - (b + 1) < n by omega)]
      rw [show b + 1 + (j % n + n - (b + 1)) = j % n + n by omega, Nat.add_mod_right, Nat.mod_mod]
  have hu : ∀ s, u (j + s) = u (b + 1 + a + s) := by
    intro s
    rw [← h.mod (j + s), ← h.mod (b + 1 + a + s), Nat.add_mod, ← hj, ← Nat.add_mod]
  have hu0 : u j = u (b + 1 + a) := hu 0
  have hlow : ∀ s, n ≤ a + s → u (j + s) = u (b + 1 + (a + s - n)) := by
    intro s hs
    rw [hu, ← h.per (b + 1 + (a + s - n))]
    congr 1
    omega
  have hup : ∀ s, u (j + s) = u (b + 1 + (a + s)) := by intro s; rw [hu]; congr 1; omega
  by_cases w1 : a + t < n
  · by_cases w2 : a + t' < n
    · rw [hu0, hup] at hd ⊢
      exact tri_a (ho a (a + t) (by omega) w1) (ho (a + t) (a + t') (by omega) w2) hd
    · rw [hlow t' (by omega), hu0]
      rw [hu0, hup] at hd
      exact tri_b (ho a (a + t) (by omega) w1) (ho (a + t' - n) a (by omega) ha) hd
  · rw [hlow t' (by omega), hu0]
    rw [hlow t (by omega), hu0] at hd
    exact tri_c (ho (a + t - n) (a + t' - n) (by omega) (by omega)) (ho (a + t' - n) a (by omega) ha) hd

/-! polygons -/
/-- corners that go round once and always turn -/
structure ConvP (n : Nat) (p : Nat → P2) : Prop where
  three : 3 ≤ n
  per : ∀ i, p (i + n) = p i
  round : RoundV n (fun i => subV (p (i + 1)) (p i))
def farZ (p : Nat → P2) (i t : Nat) : Int := dtV (subV (p (i + 1)) (p i)) (subV (p (i + t)) (p i))
theorem far_step (p : Nat → P2) (i t : Nat) : farZ p i (t + 1) = farZ p i t + dtV (subV (p (i + 1)) (p i)) (subV (p (i + t + 1)) (p (i + t))) := by
  unfold farZ dtV subV
  rw [Nat.add_assoc]
  dsimp only
  grind
/-- each corner but both of an edge is on its inner side -/
theorem ConvP.inner {n : Nat} {p : Nat → P2} (h : ConvP n p) (i : Nat) : ∀ t, 2 ≤ t → t < n → 0 < farZ p i t := by
  have hn : farZ p i n = 0 := by
    unfold farZ
    rw [h.per]
    unfold dtV subV
    simp
  have f1 : farZ p i 1 = 0 := by unfold farZ; exact dt_self _
  intro t
  induction t with
  | zero => omega
  | succ t ih =>
    intro h2 hlt
    by_cases h1 : t = 1
    · subst h1
      rw [far_step, f1]
      have := h.round.turn i
      omega
    · have hf := ih (by omega) (by omega)
      rcases Int.lt_or_le (dtV (subV (p (i + 1)) (p i)) (subV (p (i + t + 1)) (p (i + t)))) 0 with hg | hg
      · have hneg : ∀ s, t < s → s < n → dtV (subV (p (i + 1)) (p i)) (subV (p (i + s + 1)) (p (i + s))) < 0 := fun s a b => h.round.neg (j := i) (t := t) (t' := s) (by omega) a b (by show dtV _ _ ≤ 0; omega)
        have hdown : ∀ s, t + 1 ≤ s → s ≤ n → farZ p i s ≤ farZ p i (t + 1) ∧ (t + 1 < s → farZ p i s < farZ p i (t + 1)) := by
          intro s
          induction s with
          | zero => omega
          | succ s ihs =>
            intro a b
            by_cases e : t + 1 = s + 1
            · rw [e]; exact ⟨Int.le_refl _, by omega⟩
            · have := ihs (by omega) (by omega)
              have k := hneg s (by omega) (by omega)
              have hs := far_step p i s
              exact ⟨by omega, fun _ => by omega⟩
        have := (hdown n (by omega) (by omega)).2 (by omega)
        omega
      · have := far_step p i t
        omega
/-- a closed way that has all corners but both of an edge strictly on the inner side of it -/
structure ConvS (n : Nat) (p : Nat → P2) : Prop where
  three : 3 ≤ n
  per : ∀ i, p (i + n) = p i
  inner : ∀ i t, 2 ≤ t → t < n → 0 < farZ p i t
theorem ConvP.conv {n : Nat} {p : Nat → P2} (h : ConvP n p) : ConvS n p := ⟨h.three, h.per, h.inner⟩
theorem ConvS.turn {n : Nat} {p : Nat → P2} (h : ConvS n p) (i : Nat) : 0 < dtV (subV (p (i + 1)) (p i)) (subV (p (i + 1 + 1)) (p (i + 1))) := by
  have h3 := h.three
  have := h.inner i 2 (by omega) (by omega)
  rw [far_step] at this
  have f1 : farZ p i 1 = 0 := by unfold farZ; exact dt_self _
  omega
theorem ConvS.mod {n : Nat} {p : Nat → P2} (h : ConvS n p) (i : Nat) : p (i % n) = p i := by
  have : ∀ k i, p (i + n * k) = p i := by
    intro k
    induction k with
    | zero => intro i; rfl
    | succ k ih => intro i; rw [Nat.mul_succ, ← Nat.add_assoc, h.per, ih]
  have e := this (i / n) (i % n)
  rw [Nat.mod_add_div] at e
  exact e.symm
/-- .. said of two indexes -/
theorem ConvS.side {n : Nat} {p : Nat → P2} (h : ConvS n p) {i j : Nat} (hi : i < n) (hj : j < n) (h1 : j ≠ i) (h2 : j ≠ (i + 1) % n) : 0 < dtV (subV (p (i + 1)) (p i)) (subV (p j) (p i)) := by
  have h3 := h.three
  by_cases hl : i < j
  · have := h.inner i (j - i) (by
      rcases Nat.lt_or_ge (i + 1) n with a | a
      · rw [Nat.mod_eq_of_lt a] at h2; omega
      · omega) (by omega)
    unfold farZ at this
    rwa [show i + (j - i) = j by omega] at this
  · have := h.inner i (j + n - i) (by
      rcases Nat.lt_or_ge (i + 1) n with a | a
      · omega
      · rw [show i + 1 = n by omega, Nat.mod_self] at h2; omega) (by omega)
    unfold farZ at this
    rwa [show i + (j + n - i) = j + n by omega, h.per] at this
theorem ConvS.side_le {n : Nat} {p : Nat → P2} (h : ConvS n p) (i j : Nat) : 0 ≤ dtV (subV (p (i + 1)) (p i)) (subV (p j) (p i)) := by
  have h3 := h.three
  have hi := Nat.mod_lt i (show 0 < n by omega)
  have hj := Nat.mod_lt j (show 0 < n by omega)
  have e1 : p (i % n + 1) = p (i + 1) := by rw [← h.mod (i % n + 1), ← h.mod (i + 1), Nat.add_mod, Nat.mod_mod, ← Nat.add_mod]
  rw [← h.mod j, ← h.mod i, ← e1]
  generalize i % n = i at *
  generalize j % n = j at *
  by_cases h1 : j = i
  · subst h1; unfold dtV subV; simp
  · by_cases h2 : j = (i + 1) % n
    · subst h2; rw [h.mod, dt_self]; exact Int.le_refl _
    · exact Int.le_of_lt (h.side hi hj h1 h2)
theorem ConvS.ne {n : Nat} {p : Nat → P2} (h : ConvS n p) {i j : Nat} (hi : i < n) (hj : j < n) (hne : i ≠ j) : p i ≠ p j := by
  intro e
  by_cases h2 : j = (i + 1) % n
  · have := h.turn i
    have e2 : p (i + 1) = p j := by rw [h2, h.mod]
    rw [e2, ← e] at this
    unfold dtV subV at this
    simp at this
  · have := h.side hi hj (fun x => hne x.symm) h2
    rw [e] at this
    unfold dtV subV at this
    simp at this
/-! halves of hulls -/
theorem lex_trans {a b c : P2} (ha : lexV a) (hb : lexV b) (hc : lexV c) (h1 : 0 ≤ dtV a b) (h2 : 0 < dtV b c) : 0 < dtV a c := by
  have hp := plane_1 a b c
  unfold lexV at ha hb hc
  rcases hb with hb | ⟨hb0, hb⟩
  · have ha1 : 0 < a.1 := by
      rcases ha with ha | ⟨ha0, ha⟩
      · exact ha
      · have := Int.mul_pos ha hb
        unfold dtV at h1
        rw [ha0] at h1
        omega
    have m1 := Int.mul_nonneg h1 (show 0 ≤ c.1 by omega)
    have m2 := Int.mul_pos h2 ha1
    exact pos_of_mul (by omega) hb
  · have := Int.mul_nonneg (show 0 ≤ b.2 by omega) (show 0 ≤ c.1 by omega)
    unfold dtV at h2
    rw [hb0] at h2
    omega
theorem lex_trans_le {a b c : P2} (ha : lexV a) (hb : lexV b) (hc : lexV c) (h1 : 0 ≤ dtV a b) (h2 : 0 ≤ dtV b c) : 0 ≤ dtV a c := by
  have hp := plane_1 a b c
  unfold lexV at ha hb hc
  rcases hb with hb | ⟨hb0, hb⟩
  · have m1 := Int.mul_nonneg h1 (show 0 ≤ c.1 by omega)
    have m2 := Int.mul_nonneg h2 (show 0 ≤ a.1 by omega)
    exact nonneg_of_mul (by omega) hb
  · have c0 : c.1 = 0 := by
      rcases hc with hc | hc
      · have := Int.mul_pos hb hc
        unfold dtV at h2
        rw [hb0] at h2
        omega
      · exact hc.1
    have := Int.mul_nonneg (show 0 ≤ a.1 by omega) (show 0 ≤ c.2 by omega)
    unfold dtV
    rw [c0]
    omega
theorem lex_add {a b c : P2} (h1 : lexV (subV b a)) (h2 : lexV (subV c b)) : lexV (subV c a) := by
  unfold lexV subV at *
  dsimp only at *
  omega
theorem lex_asym {a b : P2} (h1 : lexV (subV b a)) (h2 : lexV (subV a b)) : False := by
  unfold lexV subV at *
  dsimp only at *
  omega
theorem lex_or (a b : P2) : a = b ∨ lexV (subV b a) ∨ lexV (subV a b) := by
  obtain ⟨x, y⟩ := a
  obtain ⟨z, t⟩ := b
  unfold lexV subV
  simp only [Prod.mk.injEq]
  omega
/-- a point is taken, ahead of which the way no longer bends -/
def pushH : List P2 → P2 → List P2
  | b :: a :: st, c => if 0 < dtV (subV b a) (subV c b) then c :: b :: a :: st else pushH (a :: st) c
  | [a], c => [c, a]
  | [], c => [c]
def halfH (l : List P2) : List P2 := l.foldl pushH []
/-- a half that is made: ascending, bending, with all points on one side -/
def Stk (D : P2 → Prop) : List P2 → Prop
  | [] => False
  | [a] => D a ∧ ∀ p, D p → a = p ∨ lexV (subV p a)
  | b :: a :: st => D b ∧ lexV (subV b a) ∧ (∀ p, D p → 0 ≤ dtV (subV b a) (subV p a)) ∧ (∀ o, st.head? = some o → 0 < dtV (subV a o) (subV b a)) ∧ Stk D (a :: st)
theorem Stk.head {D : P2 → Prop} : ∀ {st : List P2} {b : P2}, Stk D (b :: st) → D b
  | [], _, h => h.1
  | _ :: _, _, h => h.1
theorem Stk.mem {D : P2 → Prop} : ∀ {st : List P2}, Stk D st → ∀ p ∈ st, D p
  | [], _, p, hp => by cases hp
  | [a], h, p, hp => by
    obtain rfl := List.mem_singleton.1 hp
    exact h.1
  | b :: a :: st, h, p, hp => by
    rcases List.mem_cons.1 hp with rfl | hp
    · exact h.1
    · exact Stk.mem h.2.2.2.2 p hp
def andP (D : P2 → Prop) (c p : P2) : Prop := D p ∨ p = c
theorem Stk.ext {D : P2 → Prop} {c : P2} : ∀ {st : List P2} {b a : P2}, Stk D (b :: a :: st) → 0 < dtV (subV b a) (subV c b) → lexV (subV c b) → Stk (andP D c) (b :: a :: st)
  | [], b, a, h, hc, hl => by
    obtain ⟨h1, h2, h3, _, h5, h6⟩ := h
    refine ⟨.inl h1, h2, ?_, (by intro o ho; cases ho), .inl h5, ?_⟩
    · rintro p (hp | rfl)
      · exact h3 p hp
      · unfold dtV subV at hc ⊢; dsimp only at *; grind
    · rintro p (hp | rfl)
      · exact h6 p hp
      · exact .inr (lex_add h2 hl)
  | o :: st, b, a, h, hc, hl => by
    obtain ⟨h1, h2, h3, h4, h5⟩ := h
    have h4o := h4 o rfl
    have h5' : lexV (subV a o) := h5.2.1
    have hd := lex_trans h5' h2 hl (Int.le_of_lt h4o) hc
    refine ⟨.inl h1, h2, ?_, h4, Stk.ext h5 ?_ (lex_add h2 hl)⟩
    · rintro p (hp | rfl)
      · exact h3 p hp
      · unfold dtV subV at hc ⊢; dsimp only at *; grind
    · unfold dtV subV at hd h4o ⊢; dsimp only at *; grind
theorem Stk.push {D : P2 → Prop} {c : P2} : ∀ {st : List P2} {b : P2}, Stk D (b :: st) → lexV (subV c b) → (∀ p, D p → b = p ∨ lexV (subV p b) → 0 ≤ dtV (subV c b) (subV p b)) → Stk (andP D c) (pushH (b :: st) c)
  | [], b, h, hl, hs => by
    show Stk _ [c, b]
    refine ⟨.inr rfl, hl, ?_, (by intro o ho; cases ho), .inl h.1, ?_⟩
    · rintro p (hp | rfl)
      · exact hs p hp (h.2 p hp)
      · rw [dt_self]; exact Int.le_refl _
    · rintro p (hp | rfl)
      · exact h.2 p hp
      · exact .inr hl
  | a :: st, b, h, hl, hs => by
    unfold pushH
    obtain ⟨h1, h2, h3, h4, h5⟩ := h
    by_cases hc : 0 < dtV (subV b a) (subV c b)
    · rw [if_pos hc]
      refine ⟨.inr rfl, hl, ?_, (by intro o ho; cases ho; exact hc), Stk.ext ⟨h1, h2, h3, h4, h5⟩ hc hl⟩
      rintro p (hp | rfl)
      · rcases lex_or b p with e | e | e
        · exact hs p hp (.inl e)
        · exact hs p hp (.inr e)
        · have h3p := h3 p hp
          have hw : 0 ≤ dtV (subV b p) (subV b a) := by unfold dtV subV at h3p ⊢; dsimp only at *; grind
          have := lex_trans e h2 hl hw hc
          unfold dtV subV at this ⊢; dsimp only at *; grind
      · rw [dt_self]; exact Int.le_refl _
    · rw [if_neg hc]
      refine Stk.push h5 (lex_add h2 hl) ?_
      rintro p hp (rfl | e)
      · unfold dtV subV; simp
      · have hw : 0 ≤ dtV (subV c a) (subV b a) := by unfold dtV subV at hc ⊢; dsimp only at *; grind
        exact lex_trans_le (lex_add h2 hl) h2 e hw (h3 p hp)
theorem Stk.same {D E : P2 → Prop} (h : ∀ p, D p ↔ E p) {st : List P2} (k : Stk D st) : Stk E st := by
  have : D = E := funext fun p => propext (h p)
  rwa [← this]
theorem push_head (st : List P2) (c : P2) : ∃ r, pushH st c = c :: r := by
  induction st with
  | nil => exact ⟨_, rfl⟩
  | cons b st ih =>
    cases st with
    | nil => exact ⟨_, rfl⟩
    | cons a st =>
      unfold pushH
      split
      · exact ⟨_, rfl⟩
      · exact ih
theorem snoc_ind {α : Type} {P : List α → Prop} (h0 : P []) (h1 : ∀ m c, P m → P (m ++ [c])) (l : List α) : P l := by
  have : ∀ r : List α, P r.reverse := by
    intro r
    induction r with
    | nil => exact h0
    | cons a r ih => rw [List.reverse_cons]; exact h1 _ _ ih
  have e := this l.reverse
  rwa [List.reverse_reverse] at e
def Asc (l : List P2) : Prop := l.Pairwise fun a b => lexV (subV b a)
/-- what a half of ascending points is -/
theorem half_stk {l : List P2} (h : Asc l) (h0 : l ≠ []) : Stk (· ∈ l) (halfH l) ∧ (halfH l).head? = l.getLast? := by
  have key : ∀ (m : List P2), ∀ (a : P2), Asc (a :: m) → Stk (· ∈ a :: m) (halfH (a :: m)) ∧ (halfH (a :: m)).head? = (a :: m).getLast? := by
    intro m
    refine snoc_ind (P := fun m => ∀ (a : P2), Asc (a :: m) → Stk (· ∈ a :: m) (halfH (a :: m)) ∧ (halfH (a :: m)).head? = (a :: m).getLast?) ?_ ?_ m
    · intro a _
      refine ⟨⟨by simp, fun p hp => ?_⟩, rfl⟩
      simp at hp
      exact .inl hp.symm
    · intro m c ih a ha
      have ha' : Asc ((a :: m) ++ [c]) := ha
      unfold Asc at ha'
      rw [List.pairwise_append] at ha'
      obtain ⟨h1, _, h3⟩ := ha'
      obtain ⟨s1, s2⟩ := ih a h1
      have e : halfH (a :: (m ++ [c])) = pushH (halfH (a :: m)) c := by
        unfold halfH
        rw [← List.cons_append, List.foldl_append]
        rfl
      rw [e]
      generalize halfH (a :: m) = st at s1 s2
      cases st with
      | nil => exact s1.elim
      | cons b st =>
        have hb : (a :: m).getLast? = some b := s2.symm
        have hbm : b ∈ a :: m := List.mem_of_getLast? hb
        refine ⟨?_, ?_⟩
        · refine Stk.same (D := andP (· ∈ a :: m) c) (fun p => ?_) (Stk.push s1 (h3 b hbm c (by simp)) ?_)
          · unfold andP
            simp only [List.mem_cons, List.mem_append, List.mem_nil_iff, or_false]
            constructor
            · rintro ((h | h) | h)
              · exact .inl h
              · exact .inr (.inl h)
              · exact .inr (.inr h)
            · rintro (h | h | h)
              · exact .inl (.inl h)
              · exact .inl (.inr h)
              · exact .inr h
          · rintro p hp (rfl | e)
            · unfold dtV subV; simp
            · exfalso
              obtain ⟨ys, hy⟩ := List.getLast?_eq_some_iff.1 hb
              rw [hy] at hp h1
              rw [List.pairwise_append] at h1
              rcases List.mem_append.1 hp with hp | hp
              · exact lex_asym e (h1.2.2 p hp b (by simp))
              · obtain rfl := List.mem_singleton.1 hp
                unfold lexV subV at e
                simp at e
        · obtain ⟨r, hr⟩ := push_head (b :: st) c
          rw [hr]
          exact (List.getLast?_concat (l := a :: m)).symm
  cases l with
  | nil => exact (h0 rfl).elim
  | cons a m => exact key m a h
/-- the lower half of a polygon's corners -/
theorem half_conv {n : Nat} {p : Nat → P2} (h : ConvS n p) {D : P2 → Prop} (hD : ∀ q, D q ↔ ∃ j, j < n ∧ q = p j) (hmin : ∀ q, D q → p 0 = q ∨ lexV (subV q (p 0))) :
    ∀ (st : List P2) (k : Nat), k < n → Stk D st → st.head? = some (p k) → st = ((List.range (k + 1)).map p).reverse := by
  have h3 := h.three
  intro st
  induction st with
  | nil => intro k _ _ hh; cases hh
  | cons b st ih =>
    intro k hk hs hh
    obtain rfl : b = p k := by simpa using hh
    cases st with
    | nil =>
      have h0 : k = 0 := by
        by_cases e : k = 0
        · exact e
        · exfalso
          rcases hs.2 (p 0) ((hD _).2 ⟨0, by omega, rfl⟩) with e1 | e1
          · exact h.ne hk (by omega) e e1
          · rcases hmin (p k) ((hD _).2 ⟨k, hk, rfl⟩) with e2 | e2
            · exact h.ne hk (by omega) e e2.symm
            · exact lex_asym e1 e2
      subst h0
      rfl
    | cons a st =>
      obtain ⟨_, h2, h3s, _, h5⟩ := hs
      obtain ⟨j, hj, rfl⟩ := (hD a).1 h5.head
      have hk0 : k ≠ 0 := by
        rintro rfl
        rcases hmin (p j) ((hD _).2 ⟨j, hj, rfl⟩) with e2 | e2
        · rw [← e2] at h2
          unfold lexV subV at h2
          simp at h2
        · exact lex_asym h2 e2
      obtain ⟨k, rfl⟩ : ∃ q, k = q + 1 := ⟨k - 1, by omega⟩
      have hjk : j = k := by
        by_cases e : j = k
        · exact e
        · exfalso
          by_cases e2 : j = (k + 1) % n
          · rw [Nat.mod_eq_of_lt hk] at e2
            subst e2
            unfold lexV subV at h2
            simp at h2
          · have hi := h.side (by omega) hj e e2
            have hq := h3s (p k) ((hD _).2 ⟨k, by omega, rfl⟩)
            have : dtV (subV (p (k + 1)) (p j)) (subV (p k) (p j)) = -dtV (subV (p (k + 1)) (p k)) (subV (p j) (p k)) := by unfold dtV subV; dsimp only; grind
            omega
      subst hjk
      rw [ih j (by omega) h5 rfl]
      simp [List.range_succ]

def hullZ (S : List P2) : List P2 := (halfH S).tail.reverse ++ (halfH S.reverse).tail.reverse
theorem push_ng (st : List P2) (c : P2) : pushH (st.map ngV) (ngV c) = (pushH st c).map ngV := by
  induction st with
  | nil => rfl
  | cons b st ih =>
    cases st with
    | nil => rfl
    | cons a st =>
      have e : dtV (subV (ngV b) (ngV a)) (subV (ngV c) (ngV b)) = dtV (subV b a) (subV c b) := by unfold dtV subV ngV; dsimp only; grind
      simp only [List.map_cons] at ih ⊢
      unfold pushH
      rw [e]
      split
      · rfl
      · exact ih
theorem half_ng (l : List P2) : halfH (l.map ngV) = (halfH l).map ngV := by
  have key : ∀ st : List P2, (l.map ngV).foldl pushH (st.map ngV) = (l.foldl pushH st).map ngV := by
    induction l with
    | nil => intro st; rfl
    | cons a l ih =>
      intro st
      simp only [List.map_cons, List.foldl_cons]
      rw [push_ng, ih]
  exact key []
theorem ng_ng (u : P2) : ngV (ngV u) = u := by unfold ngV; simp
theorem ConvS.neg {n : Nat} {p : Nat → P2} (h : ConvS n p) (m : Nat) : ConvS n (fun i => ngV (p (m + i))) where
  three := h.three
  per := fun i => by
    show ngV (p (m + (i + n))) = _
    rw [← Nat.add_assoc, h.per]
  inner := fun i t h2 hn => by
    have := h.inner (m + i) t h2 hn
    unfold farZ at this ⊢
    dsimp only
    rw [← Nat.add_assoc, ← Nat.add_assoc]
    unfold dtV subV ngV at *
    dsimp only at *
    grind
theorem asc_back {l : List P2} (h : Asc l) : Asc (l.reverse.map ngV) := by
  unfold Asc at h ⊢
  rw [List.pairwise_map, List.pairwise_reverse]
  refine h.imp (fun {a b} hab => ?_)
  unfold lexV subV ngV at *
  dsimp only at *
  omega
theorem ConvS.shift {n : Nat} {p : Nat → P2} (h : ConvS n p) (i j : Nat) (e : i % n = j % n) : p i = p j := by
  rw [← h.mod i, e, h.mod]
/-- the hull of a polygon's corners is the polygon, from the least corner on -/
theorem hull_conv {n : Nat} {p : Nat → P2} (h : ConvS n p) {S : List P2} (hS : Asc S) (hD : ∀ q, q ∈ S ↔ ∃ j, j < n ∧ q = p j) (hmin : ∀ q, q ∈ S → p 0 = q ∨ lexV (subV q (p 0))) :
    hullZ S = (List.range n).map p := by
  have h3 := h.three
  have h0 : p 0 ∈ S := (hD _).2 ⟨0, by omega, rfl⟩
  have hne : S ≠ [] := by intro e; rw [e] at h0; cases h0
  obtain ⟨s1, t1⟩ := half_stk hS hne
  obtain ⟨m, hm, hmax⟩ : ∃ m, m < n ∧ S.getLast? = some (p m) := by
    cases hl : S.getLast? with
    | none => rw [List.getLast?_eq_none_iff] at hl; exact (hne hl).elim
    | some q =>
      obtain ⟨j, hj, rfl⟩ := (hD q).1 (List.mem_of_getLast? hl)
      exact ⟨j, hj, rfl⟩
  have hle : ∀ q, q ∈ S → p m = q ∨ lexV (subV (p m) q) := by
    intro q hq
    obtain ⟨ys, hy⟩ := List.getLast?_eq_some_iff.1 hmax
    unfold Asc at hS
    rw [hy] at hq hS
    rw [List.pairwise_append] at hS
    rcases List.mem_append.1 hq with hq | hq
    · exact .inr (hS.2.2 q hq _ (by simp))
    · exact .inl (List.mem_singleton.1 hq).symm
  have hm0 : 0 < m := by
    rcases Nat.eq_zero_or_pos m with e | e
    · exfalso
      subst e
      have h1 : p 1 ∈ S := (hD _).2 ⟨1, by omega, rfl⟩
      rcases hmin _ h1 with a | a
      · exact h.ne (show 0 < n by omega) (show 1 < n by omega) (by omega) a
      · rcases hle _ h1 with b | b
        · exact h.ne (show 0 < n by omega) (show 1 < n by omega) (by omega) b
        · exact lex_asym a b
    · exact e
  have e1 := half_conv h hD hmin _ m hm s1 (by rw [t1, hmax])
  have hN := h.neg m
  have hS2 := asc_back hS
  have hne2 : S.reverse.map ngV ≠ [] := by simpa using hne
  obtain ⟨s2, t2⟩ := half_stk hS2 hne2
  have hD2 : ∀ q, q ∈ S.reverse.map ngV ↔ ∃ j, j < n ∧ q = ngV (p (m + j)) := by
    intro q
    simp only [List.mem_map, List.mem_reverse]
    constructor
    · rintro ⟨a, ha, rfl⟩
      obtain ⟨j, hj, rfl⟩ := (hD a).1 ha
      refine ⟨(j + n - m) % n, Nat.mod_lt _ (by omega), ?_⟩
      congr 1
      refine (h.shift _ _ ?_).symm
      rw [Nat.add_mod, Nat.mod_mod, ← Nat.add_mod, show m + (j + n - m) = j + n by omega, Nat.add_mod_right]
    · rintro ⟨j, hj, rfl⟩
      exact ⟨_, (hD _).2 ⟨(m + j) % n, Nat.mod_lt _ (by omega), (h.mod _).symm⟩, rfl⟩
  have hmin2 : ∀ q, q ∈ S.reverse.map ngV → ngV (p (m + 0)) = q ∨ lexV (subV q (ngV (p (m + 0)))) := by
    intro q hq
    simp only [List.mem_map, List.mem_reverse] at hq
    obtain ⟨a, ha, rfl⟩ := hq
    rw [Nat.add_zero]
    rcases hle a ha with e | e
    · rw [e]; exact .inl rfl
    · refine .inr ?_
      unfold lexV subV ngV at *
      dsimp only at *
      omega
  have hlast : (S.reverse.map ngV).getLast? = some (ngV (p (m + (n - m)))) := by
    have hh : S.head? = some (p 0) := by
      cases S with
      | nil => cases h0
      | cons a S =>
        rcases List.mem_cons.1 h0 with e | e
        · rw [e]; rfl
        · exfalso
          unfold Asc at hS
          rw [List.pairwise_cons] at hS
          have := hS.1 _ e
          rcases hmin a (by simp) with b | b
          · rw [b] at this
            unfold lexV subV at this
            simp at this
          · exact lex_asym this b
    rw [List.getLast?_map, List.getLast?_reverse, hh, show m + (n - m) = 0 + n by omega, h.per]
    rfl
  have e2 := half_conv hN hD2 hmin2 _ (n - m) (by omega) s2 (by rw [t2, hlast])
  have e3 : halfH S.reverse = (halfH (S.reverse.map ngV)).map ngV := by
    rw [half_ng, List.map_map, show (ngV ∘ ngV) = id from funext ng_ng, List.map_id]
  unfold hullZ
  rw [e3, e2, e1]
  have key : ∀ (f : Nat → P2) (k : Nat), (((List.range (k + 1)).map f).reverse).tail.reverse = (List.range k).map f := by
    intro f k
    simp [List.range_succ]
  rw [key, ← List.map_reverse, List.map_map]
  have e4 : (ngV ∘ fun i => ngV (p (m + i))) = fun i => p (m + i) := funext fun i => ng_ng _
  rw [e4, List.map_reverse, key]
  obtain ⟨k, rfl⟩ : ∃ k, n = m + k := ⟨n - m, by omega⟩
  rw [Nat.add_sub_cancel_left, List.range_add, List.map_append, List.map_map]
  rfl
/-! points in order, each once -/
def lessB (a b : P2) : Bool := decide (a.1 < b.1) || (decide (a.1 = b.1) && decide (a.2 < b.2))
theorem less_lex {a b : P2} : lessB a b = true ↔ lexV (subV b a) := by
  unfold lessB lexV subV
  simp only [Bool.or_eq_true, Bool.and_eq_true, decide_eq_true_eq]
  omega
theorem less_not {a b : P2} (h : lessB a b = false) : a = b ∨ lexV (subV a b) := by
  rcases lex_or a b with e | e | e
  · exact .inl e
  · rw [less_lex.2 e] at h; cases h
  · exact .inr e
def insD (v : P2) : List P2 → List P2
  | [] => [v]
  | a :: l => if lessB v a then v :: a :: l else if a = v then a :: l else a :: insD v l
def sortD (l : List P2) : List P2 := l.foldl (fun s v => insD v s) []
theorem ins_mem (v : P2) (l : List P2) (q : P2) : q ∈ insD v l ↔ q = v ∨ q ∈ l := by
  induction l with
  | nil => simp [insD]
  | cons a l ih =>
    unfold insD
    split
    · simp
    · split
      · next h => subst h; simp
      · simp only [List.mem_cons, ih]
        constructor
        · rintro (h | h | h)
          · exact .inr (.inl h)
          · exact .inl h
          · exact .inr (.inr h)
        · rintro (h | h | h)
          · exact .inr (.inl h)
          · exact .inl h
          · exact .inr (.inr h)
theorem ins_asc (v : P2) {l : List P2} (h : Asc l) : Asc (insD v l) := by
  induction l with
  | nil => exact List.pairwise_singleton _ _
  | cons a l ih =>
    unfold Asc at h ⊢
    have h' := List.pairwise_cons.1 h
    unfold insD
    split
    · next hv =>
      rw [less_lex] at hv
      refine List.pairwise_cons.2 ⟨fun x hx => ?_, h⟩
      rcases List.mem_cons.1 hx with rfl | hx
      · exact hv
      · exact lex_add hv (h'.1 x hx)
    · next hv =>
      split
      · exact h
      · next hne =>
        refine List.pairwise_cons.2 ⟨fun x hx => ?_, ih h'.2⟩
        rcases (ins_mem v l x).1 hx with rfl | hx
        · rcases less_not (by simpa using hv) with e | e
          · exact (hne e.symm).elim
          · exact e
        · exact h'.1 x hx
theorem sortD_snoc (l : List P2) (v : P2) : sortD (l ++ [v]) = insD v (sortD l) := by
  unfold sortD
  rw [List.foldl_append]
  rfl
theorem sortD_asc (l : List P2) : Asc (sortD l) := by
  refine snoc_ind (P := fun l => Asc (sortD l)) ?_ ?_ l
  · exact List.Pairwise.nil
  · intro m c h
    rw [sortD_snoc]
    exact ins_asc c h
theorem sortD_mem (l : List P2) (q : P2) : q ∈ sortD l ↔ q ∈ l := by
  refine snoc_ind (P := fun l => q ∈ sortD l ↔ q ∈ l) ?_ ?_ l
  · simp [sortD]
  · intro m c h
    rw [sortD_snoc, ins_mem, h]
    simp only [List.mem_append, List.mem_singleton]
    exact Or.comm
theorem asc_ext : ∀ {l m : List P2}, Asc l → Asc m → (∀ q, q ∈ l ↔ q ∈ m) → l = m
  | [], [], _, _, _ => rfl
  | [], b :: m, _, _, h => by have := (h b).2 (by simp); cases this
  | a :: l, [], _, _, h => by have := (h a).1 (by simp); cases this
  | a :: l, b :: m, hl, hm, h => by
    have hl' := List.pairwise_cons.1 hl
    have hm' := List.pairwise_cons.1 hm
    have e : a = b := by
      rcases List.mem_cons.1 ((h a).1 (by simp)) with e | e
      · exact e
      · rcases List.mem_cons.1 ((h b).2 (by simp)) with k | k
        · exact k.symm
        · exact (lex_asym (hm'.1 a e) (hl'.1 b k)).elim
    subst e
    have irr : ∀ q : P2, ¬ lexV (subV q q) := fun q => by unfold lexV subV; omega
    rw [asc_ext hl'.2 hm'.2 (fun q => ?_)]
    have hq := h q
    simp only [List.mem_cons] at hq
    constructor
    · intro k
      rcases hq.1 (.inr k) with rfl | e
      · exact (irr _ (hl'.1 _ k)).elim
      · exact e
    · intro k
      rcases hq.2 (.inr k) with rfl | e
      · exact (irr _ (hm'.1 _ k)).elim
      · exact e
/-- in order, some perhaps more than once -/
def Wk (l : List P2) : Prop := l.Pairwise fun a b => a = b ∨ lexV (subV b a)
/-- those that stand more than once make no difference to a half, but where there is none but them -/
theorem half_wk {l : List P2} (h : Wk l) : halfH l = halfH (sortD l) ∨ ∃ c, sortD l = [c] ∧ halfH l = [c, c] := by
  refine (snoc_ind (P := fun l => Wk l → (l.getLast? = (sortD l).getLast?) ∧ (halfH l = halfH (sortD l) ∨ ∃ c, sortD l = [c] ∧ halfH l = [c, c])) ?_ ?_ l h).2
  · intro _; exact ⟨rfl, .inl rfl⟩
  · intro m c ih hw
    unfold Wk at hw
    rw [List.pairwise_append] at hw
    obtain ⟨h1, _, h3⟩ := hw
    obtain ⟨hl, hh⟩ := ih h1
    have hA := sortD_asc m
    have e : halfH (m ++ [c]) = pushH (halfH m) c := by unfold halfH; rw [List.foldl_append]; rfl
    rw [e]
    rcases List.eq_nil_or_concat m with rfl | ⟨r, d, rfl⟩
    · refine ⟨rfl, .inl rfl⟩
    · rw [List.concat_eq_append] at *
      have hd : (sortD (r ++ [d])).getLast? = some d := by rw [← hl]; simp
      have hne : sortD (r ++ [d]) ≠ [] := by intro k; rw [k] at hd; cases hd
      obtain ⟨s1, s2⟩ := half_stk hA hne
      rw [hd] at s2
      rcases h3 d (by simp) c (by simp) with rfl | hlt
      · have e2 : sortD (r ++ [d] ++ [d]) = sortD (r ++ [d]) := by
          refine asc_ext (sortD_asc _) hA (fun q => ?_)
          rw [sortD_mem, sortD_mem]
          simp
        rw [e2]
        refine ⟨by rw [hd]; simp, ?_⟩
        rcases hh with hh | ⟨z, hz, hh⟩
        · rw [hh]
          generalize hst : halfH (sortD (r ++ [d])) = st at s1 s2
          match st, s1, s2 with
          | [], s1, _ => exact s1.elim
          | [a], s1, s2 =>
            obtain rfl : a = d := by simpa using s2
            refine .inr ⟨a, ?_, rfl⟩
            refine asc_ext hA (List.pairwise_singleton _ _) (fun q => ?_)
            rw [List.mem_singleton]
            constructor
            · intro hq
              rcases s1.2 q hq with k | k
              · exact k.symm
              · exfalso
                obtain ⟨ys, hy⟩ := List.getLast?_eq_some_iff.1 hd
                unfold Asc at hA
                rw [hy] at hA hq
                rw [List.pairwise_append] at hA
                rcases List.mem_append.1 hq with hq | hq
                · exact lex_asym k (hA.2.2 q hq a (by simp))
                · obtain rfl := List.mem_singleton.1 hq
                  unfold lexV subV at k
                  omega
            · rintro rfl; exact s1.1
          | [b, a], s1, s2 =>
            obtain rfl : b = d := by simpa using s2
            left
            have : ¬ 0 < dtV (subV b a) (subV b b) := by unfold dtV subV; simp
            unfold pushH
            rw [if_neg this]
            rfl
          | b :: a :: o :: st, s1, s2 =>
            obtain rfl : b = d := by simpa using s2
            left
            have : ¬ 0 < dtV (subV b a) (subV b b) := by unfold dtV subV; simp
            unfold pushH
            rw [if_neg this]
            unfold pushH
            rw [if_pos (s1.2.2.2.1 o rfl)]
        · obtain rfl : z = d := by rw [hz] at hd; simpa using hd
          refine .inr ⟨z, hz, ?_⟩
          rw [hh]
          have : ¬ 0 < dtV (subV z z) (subV z z) := by unfold dtV subV; simp
          unfold pushH
          rw [if_neg this]
          rfl
      · have e2 : sortD (r ++ [d] ++ [c]) = sortD (r ++ [d]) ++ [c] := by
          refine asc_ext (sortD_asc _) ?_ (fun q => ?_)
          · unfold Asc
            rw [List.pairwise_append]
            refine ⟨hA, List.pairwise_singleton _ _, fun a ha b hb => ?_⟩
            obtain rfl := List.mem_singleton.1 hb
            rw [sortD_mem] at ha
            rcases List.mem_append.1 ha with ha | ha
            · rcases h3 a (by simp [ha]) b (by simp) with k | k
              · rw [List.pairwise_append] at h1
                rcases h1.2.2 a ha d (by simp) with k2 | k2
                · rw [k2]; exact hlt
                · rw [k] at k2
                  exact (lex_asym k2 hlt).elim
              · exact k
            · obtain rfl := List.mem_singleton.1 ha
              exact hlt
          · rw [sortD_mem]; simp only [List.mem_append, sortD_mem]
        rw [e2]
        refine ⟨by simp, .inl ?_⟩
        have e3 : halfH (sortD (r ++ [d]) ++ [c]) = pushH (halfH (sortD (r ++ [d]))) c := by unfold halfH; rw [List.foldl_append]; rfl
        rw [e3]
        rcases hh with hh | ⟨z, hz, hh⟩
        · rw [hh]
        · rw [hh, hz]
          have : ¬ 0 < dtV (subV z z) (subV c z) := by unfold dtV subV; simp
          show pushH [z, z] c = pushH [z] c
          unfold pushH
          rw [if_neg this]
          rfl
theorem wk_back {l : List P2} (h : Wk l) : Wk (l.reverse.map ngV) := by
  unfold Wk at h ⊢
  rw [List.pairwise_map, List.pairwise_reverse]
  refine h.imp (fun {a b} hab => ?_)
  rcases hab with rfl | hab
  · exact .inl rfl
  · refine .inr ?_
    unfold lexV subV ngV at *
    dsimp only at *
    omega
theorem half_ng' (l : List P2) : halfH l = (halfH (l.map ngV)).map ngV := by
  rw [half_ng, List.map_map, show (ngV ∘ ngV) = id from funext ng_ng, List.map_id]
/-- .. nor to the hull -/
theorem hull_wk {l : List P2} (h : Wk l) : hullZ l = hullZ (sortD l) ∨ (∃ c, sortD l = [c]) ∧ (hullZ l).length ≤ 2 := by
  have h1 := half_wk h
  have h2 := half_wk (wk_back h)
  have e : sortD (l.reverse.map ngV) = (sortD l).reverse.map ngV := by
    refine asc_ext (sortD_asc _) (asc_back (sortD_asc l)) (fun q => ?_)
    rw [sortD_mem]
    simp only [List.mem_map, List.mem_reverse, sortD_mem]
  rw [e] at h2
  have h3 : halfH l.reverse = halfH (sortD l).reverse ∨ ∃ c, sortD l = [c] ∧ halfH l.reverse = [c, c] := by
    rcases h2 with k | ⟨c, k1, k2⟩
    · left
      rw [half_ng' l.reverse, half_ng' (sortD l).reverse, k]
    · right
      refine ⟨ngV c, ?_, ?_⟩
      · have : ((sortD l).reverse.map ngV).map ngV = [ngV c] := by rw [k1]; rfl
        rw [List.map_map, show (ngV ∘ ngV) = id from funext ng_ng, List.map_id] at this
        have := congrArg List.reverse this
        rwa [List.reverse_reverse] at this
      · rw [half_ng' l.reverse, k2]
        rfl
  rcases h1 with a | ⟨c, a1, a2⟩
  · rcases h3 with b | ⟨d, b1, b2⟩
    · left
      unfold hullZ
      rw [a, b]
    · right
      refine ⟨⟨d, b1⟩, ?_⟩
      unfold hullZ
      rw [a, b1, b2]
      simp [halfH, pushH]
  · right
    refine ⟨⟨c, a1⟩, ?_⟩
    rcases h3 with b | ⟨d, b1, b2⟩
    · unfold hullZ
      rw [a2, b, a1]
      simp [halfH, pushH]
    · unfold hullZ
      rw [a2, b2]
      simp
/-! numbers of a hull -/
theorem low_bound {D : P2 → Prop} {B : Int} : ∀ {st : List P2} {b : P2}, Stk D (b :: st) → (∀ q ∈ b :: st, -B ≤ q.2) → ∀ p, D p → (p = b ∨ lexV (subV b p)) → -B ≤ p.2
  | [], b, h, hB, p, hp, hl => by
    rcases hl with rfl | hl
    · exact hB _ (by simp)
    · rcases h.2 p hp with rfl | k
      · exact hB _ (by simp)
      · exact (lex_asym hl k).elim
  | a :: st, b, h, hB, p, hp, hl => by
    rcases hl with rfl | hl
    · exact hB _ (by simp)
    · obtain ⟨_, h2, h3, _, h5⟩ := h
      rcases lex_or a p with e | e | e
      · exact low_bound h5 (fun q hq => hB q (List.mem_cons_of_mem _ hq)) p hp (.inl e.symm)
      · have ha := hB a (by simp)
        have hb := hB b (by simp)
        have hd := h3 p hp
        unfold dtV subV at hd
        unfold lexV subV at hl e h2
        dsimp only at hd hl e h2
        by_cases hx : b.1 - a.1 = 0
        · omega
        · have hx0 : 0 < b.1 - a.1 := by omega
          have m1 := Int.mul_nonneg (show 0 ≤ a.2 + B by omega) (show 0 ≤ b.1 - p.1 by omega)
          have m2 := Int.mul_nonneg (show 0 ≤ b.2 + B by omega) (show 0 ≤ p.1 - a.1 by omega)
          have e3 : (p.2 + B) * (b.1 - a.1) = ((b.1 - a.1) * (p.2 - a.2) - (b.2 - a.2) * (p.1 - a.1)) + (a.2 + B) * (b.1 - p.1) + (b.2 + B) * (p.1 - a.1) := by grind
          have := nonneg_of_mul (a := p.2 + B) (by rw [e3]; omega) hx0
          omega
      · exact low_bound h5 (fun q hq => hB q (List.mem_cons_of_mem _ hq)) p hp (.inr e)
theorem asc_last {S : List P2} {z : P2} (hS : Asc S) (hz : S.getLast? = some z) : ∀ q ∈ S, q = z ∨ lexV (subV z q) := by
  intro q hq
  obtain ⟨ys, hy⟩ := List.getLast?_eq_some_iff.1 hz
  unfold Asc at hS
  rw [hy] at hq hS
  rw [List.pairwise_append] at hS
  rcases List.mem_append.1 hq with hq | hq
  · exact .inr (hS.2.2 q hq _ (by simp))
  · exact .inl (List.mem_singleton.1 hq)
theorem stk_last {D : P2 → Prop} : ∀ {st : List P2} {b : P2}, Stk D (b :: st) → ∃ a, (b :: st).getLast? = some a ∧ D a ∧ ∀ p, D p → a = p ∨ lexV (subV p a)
  | [], b, h => ⟨b, rfl, h.1, h.2⟩
  | a :: st, b, h => by
    obtain ⟨z, h1, h2, h3⟩ := stk_last h.2.2.2.2
    exact ⟨z, by rw [← h1]; exact List.getLast?_cons_cons, h2, h3⟩
/-- both halves are parts of the hull -/
theorem hull_halves {S : List P2} (hS : Asc S) (h3 : 2 ≤ S.length) : (∀ q ∈ halfH S, q ∈ hullZ S) ∧ ∀ q ∈ halfH S.reverse, q ∈ hullZ S := by
  have main : ∀ T : List P2, Asc T → 2 ≤ T.length → ∃ b st a, halfH T = b :: st ∧ T.getLast? = some b ∧ (b :: st).getLast? = some a ∧ T.head? = some a ∧ a ≠ b := by
    intro T hT hl
    have hne : T ≠ [] := by rintro rfl; simp at hl
    obtain ⟨s1, s2⟩ := half_stk hT hne
    match hst : halfH T, s1, s2 with
    | [], s1, _ => exact s1.elim
    | b :: st, s1, s2 =>
      obtain ⟨a, ha, hDa, hmin⟩ := stk_last s1
      refine ⟨b, st, a, rfl, by rw [← s2]; rfl, ha, ?_, ?_⟩
      · cases T with
        | nil => exact (hne rfl).elim
        | cons t T =>
          rcases List.mem_cons.1 hDa with e | e
          · rw [e]; rfl
          · have k1 := (List.pairwise_cons.1 hT).1 a e
            rcases hmin t (by simp) with k2 | k2
            · rw [k2] at k1; unfold lexV subV at k1; omega
            · exact (lex_asym k1 k2).elim
      · rintro rfl
        match T, hT, hl with
        | x :: y :: T, hT, _ =>
          have kx := asc_last hT (by rw [← s2]; rfl)
          have k1 := (List.pairwise_cons.1 hT).1 y (by simp)
          have mx : ∀ q ∈ x :: y :: T, q = a := by
            intro q hq
            rcases kx q hq with e | e
            · exact e
            · rcases hmin q hq with e2 | e2
              · exact e2.symm
              · exact (lex_asym e e2).elim
          rw [mx x (by simp), mx y (by simp)] at k1
          unfold lexV subV at k1
          omega
  obtain ⟨b, st, a, e1, e2, e3, e4, hab⟩ := main S hS h3
  obtain ⟨b', st', a', f1, f2, f3, f4, hab'⟩ := main (S.reverse.map ngV) (asc_back hS) (by simpa using h3)
  have g1 : halfH S.reverse = (b' :: st').map ngV := by rw [half_ng', f1]
  have hb' : ngV b' = a := by
    rw [List.getLast?_map, List.getLast?_reverse, e4] at f2
    have : ngV a = b' := by simpa using f2
    rw [← this, ng_ng]
  have ha' : ngV a' = b := by
    rw [List.head?_map, List.head?_reverse, e2] at f4
    have : ngV b = a' := by simpa using f4
    rw [← this, ng_ng]
  have t1 : ∀ q, q ∈ b :: st → q ≠ b → q ∈ hullZ S := by
    intro q hq hne
    unfold hullZ
    rw [e1]
    refine List.mem_append_left _ ?_
    rw [List.mem_reverse, List.tail_cons]
    rcases List.mem_cons.1 hq with k | k
    · exact (hne k).elim
    · exact k
  have t2 : ∀ q, q ∈ (b' :: st').map ngV → q ≠ a → q ∈ hullZ S := by
    intro q hq hne
    unfold hullZ
    rw [g1]
    refine List.mem_append_right _ ?_
    rw [List.mem_reverse, List.map_cons, List.tail_cons]
    rw [List.map_cons] at hq
    rcases List.mem_cons.1 hq with k | k
    · rw [hb'] at k; exact (hne k).elim
    · exact k
  have hbm : b ∈ hullZ S := t2 b (by rw [← ha']; exact List.mem_map_of_mem (List.mem_of_getLast? f3)) (fun e => hab e.symm)
  have ham : a ∈ hullZ S := t1 a (List.mem_of_getLast? e3) hab
  constructor
  · intro q hq
    rw [e1] at hq
    by_cases k : q = b
    · rw [k]; exact hbm
    · exact t1 q hq k
  · intro q hq
    rw [g1] at hq
    by_cases k : q = a
    · rw [k]; exact ham
    · exact t2 q hq k
/-- the numbers of a hull are the greatest -/
theorem hull_bound {S : List P2} {B : Int} (hS : Asc S) (h2 : 2 ≤ S.length) (hB : ∀ q ∈ hullZ S, (-B ≤ q.1 ∧ q.1 ≤ B) ∧ -B ≤ q.2 ∧ q.2 ≤ B) : ∀ q ∈ S, (-B ≤ q.1 ∧ q.1 ≤ B) ∧ -B ≤ q.2 ∧ q.2 ≤ B := by
  obtain ⟨m1, m2⟩ := hull_halves hS h2
  have half : ∀ T : List P2, Asc T → 2 ≤ T.length → (∀ q ∈ halfH T, (-B ≤ q.1 ∧ q.1 ≤ B) ∧ -B ≤ q.2 ∧ q.2 ≤ B) → ∀ q ∈ T, -B ≤ q.2 ∧ q.1 ≤ B := by
    intro T hT hl hq q hqT
    have hne : T ≠ [] := by rintro rfl; simp at hl
    obtain ⟨s1, s2⟩ := half_stk hT hne
    match hst : halfH T, s1, s2 with
    | [], s1, _ => exact s1.elim
    | b :: st, s1, s2 =>
      rw [hst] at hq
      have hk := asc_last hT (by rw [← s2]; rfl) q hqT
      refine ⟨low_bound s1 (fun x hx => (hq x hx).2.1) q hqT hk, ?_⟩
      have := (hq b (by simp)).1.2
      rcases hk with rfl | hk
      · exact this
      · unfold lexV subV at hk
        dsimp only at hk
        omega
  intro q hq
  have a1 := half S hS h2 (fun x hx => hB x (m1 x hx)) q hq
  have a2 := half (S.reverse.map ngV) (asc_back hS) (by simpa using h2) (fun x hx => by
    rw [half_ng] at hx
    obtain ⟨y, hy, rfl⟩ := List.mem_map.1 hx
    have := hB y (m2 y hy)
    unfold ngV
    dsimp only
    omega) (ngV q) (List.mem_map_of_mem (by simpa using hq))
  unfold ngV at a2
  dsimp only at a2
  omega
/-- a hull begins with the least point; it has none but those of which it is made -/
theorem hull_mem {S : List P2} (hS : Asc S) (q : P2) (hq : q ∈ hullZ S) : q ∈ S := by
  have h0 : S ≠ [] := by rintro rfl; cases hq
  unfold hullZ at hq
  rcases List.mem_append.1 hq with hq | hq
  · rw [List.mem_reverse] at hq
    exact Stk.mem (half_stk hS h0).1 q (List.mem_of_mem_tail hq)
  · rw [List.mem_reverse] at hq
    have := List.mem_of_mem_tail hq
    rw [half_ng'] at this
    obtain ⟨y, hy, rfl⟩ := List.mem_map.1 this
    have h1 : S.reverse.map ngV ≠ [] := by simpa using h0
    have hm := Stk.mem (half_stk (asc_back hS) h1).1 y hy
    obtain ⟨z, hz, rfl⟩ := List.mem_map.1 hm
    rw [ng_ng]
    simpa using hz
theorem hull_head {S : List P2} {a : P2} (hS : Asc S) (h2 : 2 ≤ S.length) (ha : S.head? = some a) : ∃ r, hullZ S = a :: r := by
  have h0 : S ≠ [] := by rintro rfl; simp at h2
  obtain ⟨s1, s2⟩ := half_stk hS h0
  match hst : halfH S, s1, s2 with
  | [], s1, _ => exact s1.elim
  | [b], s1, s2 =>
    exfalso
    match S, hS, h2 with
    | x :: y :: T, hS, _ =>
      have kx := asc_last hS (by rw [← s2]; rfl)
      have k1 := (List.pairwise_cons.1 hS).1 y (by simp)
      have mx : ∀ q ∈ x :: y :: T, q = b := by
        intro q hq
        rcases kx q hq with e | e
        · exact e
        · rcases s1.2 q hq with e2 | e2
          · exact e2.symm
          · exact (lex_asym e e2).elim
      rw [mx x (by simp), mx y (by simp)] at k1
      unfold lexV subV at k1
      omega
  | b :: c :: st, s1, s2 =>
    obtain ⟨z, hz, hDz, hmin⟩ := stk_last s1.2.2.2.2
    have hza : z = a := by
      cases S with
      | nil => exact (h0 rfl).elim
      | cons t T =>
        obtain rfl : t = a := by simpa using ha
        rcases List.mem_cons.1 hDz with e | e
        · exact e
        · have k1 := (List.pairwise_cons.1 hS).1 z e
          rcases hmin t (by simp) with k2 | k2
          · exact k2
          · exact (lex_asym k1 k2).elim
    subst hza
    obtain ⟨ys, hy⟩ := List.getLast?_eq_some_iff.1 hz
    unfold hullZ
    rw [hst, List.tail_cons, hy, List.reverse_append]
    exact ⟨_, rfl⟩
end Go.Proofs.YtcieihbknfeddaaDoor

/- Directions in order from the one that is met first; plain mathematics. -/
namespace Go.Proofs.YtcieihbknfeddaaDoor
/-! in order from the one that is met first -/
structure RndV (n : Nat) (u : Nat → P2) : Prop where
  per : ∀ i, u (i + n) = u i
  turn : ∀ i, 0 < dtV (u i) (u (i + 1))
  neg : ∀ j t t', 0 < t → t < t' → t' < n → dtV (u j) (u (j + t)) ≤ 0 → dtV (u j) (u (j + t')) < 0
theorem RoundV.rnd {n : Nat} {u : Nat → P2} (h : RoundV n u) : RndV n u := ⟨h.per, h.turn, fun _ _ _ a b c d => h.neg a b c d⟩
theorem low_upp_ng {a : P2} (h : lowV a) : uppV (ngV a) := upp_ng h
theorem RndV.nz {n : Nat} {u : Nat → P2} (h : RndV n u) (i : Nat) : uppV (u i) ∨ lowV (u i) := (nz_of_dt (h.turn i)).1
theorem RndV.sorted {n : Nat} {u : Nat → P2} (h : RndV n u) {K : Nat} (hmin : ∀ j, ¬ ahdV (u j) (u K)) : ∀ t' t, t < t' → t' < n → ahdV (u (K + t)) (u (K + t')) := by
  have step : ∀ t, t + 1 < n → ahdV (u (K + t)) (u (K + t + 1)) := by
    intro t ht
    have hd := h.turn (K + t)
    refine ahd_of hd (fun hk => ?_)
    have hf := dt_flip (u (K + t)) (u (K + t + 1))
    rcases hk with ⟨b1, a1⟩ | ⟨_, _, hp⟩ | ⟨_, _, hp⟩
    · by_cases h0 : t = 0
      · subst h0
        exact hmin (K + 0 + 1) (.inl ⟨b1, a1⟩)
      · have hc : uppV (u K) := by
          rcases h.nz K with c | c
          · exact c
          · exact (hmin (K + t + 1) (.inl ⟨b1, c⟩)).elim
        have hbc : ¬ 0 < dtV (u (K + t + 1)) (u K) := fun q => hmin (K + t + 1) (.inr (.inl ⟨b1, hc, q⟩))
        have hf2 := dt_flip (u (K + t + 1)) (u K)
        rcases Int.lt_or_le 0 (dtV (u K) (u (K + t))) with q | q
        · have e1 : 0 < dtV (u (K + t + 1)) (ngV (u (K + t))) := by rw [dt_ngr]; omega
          have e2 : 0 < dtV (ngV (u (K + t))) (u K) := by
            have := dt_flip (u K) (u (K + t))
            rw [dt_ngl]; omega
          exact hbc (upp_trans b1 (upp_ng a1) hc (Int.le_of_lt e1) e2)
        · have := h.neg K t (t + 1) (by omega) (by omega) ht q
          rw [← Nat.add_assoc] at this
          omega
    · omega
    · omega
  intro t'
  induction t' with
  | zero => omega
  | succ t' ih =>
    intro t htt ht
    by_cases e : t = t'
    · subst e; exact step t ht
    · exact ahd_trans (ih t (by omega) (by omega)) (step t' ht)
end Go.Proofs.YtcieihbknfeddaaDoor

/- Vectors of a polygon: Pick's formula; plain mathematics. -/
namespace Go.Proofs.YtcieihbknfeddaaDoor
/-! sums, floors -/
def sumI (f : Nat → Int) : Nat → Int
  | 0 => 0
  | n + 1 => sumI f n + f n
theorem sumI_succ (f : Nat → Int) (n : Nat) : sumI f (n + 1) = sumI f n + f n := rfl
theorem sumI_congr {f g : Nat → Int} {n : Nat} (h : ∀ i, i < n → f i = g i) : sumI f n = sumI g n := by
  induction n with
  | zero => rfl
  | succ n ih => unfold sumI; rw [ih (fun i hi => h i (by omega)), h n (by omega)]
theorem sumI_add (f g : Nat → Int) (n : Nat) : sumI (fun i => f i + g i) n = sumI f n + sumI g n := by
  induction n with
  | zero => rfl
  | succ n ih => unfold sumI; rw [ih]; omega
theorem sumI_mul (c : Int) (f : Nat → Int) (n : Nat) : sumI (fun i => c * f i) n = c * sumI f n := by
  induction n with
  | zero => simp [sumI]
  | succ n ih => unfold sumI; rw [ih, Int.mul_add]
theorem sumI_zero {f : Nat → Int} {n : Nat} (h : ∀ i, i < n → f i = 0) : sumI f n = 0 := by
  induction n with
  | zero => rfl
  | succ n ih => unfold sumI; rw [ih (fun i hi => h i (by omega)), h n (by omega)]; rfl
theorem sumI_const (c : Int) (n : Nat) : sumI (fun _ => c) n = n * c := by
  induction n with
  | zero => simp [sumI]
  | succ n ih => unfold sumI; rw [ih]; grind
theorem sumI_head (f : Nat → Int) (n : Nat) : sumI f (n + 1) = f 0 + sumI (fun i => f (i + 1)) n := by
  induction n with
  | zero => simp [sumI]
  | succ n ih => rw [sumI_succ, ih, sumI_succ]; omega
theorem sumI_split (f : Nat → Int) (n m : Nat) : sumI f (n + m) = sumI f n + sumI (fun i => f (n + i)) m := by
  induction m with
  | zero => simp [sumI]
  | succ m ih => rw [← Nat.add_assoc, sumI_succ, sumI_succ, ih]; omega
theorem sumI_back (f : Nat → Int) (n : Nat) : sumI (fun i => f (n - 1 - i)) n = sumI f n := by
  induction n generalizing f with
  | zero => rfl
  | succ n ih =>
    rw [sumI_head, Nat.add_sub_cancel, Nat.sub_zero]
    have : sumI (fun i => f (n - (i + 1))) n = sumI (fun i => f (n - 1 - i)) n := sumI_congr (fun i _ => by congr 1; omega)
    rw [this, ih, sumI_succ]
    omega
theorem sumI_swap (f : Nat → Nat → Int) (n m : Nat) : sumI (fun i => sumI (fun j => f i j) m) n = sumI (fun j => sumI (fun i => f i j) n) m := by
  induction n with
  | zero => simp [sumI]; exact (sumI_zero (fun _ _ => rfl)).symm
  | succ n ih =>
    rw [show sumI (fun i => sumI (fun j => f i j) m) (n + 1) = sumI (fun i => sumI (fun j => f i j) m) n + sumI (fun j => f n j) m from rfl, ih, ← sumI_add]
    exact sumI_congr (fun _ _ => rfl)
theorem sumI_one {f : Nat → Int} {n k : Nat} (hk : k < n) (h : ∀ i, i < n → i ≠ k → f i = 0) : sumI f n = f k := by
  induction n with
  | zero => omega
  | succ n ih =>
    unfold sumI
    by_cases e : k = n
    · subst e
      rw [sumI_zero (fun i hi => h i (by omega) (by omega))]
      omega
    · rw [ih (by omega) (fun i hi => h i (by omega)), h n (by omega) (by omega)]
      omega
/-- how many there are in a run -/
theorem sum_run (b c f : Int) (H : Nat) (h1 : b ≤ c) (h2 : f ≤ b + H - 1) (h3 : c ≤ f + 1) : sumI (fun t => if c ≤ b + t ∧ b + t ≤ f then 1 else 0) H = f - c + 1 := by
  have key : ∀ H : Nat, sumI (fun t => if c ≤ b + t ∧ b + t ≤ f then 1 else 0) H = max 0 (min f (b + H - 1) - c + 1) := by
    intro H
    induction H with
    | zero => simp only [sumI]; omega
    | succ H ih => unfold sumI; rw [ih]; split <;> omega
  rw [key]
  omega
theorem fl_is {n x q : Int} (hn : 0 < n) (h1 : n * q ≤ x) (h2 : x < n * q + n) : x / n = q := by
  have e := Int.mul_ediv_add_emod x n
  have r1 := Int.emod_nonneg x (show n ≠ 0 by omega)
  have r2 := Int.emod_lt_of_pos x hn
  generalize x / n = z at *
  have a : z - q < 1 := by
    rcases Int.lt_or_le (z - q) 1 with k | k
    · exact k
    · have := Int.mul_le_mul_of_nonneg_left k (show 0 ≤ n by omega)
      rw [Int.mul_sub] at this
      omega
  have b : q - z < 1 := by
    rcases Int.lt_or_le (q - z) 1 with k | k
    · exact k
    · have := Int.mul_le_mul_of_nonneg_left k (show 0 ≤ n by omega)
      rw [Int.mul_sub] at this
      omega
  omega
theorem fl_le {n x : Int} (hn : 0 < n) : n * (x / n) ≤ x ∧ x < n * (x / n) + n := by
  have e := Int.mul_ediv_add_emod x n
  have r1 := Int.emod_nonneg x (show n ≠ 0 by omega)
  have r2 := Int.emod_lt_of_pos x hn
  omega
theorem le_fl {n x q : Int} (hn : 0 < n) : q ≤ x / n ↔ n * q ≤ x := by
  have h := fl_le (x := x) hn
  constructor
  · intro k
    have := Int.mul_le_mul_of_nonneg_left k (show 0 ≤ n by omega)
    omega
  · intro k
    rcases Int.lt_or_le (x / n) q with a | a
    · have := Int.mul_le_mul_of_nonneg_left (show x / n + 1 ≤ q by omega) (show 0 ≤ n by omega)
      rw [Int.mul_add] at this
      omega
    · exact a
def dvd1 (n x : Int) : Int := if n ∣ x then 1 else 0
theorem fl_neg {n x : Int} (hn : 0 < n) : (-x) / n = -(x / n) - 1 + dvd1 n x := by
  have h := fl_le (x := x) hn
  unfold dvd1
  split
  · next hd =>
    obtain ⟨q, rfl⟩ := hd
    rw [Int.mul_ediv_cancel_left _ (by omega), show -(n * q) = n * (-q) by grind, Int.mul_ediv_cancel_left _ (by omega)]
    omega
  · next hd =>
    refine fl_is hn ?_ ?_
    · have : n * (-(x / n) - 1 + 0) = -(n * (x / n)) - n := by grind
      omega
    · have : n * (-(x / n) - 1 + 0) = -(n * (x / n)) - n := by grind
      rcases Int.lt_or_le (n * (x / n)) x with k | k
      · omega
      · exact (hd ⟨x / n, by omega⟩).elim
theorem fl_shift {n x : Int} (hn : 0 < n) (a : Int) : (x + n * a) / n = x / n + a := Int.add_mul_ediv_left _ _ (by omega)
/-- how many multiples there are -/
theorem dvd_run (k g : Nat) (hk : 0 < k) : sumI (fun t => dvd1 k t) (g * k) = g := by
  induction g with
  | zero => simp [sumI]
  | succ g ih =>
    rw [Nat.succ_mul, sumI_split, ih]
    rw [sumI_one (k := 0) hk]
    · have : dvd1 (k : Int) ((g * k + 0 : Nat) : Int) = 1 := by
        unfold dvd1
        rw [if_pos ⟨g, by rw [Nat.add_zero]; simp [Int.mul_comm]⟩]
      rw [this]
      omega
    · intro i hi h0
      unfold dvd1
      rw [if_neg]
      intro hd
      have hd2 : k ∣ g * k + i := Int.ofNat_dvd.1 hd
      rw [Nat.dvd_add_right (Nat.dvd_mul_left k g)] at hd2
      have := Nat.le_of_dvd (by omega) hd2
      omega
theorem dvd_count (a : Int) (n : Nat) (hn : 0 < n) : sumI (fun t => dvd1 n (a * t)) n = Int.gcd a n := by
  have hg : 0 < Nat.gcd a.natAbs n := Nat.gcd_pos_of_pos_right _ hn
  obtain ⟨k, hk⟩ := Nat.gcd_dvd_right a.natAbs n
  obtain ⟨b, hb⟩ := Nat.gcd_dvd_left a.natAbs n
  have e : Int.gcd a n = Nat.gcd a.natAbs n := by simp [Int.gcd]
  rw [e]
  generalize hgg : Nat.gcd a.natAbs n = g at *
  have hk0 : 0 < k := by
    rcases Nat.eq_zero_or_pos k with h | h
    · rw [h] at hk; omega
    · exact h
  have hcop : Nat.Coprime k b := by
    have h1 : Nat.gcd (g * b) (g * k) = g := by rw [← hb, ← hk, hgg]
    rw [Nat.gcd_mul_left] at h1
    have h2 : g * Nat.gcd b k = g * 1 := by omega
    have h3 := Nat.eq_of_mul_eq_mul_left hg h2
    rw [Nat.Coprime, Nat.gcd_comm]
    exact h3
  have : sumI (fun t => dvd1 n (a * t)) n = sumI (fun t => dvd1 k t) (g * k) := by
    rw [← hk]
    refine sumI_congr (fun t _ => ?_)
    unfold dvd1
    have : ((n : Int) ∣ a * t) ↔ ((k : Int) ∣ (t : Int)) := by
      have q1 : ((n : Int) ∣ a * t) ↔ n ∣ (a * t).natAbs := Int.ofNat_dvd_left
      rw [q1, Int.natAbs_mul, Int.natAbs_natCast, hb, hk, Nat.mul_assoc]
      rw [Nat.mul_dvd_mul_iff_left hg, Int.ofNat_dvd]
      exact ⟨fun h => hcop.dvd_of_dvd_mul_left h, fun h => Nat.dvd_trans h (Nat.dvd_mul_left t b)⟩
    simp only [this]
  rw [this]
  exact dvd_run k g hk0
/-- floors along an edge -/
theorem floor_sum (a : Int) (n : Nat) (hn : 0 < n) : 2 * sumI (fun t => (a * t) / n) n = (n - 1) * (a - 1) + Int.gcd a n - 1 := by
  obtain ⟨m, rfl⟩ : ∃ m, n = m + 1 := ⟨n - 1, by omega⟩
  have hp : (0 : Int) < ((m + 1 : Nat) : Int) := by omega
  have hc := dvd_count a (m + 1) hn
  rw [sumI_head] at hc ⊢
  have z1 : a * ((0 : Nat) : Int) / ((m + 1 : Nat) : Int) = 0 := by simp
  have z2 : dvd1 ((m + 1 : Nat) : Int) (a * ((0 : Nat) : Int)) = 1 := by unfold dvd1; rw [if_pos (by simp)]
  rw [z1]
  rw [z2] at hc
  have hb := sumI_back (fun i => a * ((i + 1 : Nat) : Int) / ((m + 1 : Nat) : Int)) m
  have hs : sumI (fun i => a * ((i + 1 : Nat) : Int) / ((m + 1 : Nat) : Int)) m + sumI (fun i => a * ((i + 1 : Nat) : Int) / ((m + 1 : Nat) : Int)) m = sumI (fun i => (a - 1) + dvd1 ((m + 1 : Nat) : Int) (a * ((i + 1 : Nat) : Int))) m := by
    rw [← hb]
    conv => lhs; arg 1; rw [hb]
    rw [← sumI_add]
    refine sumI_congr (fun i hi => ?_)
    have e : a * ((m - 1 - i + 1 : Nat) : Int) = -(a * ((i + 1 : Nat) : Int)) + ((m + 1 : Nat) : Int) * a := by
      have : ((m - 1 - i + 1 : Nat) : Int) = ((m + 1 : Nat) : Int) - ((i + 1 : Nat) : Int) := by omega
      rw [this]
      grind
    rw [e, fl_shift hp, fl_neg hp]
    omega
  rw [sumI_add, sumI_const] at hs
  have e5 : (((m + 1 : Nat) : Int) - 1) * (a - 1) = (m : Int) * (a - 1) := by congr 1; omega
  rw [e5]
  omega
/-- floors and ceilings of an edge at its columns, but for the last one -/
def flE (u v : P2) (x : Int) : Int := u.2 + ((v.2 - u.2) * (x - u.1)) / (v.1 - u.1)
def ceE (u v : P2) (x : Int) : Int := u.2 - (-((v.2 - u.2) * (x - u.1))) / (v.1 - u.1)
theorem flE_sum (u v : P2) (n : Nat) (hn : 0 < n) (h : v.1 - u.1 = n) : 2 * sumI (fun t => flE u v (u.1 + t)) n = n * (u.2 + v.2) - n - (v.2 - u.2) + Int.gcd (v.2 - u.2) n := by
  have e : sumI (fun t => flE u v (u.1 + t)) n = sumI (fun t => u.2 + ((v.2 - u.2) * t) / n) n := sumI_congr (fun t _ => by
    unfold flE
    rw [h, show u.1 + (t : Int) - u.1 = t by omega])
  rw [e, sumI_add, sumI_const, Int.mul_add, floor_sum _ n hn]
  generalize ((Int.gcd (v.2 - u.2) n : Nat) : Int) = g
  grind
theorem ceE_sum (u v : P2) (n : Nat) (hn : 0 < n) (h : v.1 - u.1 = n) : 2 * sumI (fun t => ceE u v (u.1 + t)) n = n * (u.2 + v.2) + n - (v.2 - u.2) - Int.gcd (v.2 - u.2) n := by
  have e : sumI (fun t => ceE u v (u.1 + t)) n = sumI (fun t => u.2 + (-1) * (((-(v.2 - u.2)) * t) / n)) n := sumI_congr (fun t _ => by
    unfold ceE
    rw [h, show u.1 + (t : Int) - u.1 = t by omega, ← Int.neg_mul]
    omega)
  rw [e, sumI_add, sumI_const, sumI_mul, Int.mul_add]
  have := floor_sum (-(v.2 - u.2)) n hn
  rw [Int.neg_gcd] at this
  generalize ((Int.gcd (v.2 - u.2) n : Nat) : Int) = g at *
  generalize sumI (fun t => -(v.2 - u.2) * (t : Int) / (n : Int)) n = s at *
  grind
/-! both ways from the least corner to the greatest one -/
def wyV (p : Nat → P2) (k : Nat) : P2 := subV (p (k + 1)) (p k)
def sideZ (p : Nat → P2) (k : Nat) (z : P2) : Int := dtV (wyV p k) (subV z (p k))
theorem ConvS.side0 {n : Nat} {p : Nat → P2} (h : ConvS n p) (k j : Nat) : 0 ≤ sideZ p k (p j) := h.side_le k j
theorem ConvS.locmin {n : Nat} {p : Nat → P2} (h : ConvS n p) {i : Nat} (h1 : lexV (subV (p i) (p (i + 1)))) (h2 : lexV (wyV p (i + 1))) (j : Nat) : p j = p (i + 1) ∨ lexV (subV (p j) (p (i + 1))) := by
  have t := h.turn i
  have a := h.side0 i j
  have b := h.side0 (i + 1) j
  generalize p j = z at *
  unfold sideZ wyV at *
  generalize p (i + 1 + 1) = c at *
  generalize p (i + 1) = q at *
  generalize p i = s at *
  obtain ⟨zx, zy⟩ := z
  obtain ⟨cx, cy⟩ := c
  obtain ⟨qx, qy⟩ := q
  obtain ⟨sx, sy⟩ := s
  unfold dtV lexV subV at *
  simp only [Prod.mk.injEq] at *
  -- the determinant times the way is a sum of both with numbers that are not negative
  have e1 : ((qx - sx) * (cy - qy) - (qy - sy) * (cx - qx)) * (zx - qx) = ((qx - sx) * (zy - sy) - (qy - sy) * (zx - sx)) * (cx - qx) + ((cx - qx) * (zy - qy) - (cy - qy) * (zx - qx)) * (sx - qx) := by grind
  have e2 : ((qx - sx) * (cy - qy) - (qy - sy) * (cx - qx)) * (zy - qy) = ((qx - sx) * (zy - sy) - (qy - sy) * (zx - sx)) * (cy - qy) + ((cx - qx) * (zy - qy) - (cy - qy) * (zx - qx)) * (sy - qy) := by grind
  generalize (qx - sx) * (cy - qy) - (qy - sy) * (cx - qx) = D at *
  generalize (qx - sx) * (zy - sy) - (qy - sy) * (zx - sx) = A at *
  generalize (cx - qx) * (zy - qy) - (cy - qy) * (zx - qx) = B at *
  have m1 := Int.mul_nonneg a (show 0 ≤ cx - qx by omega)
  have m2 := Int.mul_nonneg b (show 0 ≤ sx - qx by omega)
  have hx : 0 ≤ zx - qx := nonneg_of_mul (b := D) (by rw [Int.mul_comm, e1]; omega) t
  by_cases hx0 : 0 < zx - qx
  · exact .inr (.inl hx0)
  · have hx1 : zx - qx = 0 := by omega
    rw [hx1, Int.mul_zero] at e1
    have z1 : A * (cx - qx) = 0 := by omega
    have z2 : B * (sx - qx) = 0 := by omega
    have y1 : 0 ≤ A * (cy - qy) := by
      rcases Int.mul_eq_zero.1 z1 with k | k
      · rw [k]; simp
      · exact Int.mul_nonneg a (by omega)
    have y2 : 0 ≤ B * (sy - qy) := by
      rcases Int.mul_eq_zero.1 z2 with k | k
      · rw [k]; simp
      · exact Int.mul_nonneg b (by omega)
    have hy : 0 ≤ zy - qy := nonneg_of_mul (b := D) (by rw [Int.mul_comm, e2]; omega) t
    omega
theorem wy_nz {n : Nat} {p : Nat → P2} (h : ConvS n p) (i : Nat) : lexV (wyV p i) ∨ lexV (subV (p i) (p (i + 1))) := by
  have t := h.turn i
  unfold wyV
  rcases lex_or (p i) (p (i + 1)) with e | e | e
  · rw [← e] at t; unfold dtV subV at t; simp at t
  · exact .inl e
  · exact .inr e
def MinAt (n : Nat) (p : Nat → P2) : Prop := ∀ j, j < n → 0 < j → lexV (subV (p j) (p 0))
structure Arcs (n : Nat) (p : Nat → P2) (m : Nat) : Prop where
  pos : 0 < m
  lt : m < n
  up : ∀ i, i < m → lexV (wyV p i)
  down : ∀ i, m ≤ i → i < n → lexV (subV (p i) (p (i + 1)))
theorem ConvS.arcs {n : Nat} {p : Nat → P2} (h : ConvS n p) (h0 : MinAt n p) : ∃ m, Arcs n p m := by
  have h3 := h.three
  have first : ∀ k, k ≤ n → (∀ i, i < k → lexV (wyV p i)) ∨ ∃ m, m < k ∧ (∀ i, i < m → lexV (wyV p i)) ∧ lexV (subV (p m) (p (m + 1))) := by
    intro k
    induction k with
    | zero => intro _; exact .inl (fun i hi => by omega)
    | succ k ih =>
      intro hk
      rcases ih (by omega) with a | ⟨m, a, b⟩
      · rcases wy_nz h k with c | c
        · refine .inl (fun i hi => ?_)
          by_cases e : i = k
          · rw [e]; exact c
          · exact a i (by omega)
        · exact .inr ⟨k, by omega, a, c⟩
      · exact .inr ⟨m, by omega, b⟩
  rcases first n (Nat.le_refl _) with a | ⟨m, hm, a, b⟩
  · exfalso
    have up : ∀ k, 0 < k → k ≤ n → lexV (subV (p k) (p 0)) := by
      intro k
      induction k with
      | zero => omega
      | succ k ih =>
        intro _ hk
        by_cases e : k = 0
        · subst e; exact a 0 (by omega)
        · exact lex_add (ih (by omega) (by omega)) (a k (by omega))
    have := up n (by omega) (Nat.le_refl _)
    rw [show n = 0 + n by omega, h.per] at this
    unfold lexV subV at this
    omega
  · have w0 : lexV (wyV p 0) := h0 1 (by omega) (by omega)
    refine ⟨m, ?_, hm, a, ?_⟩
    · rcases Nat.eq_zero_or_pos m with e | e
      · subst e; exact (lex_asym w0 b).elim
      · exact e
    · intro i
      induction i with
      | zero =>
        intro h1 _
        obtain rfl : m = 0 := by omega
        exact b
      | succ i ih =>
        intro h1 h2
        by_cases e : m = i + 1
        · rw [← e]; exact b
        · rcases wy_nz h (i + 1) with c | c
          · exfalso
            rcases h.locmin (ih (by omega) (by omega)) c 0 with k | k
            · exact h.ne (show 0 < n by omega) (show i + 1 < n by omega) (by omega) k
            · exact lex_asym k (h0 (i + 1) h2 (by omega))
          · exact c
theorem Arcs.up_le {n m : Nat} {p : Nat → P2} (h : Arcs n p m) : ∀ b a, a ≤ b → b ≤ m → (p a).1 ≤ (p b).1 := by
  intro b
  induction b with
  | zero => intro a ha _; have e : a = 0 := (by omega); rw [e]; exact Int.le_refl _
  | succ b ih =>
    intro a ha hb
    by_cases e : a = b + 1
    · subst e; exact Int.le_refl _
    · have h1 := ih a (by omega) (by omega)
      have h2 := h.up b (by omega)
      unfold lexV wyV subV at h2
      dsimp only at h2
      omega
theorem Arcs.down_le {n m : Nat} {p : Nat → P2} (h : Arcs n p m) : ∀ b a, m ≤ a → a ≤ b → b ≤ n → (p b).1 ≤ (p a).1 := by
  intro b
  induction b with
  | zero => intro a h1 ha _; have e : a = 0 := (by omega); rw [e]; exact Int.le_refl _
  | succ b ih =>
    intro a h1 ha hb
    by_cases e : a = b + 1
    · subst e; exact Int.le_refl _
    · have h1 := ih a (by omega) (by omega) (by omega)
      have h2 := h.down b (by omega) (by omega)
      unfold lexV subV at h2
      dsimp only at h2
      omega
/-- an edge straight up is the last one on the way up -/
theorem Arcs.vert {n m : Nat} {p : Nat → P2} (h : Arcs n p m) (hc : ConvS n p) {k : Nat} (hk : k < m) (h0 : (wyV p k).1 = 0) : k + 1 = m := by
  by_cases e : k + 1 < m
  · exfalso
    have t := hc.turn k
    have a := h.up k hk
    have b := h.up (k + 1) e
    unfold lexV wyV at *
    generalize subV (p (k + 1 + 1)) (p (k + 1)) = v at *
    generalize subV (p (k + 1)) (p k) = u at *
    unfold dtV at t
    rw [h0] at t
    have := Int.mul_nonneg (show 0 ≤ u.2 by omega) (show 0 ≤ v.1 by omega)
    omega
  · omega
/-- .. and one straight down the last one of all -/
theorem Arcs.vert' {n m : Nat} {p : Nat → P2} (h : Arcs n p m) (hc : ConvS n p) {k : Nat} (h1 : m ≤ k) (hk : k < n) (h0 : (wyV p k).1 = 0) : k + 1 = n := by
  by_cases e : k + 1 < n
  · exfalso
    have t := hc.turn k
    have a := h.down k h1 hk
    have b := h.down (k + 1) (by omega) e
    unfold lexV wyV subV at *
    dsimp only at *
    unfold dtV at t
    dsimp only at t
    rw [h0] at t
    have := Int.mul_nonneg (show 0 ≤ (p k).2 - (p (k + 1)).2 by omega) (show 0 ≤ (p (k + 1)).1 - (p (k + 1 + 1)).1 by omega)
    have e2 : ((p k).2 - (p (k + 1)).2) * ((p (k + 1)).1 - (p (k + 1 + 1)).1) = ((p (k + 1)).2 - (p k).2) * ((p (k + 1 + 1)).1 - (p (k + 1)).1) := by grind
    omega
  · omega
theorem Arcs.first {n m : Nat} {p : Nat → P2} (h : Arcs n p m) (hc : ConvS n p) : 0 < (wyV p 0).1 := by
  have h3 := hc.three
  have a := h.up 0 h.pos
  unfold lexV at a
  rcases a with a | ⟨a0, a⟩
  · exact a
  · exfalso
    have hm := h.vert hc h.pos a0
    have t := hc.turn 0
    have b := h.down 1 (by omega) (by omega)
    have c := h.down_le n 2 (by omega) (by omega) (Nat.le_refl _)
    rw [show n = 0 + n by omega, hc.per] at c
    unfold lexV wyV subV at *
    dsimp only at *
    unfold dtV at t
    dsimp only at t
    simp only [Nat.zero_add, Nat.reduceAdd] at *
    rw [a0] at t
    have := Int.mul_nonneg (show 0 ≤ (p 1).2 - (p 0).2 by omega) (show 0 ≤ (p 2).1 - (p 1).1 by omega)
    omega
theorem Arcs.top {n m : Nat} {p : Nat → P2} (h : Arcs n p m) (hc : ConvS n p) : (wyV p m).1 < 0 := by
  have h3 := hc.three
  have a := h.down m (Nat.le_refl _) h.lt
  unfold lexV wyV subV at *
  dsimp only at *
  rcases a with a | ⟨a0, a⟩
  · omega
  · exfalso
    have hm := h.vert' hc (Nat.le_refl _) h.lt (by unfold wyV subV; dsimp only; omega)
    have t := hc.turn (m - 1)
    have b := h.up (m - 1) (by have := h.pos; omega)
    have c := h.up_le (m - 1) 0 (by omega) (by omega)
    have e0 : p (m + 1) = p 0 := by rw [show m + 1 = 0 + n by omega, hc.per]
    have em : m - 1 + 1 = m := by have := h.pos; omega
    rw [e0] at a0 a
    rw [em, e0] at t
    unfold wyV at b
    rw [em] at b
    unfold lexV subV at *
    dsimp only at *
    unfold dtV at t
    dsimp only at t
    rw [show (p 0).1 - (p m).1 = 0 by omega] at t
    have := Int.mul_nonneg (show 0 ≤ (p m).1 - (p (m - 1)).1 by omega) (show 0 ≤ (p m).2 - (p 0).2 by omega)
    have e2 : ((p m).1 - (p (m - 1)).1) * ((p m).2 - (p 0).2) = -(((p m).1 - (p (m - 1)).1) * ((p 0).2 - (p m).2)) := by grind
    omega
/-! columns -/
theorem side_mix (p : Nat → P2) (i k : Nat) (z : P2) : (wyV p i).1 * sideZ p k z = (wyV p k).1 * sideZ p i z + ((p (i + 1)).1 - z.1) * sideZ p k (p i) + (z.1 - (p i).1) * sideZ p k (p (i + 1)) := by
  unfold sideZ wyV dtV subV
  dsimp only
  grind
/-- between its ends an edge has the numbers between -/
theorem side_ends (p : Nat → P2) (i : Nat) (z : P2) : sideZ p i z = ((p (i + 1)).1 - z.1) * (z.2 - (p i).2) + (z.1 - (p i).1) * (z.2 - (p (i + 1)).2) := by
  unfold sideZ wyV dtV subV
  dsimp only
  grind
theorem neg_of_mul {a b : Int} (h : a * b < 0) (ha : a < 0) : 0 < b := by
  refine pos_of_mul (b := -a) ?_ (by omega)
  rw [Int.mul_neg, Int.mul_comm]
  omega
theorem nneg_of_mul {a b : Int} (h : a * b ≤ 0) (ha : a < 0) : 0 ≤ b := by
  refine nonneg_of_mul (b := -a) ?_ (by omega)
  rw [Int.mul_neg, Int.mul_comm]
  omega
structure Over (p : Nat → P2) (i j : Nat) (x : Int) : Prop where
  up : 0 < (wyV p i).1
  i1 : (p i).1 ≤ x
  i2 : x ≤ (p (i + 1)).1
  dn : (wyV p j).1 < 0
  j1 : (p (j + 1)).1 ≤ x
  j2 : x ≤ (p j).1
theorem Over.all {n : Nat} {p : Nat → P2} {i j : Nat} {z : P2} (o : Over p i j z.1) (h : ConvS n p) (a : 0 ≤ sideZ p i z) (b : 0 ≤ sideZ p j z) (k : Nat) : 0 ≤ sideZ p k z := by
  rcases Int.lt_or_le (wyV p k).1 0 with hk | hk
  · have e := side_mix p j k z
    have m1 := Int.mul_nonneg (show 0 ≤ -(wyV p k).1 by omega) b
    have m2 := Int.mul_nonneg (show 0 ≤ z.1 - (p (j + 1)).1 by have := o.j1; omega) (h.side0 k j)
    have m3 := Int.mul_nonneg (show 0 ≤ (p j).1 - z.1 by have := o.j2; omega) (h.side0 k (j + 1))
    refine nneg_of_mul (a := (wyV p j).1) ?_ o.dn
    have e1 : (p (j + 1)).1 - z.1 = -(z.1 - (p (j + 1)).1) := by omega
    have e2 : z.1 - (p j).1 = -((p j).1 - z.1) := by omega
    rw [e1, e2, Int.neg_mul, Int.neg_mul] at e
    rw [Int.neg_mul] at m1
    omega
  · have e := side_mix p i k z
    have m1 := Int.mul_nonneg hk a
    have m2 := Int.mul_nonneg (show 0 ≤ (p (i + 1)).1 - z.1 by have := o.i2; omega) (h.side0 k i)
    have m3 := Int.mul_nonneg (show 0 ≤ z.1 - (p i).1 by have := o.i1; omega) (h.side0 k (i + 1))
    refine nonneg_of_mul (b := (wyV p i).1) ?_ o.up
    rw [Int.mul_comm]
    omega
theorem Over.strict {n : Nat} {p : Nat → P2} {i j : Nat} {z : P2} (o : Over p i j z.1) (h : ConvS n p) (a : 0 < sideZ p i z) (b : 0 < sideZ p j z) (k : Nat) (hk0 : (wyV p k).1 ≠ 0) : 0 < sideZ p k z := by
  rcases Int.lt_or_le (wyV p k).1 0 with hk | hk
  · have e := side_mix p j k z
    have m1 := Int.mul_pos (show 0 < -(wyV p k).1 by omega) b
    have m2 := Int.mul_nonneg (show 0 ≤ z.1 - (p (j + 1)).1 by have := o.j1; omega) (h.side0 k j)
    have m3 := Int.mul_nonneg (show 0 ≤ (p j).1 - z.1 by have := o.j2; omega) (h.side0 k (j + 1))
    refine neg_of_mul (a := (wyV p j).1) ?_ o.dn
    have e1 : (p (j + 1)).1 - z.1 = -(z.1 - (p (j + 1)).1) := by omega
    have e2 : z.1 - (p j).1 = -((p j).1 - z.1) := by omega
    rw [e1, e2, Int.neg_mul, Int.neg_mul] at e
    rw [Int.neg_mul] at m1
    omega
  · have e := side_mix p i k z
    have m1 := Int.mul_pos (show 0 < (wyV p k).1 by omega) a
    have m2 := Int.mul_nonneg (show 0 ≤ (p (i + 1)).1 - z.1 by have := o.i2; omega) (h.side0 k i)
    have m3 := Int.mul_nonneg (show 0 ≤ z.1 - (p i).1 by have := o.i1; omega) (h.side0 k (i + 1))
    refine pos_of_mul (b := (wyV p i).1) ?_ o.up
    rw [Int.mul_comm]
    omega
theorem up_geP {p : Nat → P2} {i : Nat} {z : P2} (h : 0 < (wyV p i).1) : 0 ≤ sideZ p i z ↔ ceE (p i) (p (i + 1)) z.1 ≤ z.2 := by
  unfold wyV subV at h
  dsimp only at h
  have k := le_fl (n := (p (i + 1)).1 - (p i).1) (x := -(((p (i + 1)).2 - (p i).2) * (z.1 - (p i).1))) (q := (p i).2 - z.2) h
  have e : sideZ p i z = -(((p (i + 1)).2 - (p i).2) * (z.1 - (p i).1)) - ((p (i + 1)).1 - (p i).1) * ((p i).2 - z.2) := by
    unfold sideZ wyV dtV subV
    dsimp only
    grind
  unfold ceE
  rw [e]
  omega
theorem up_gt {p : Nat → P2} {i : Nat} {z : P2} (h : 0 < (wyV p i).1) : 0 < sideZ p i z ↔ flE (p i) (p (i + 1)) z.1 + 1 ≤ z.2 := by
  unfold wyV subV at h
  dsimp only at h
  have k := le_fl (n := (p (i + 1)).1 - (p i).1) (x := ((p (i + 1)).2 - (p i).2) * (z.1 - (p i).1)) (q := z.2 - (p i).2) h
  have e : sideZ p i z = ((p (i + 1)).1 - (p i).1) * (z.2 - (p i).2) - ((p (i + 1)).2 - (p i).2) * (z.1 - (p i).1) := by
    unfold sideZ wyV dtV subV
    dsimp only
  unfold flE
  rw [e]
  omega
theorem dn_ge {p : Nat → P2} {j : Nat} {z : P2} (h : (wyV p j).1 < 0) : 0 ≤ sideZ p j z ↔ z.2 ≤ flE (p (j + 1)) (p j) z.1 := by
  unfold wyV subV at h
  dsimp only at h
  have k := le_fl (n := (p j).1 - (p (j + 1)).1) (x := ((p j).2 - (p (j + 1)).2) * (z.1 - (p (j + 1)).1)) (q := z.2 - (p (j + 1)).2) (by omega)
  have e : sideZ p j z = ((p j).2 - (p (j + 1)).2) * (z.1 - (p (j + 1)).1) - ((p j).1 - (p (j + 1)).1) * (z.2 - (p (j + 1)).2) := by
    unfold sideZ wyV dtV subV
    dsimp only
    grind
  unfold flE
  rw [e]
  omega
theorem dn_gt {p : Nat → P2} {j : Nat} {z : P2} (h : (wyV p j).1 < 0) : 0 < sideZ p j z ↔ z.2 ≤ ceE (p (j + 1)) (p j) z.1 - 1 := by
  unfold wyV subV at h
  dsimp only at h
  have k := le_fl (n := (p j).1 - (p (j + 1)).1) (x := -(((p j).2 - (p (j + 1)).2) * (z.1 - (p (j + 1)).1))) (q := (p (j + 1)).2 - z.2) (by omega)
  have e : sideZ p j z = ((p j).1 - (p (j + 1)).1) * ((p (j + 1)).2 - z.2) + ((p j).2 - (p (j + 1)).2) * (z.1 - (p (j + 1)).1) := by
    unfold sideZ wyV dtV subV
    dsimp only
    grind
  unfold ceE
  rw [e]
  omega
def insB (p : Nat → P2) (n : Nat) (s : Int) (z : P2) : Bool := (List.range n).all fun k => decide (s ≤ sideZ p k z)
theorem ins_iff {p : Nat → P2} {n : Nat} {s : Int} {z : P2} : insB p n s z = true ↔ ∀ k, k < n → s ≤ sideZ p k z := by
  unfold insB
  rw [List.all_eq_true]
  simp
def colN (p : Nat → P2) (n : Nat) (s x b : Int) (H : Nat) : Int := sumI (fun t => if insB p n s (x, b + t) then 1 else 0) H
def InBox (p : Nat → P2) (b : Int) (H : Nat) : Prop := ∀ k, b ≤ (p k).2 ∧ (p k).2 ≤ b + H - 1
theorem Over.col0 {n : Nat} {p : Nat → P2} {i j : Nat} {x b : Int} {H : Nat} (o : Over p i j x) (h : ConvS n p) (hi : i < n) (hj : j < n) (hb : InBox p b H) :
    colN p n 0 x b H = flE (p (j + 1)) (p j) x - ceE (p i) (p (i + 1)) x + 1 := by
  have hu := o.up
  have hd := o.dn
  have := o.i1
  have := o.i2
  have := o.j1
  have := o.j2
  have e : colN p n 0 x b H = sumI (fun t => if ceE (p i) (p (i + 1)) x ≤ b + t ∧ b + t ≤ flE (p (j + 1)) (p j) x then 1 else 0) H := by
    unfold colN
    refine sumI_congr (fun t _ => ?_)
    have q : (insB p n 0 (x, b + t) = true) ↔ (ceE (p i) (p (i + 1)) x ≤ b + t ∧ b + t ≤ flE (p (j + 1)) (p j) x) := by
      rw [ins_iff]
      have a1 := up_geP (z := (x, b + (t : Int))) hu
      have a2 := dn_ge (z := (x, b + (t : Int))) hd
      constructor
      · intro k
        exact ⟨a1.1 (k i hi), a2.1 (k j hj)⟩
      · rintro ⟨k1, k2⟩ k _
        exact Over.all (z := (x, b + (t : Int))) o h (a1.2 k1) (a2.2 k2) k
    simp only [q]
  rw [e]
  unfold wyV subV at hu hd
  dsimp only at hu hd
  refine sum_run _ _ _ _ ?_ ?_ ?_
  · rcases Int.lt_or_le (ceE (p i) (p (i + 1)) x) b with k | k
    · exfalso
      have a := (up_geP (z := (x, b - 1)) o.up).2 (show ceE (p i) (p (i + 1)) x ≤ b - 1 by omega)
      rw [side_ends] at a
      dsimp only at a
      have b1 := (hb i).1
      have b2 := (hb (i + 1)).1
      have m1 := Int.mul_nonneg (show 0 ≤ (p (i + 1)).1 - x by omega) (show 0 ≤ (p i).2 - b by omega)
      have m2 := Int.mul_nonneg (show 0 ≤ x - (p i).1 by omega) (show 0 ≤ (p (i + 1)).2 - b by omega)
      have e2 : ((p (i + 1)).1 - x) * (b - 1 - (p i).2) + (x - (p i).1) * (b - 1 - (p (i + 1)).2) = -(((p (i + 1)).1 - x) * ((p i).2 - b)) - (x - (p i).1) * ((p (i + 1)).2 - b) - ((p (i + 1)).1 - (p i).1) := by grind
      omega
    · exact k
  · rcases Int.lt_or_le (b + H - 1) (flE (p (j + 1)) (p j) x) with k | k
    · exfalso
      have a := (dn_ge (z := (x, b + H)) o.dn).2 (show b + H ≤ flE (p (j + 1)) (p j) x by omega)
      rw [side_ends] at a
      dsimp only at a
      have b1 := (hb j).2
      have b2 := (hb (j + 1)).2
      have m1 := Int.mul_nonneg (show 0 ≤ x - (p (j + 1)).1 by omega) (show 0 ≤ b + H - 1 - (p j).2 by omega)
      have m2 := Int.mul_nonneg (show 0 ≤ (p j).1 - x by omega) (show 0 ≤ b + H - 1 - (p (j + 1)).2 by omega)
      have e2 : ((p (j + 1)).1 - x) * (b + H - (p j).2) + (x - (p j).1) * (b + H - (p (j + 1)).2) = -((x - (p (j + 1)).1) * (b + H - 1 - (p j).2)) - ((p j).1 - x) * (b + H - 1 - (p (j + 1)).2) - ((p j).1 - (p (j + 1)).1) := by grind
      omega
    · exact k
  · have a := (not_congr (dn_ge (z := (x, flE (p (j + 1)) (p j) x + 1)) o.dn)).2 (by dsimp only; omega)
    refine (up_geP (z := (x, flE (p (j + 1)) (p j) x + 1)) o.up).1 ?_
    have e2 := side_mix p i j (x, flE (p (j + 1)) (p j) x + 1)
    dsimp only at e2
    have m1 := Int.mul_nonneg (show 0 ≤ (p (i + 1)).1 - x by omega) (h.side0 j i)
    have m2 := Int.mul_nonneg (show 0 ≤ x - (p i).1 by omega) (h.side0 j (i + 1))
    have m3 := Int.mul_pos o.up (show 0 < -sideZ p j (x, flE (p (j + 1)) (p j) x + 1) by omega)
    rw [Int.mul_neg] at m3
    exact nneg_of_mul (a := (wyV p j).1) (by omega) o.dn
theorem Over.col1 {n : Nat} {p : Nat → P2} {i j : Nat} {x b : Int} {H : Nat} (o : Over p i j x) (h : ConvS n p) (hi : i < n) (hj : j < n) (hb : InBox p b H)
    (hv : ∀ k z, (wyV p k).1 = 0 → z.1 = x → 0 < sideZ p k z) (hs : 0 < ((p (i + 1)).1 - x) * sideZ p j (p i) + (x - (p i).1) * sideZ p j (p (i + 1))) :
    colN p n 1 x b H = ceE (p (j + 1)) (p j) x - flE (p i) (p (i + 1)) x - 1 := by
  have hu := o.up
  have hd := o.dn
  have := o.i1
  have := o.i2
  have := o.j1
  have := o.j2
  have e : colN p n 1 x b H = sumI (fun t => if flE (p i) (p (i + 1)) x + 1 ≤ b + t ∧ b + t ≤ ceE (p (j + 1)) (p j) x - 1 then 1 else 0) H := by
    unfold colN
    refine sumI_congr (fun t _ => ?_)
    have q : (insB p n 1 (x, b + t) = true) ↔ (flE (p i) (p (i + 1)) x + 1 ≤ b + t ∧ b + t ≤ ceE (p (j + 1)) (p j) x - 1) := by
      rw [ins_iff]
      have a1 := up_gt (z := (x, b + (t : Int))) hu
      have a2 := dn_gt (z := (x, b + (t : Int))) hd
      constructor
      · intro k
        exact ⟨a1.1 (by have := k i hi; omega), a2.1 (by have := k j hj; omega)⟩
      · rintro ⟨k1, k2⟩ k _
        by_cases k0 : (wyV p k).1 = 0
        · have := hv k (x, b + (t : Int)) k0 rfl
          omega
        · have := Over.strict (z := (x, b + (t : Int))) o h (a1.2 k1) (a2.2 k2) k k0
          omega
    simp only [q]
  rw [e]
  unfold wyV subV at hu hd
  dsimp only at hu hd
  have fin := sum_run b (flE (p i) (p (i + 1)) x + 1) (ceE (p (j + 1)) (p j) x - 1) H ?_ ?_ ?_
  · rw [fin]; omega
  · rcases Int.lt_or_le (flE (p i) (p (i + 1)) x + 1) b with k | k
    · exfalso
      have a := (up_gt (z := (x, b - 1)) o.up).2 (show flE (p i) (p (i + 1)) x + 1 ≤ b - 1 by omega)
      rw [side_ends] at a
      dsimp only at a
      have b1 := (hb i).1
      have b2 := (hb (i + 1)).1
      have m1 := Int.mul_nonneg (show 0 ≤ (p (i + 1)).1 - x by omega) (show 0 ≤ (p i).2 - b by omega)
      have m2 := Int.mul_nonneg (show 0 ≤ x - (p i).1 by omega) (show 0 ≤ (p (i + 1)).2 - b by omega)
      have e2 : ((p (i + 1)).1 - x) * (b - 1 - (p i).2) + (x - (p i).1) * (b - 1 - (p (i + 1)).2) = -(((p (i + 1)).1 - x) * ((p i).2 - b)) - (x - (p i).1) * ((p (i + 1)).2 - b) - ((p (i + 1)).1 - (p i).1) := by grind
      omega
    · exact k
  · rcases Int.lt_or_le (b + H - 1) (ceE (p (j + 1)) (p j) x - 1) with k | k
    · exfalso
      have a := (dn_gt (z := (x, b + H)) o.dn).2 (show b + H ≤ ceE (p (j + 1)) (p j) x - 1 by omega)
      rw [side_ends] at a
      dsimp only at a
      have b1 := (hb j).2
      have b2 := (hb (j + 1)).2
      have m1 := Int.mul_nonneg (show 0 ≤ x - (p (j + 1)).1 by omega) (show 0 ≤ b + H - 1 - (p j).2 by omega)
      have m2 := Int.mul_nonneg (show 0 ≤ (p j).1 - x by omega) (show 0 ≤ b + H - 1 - (p (j + 1)).2 by omega)
      have e2 : ((p (j + 1)).1 - x) * (b + H - (p j).2) + (x - (p j).1) * (b + H - (p (j + 1)).2) = -((x - (p (j + 1)).1) * (b + H - 1 - (p j).2)) - ((p j).1 - x) * (b + H - 1 - (p (j + 1)).2) - ((p j).1 - (p (j + 1)).1) := by grind
      omega
    · exact k
  · have a := (not_congr (dn_gt (z := (x, ceE (p (j + 1)) (p j) x)) o.dn)).2 (by dsimp only; omega)
    have g := (up_gt (z := (x, ceE (p (j + 1)) (p j) x)) o.up).1 ?_
    · dsimp only at g; omega
    have e2 := side_mix p i j (x, ceE (p (j + 1)) (p j) x)
    dsimp only at e2
    have m3 := Int.mul_nonneg (Int.le_of_lt o.up) (show 0 ≤ -sideZ p j (x, ceE (p (j + 1)) (p j) x) by omega)
    rw [Int.mul_neg] at m3
    exact neg_of_mul (a := (wyV p j).1) (by omega) o.dn
/-! all columns -/
def covZ (p : Nat → P2) (f g : P2 → P2 → Int → Int) (k : Nat) (x : Int) : Int :=
  (if (wyV p k).1 < 0 ∧ (p (k + 1)).1 ≤ x ∧ x < (p k).1 then f (p (k + 1)) (p k) x else 0) + (-1) * (if 0 < (wyV p k).1 ∧ (p k).1 ≤ x ∧ x < (p (k + 1)).1 then g (p k) (p (k + 1)) x else 0)
theorem find_step (s : Nat → Int) (x : Int) : ∀ m, s 0 ≤ x → x < s m → ∃ i, i < m ∧ s i ≤ x ∧ x < s (i + 1) := by
  intro m
  induction m with
  | zero => intro h1 h2; omega
  | succ m ih =>
    intro h1 h2
    rcases Int.lt_or_le x (s m) with k | k
    · obtain ⟨i, a, b⟩ := ih h1 k
      exact ⟨i, by omega, b⟩
    · exact ⟨m, by omega, k, h2⟩
theorem Arcs.cover {n m : Nat} {p : Nat → P2} (h : Arcs n p m) (hc : ConvS n p) {x : Int} (h0 : (p 0).1 ≤ x) (h1 : x < (p m).1) :
    ∃ i j, i < m ∧ m ≤ j ∧ j < n ∧ (p i).1 ≤ x ∧ x < (p (i + 1)).1 ∧ (p (j + 1)).1 ≤ x ∧ x < (p j).1 ∧ ∀ f g, sumI (fun k => covZ p f g k x) n = f (p (j + 1)) (p j) x - g (p i) (p (i + 1)) x := by
  have hpn : p n = p 0 := by rw [show n = 0 + n by omega, hc.per]
  obtain ⟨i, hi, i1, i2⟩ := find_step (fun t => (p t).1) x m h0 h1
  obtain ⟨t, ht, t1, t2⟩ := find_step (fun t => (p (n - t)).1) x (n - m) (by show (p (n - 0)).1 ≤ x; rw [Nat.sub_zero, hpn]; exact h0) (by show x < (p (n - (n - m))).1; rw [show n - (n - m) = m by have := h.lt; omega]; exact h1)
  have hl := h.lt
  obtain ⟨j, hj⟩ : ∃ j, j + 1 = n - t := ⟨n - t - 1, by omega⟩
  rw [← hj] at t1
  rw [show n - (t + 1) = j by omega] at t2
  refine ⟨i, j, hi, by omega, by omega, i1, i2, t1, t2, fun f g => ?_⟩
  have w1 : 0 < (wyV p i).1 := by unfold wyV subV; dsimp only; omega
  have w2 : (wyV p j).1 < 0 := by unfold wyV subV; dsimp only; omega
  unfold covZ
  rw [sumI_add, sumI_mul]
  rw [sumI_one (k := j) (by omega), sumI_one (k := i) (by omega)]
  · rw [if_pos ⟨w2, t1, t2⟩, if_pos ⟨w1, i1, i2⟩]
    omega
  · intro k hk hne
    rw [if_neg]
    rintro ⟨a, b, c⟩
    have hkm : k < m := by
      rcases Nat.lt_or_ge k m with q | q
      · exact q
      · have := h.down k q hk
        unfold lexV wyV subV at *
        dsimp only at *
        omega
    rcases Nat.lt_or_ge k i with q | q
    · have := h.up_le i (k + 1) (by omega) (by omega)
      omega
    · have := h.up_le k (i + 1) (by omega) (by omega)
      omega
  · intro k hk hne
    rw [if_neg]
    rintro ⟨a, b, c⟩
    have hkm : m ≤ k := by
      rcases Nat.lt_or_ge k m with q | q
      · have := h.up k q
        unfold lexV wyV subV at *
        dsimp only at *
        omega
      · exact q
    rcases Nat.lt_or_ge k j with q | q
    · have := h.down_le j (k + 1) (by omega) (by omega) (by omega)
      omega
    · have := h.down_le k (j + 1) (by omega) (by omega) (by omega)
      omega
theorem sum_window (g : Int → Int) (x0 lo hi : Int) (W : Nat) (h1 : x0 ≤ lo) (h2 : lo ≤ hi) (h3 : hi ≤ x0 + W) :
    sumI (fun s => if lo ≤ x0 + s ∧ x0 + s < hi then g (x0 + s) else 0) W = sumI (fun t => g (lo + t)) (hi - lo).toNat := by
  obtain ⟨a, ha⟩ : ∃ a : Nat, lo = x0 + a := ⟨(lo - x0).toNat, by omega⟩
  obtain ⟨d, hd⟩ : ∃ d : Nat, hi = lo + d := ⟨(hi - lo).toNat, by omega⟩
  obtain ⟨r, rfl⟩ : ∃ r, W = a + d + r := ⟨W - a - d, by omega⟩
  rw [sumI_split, sumI_split, show (hi - lo).toNat = d by omega]
  have e1 : sumI (fun s : Nat => if lo ≤ x0 + s ∧ x0 + s < hi then g (x0 + s) else 0) a = 0 := sumI_zero (fun i hi' => by rw [if_neg (by omega)])
  have e2 : sumI (fun i : Nat => if lo ≤ x0 + ((a + d + i : Nat) : Int) ∧ x0 + ((a + d + i : Nat) : Int) < hi then g (x0 + ((a + d + i : Nat) : Int)) else 0) r = 0 := sumI_zero (fun i hi' => by rw [if_neg (by omega)])
  rw [e1, e2]
  have e3 : sumI (fun i : Nat => if lo ≤ x0 + ((a + i : Nat) : Int) ∧ x0 + ((a + i : Nat) : Int) < hi then g (x0 + ((a + i : Nat) : Int)) else 0) d = sumI (fun t : Nat => g (lo + t)) d := sumI_congr (fun i hi' => by
    rw [if_pos (by omega), show x0 + ((a + i : Nat) : Int) = lo + i by omega])
  rw [e3]
  omega
def totZ (p : Nat → P2) (f g : P2 → P2 → Int → Int) (k : Nat) : Int :=
  if (wyV p k).1 < 0 then sumI (fun t => f (p (k + 1)) (p k) ((p (k + 1)).1 + t)) ((p k).1 - (p (k + 1)).1).toNat
  else if 0 < (wyV p k).1 then -sumI (fun t => g (p k) (p (k + 1)) ((p k).1 + t)) ((p (k + 1)).1 - (p k).1).toNat else 0
theorem cover_total {n : Nat} {p : Nat → P2} {x0 : Int} {W : Nat} (hx : ∀ k, x0 ≤ (p k).1 ∧ (p k).1 ≤ x0 + W) (f g : P2 → P2 → Int → Int) :
    sumI (fun s => sumI (fun k => covZ p f g k (x0 + s)) n) W = sumI (totZ p f g) n := by
  rw [sumI_swap]
  refine sumI_congr (fun k _ => ?_)
  have a := hx k
  have b := hx (k + 1)
  unfold covZ totZ
  rw [sumI_add, sumI_mul]
  have ew : (wyV p k).1 = (p (k + 1)).1 - (p k).1 := rfl
  by_cases h1 : (wyV p k).1 < 0
  · have z : sumI (fun s : Nat => if 0 < (wyV p k).1 ∧ (p k).1 ≤ x0 + s ∧ x0 + s < (p (k + 1)).1 then g (p k) (p (k + 1)) (x0 + s) else 0) W = 0 := sumI_zero (fun i _ => by rw [if_neg (by omega)])
    rw [z, if_pos h1]
    have := sum_window (f (p (k + 1)) (p k)) x0 (p (k + 1)).1 (p k).1 W (by omega) (by omega) (by omega)
    rw [← this]
    simp only [h1, true_and]
    omega
  · have z : sumI (fun s : Nat => if (wyV p k).1 < 0 ∧ (p (k + 1)).1 ≤ x0 + s ∧ x0 + s < (p k).1 then f (p (k + 1)) (p k) (x0 + s) else 0) W = 0 := sumI_zero (fun i _ => by rw [if_neg (by omega)])
    rw [z, if_neg h1]
    by_cases h2 : 0 < (wyV p k).1
    · rw [if_pos h2]
      have := sum_window (g (p k) (p (k + 1))) x0 (p k).1 (p (k + 1)).1 W (by omega) (by omega) (by omega)
      rw [← this]
      simp only [h2, true_and]
      omega
    · rw [if_neg h2]
      have z2 : sumI (fun s : Nat => if 0 < (wyV p k).1 ∧ (p k).1 ≤ x0 + s ∧ x0 + s < (p (k + 1)).1 then g (p k) (p (k + 1)) (x0 + s) else 0) W = 0 := sumI_zero (fun i _ => by rw [if_neg (by omega)])
      rw [z2]
      rfl
/-- twice the area, the vectors on the edges, as sums over the edges -/
def areaI (p : Nat → P2) (n : Nat) : Int := sumI (fun k => dtV (p k) (p (k + 1))) n
def edgeI (p : Nat → P2) (n : Nat) : Int := sumI (fun k => (Int.gcd (wyV p k).1 (wyV p k).2 : Int)) n
theorem sum_tele (f : Nat → Int) (n : Nat) : sumI (fun k => f (k + 1) - f k) n = f n - f 0 := by
  induction n with
  | zero => simp [sumI]
  | succ n ih => rw [sumI_succ, ih]; omega
theorem area_trap {n : Nat} {p : Nat → P2} (h : p n = p 0) : sumI (fun k => -((wyV p k).1 * ((p k).2 + (p (k + 1)).2))) n = areaI p n := by
  have t := sum_tele (fun k => (p k).1 * (p k).2) n
  rw [h] at t
  have e : sumI (fun k => -((wyV p k).1 * ((p k).2 + (p (k + 1)).2))) n + sumI (fun k => (p (k + 1)).1 * (p (k + 1)).2 - (p k).1 * (p k).2) n = areaI p n := by
    rw [← sumI_add]
    refine sumI_congr (fun k _ => ?_)
    unfold wyV subV dtV
    dsimp only
    grind
  omega
def absZ (a : Int) : Int := max a (-a)
theorem gcd_zero (b : Int) : (Int.gcd 0 b : Int) = absZ b := by unfold absZ; rw [Int.gcd_zero_left]; omega
def vuZ (p : Nat → P2) (k : Nat) : Int := if (wyV p k).1 = 0 then (wyV p k).2 + absZ (wyV p k).2 else 0
def vdZ (p : Nat → P2) (k : Nat) : Int := if (wyV p k).1 = 0 then (wyV p k).2 - absZ (wyV p k).2 else 0
theorem tot0 (p : Nat → P2) (k : Nat) : 2 * totZ p flE ceE k = -((wyV p k).1 * ((p k).2 + (p (k + 1)).2)) + (wyV p k).2 + Int.gcd (wyV p k).1 (wyV p k).2 - absZ (wyV p k).1 - vuZ p k := by
  have ew : (wyV p k).1 = (p (k + 1)).1 - (p k).1 := rfl
  have ew2 : (wyV p k).2 = (p (k + 1)).2 - (p k).2 := rfl
  unfold totZ vuZ
  by_cases h1 : (wyV p k).1 < 0
  · rw [if_pos h1, if_neg (by omega)]
    obtain ⟨N, hN⟩ : ∃ N : Nat, (p k).1 - (p (k + 1)).1 = N := ⟨((p k).1 - (p (k + 1)).1).toNat, by omega⟩
    have := flE_sum (p (k + 1)) (p k) N (by omega) hN
    rw [show ((p k).1 - (p (k + 1)).1).toNat = N by omega, this]
    have eg : Int.gcd ((p k).2 - (p (k + 1)).2) N = Int.gcd (wyV p k).1 (wyV p k).2 := by
      rw [show (wyV p k).1 = -(N : Int) by omega, show (wyV p k).2 = -((p k).2 - (p (k + 1)).2) by omega, Int.neg_gcd, Int.gcd_neg, Int.gcd_comm]
    rw [eg]
    have ea : absZ (wyV p k).1 = N := by unfold absZ; omega
    rw [ea]
    generalize ((Int.gcd (wyV p k).1 (wyV p k).2 : Nat) : Int) = g
    have : (wyV p k).1 * ((p k).2 + (p (k + 1)).2) = -((N : Int) * ((p (k + 1)).2 + (p k).2)) := by rw [show (wyV p k).1 = -(N : Int) by omega]; grind
    omega
  · rw [if_neg h1]
    by_cases h2 : 0 < (wyV p k).1
    · rw [if_pos h2, if_neg (by omega)]
      obtain ⟨N, hN⟩ : ∃ N : Nat, (p (k + 1)).1 - (p k).1 = N := ⟨((p (k + 1)).1 - (p k).1).toNat, by omega⟩
      have := ceE_sum (p k) (p (k + 1)) N (by omega) hN
      rw [show ((p (k + 1)).1 - (p k).1).toNat = N by omega, Int.mul_neg, this]
      have eg : Int.gcd ((p (k + 1)).2 - (p k).2) N = Int.gcd (wyV p k).1 (wyV p k).2 := by
        rw [show (wyV p k).1 = (N : Int) by omega, ew2, Int.gcd_comm]
      rw [eg]
      have ea : absZ (wyV p k).1 = N := by unfold absZ; omega
      rw [ea, show (wyV p k).1 = (N : Int) by omega]
      generalize ((Int.gcd (N : Int) (wyV p k).2 : Nat) : Int) = g
      omega
    · have h0 : (wyV p k).1 = 0 := by omega
      rw [if_neg h2, if_pos h0, h0, gcd_zero]
      unfold absZ
      omega
theorem tot1 (p : Nat → P2) (k : Nat) : 2 * totZ p ceE flE k = -((wyV p k).1 * ((p k).2 + (p (k + 1)).2)) + (wyV p k).2 - Int.gcd (wyV p k).1 (wyV p k).2 + absZ (wyV p k).1 - vdZ p k := by
  have ew : (wyV p k).1 = (p (k + 1)).1 - (p k).1 := rfl
  have ew2 : (wyV p k).2 = (p (k + 1)).2 - (p k).2 := rfl
  unfold totZ vdZ
  by_cases h1 : (wyV p k).1 < 0
  · rw [if_pos h1, if_neg (by omega)]
    obtain ⟨N, hN⟩ : ∃ N : Nat, (p k).1 - (p (k + 1)).1 = N := ⟨((p k).1 - (p (k + 1)).1).toNat, by omega⟩
    have := ceE_sum (p (k + 1)) (p k) N (by omega) hN
    rw [show ((p k).1 - (p (k + 1)).1).toNat = N by omega, this]
    have eg : Int.gcd ((p k).2 - (p (k + 1)).2) N = Int.gcd (wyV p k).1 (wyV p k).2 := by
      rw [show (wyV p k).1 = -(N : Int) by omega, show (wyV p k).2 = -((p k).2 - (p (k + 1)).2) by omega, Int.neg_gcd, Int.gcd_neg, Int.gcd_comm]
    rw [eg]
    have ea : absZ (wyV p k).1 = N := by unfold absZ; omega
    rw [ea]
    generalize ((Int.gcd (wyV p k).1 (wyV p k).2 : Nat) : Int) = g
    have : (wyV p k).1 * ((p k).2 + (p (k + 1)).2) = -((N : Int) * ((p (k + 1)).2 + (p k).2)) := by rw [show (wyV p k).1 = -(N : Int) by omega]; grind
    omega
  · rw [if_neg h1]
    by_cases h2 : 0 < (wyV p k).1
    · rw [if_pos h2, if_neg (by omega)]
      obtain ⟨N, hN⟩ : ∃ N : Nat, (p (k + 1)).1 - (p k).1 = N := ⟨((p (k + 1)).1 - (p k).1).toNat, by omega⟩
      have := flE_sum (p k) (p (k + 1)) N (by omega) hN
      rw [show ((p (k + 1)).1 - (p k).1).toNat = N by omega, Int.mul_neg, this]
      have eg : Int.gcd ((p (k + 1)).2 - (p k).2) N = Int.gcd (wyV p k).1 (wyV p k).2 := by
        rw [show (wyV p k).1 = (N : Int) by omega, ew2, Int.gcd_comm]
      rw [eg]
      have ea : absZ (wyV p k).1 = N := by unfold absZ; omega
      rw [ea, show (wyV p k).1 = (N : Int) by omega]
      generalize ((Int.gcd (N : Int) (wyV p k).2 : Nat) : Int) = g
      omega
    · have h0 : (wyV p k).1 = 0 := by omega
      rw [if_neg h2, if_pos h0, h0, gcd_zero]
      unfold absZ
      omega
theorem sum_abs {n m : Nat} {p : Nat → P2} (h : Arcs n p m) (hc : ConvS n p) : sumI (fun k => absZ (wyV p k).1) n = 2 * ((p m).1 - (p 0).1) := by
  have hpn : p n = p 0 := by rw [show n = 0 + n by omega, hc.per]
  obtain ⟨r, hr⟩ : ∃ r, n = m + r := ⟨n - m, by have := h.lt; omega⟩
  rw [hr, sumI_split]
  have e1 : sumI (fun k => absZ (wyV p k).1) m = sumI (fun k => (p (k + 1)).1 - (p k).1) m := sumI_congr (fun k hk => by
    have := h.up k hk
    unfold lexV wyV subV at this
    unfold absZ wyV subV
    dsimp only at *
    omega)
  have e2 : sumI (fun k => absZ (wyV p (m + k)).1) r = sumI (fun k => (fun k => -(p (m + k)).1) (k + 1) - (fun k => -(p (m + k)).1) k) r := sumI_congr (fun k hk => by
    have := h.down (m + k) (by omega) (by omega)
    unfold lexV subV at this
    unfold absZ wyV subV
    dsimp only at *
    rw [← Nat.add_assoc]
    omega)
  have e3 := sum_tele (fun k => -(p (m + k)).1) r
  have e4 := sum_tele (fun k => (p k).1) m
  rw [Nat.add_zero, ← hr, hpn] at e3
  rw [e1, e2, e3, e4]
  omega
theorem sum_dy {n : Nat} {p : Nat → P2} (h : p n = p 0) : sumI (fun k => (wyV p k).2) n = 0 := by
  have := sum_tele (fun k => (p k).2) n
  rw [h] at this
  have e : sumI (fun k => (wyV p k).2) n = sumI (fun k => (p (k + 1)).2 - (p k).2) n := rfl
  rw [e, this]
  omega
theorem sums0 {n m : Nat} {p : Nat → P2} (h : Arcs n p m) (hc : ConvS n p) : 2 * sumI (totZ p flE ceE) n = areaI p n + edgeI p n - 2 * ((p m).1 - (p 0).1) - sumI (vuZ p) n := by
  have hpn : p n = p 0 := by rw [show n = 0 + n by omega, hc.per]
  rw [← sumI_mul, ← sum_abs h hc, ← area_trap hpn]
  have e : sumI (fun k => 2 * totZ p flE ceE k) n = sumI (fun k => (-((wyV p k).1 * ((p k).2 + (p (k + 1)).2)) + (wyV p k).2) + ((Int.gcd (wyV p k).1 (wyV p k).2 : Int) + ((-1) * absZ (wyV p k).1 + (-1) * vuZ p k))) n := sumI_congr (fun k _ => by
    rw [tot0]
    omega)
  rw [e, sumI_add, sumI_add, sumI_add, sumI_add, sumI_mul, sumI_mul, sum_dy hpn]
  unfold edgeI
  have : sumI (fun i => vuZ p i) n = sumI (vuZ p) n := rfl
  omega
theorem sums1 {n m : Nat} {p : Nat → P2} (h : Arcs n p m) (hc : ConvS n p) : 2 * sumI (totZ p ceE flE) n = areaI p n - edgeI p n + 2 * ((p m).1 - (p 0).1) - sumI (vdZ p) n := by
  have hpn : p n = p 0 := by rw [show n = 0 + n by omega, hc.per]
  rw [← sumI_mul, ← sum_abs h hc, ← area_trap hpn]
  have e : sumI (fun k => 2 * totZ p ceE flE k) n = sumI (fun k => (-((wyV p k).1 * ((p k).2 + (p (k + 1)).2)) + (wyV p k).2) + ((-1) * (Int.gcd (wyV p k).1 (wyV p k).2 : Int) + (absZ (wyV p k).1 + (-1) * vdZ p k))) n := sumI_congr (fun k _ => by
    rw [tot1]
    omega)
  rw [e, sumI_add, sumI_add, sumI_add, sumI_add, sumI_mul, sumI_mul, sum_dy hpn]
  unfold edgeI
  have : sumI (fun i => vdZ p i) n = sumI (vdZ p) n := rfl
  omega
/-! Pick -/
theorem side_vert {p : Nat → P2} {k : Nat} {z : P2} (h : (wyV p k).1 = 0) : sideZ p k z = (wyV p k).2 * ((p k).1 - z.1) := by
  unfold sideZ dtV subV
  dsimp only
  rw [h]
  grind
theorem nonneg_right {a b : Int} (h : 0 ≤ a * b) (ha : 0 < a) : 0 ≤ b := nonneg_of_mul (b := a) (by rw [Int.mul_comm]; exact h) ha
theorem Arcs.range {n m : Nat} {p : Nat → P2} (h : Arcs n p m) (hc : ConvS n p) (k : Nat) : (p 0).1 ≤ (p k).1 ∧ (p k).1 ≤ (p m).1 := by
  have hpn : p n = p 0 := by rw [show n = 0 + n by omega, hc.per]
  have hk := Nat.mod_lt k (show 0 < n by have := h.lt; omega)
  have hl := h.lt
  rw [← hc.mod k]
  generalize k % n = k at *
  rcases Nat.lt_or_ge k m with q | q
  · exact ⟨h.up_le k 0 (by omega) (by omega), h.up_le m k (by omega) (by omega)⟩
  · have a := h.down_le n k (by omega) (by omega) (by omega)
    rw [hpn] at a
    exact ⟨a, h.down_le k m (by omega) (by omega) (by omega)⟩
theorem Arcs.wide {n m : Nat} {p : Nat → P2} (h : Arcs n p m) (hc : ConvS n p) : (p 0).1 < (p m).1 := by
  have a := h.first hc
  have b := h.up_le m 1 (by have := h.pos; omega) (by omega)
  unfold wyV subV at a
  rw [Nat.zero_add] at a
  dsimp only at a
  omega
theorem flE_left (u v : P2) : flE u v u.1 = u.2 := by unfold flE; simp
theorem ceE_left (u v : P2) : ceE u v u.1 = u.2 := by unfold ceE; simp
theorem flE_right {u v : P2} (h : u.1 < v.1) : flE u v v.1 = v.2 := by
  unfold flE
  rw [Int.mul_ediv_cancel _ (by omega)]
  omega
theorem ceE_right {u v : P2} (h : u.1 < v.1) : ceE u v v.1 = v.2 := by
  unfold ceE
  rw [← Int.neg_mul, Int.mul_ediv_cancel _ (by omega)]
  omega
def pickN (p : Nat → P2) (n : Nat) (s b : Int) (W H : Nat) : Int := sumI (fun a => colN p n s ((p 0).1 + a) b H) W
theorem last0 {n m : Nat} {p : Nat → P2} {b : Int} {H : Nat} (h : Arcs n p m) (hc : ConvS n p) (hb : InBox p b H) : 2 * colN p n 0 (p m).1 b H = sumI (vuZ p) n + 2 := by
  have hl := h.lt
  have hp := h.pos
  have ht := h.top hc
  have hf := h.first hc
  have ht' : (p (m + 1)).1 < (p m).1 := by unfold wyV subV at ht; dsimp only at ht; omega
  have down0 : ∀ k, m ≤ k → k < n → vuZ p k = 0 := by
    intro k h1 h2
    have := h.down k h1 h2
    unfold vuZ
    split
    · next e =>
      unfold lexV wyV subV at *
      dsimp only at *
      unfold absZ
      omega
    · rfl
  have em : m - 1 + 1 = m := by omega
  have hup := h.up (m - 1) (by omega)
  by_cases h0 : (wyV p (m - 1)).1 = 0
  · have hm2 : 2 ≤ m := by
      rcases Nat.lt_or_ge m 2 with q | q
      · exfalso
        obtain rfl : m = 1 := by omega
        rw [show 1 - 1 = 0 from rfl] at h0
        omega
      · exact q
    have em2 : m - 2 + 1 = m - 1 := by omega
    have hup2 := h.up (m - 2) (by omega)
    have h2 : 0 < (wyV p (m - 2)).1 := by
      unfold lexV at hup2
      rcases hup2 with a | ⟨a, _⟩
      · exact a
      · have := h.vert hc (show m - 2 < m by omega) a
        omega
    have hx : (p (m - 1)).1 = (p m).1 := by
      unfold wyV subV at h0
      rw [em] at h0
      dsimp only at h0
      omega
    have hx2 : (p (m - 2)).1 < (p (m - 1)).1 := by
      unfold wyV subV at h2
      rw [em2] at h2
      dsimp only at h2
      omega
    have o : Over p (m - 2) m (p m).1 := ⟨h2, by omega, by rw [em2]; omega, ht, by omega, Int.le_refl _⟩
    rw [o.col0 hc (by omega) hl hb, flE_right ht', em2, ← hx, ceE_right hx2]
    rw [sumI_one (k := m - 1) (by omega)]
    · unfold vuZ absZ
      rw [if_pos h0]
      unfold lexV at hup
      unfold wyV subV at *
      rw [em] at *
      dsimp only at *
      omega
    · intro k hk hne
      rcases Nat.lt_or_ge k m with q | q
      · unfold vuZ
        rw [if_neg]
        intro e
        have := h.vert hc q e
        omega
      · exact down0 k q hk
  · have h2 : 0 < (wyV p (m - 1)).1 := by
      unfold lexV at hup
      omega
    have hx2 : (p (m - 1)).1 < (p m).1 := by
      unfold wyV subV at h2
      rw [em] at h2
      dsimp only at h2
      omega
    have o : Over p (m - 1) m (p m).1 := ⟨h2, by omega, by rw [em]; exact Int.le_refl _, ht, by omega, Int.le_refl _⟩
    rw [o.col0 hc (by omega) hl hb, flE_right ht', em, ceE_right hx2]
    rw [sumI_zero]
    · omega
    · intro k hk
      rcases Nat.lt_or_ge k m with q | q
      · unfold vuZ
        rw [if_neg]
        intro e
        have e2 := h.vert hc q e
        rw [show k = m - 1 by omega] at e
        exact h0 e
      · exact down0 k q hk
/-- the vectors of a polygon, its edges among them -/
theorem pick0 {n m : Nat} {p : Nat → P2} {b : Int} {W H : Nat} (h : Arcs n p m) (hc : ConvS n p) (hb : InBox p b H) (hW : (p m).1 - (p 0).1 = W) : 2 * pickN p n 0 b (W + 1) H = areaI p n + edgeI p n + 2 := by
  have hl := h.lt
  have hx : ∀ k, (p 0).1 ≤ (p k).1 ∧ (p k).1 ≤ (p 0).1 + W := fun k => by
    have := h.range hc k
    omega
  unfold pickN
  rw [sumI_succ]
  have e1 : sumI (fun a : Nat => colN p n 0 ((p 0).1 + a) b H) W = sumI (fun s : Nat => sumI (fun k => covZ p flE ceE k ((p 0).1 + s)) n + 1) W := sumI_congr (fun a ha => by
    obtain ⟨i, j, hi, hj, hjn, i1, i2, j1, j2, hs⟩ := h.cover hc (x := (p 0).1 + a) (by omega) (by omega)
    rw [hs]
    have o : Over p i j ((p 0).1 + a) := ⟨by unfold wyV subV; dsimp only; omega, i1, by omega, by unfold wyV subV; dsimp only; omega, j1, by omega⟩
    exact o.col0 hc (by omega) hjn hb)
  rw [e1, sumI_add, sumI_const, cover_total hx]
  have a := sums0 h hc
  have c := last0 h hc hb
  rw [show (p 0).1 + (W : Int) = (p m).1 by omega]
  omega
theorem first1 {n m : Nat} {p : Nat → P2} {b : Int} {H : Nat} (h : Arcs n p m) (hc : ConvS n p) : colN p n 1 (p 0).1 b H = 0 := by
  have hpn : p n = p 0 := by rw [show n = 0 + n by omega, hc.per]
  have hl := h.lt
  have hp := h.pos
  have hf := h.first hc
  have en : n - 1 + 1 = n := by omega
  unfold colN
  refine sumI_zero (fun t _ => ?_)
  rw [if_neg]
  rw [ins_iff]
  intro k
  have a := (up_gt (z := ((p 0).1, b + (t : Int))) hf).1 (by have := k 0 (by omega); omega)
  have k2 := k (n - 1) (by omega)
  have d := h.down (n - 1) (by omega) (by omega)
  rw [flE_left] at a
  dsimp only at a
  by_cases h0 : (wyV p (n - 1)).1 = 0
  · rw [side_vert h0] at k2
    dsimp only at k2
    have : (p (n - 1)).1 = (p 0).1 := by
      unfold wyV subV at h0
      rw [en, hpn] at h0
      dsimp only at h0
      omega
    rw [this, Int.sub_self, Int.mul_zero] at k2
    omega
  · have hd : (wyV p (n - 1)).1 < 0 := by
      unfold lexV at d
      unfold wyV subV at *
      dsimp only at *
      omega
    have c := (dn_gt (z := ((p 0).1, b + (t : Int))) hd).1 (by omega)
    rw [en, hpn] at c
    dsimp only at c
    rw [ceE_left] at c
    omega
theorem last1 {n m : Nat} {p : Nat → P2} {b : Int} {H : Nat} (h : Arcs n p m) (hc : ConvS n p) : colN p n 1 (p m).1 b H = 0 := by
  have hl := h.lt
  have hp := h.pos
  have ht := h.top hc
  have ht' : (p (m + 1)).1 < (p m).1 := by unfold wyV subV at ht; dsimp only at ht; omega
  have em : m - 1 + 1 = m := by omega
  unfold colN
  refine sumI_zero (fun t _ => ?_)
  rw [if_neg]
  rw [ins_iff]
  intro k
  have a := (dn_gt (z := ((p m).1, b + (t : Int))) ht).1 (by have := k m hl; omega)
  have k2 := k (m - 1) (by omega)
  have d := h.up (m - 1) (by omega)
  dsimp only at a
  rw [ceE_right ht'] at a
  by_cases h0 : (wyV p (m - 1)).1 = 0
  · rw [side_vert h0] at k2
    dsimp only at k2
    have : (p (m - 1)).1 = (p m).1 := by
      unfold wyV subV at h0
      rw [em] at h0
      dsimp only at h0
      omega
    rw [this, Int.sub_self, Int.mul_zero] at k2
    omega
  · have hd : 0 < (wyV p (m - 1)).1 := by
      unfold lexV at d
      omega
    have c := (up_gt (z := ((p m).1, b + (t : Int))) hd).1 (by omega)
    rw [em] at c
    dsimp only at c
    have hx2 : (p (m - 1)).1 < (p m).1 := by
      unfold wyV subV at hd
      rw [em] at hd
      dsimp only at hd
      omega
    rw [flE_right hx2] at c
    omega
theorem start1 {n m : Nat} {p : Nat → P2} (h : Arcs n p m) (hc : ConvS n p) : 2 * sumI (fun k => covZ p ceE flE k (p 0).1) n = -sumI (vdZ p) n := by
  have hpn : p n = p 0 := by rw [show n = 0 + n by omega, hc.per]
  have hl := h.lt
  have hf := h.first hc
  obtain ⟨i, j, hi, hj, hjn, i1, i2, j1, j2, hs⟩ := h.cover hc (x := (p 0).1) (Int.le_refl _) (h.wide hc)
  rw [hs]
  have i0 : i = 0 := by
    rcases Nat.eq_zero_or_pos i with q | q
    · exact q
    · have := h.up_le i 1 (by omega) (by omega)
      unfold wyV subV at hf
      rw [Nat.zero_add] at hf
      dsimp only at hf
      omega
  subst i0
  have hr := h.range hc (j + 1)
  have ej : (p (j + 1)).1 = (p 0).1 := by omega
  rw [flE_left]
  conv => lhs; rw [← ej, ceE_left]
  have up0 : ∀ k, k < m → vdZ p k = 0 := by
    intro k h1
    have := h.up k h1
    unfold vdZ
    split
    · next e =>
      unfold lexV at this
      unfold absZ
      omega
    · rfl
  by_cases e : j + 1 = n
  · rw [e, hpn, sumI_zero]
    · omega
    · intro k hk
      rcases Nat.lt_or_ge k m with q | q
      · exact up0 k q
      · unfold vdZ
        rw [if_neg]
        intro z
        have := h.vert' hc q hk z
        obtain rfl : k = j := by omega
        unfold wyV subV at z
        dsimp only at z
        omega
  · have z0 : (wyV p (j + 1)).1 = 0 := by
      have a := h.down_le (j + 1 + 1) (j + 1) (by omega) (by omega) (by omega)
      have c := h.range hc (j + 1 + 1)
      unfold wyV subV
      dsimp only
      omega
    have e2 := h.vert' hc (show m ≤ j + 1 by omega) (by omega) z0
    rw [sumI_one (k := j + 1) (by omega)]
    · have d := h.down (j + 1) (by omega) (by omega)
      unfold vdZ absZ
      rw [if_pos z0]
      unfold lexV at d
      unfold wyV subV at *
      rw [e2, hpn] at *
      dsimp only at *
      omega
    · intro k hk hne
      rcases Nat.lt_or_ge k m with q | q
      · exact up0 k q
      · unfold vdZ
        rw [if_neg]
        intro z
        have := h.vert' hc q hk z
        omega
/-- the inner vectors of a polygon -/
theorem pick1 {n m : Nat} {p : Nat → P2} {b : Int} {W H : Nat} (h : Arcs n p m) (hc : ConvS n p) (hb : InBox p b H) (hW : (p m).1 - (p 0).1 = W) : 2 * pickN p n 1 b (W + 1) H = areaI p n - edgeI p n + 2 := by
  have hl := h.lt
  have h3 := hc.three
  have hw := h.wide hc
  have hx : ∀ k, (p 0).1 ≤ (p k).1 ∧ (p k).1 ≤ (p 0).1 + W := fun k => by
    have := h.range hc k
    omega
  have st := start1 h hc
  unfold pickN
  rw [sumI_succ]
  have e1 : sumI (fun a : Nat => colN p n 1 ((p 0).1 + a) b H) W = sumI (fun s : Nat => sumI (fun k => covZ p ceE flE k ((p 0).1 + s)) n + ((-1) + (-1) * (if s = 0 then sumI (fun k => covZ p ceE flE k (p 0).1) n - 1 else 0))) W := sumI_congr (fun a ha => by
    by_cases h0 : a = 0
    · subst h0
      rw [if_pos rfl]
      have := first1 (b := b) (H := H) h hc
      simp only [Int.natCast_zero, Int.add_zero] at *
      omega
    · rw [if_neg h0]
      obtain ⟨i, j, hi, hj, hjn, i1, i2, j1, j2, hs⟩ := h.cover hc (x := (p 0).1 + a) (by omega) (by omega)
      rw [hs]
      have o : Over p i j ((p 0).1 + a) := ⟨by unfold wyV subV; dsimp only; omega, i1, by omega, by unfold wyV subV; dsimp only; omega, j1, by omega⟩
      have hv : ∀ k z, (wyV p k).1 = 0 → z.1 = (p 0).1 + a → 0 < sideZ p k z := by
        intro k z hk hz
        have s0 := hc.side0 k 0
        have s1 := hc.side0 k m
        rw [side_vert hk] at s0 s1 ⊢
        have hne := wy_nz hc k
        have hxk := hx k
        have hy : (wyV p k).2 ≠ 0 := by
          intro e
          unfold lexV at hne
          unfold wyV subV at *
          dsimp only at *
          omega
        rcases Int.lt_or_le 0 (wyV p k).2 with q | q
        · have := nonneg_right s1 q
          exact Int.mul_pos q (by omega)
        · have := nneg_of_mul (a := (wyV p k).2) (b := -((p k).1 - (p 0).1)) (by rw [Int.mul_neg]; omega) (by omega)
          have m1 := Int.mul_pos (show 0 < -(wyV p k).2 by omega) (show 0 < -((p k).1 - z.1) by omega)
          rw [Int.neg_mul_neg] at m1
          exact m1
      have hs2 : 0 < ((p (i + 1)).1 - ((p 0).1 + a)) * sideZ p j (p i) + ((p 0).1 + a - (p i).1) * sideZ p j (p (i + 1)) := by
        have m1 := Int.mul_nonneg (show 0 ≤ (p (i + 1)).1 - ((p 0).1 + a) by omega) (hc.side0 j i)
        have m2 := Int.mul_nonneg (show 0 ≤ (p 0).1 + a - (p i).1 by omega) (hc.side0 j (i + 1))
        by_cases ei : i = 0
        · subst ei
          rcases Nat.lt_or_ge (j + 1) n with q | q
          · have s := hc.side (show j < n by omega) (show 0 < n by omega) (by omega) (by rw [Nat.mod_eq_of_lt q]; omega)
            have := Int.mul_pos (show 0 < (p (0 + 1)).1 - ((p 0).1 + a) by omega) (show 0 < sideZ p j (p 0) from s)
            omega
          · have s := hc.side (show j < n by omega) (show 1 < n by omega) (by omega) (by rw [show j + 1 = n by omega, Nat.mod_self]; omega)
            have := Int.mul_pos (show 0 < (p 0).1 + a - (p 0).1 by omega) (show 0 < sideZ p j (p (0 + 1)) from s)
            omega
        · have s := hc.side (show j < n by omega) (show i < n by omega) (by omega) (by
            rcases Nat.lt_or_ge (j + 1) n with q | q
            · rw [Nat.mod_eq_of_lt q]; omega
            · rw [show j + 1 = n by omega, Nat.mod_self]; omega)
          have := Int.mul_pos (show 0 < (p (i + 1)).1 - ((p 0).1 + a) by omega) (show 0 < sideZ p j (p i) from s)
          omega
      rw [o.col1 hc (by omega) hjn hb hv hs2]
      omega)
  rw [e1, sumI_add, sumI_add, sumI_const, sumI_mul, cover_total hx]
  have e2 : sumI (fun s : Nat => if s = 0 then sumI (fun k => covZ p ceE flE k (p 0).1) n - 1 else 0) W = sumI (fun k => covZ p ceE flE k (p 0).1) n - 1 := by
    rw [sumI_one (k := 0) (by omega)]
    · rw [if_pos rfl]
    · intro i _ hi
      rw [if_neg hi]
  rw [e2]
  have a := sums1 h hc
  have c := last1 (b := b) (H := H) h hc
  rw [show (p 0).1 + (W : Int) = (p m).1 by omega, c]
  omega
end Go.Proofs.YtcieihbknfeddaaDoor

/- Vectors of a polygon: Pick's formula, whichever corner is the first one; plain mathematics. -/
namespace Go.Proofs.YtcieihbknfeddaaDoor
/-! whichever corner is the first one -/
theorem exists_min (p : Nat → P2) : ∀ n, 0 < n → ∃ K, K < n ∧ ∀ j, j < n → p K = p j ∨ lexV (subV (p j) (p K)) := by
  intro n
  induction n with
  | zero => omega
  | succ n ih =>
    intro _
    by_cases h0 : n = 0
    · subst h0
      exact ⟨0, by omega, fun j hj => by rw [show j = 0 by omega]; exact .inl rfl⟩
    · obtain ⟨K, hK, hm⟩ := ih (by omega)
      rcases lex_or (p K) (p n) with e | e | e
      · refine ⟨K, by omega, fun j hj => ?_⟩
        by_cases c : j = n
        · rw [c]; exact .inl e
        · exact hm j (by omega)
      · refine ⟨K, by omega, fun j hj => ?_⟩
        by_cases c : j = n
        · rw [c]; exact .inr e
        · exact hm j (by omega)
      · refine ⟨n, by omega, fun j hj => ?_⟩
        by_cases c : j = n
        · rw [c]; exact .inl rfl
        · rcases hm j (by omega) with q | q
          · rw [← q]; exact .inr e
          · exact .inr (lex_add e q)
theorem ConvS.rot {n : Nat} {p : Nat → P2} (h : ConvS n p) (m : Nat) : ConvS n (fun i => p (m + i)) where
  three := h.three
  per := fun i => by
    show p (m + (i + n)) = _
    rw [← Nat.add_assoc, h.per]
  inner := fun i t h2 hn => by
    have := h.inner (m + i) t h2 hn
    unfold farZ at this ⊢
    dsimp only
    rw [← Nat.add_assoc, ← Nat.add_assoc]
    exact this
theorem ConvS.rot_min {n : Nat} {p : Nat → P2} (h : ConvS n p) {K : Nat} (hK : K < n) (hm : ∀ j, j < n → p K = p j ∨ lexV (subV (p j) (p K))) : MinAt n (fun i => p (K + i)) := by
  intro j hj h0
  show lexV (subV (p (K + j)) (p (K + 0)))
  rw [Nat.add_zero, ← h.mod (K + j)]
  have hne : K ≠ (K + j) % n := by
    intro e
    by_cases c : K + j < n
    · rw [Nat.mod_eq_of_lt c] at e; omega
    · rw [Nat.mod_eq_sub_mod (by omega), Nat.mod_eq_of_lt (by omega)] at e; omega
  have hl := Nat.mod_lt (K + j) (show 0 < n by omega)
  rcases hm _ hl with e | e
  · exact (h.ne hK hl hne e).elim
  · exact e
theorem sumI_turn {f : Nat → Int} {n : Nat} (h : f n = f 0) : sumI (fun i => f (i + 1)) n = sumI f n := by
  have a := sumI_head f n
  have b := sumI_succ f n
  omega
theorem sumI_rot {f : Nat → Int} {n : Nat} (h : ∀ i, f (i + n) = f i) : ∀ K, sumI (fun i => f (K + i)) n = sumI f n := by
  intro K
  induction K with
  | zero => exact sumI_congr (fun i _ => by rw [Nat.zero_add])
  | succ K ih =>
    rw [← ih, ← sumI_turn (f := fun i => f (K + i)) (by show f (K + n) = f (K + 0); rw [h]; rfl)]
    exact sumI_congr (fun i _ => by congr 1; omega)
theorem ins_rot {n : Nat} {p : Nat → P2} (hn : 0 < n) (h : ∀ i, p (i + n) = p i) (K : Nat) (s : Int) (z : P2) : insB (fun i => p (K + i)) n s z = insB p n s z := by
  have hk : ∀ k, p (k % n) = p k := by
    have : ∀ k i, p (i + n * k) = p i := by
      intro k
      induction k with
      | zero => intro i; rfl
      | succ k ih => intro i; rw [Nat.mul_succ, ← Nat.add_assoc, h, ih]
    intro i
    have e := this (i / n) (i % n)
    rw [Nat.mod_add_div] at e
    exact e.symm
  have hs : ∀ k, sideZ p (k % n) z = sideZ p k z := by
    intro k
    have e : p (k % n + 1) = p (k + 1) := by rw [← hk (k % n + 1), ← hk (k + 1), Nat.add_mod, Nat.mod_mod, ← Nat.add_mod]
    unfold sideZ wyV
    rw [hk, e]
  rw [Bool.eq_iff_iff, ins_iff, ins_iff]
  have hr : ∀ k, sideZ (fun i => p (K + i)) k z = sideZ p (K + k) z := fun k => rfl
  constructor
  · intro a k hkn
    have q := a ((k + n - K % n) % n) (Nat.mod_lt _ hn)
    rw [hr, ← hs] at q
    have hK := Nat.mod_lt K hn
    have e : (K + (k + n - K % n) % n) % n = k := by
      have hd := Nat.div_add_mod K n
      rw [Nat.add_mod_mod, show K + (k + n - K % n) = k + n * (K / n + 1) by rw [Nat.mul_succ]; omega, Nat.add_mul_mod_self_left, Nat.mod_eq_of_lt hkn]
    rwa [e] at q
  · intro a k hkn
    rw [hr, ← hs]
    exact a _ (Nat.mod_lt _ hn)
theorem pick_all {n : Nat} {p : Nat → P2} (h : ConvS n p) {b : Int} {H : Nat} (hb : InBox p b H) {x0 : Int} {W : Nat} (hx : ∀ k, x0 ≤ (p k).1 ∧ (p k).1 ≤ x0 + W) (h0 : ∃ k, (p k).1 = x0) (h1 : ∃ k, (p k).1 = x0 + W) :
    2 * sumI (fun a => colN p n 0 (x0 + a) b H) (W + 1) = areaI p n + edgeI p n + 2 ∧ 2 * sumI (fun a => colN p n 1 (x0 + a) b H) (W + 1) = areaI p n - edgeI p n + 2 := by
  have h3 := h.three
  obtain ⟨K, hK, hm⟩ := exists_min p n (by omega)
  have hc := h.rot K
  obtain ⟨m, ha⟩ := hc.arcs (h.rot_min hK hm)
  have hr := ha.range hc
  have e0 : (p (K + 0)).1 = x0 := by
    obtain ⟨k, hk⟩ := h0
    have a := hx (K + 0)
    have c := (hr (k + n * K - K)).1
    have e : p (K + (k + n * K - K)) = p k := by
      refine h.shift _ _ ?_
      have : K ≤ n * K := Nat.le_mul_of_pos_left K (by omega)
      rw [show K + (k + n * K - K) = k + n * K by omega, Nat.add_mul_mod_self_left]
    rw [e] at c
    omega
  have e1 : (p (K + m)).1 = x0 + W := by
    obtain ⟨k, hk⟩ := h1
    have a := hx (K + m)
    have c := (hr (k + n * K - K)).2
    have e : p (K + (k + n * K - K)) = p k := by
      refine h.shift _ _ ?_
      have : K ≤ n * K := Nat.le_mul_of_pos_left K (by omega)
      rw [show K + (k + n * K - K) = k + n * K by omega, Nat.add_mul_mod_self_left]
    rw [e] at c
    omega
  have hb' : InBox (fun i => p (K + i)) b H := fun k => hb (K + k)
  have a0 := pick0 ha hc hb' (W := W) (by omega)
  have a1 := pick1 ha hc hb' (W := W) (by omega)
  have hA : areaI (fun i => p (K + i)) n = areaI p n := sumI_rot (f := fun k => dtV (p k) (p (k + 1))) (fun i => by show dtV (p (i + n)) (p (i + n + 1)) = _; rw [h.per, show i + n + 1 = i + 1 + n by omega, h.per]) K
  have hE : edgeI (fun i => p (K + i)) n = edgeI p n := sumI_rot (f := fun k => (Int.gcd (wyV p k).1 (wyV p k).2 : Int)) (fun i => by
    have : wyV p (i + n) = wyV p i := by unfold wyV; rw [h.per, show i + n + 1 = i + 1 + n by omega, h.per]
    show (Int.gcd (wyV p (i + n)).1 (wyV p (i + n)).2 : Int) = _
    rw [this]) K
  have hC : ∀ s x, colN (fun i => p (K + i)) n s x b H = colN p n s x b H := fun s x => by
    unfold colN
    exact sumI_congr (fun t _ => by rw [ins_rot (by omega) h.per])
  unfold pickN at a0 a1
  dsimp only at a0 a1
  rw [hA, hE] at a0 a1
  simp only [hC, e0] at a0 a1
  exact ⟨a0, a1⟩
end Go.Proofs.YtcieihbknfeddaaDoor

/- Smooth fans: numbers and 3 for each ray make twelve (plain mathematics): a fan with five rays or more has a ray with the number -1; what is taken out leaves the sum. -/
namespace Go.Proofs.YtcieihbknfeddaaDoor

theorem rnd_shift {n : Nat} {u : Nat → P2} (h : RndV n u) (s : Nat) : RndV n (fun i => u (s + i)) :=
  ⟨fun i => by show u (s + (i + n)) = u (s + i); rw [← Nat.add_assoc]; exact h.per _, fun i => by show 0 < dtV (u (s + i)) (u (s + (i + 1))); exact h.turn (s + i),
   fun j t t' a b c d => by
    have := h.neg (s + j) t t' a b c (by rw [Nat.add_assoc]; exact d)
    rw [Nat.add_assoc] at this
    exact this⟩

/-- the first descent of a sequence of which each three neighbours are bound -/
theorem peak {S B : Nat → Int} {m : Nat} (h2 : 2 ≤ m) (hr : ∀ k, k + 2 ≤ m → S k + S (k + 2) = B k * S (k + 1)) (h0 : S 0 < S 1) (hm : S m ≤ S (m - 1)) (hp : ∀ k, k + 2 ≤ m → 0 < S k + S (k + 2)) :
    ∃ k, k + 2 ≤ m ∧ B k = 1 := by
  have key : ∀ j, j + 1 ≤ m → (∃ k, k + 2 ≤ m ∧ S k < S (k + 1) ∧ S (k + 2) ≤ S (k + 1)) ∨ (∀ i, i ≤ j → S i < S (i + 1)) := by
    intro j
    induction j with
    | zero =>
      intro _
      right
      intro i hi
      have e : i = 0 := by omega
      rw [e]; exact h0
    | succ j ih =>
      intro hj
      rcases ih (by omega) with q | q
      · exact .inl q
      · by_cases hd : S (j + 1) < S (j + 1 + 1)
        · right
          intro i hi
          by_cases e : i = j + 1
          · rw [e]; exact hd
          · exact q i (by omega)
        · exact .inl ⟨j, by omega, q j (by omega), by show S (j + 1 + 1) ≤ S (j + 1); omega⟩
  rcases key (m - 1) (by omega) with ⟨k, hk, a, b⟩ | q
  · refine ⟨k, hk, ?_⟩
    have e := hr k hk
    have p := hp k hk
    generalize S (k + 1) = M at *
    generalize B k = c at *
    generalize S k = x at *
    generalize S (k + 2) = y at *
    have hM : 0 < M := by omega
    rcases Int.lt_or_le c 1 with q | q
    · have := Int.mul_le_mul_of_nonneg_right (show c ≤ 0 by omega) (show 0 ≤ M by omega)
      rw [Int.zero_mul] at this
      omega
    · rcases Int.lt_or_le c 2 with r | r
      · omega
      · have := Int.mul_le_mul_of_nonneg_right r (show 0 ≤ M by omega)
        omega
  · have := q (m - 1) (by omega)
    rw [show m - 1 + 1 = m by omega] at this
    omega

/-- a smooth fan, as a sequence -/
structure SmV (n : Nat) (u : Nat → P2) : Prop where
  rnd : RndV n u
  one : ∀ i, dtV (u i) (u (i + 1)) = 1
  three : 3 ≤ n
theorem SmV.shift {n : Nat} {u : Nat → P2} (h : SmV n u) (s : Nat) : SmV n (fun i => u (s + i)) :=
  ⟨rnd_shift h.rnd s, fun i => h.one (s + i), h.three⟩
theorem three_V {a b c : P2} (h1 : dtV a b = 1) (h2 : dtV b c = 1) : a.1 + c.1 = dtV a c * b.1 ∧ a.2 + c.2 = dtV a c * b.2 := by
  unfold dtV at *
  constructor
  · have e : (a.1 * c.2 - a.2 * c.1) * b.1 = a.1 * (b.1 * c.2 - b.2 * c.1) + c.1 * (a.1 * b.2 - a.2 * b.1) := by grind
    rw [e, h1, h2]; omega
  · have e : (a.1 * c.2 - a.2 * c.1) * b.2 = a.2 * (b.1 * c.2 - b.2 * c.1) + c.2 * (a.1 * b.2 - a.2 * b.1) := by grind
    rw [e, h1, h2]; omega
theorem arg_max (f : Nat → Int) : ∀ n, 0 < n → ∃ j, j < n ∧ ∀ i, i < n → f i ≤ f j := by
  intro n
  induction n with
  | zero => omega
  | succ n ih =>
    intro _
    by_cases h : n = 0
    · subst h
      exact ⟨0, by omega, fun i hi => by
        have e : i = 0 := by omega
        rw [e]; exact Int.le_refl _⟩
    · obtain ⟨j, hj, q⟩ := ih (by omega)
      by_cases hd : f j ≤ f n
      · exact ⟨n, by omega, fun i hi => by
          by_cases e : i = n
          · rw [e]; exact Int.le_refl _
          · exact Int.le_trans (q i (by omega)) hd⟩
      · exact ⟨j, by omega, fun i hi => by
          by_cases e : i = n
          · rw [e]; omega
          · exact q i (by omega)⟩
def sqV (u : P2) : Int := u.1 * u.1 + u.2 * u.2
theorem mul_self_nn (a : Int) : 0 ≤ a * a := by
  rcases Int.lt_or_le a 0 with h | h
  · have := Int.mul_nonneg (show 0 ≤ -a by omega) (show 0 ≤ -a by omega)
    rw [Int.neg_mul_neg] at this
    exact this
  · exact Int.mul_nonneg h h
theorem sq_pos {u : P2} (h : ¬ (u.1 = 0 ∧ u.2 = 0)) : 0 < sqV u := by
  unfold sqV
  have a := mul_self_nn u.1
  have b := mul_self_nn u.2
  by_cases h1 : u.1 = 0
  · have h2 : u.2 ≠ 0 := fun e => h ⟨h1, e⟩
    have : u.2 * u.2 ≠ 0 := fun e => by rcases Int.mul_eq_zero.1 e with q | q <;> exact h2 q
    omega
  · have : u.1 * u.1 ≠ 0 := fun e => by rcases Int.mul_eq_zero.1 e with q | q <;> exact h1 q
    omega
theorem RndV.perk {n : Nat} {u : Nat → P2} (h : RndV n u) (i k : Nat) : u (i + n * k) = u i := by
  induction k with
  | zero => rfl
  | succ k ih => rw [Nat.mul_succ, ← Nat.add_assoc, h.per, ih]
theorem RndV.md {n : Nat} {u : Nat → P2} (h : RndV n u) (i : Nat) : u (i % n) = u i := by
  have := h.perk (i % n) (i / n)
  rw [Nat.mod_add_div] at this
  exact this.symm
theorem sq_small {b Q : Int} (hQ : 0 < Q) (h : b * b * Q < 4 * Q) : b = -1 ∨ b = 0 ∨ b = 1 := by
  have hb : ¬ 4 ≤ b * b := fun q => by
    have := Int.mul_le_mul_of_nonneg_right q (show 0 ≤ Q by omega)
    omega
  rcases Int.lt_or_le b (-1) with q | q
  · have := Int.mul_le_mul_of_nonneg_left (show 2 ≤ -b by omega) (show 0 ≤ -b by omega)
    rw [Int.neg_mul_neg] at this
    omega
  · rcases Int.lt_or_le 1 b with r | r
    · have := Int.mul_le_mul_of_nonneg_left (show 2 ≤ b by omega) (show 0 ≤ b by omega)
      omega
    · omega
/-- a smooth fan with five rays or more has a ray that is the sum of both next ones -/
theorem SmV.has_one {n : Nat} {u : Nat → P2} (h : SmV n u) (h5 : 5 ≤ n) : ∃ i, dtV (u i) (u (i + 2)) = 1 := by
  obtain ⟨j, hj, hmax0⟩ := arg_max (fun i => sqV (u i)) n (by omega)
  have hmax : ∀ i, sqV (u i) ≤ sqV (u j) := fun i => by
    have := hmax0 (i % n) (Nat.mod_lt _ (by omega))
    rwa [h.rnd.md] at this
  have hv := h.shift (j + n - 1)
  have e1 : u (j + n - 1 + 1) = u j := by rw [show j + n - 1 + 1 = j + n by omega]; exact h.rnd.per j
  have hM : ∀ i, sqV (u (j + n - 1 + i)) ≤ sqV (u (j + n - 1 + 1)) := fun i => by rw [e1]; exact hmax _
  suffices ∃ i, dtV (u (j + n - 1 + i)) (u (j + n - 1 + (i + 2))) = 1 by
    obtain ⟨i, q⟩ := this
    exact ⟨_, q⟩
  generalize hvv : (fun i => u (j + n - 1 + i)) = v at hv
  have hvi : ∀ i, u (j + n - 1 + i) = v i := fun i => congrFun hvv i
  simp only [hvi] at hM ⊢
  clear hvi hvv e1 hmax hmax0 hj h
  have t0 := three_V (hv.one 0) (hv.one 1)
  have o0 := hv.one 0
  have o1 := hv.one 1
  have hQ : 0 < sqV (v 1) := sq_pos (fun ⟨a, b⟩ => by unfold dtV at o0; simp only [Nat.zero_add] at o0; rw [a, b] at o0; simp at o0)
  have hne : 0 < sqV (subV (v 0) (v 2)) := sq_pos (fun ⟨a, b⟩ => by
    unfold subV at a b
    unfold dtV at o0 o1
    simp only [Nat.zero_add] at o0 o1
    have ea : (v 0).1 = (v 2).1 := by omega
    have eb : (v 0).2 = (v 2).2 := by omega
    rw [ea, eb] at o0
    have : (v 2).1 * (v 1).2 - (v 2).2 * (v 1).1 = -((v 1).1 * (v 2).2 - (v 1).2 * (v 2).1) := by grind
    have o1' : (v 1).1 * (v 2).2 - (v 1).2 * (v 2).1 = 1 := o1
    omega)
  have hb : dtV (v 0) (v 2) * dtV (v 0) (v 2) * sqV (v 1) < 4 * sqV (v 1) := by
    have m0 := hM 0
    have m2 := hM 2
    have e : dtV (v 0) (v 2) * dtV (v 0) (v 2) * sqV (v 1) = 2 * sqV (v 0) + 2 * sqV (v 2) - sqV (subV (v 0) (v 2)) := by
      obtain ⟨a, b⟩ := t0
      simp only [Nat.zero_add] at a b
      have a' : (v 0).1 + (v 2).1 = dtV (v 0) (v 2) * (v 1).1 := a
      have b' : (v 0).2 + (v 2).2 = dtV (v 0) (v 2) * (v 1).2 := b
      generalize dtV (v 0) (v 2) = d at *
      unfold sqV subV
      dsimp only
      have q1 : d * d * ((v 1).1 * (v 1).1 + (v 1).2 * (v 1).2) = (d * (v 1).1) * (d * (v 1).1) + (d * (v 1).2) * (d * (v 1).2) := by grind
      rw [q1, ← a', ← b']
      grind
    omega
  have hper : ∀ i, v (n + i) = v i := fun i => by rw [Nat.add_comm]; exact hv.rnd.per i
  rcases sq_small hQ hb with q | q | q
  · -- three rays that add up to 0
    obtain ⟨a, b⟩ := t0
    simp only [Nat.zero_add] at a b
    have a' : (v 0).1 + (v 2).1 = dtV (v 0) (v 2) * (v 1).1 := a
    have b' : (v 0).2 + (v 2).2 = dtV (v 0) (v 2) * (v 1).2 := b
    rw [q] at a' b'
    have o1' : dtV (v 1) (v 2) = 1 := o1
    have f02 := dt_flip (v 0) (v 2)
    have D : ∀ k, 0 < k → k < n - 2 → 0 < dtV (v 2) (v (2 + k)) := by
      intro k k0 k1
      rcases Int.lt_or_le 0 (dtV (v 2) (v (2 + k))) with r | r
      · exact r
      · have := hv.rnd.neg 2 k (n - 2) k0 k1 (by omega) r
        rw [show 2 + (n - 2) = n + 0 by omega, hper] at this
        omega
    have Ep : ∀ k, 0 < k → k < n - 2 → 0 < dtV (v (2 + k)) (v 0) := by
      intro k k0 k1
      have d := D k k0 k1
      rcases Int.lt_or_le 0 (dtV (v (2 + k)) (v 0)) with r | r
      · exact r
      · have w := hv.rnd.neg (2 + k) (n - 2 - k) (n - 2 - k + 1) (by omega) (by omega) (by omega) (by rw [show 2 + k + (n - 2 - k) = n + 0 by omega, hper]; exact r)
        rw [show 2 + k + (n - 2 - k + 1) = n + 1 by omega, hper] at w
        have e : dtV (v (2 + k)) (v 1) = -dtV (v (2 + k)) (v 0) + dtV (v 2) (v (2 + k)) := by
          unfold dtV
          have x1 : (v 1).1 = -(v 0).1 - (v 2).1 := by omega
          have x2 : (v 1).2 = -(v 0).2 - (v 2).2 := by omega
          rw [x1, x2]
          grind
        omega
    obtain ⟨k, _, hk⟩ := peak (S := fun k => dtV (v 2) (v (2 + k)) + dtV (v (2 + k)) (v n)) (B := fun k => dtV (v (2 + k)) (v (2 + k + 2))) (m := n - 2) (by omega)
      (fun k _ => by
        obtain ⟨c, d⟩ := three_V (hv.one (2 + k)) (hv.one (2 + k + 1))
        have c' : (v (2 + k)).1 + (v (2 + k + 2)).1 = dtV (v (2 + k)) (v (2 + k + 2)) * (v (2 + k + 1)).1 := c
        have d' : (v (2 + k)).2 + (v (2 + k + 2)).2 = dtV (v (2 + k)) (v (2 + k + 2)) * (v (2 + k + 1)).2 := d
        rw [show 2 + (k + 2) = 2 + k + 2 by omega, show 2 + (k + 1) = 2 + k + 1 by omega]
        generalize dtV (v (2 + k)) (v (2 + k + 2)) = B at *
        unfold dtV
        have e1 : (v (2 + k + 2)).1 = B * (v (2 + k + 1)).1 - (v (2 + k)).1 := by omega
        have e2 : (v (2 + k + 2)).2 = B * (v (2 + k + 1)).2 - (v (2 + k)).2 := by omega
        rw [e1, e2]
        grind)
      (by
        have d1 := D 1 (by omega) (by omega)
        have p1 := Ep 1 (by omega) (by omega)
        rw [show v n = v 0 from hper 0]
        have e0 : dtV (v 2) (v (2 + 0)) = 0 := dt_self _
        have e2 : dtV (v (2 + 0)) (v 0) = 1 := by show dtV (v 2) (v 0) = 1; rw [f02, q]; rfl
        omega)
      (by
        have d1 := D (n - 2 - 1) (by omega) (by omega)
        have p1 := Ep (n - 2 - 1) (by omega) (by omega)
        rw [show 2 + (n - 2) = n + 0 by omega, hper, show v n = v 0 from hper 0]
        have e0 : dtV (v 0) (v 0) = 0 := dt_self _
        have e2 : dtV (v 2) (v 0) = 1 := by rw [f02, q]; rfl
        omega)
      (fun k hk => by
        rw [show v n = v 0 from hper 0]
        have nn : ∀ k, k ≤ n - 2 → 0 < dtV (v 2) (v (2 + k)) + dtV (v (2 + k)) (v 0) := by
          intro k hk
          have e2 : dtV (v 2) (v 0) = 1 := by rw [f02, q]; rfl
          by_cases c0 : k = 0
          · subst c0
            have e0 : dtV (v 2) (v (2 + 0)) = 0 := dt_self _
            have e3 : dtV (v (2 + 0)) (v 0) = 1 := e2
            omega
          · by_cases c1 : k = n - 2
            · subst c1
              rw [show 2 + (n - 2) = n + 0 by omega, hper]
              have e0 : dtV (v 0) (v 0) = 0 := dt_self _
              omega
            · have := D k (by omega) (by omega)
              have := Ep k (by omega) (by omega)
              omega
        have x := nn k (by omega)
        have y := nn (k + 2) (by omega)
        omega)
    exact ⟨2 + k, hk⟩
  · -- two opposite rays
    obtain ⟨a, b⟩ := t0
    simp only [Nat.zero_add] at a b
    have a' : (v 0).1 + (v 2).1 = dtV (v 0) (v 2) * (v 1).1 := a
    have b' : (v 0).2 + (v 2).2 = dtV (v 0) (v 2) * (v 1).2 := b
    rw [q] at a' b'
    have e20 : dtV (v 2) (v 0) = 0 := by rw [dt_flip, q]; rfl
    have D : ∀ k, 0 < k → k < n - 2 → 0 < dtV (v 2) (v (2 + k)) := by
      intro k k0 k1
      rcases Int.lt_or_le 0 (dtV (v 2) (v (2 + k))) with r | r
      · exact r
      · have := hv.rnd.neg 2 k (n - 2) k0 k1 (by omega) r
        rw [show 2 + (n - 2) = n + 0 by omega, hper] at this
        omega
    have em : dtV (v 2) (v (2 + (n - 2))) = 0 := by rw [show 2 + (n - 2) = n + 0 by omega, hper]; exact e20
    have ez : dtV (v 2) (v (2 + 0)) = 0 := dt_self _
    obtain ⟨k, _, hk⟩ := peak (S := fun k => dtV (v 2) (v (2 + k))) (B := fun k => dtV (v (2 + k)) (v (2 + k + 2))) (m := n - 2) (by omega)
      (fun k _ => by
        obtain ⟨c, d⟩ := three_V (hv.one (2 + k)) (hv.one (2 + k + 1))
        have c' : (v (2 + k)).1 + (v (2 + k + 2)).1 = dtV (v (2 + k)) (v (2 + k + 2)) * (v (2 + k + 1)).1 := c
        have d' : (v (2 + k)).2 + (v (2 + k + 2)).2 = dtV (v (2 + k)) (v (2 + k + 2)) * (v (2 + k + 1)).2 := d
        rw [show 2 + (k + 2) = 2 + k + 2 by omega, show 2 + (k + 1) = 2 + k + 1 by omega]
        generalize dtV (v (2 + k)) (v (2 + k + 2)) = B at *
        unfold dtV
        have e1 : (v (2 + k + 2)).1 = B * (v (2 + k + 1)).1 - (v (2 + k)).1 := by omega
        have e2 : (v (2 + k + 2)).2 = B * (v (2 + k + 1)).2 - (v (2 + k)).2 := by omega
        rw [e1, e2]
        grind)
      (by have d1 := D 1 (by omega) (by omega); omega)
      (by have d1 := D (n - 2 - 1) (by omega) (by omega); omega)
      (fun k hk => by
        have nn : ∀ k, k ≤ n - 2 → 0 ≤ dtV (v 2) (v (2 + k)) := by
          intro k hk
          by_cases c0 : k = 0
          · subst c0; omega
          · by_cases c1 : k = n - 2
            · subst c1; omega
            · have := D k (by omega) (by omega); omega
        by_cases c0 : k = 0
        · subst c0
          have := D (0 + 2) (by omega) (by omega)
          omega
        · have := D k (by omega) (by omega)
          have := nn (k + 2) (by omega)
          omega)
    exact ⟨2 + k, hk⟩
  · exact ⟨0, q⟩

/-- the last ray of n is taken out -/
def skV (n i : Nat) : Nat := i / (n - 1) * n + i % (n - 1)
theorem sk_lt {n i : Nat} (h : i < n - 1) : skV n i = i := by
  unfold skV
  rw [Nat.div_eq_of_lt h, Nat.mod_eq_of_lt h]; omega
theorem sk_per {n : Nat} (h : 2 ≤ n) (i : Nat) : skV n (i + (n - 1)) = skV n i + n := by
  unfold skV
  rw [Nat.add_div_right _ (by omega), Nat.add_mod_right, Nat.succ_mul]
  omega
theorem sk_succ {n : Nat} (h : 2 ≤ n) (i : Nat) : (skV n (i + 1) = skV n i + 1 ∧ i % (n - 1) + 1 < n - 1) ∨ (skV n (i + 1) = skV n i + 2 ∧ i % (n - 1) = n - 2) := by
  have hm := Nat.mod_lt i (show 0 < n - 1 by omega)
  have hd := Nat.div_add_mod i (n - 1)
  by_cases e : i % (n - 1) = n - 2
  · right
    refine ⟨?_, e⟩
    have e1 : i + 1 = (n - 1) * (i / (n - 1) + 1) := by rw [Nat.mul_succ]; omega
    unfold skV
    rw [e1, Nat.mul_div_cancel_left _ (by omega), Nat.mul_mod_right, Nat.succ_mul, e]
    omega
  · left
    refine ⟨?_, by omega⟩
    have e1 : i + 1 = i % (n - 1) + 1 + (n - 1) * (i / (n - 1)) := by omega
    unfold skV
    rw [e1, Nat.add_mul_div_left _ _ (by omega), Nat.div_eq_of_lt (by omega), Nat.add_mul_mod_self_left, Nat.mod_eq_of_lt (by omega), Nat.zero_add]
    omega
theorem sk_mono {n : Nat} (h : 2 ≤ n) (i : Nat) : ∀ d, skV n i + d ≤ skV n (i + d) := by
  intro d
  induction d with
  | zero => exact Nat.le_refl _
  | succ d ih =>
    have := sk_succ h (i + d)
    rw [show i + (d + 1) = i + d + 1 by omega]
    omega
theorem SmV.take {n : Nat} {u : Nat → P2} (h : SmV n u) (h4 : 4 ≤ n) (h1 : dtV (u (n - 2)) (u n) = 1) : SmV (n - 1) (fun i => u (skV n i)) := by
  have one : ∀ i, dtV (u (skV n i)) (u (skV n (i + 1))) = 1 := by
    intro i
    rcases sk_succ (by omega : 2 ≤ n) i with ⟨e, _⟩ | ⟨e, e2⟩
    · rw [e]; exact h.one _
    · rw [e]
      have a : u (skV n i) = u (n - 2) := by
        unfold skV
        rw [e2, Nat.add_comm, Nat.mul_comm, h.rnd.perk]
      have b : u (skV n i + 2) = u n := by
        unfold skV
        rw [e2, show i / (n - 1) * n + (n - 2) + 2 = n + n * (i / (n - 1)) by rw [Nat.mul_comm]; omega, h.rnd.perk]
      rw [a, b]; exact h1
  refine ⟨⟨fun i => ?_, fun i => by rw [one]; decide, fun j t t' a b c d => ?_⟩, one, by omega⟩
  · show u (skV n (i + (n - 1))) = u (skV n i)
    rw [sk_per (by omega), h.rnd.per]
  · have e : skV n (j + t) = skV n j + (skV n (j + t) - skV n j) := by have := sk_mono (by omega : 2 ≤ n) j t; omega
    have e' : skV n (j + t') = skV n j + (skV n (j + t') - skV n j) := by have := sk_mono (by omega : 2 ≤ n) j t'; omega
    show dtV (u (skV n j)) (u (skV n (j + t'))) < 0
    have m1 := sk_mono (by omega : 2 ≤ n) j t
    have m2 := sk_mono (by omega : 2 ≤ n) (j + t) (t' - t)
    rw [show j + t + (t' - t) = j + t' by omega] at m2
    have m3 := sk_mono (by omega : 2 ≤ n) (j + t') (n - 1 - t')
    rw [show j + t' + (n - 1 - t') = j + (n - 1) by omega, sk_per (by omega)] at m3
    rw [e']
    refine h.rnd.neg _ (skV n (j + t) - skV n j) _ (by omega) (by omega) (by omega) ?_
    rw [← e]
    exact d

/-- the sum of 3 and the number over all rays -/
def twV (n : Nat) (u : Nat → P2) : Int := sumI (fun i => 3 - dtV (u i) (u (i + 2))) n
theorem sum_turn {f : Nat → Int} {n : Nat} (h : f n = f 0) : sumI (fun i => f (i + 1)) n = sumI f n := by
  have a := sumI_succ f n
  have b := sumI_head f n
  omega
theorem sum_shift {f : Nat → Int} {n : Nat} (h : ∀ i, f (i + n) = f i) (s : Nat) : sumI (fun i => f (s + i)) n = sumI f n := by
  induction s with
  | zero => exact sumI_congr (fun i _ => by rw [Nat.zero_add])
  | succ s ih =>
    rw [← ih, ← sum_turn (f := fun i => f (s + i)) (by show f (s + n) = f (s + 0); rw [h]; rfl)]
    exact sumI_congr (fun i _ => by rw [show s + 1 + i = s + (i + 1) by omega])
theorem tw_shift {n : Nat} {u : Nat → P2} (h : SmV n u) (s : Nat) : twV n (fun i => u (s + i)) = twV n u := by
  unfold twV
  exact sum_shift (f := fun i => 3 - dtV (u i) (u (i + 2))) (fun i => by rw [h.rnd.per, show i + n + 2 = i + 2 + n by omega, h.rnd.per]) s
theorem SmV.tw_take {n : Nat} {u : Nat → P2} (h : SmV n u) (h4 : 4 ≤ n) (h1 : dtV (u (n - 2)) (u n) = 1) : twV n u = twV (n - 1) (fun i => u (skV n i)) := by
  obtain ⟨m, rfl⟩ : ∃ m, n = m + 4 := ⟨n - 4, by omega⟩
  have a : ∀ i, i < m + 3 → skV (m + 4) i = i := fun i hi => sk_lt (by omega)
  have a3 : skV (m + 4) (m + 3) = m + 4 := by
    have := sk_per (n := m + 4) (by omega) 0
    rw [a 0 (by omega)] at this
    simpa using this
  have a4 : skV (m + 4) (m + 4) = m + 5 := by
    have := sk_per (n := m + 4) (by omega) 1
    rw [a 1 (by omega), show 1 + (m + 4 - 1) = m + 4 by omega] at this
    omega
  unfold twV
  rw [show m + 4 - 1 = m + 3 by omega, sumI_succ, sumI_succ, sumI_succ, sumI_succ _ (m + 2), sumI_succ _ (m + 1)]
  have e : sumI (fun i => 3 - dtV (u i) (u (i + 2))) (m + 1) = sumI (fun i => 3 - dtV (u (skV (m + 4) i)) (u (skV (m + 4) (i + 2)))) (m + 1) :=
    sumI_congr (fun i hi => by rw [a i (by omega), a (i + 2) (by omega)])
  rw [← e]
  show _ = sumI (fun i => 3 - dtV (u i) (u (i + 2))) (m + 1) + (3 - dtV (u (skV (m + 4) (m + 1))) (u (skV (m + 4) (m + 3)))) + (3 - dtV (u (skV (m + 4) (m + 2))) (u (skV (m + 4) (m + 4))))
  rw [a (m + 1) (by omega), a (m + 2) (by omega), a3, a4]
  have h1' : dtV (u (m + 2)) (u (m + 4)) = 1 := h1
  have o1 := h.one (m + 2)
  have o2 := h.one (m + 3)
  have o0 := h.one (m + 1)
  have o3 := h.one (m + 4)
  obtain ⟨p, q⟩ := three_V o1 o2
  rw [show m + 2 + 1 + 1 = m + 4 by omega, h1'] at p q
  have x1 : (u (m + 2 + 1)).1 = (u (m + 2)).1 + (u (m + 4)).1 := by omega
  have x2 : (u (m + 2 + 1)).2 = (u (m + 2)).2 + (u (m + 4)).2 := by omega
  have r1 : dtV (u (m + 1)) (u (m + 1 + 2)) = dtV (u (m + 1)) (u (m + 4)) + 1 := by
    rw [← o0]
    show dtV (u (m + 1)) (u (m + 2 + 1)) = _
    unfold dtV
    rw [x1, x2]
    grind
  have r2 : dtV (u (m + 3)) (u (m + 3 + 2)) = dtV (u (m + 2)) (u (m + 5)) + 1 := by
    rw [← o3]
    show dtV (u (m + 2 + 1)) (u (m + 5)) = dtV (u (m + 2)) (u (m + 5)) + dtV (u (m + 4)) (u (m + 5))
    unfold dtV
    rw [x1, x2]
    grind
  rw [show m + 1 + 2 = m + 3 by omega] at *
  rw [r1, r2, show m + 2 + 2 = m + 4 by omega, h1']
  omega
theorem noether : ∀ n (u : Nat → P2), SmV n u → twV n u = 12 := by
  intro n
  induction n with
  | zero => intro u h; have := h.three; omega
  | succ n ih =>
    intro u h
    have h3 := h.three
    by_cases c3 : n = 2
    · subst c3
      have e : ∀ i, dtV (u i) (u (i + 2)) = -1 := fun i => by
        have a := h.one (i + 2)
        have b := h.rnd.per i
        rw [show i + 2 + 1 = i + (2 + 1) by omega, b] at a
        rw [dt_flip, a]
      unfold twV
      rw [sumI_congr (g := fun _ => 4) (fun i _ => by rw [e]; rfl), sumI_const]
      rfl
    · by_cases c4 : n = 3
      · subst c4
        have e : ∀ i, dtV (u (i + 2)) (u (i + 2 + 2)) = -dtV (u i) (u (i + 2)) := fun i => by
          have b := h.rnd.per i
          rw [show i + 2 + 2 = i + (3 + 1) by omega, b]
          exact dt_flip _ _
        unfold twV
        have e0 := e 0
        have e1 := e 1
        show 0 + (3 - dtV (u 0) (u (0 + 2))) + (3 - dtV (u 1) (u (1 + 2))) + (3 - dtV (u 2) (u (2 + 2))) + (3 - dtV (u 3) (u (3 + 2))) = 12
        simp only [Nat.zero_add] at *
        rw [show 1 + 2 = 3 by rfl] at *
        omega
      · obtain ⟨i, hi⟩ := h.has_one (by omega)
        have hs := h.shift (i + 2)
        rw [← tw_shift h (i + 2)]
        have hx : dtV (u (i + 2 + (n + 1 - 2))) (u (i + 2 + (n + 1))) = 1 := by
          rw [show i + 2 + (n + 1 - 2) = i + (n + 1) by omega, h.rnd.per, show i + 2 + (n + 1) = i + 2 + (n + 1) by rfl, h.rnd.per]
          exact hi
        rw [hs.tw_take (by omega) hx]
        exact ih _ (hs.take (by omega) hx)
end Go.Proofs.YtcieihbknfeddaaDoor

/- Reflexive polygons (plain mathematics): the dual is convex; the edge vectors go round once with determinants 1; twelve. -/
namespace Go.Proofs.YtcieihbknfeddaaDoor

def tnV (u : P2) : P2 := (-u.2, u.1)
/-- the corners p, the primitive vectors s of the ways, how often they go into these -/
structure ReflV (n : Nat) (p s : Nat → P2) (g : Nat → Nat) : Prop where
  conv : ConvS n p
  pos : ∀ i, 1 ≤ g i
  gper : ∀ i, g (i + n) = g i
  sper : ∀ i, s (i + n) = s i
  way1 : ∀ i, (p (i + 1)).1 = (p i).1 + g i * (s i).1
  way2 : ∀ i, (p (i + 1)).2 = (p i).2 + g i * (s i).2
  one : ∀ i, dtV (p i) (s i) = 1
variable {n : Nat} {p s : Nat → P2} {g : Nat → Nat}
theorem ReflV.one' (h : ReflV n p s g) (i : Nat) : dtV (p (i + 1)) (s i) = 1 := by
  have := h.one i
  have a := h.way1 i
  have b := h.way2 i
  unfold dtV at *
  rw [a, b]
  grind
/-- the way between two normals -/
theorem ReflV.turn (h : ReflV n p s g) (i : Nat) : (s (i + 1)).1 = (s i).1 - dtV (s i) (s (i + 1)) * (p (i + 1)).1 ∧ (s (i + 1)).2 = (s i).2 - dtV (s i) (s (i + 1)) * (p (i + 1)).2 := by
  have a := h.one' i
  have b := h.one (i + 1)
  generalize p (i + 1) = P at *
  generalize s i = S at *
  generalize s (i + 1) = T at *
  unfold dtV at *
  constructor
  · have : (P.1 * S.2 - P.2 * S.1) * T.1 = (P.1 * T.2 - P.2 * T.1) * S.1 - (S.1 * T.2 - S.2 * T.1) * P.1 := by grind
    rw [a, b] at this
    omega
  · have : (P.1 * S.2 - P.2 * S.1) * T.2 = (P.1 * T.2 - P.2 * T.1) * S.2 - (S.1 * T.2 - S.2 * T.1) * P.2 := by grind
    rw [a, b] at this
    omega
theorem ReflV.cpos (h : ReflV n p s g) (i : Nat) : 0 < dtV (s i) (s (i + 1)) := by
  have t := h.conv.turn i
  have a1 := h.way1 i
  have a2 := h.way2 i
  have b1 := h.way1 (i + 1)
  have b2 := h.way2 (i + 1)
  have e : dtV (subV (p (i + 1)) (p i)) (subV (p (i + 1 + 1)) (p (i + 1))) = dtV (s i) (s (i + 1)) * (g i * g (i + 1)) := by
    unfold dtV subV
    dsimp only
    rw [a1, a2, b1, b2, a1, a2]
    grind
  rw [e] at t
  have p1 := h.pos i
  have p2 := h.pos (i + 1)
  exact pos_of_mul t (Int.mul_pos (by omega) (by omega))
theorem ReflV.side (h : ReflV n p s g) (i j : Nat) : -1 ≤ dtV (s i) (p j) := by
  have t := h.conv.side_le i j
  have e : dtV (subV (p (i + 1)) (p i)) (subV (p j) (p i)) = (dtV (s i) (p j) + 1) * g i := by
    have := h.one i
    have a := h.way1 i
    have b := h.way2 i
    unfold dtV subV at *
    dsimp only
    rw [a, b]
    have : (p i).1 * (s i).2 = 1 + (p i).2 * (s i).1 := by omega
    grind
  rw [e] at t
  have p1 := h.pos i
  have := nonneg_of_mul t (by omega)
  omega
theorem ReflV.far (h : ReflV n p s g) {i t : Nat} (h2 : 2 ≤ t) (hn : t < n) : 0 ≤ dtV (s i) (p (i + t)) := by
  have q := h.conv.inner i t h2 hn
  have e : farZ p i t = (dtV (s i) (p (i + t)) + 1) * g i := by
    have := h.one i
    have a := h.way1 i
    have b := h.way2 i
    unfold farZ dtV subV at *
    dsimp only
    rw [a, b]
    have : (p i).1 * (s i).2 = 1 + (p i).2 * (s i).1 := by omega
    grind
  rw [e] at q
  have p1 := h.pos i
  have := pos_of_mul q (by omega)
  omega
/-- the dual is convex -/
theorem ReflV.dual (h : ReflV n p s g) : ConvS n (fun i => tnV (s i)) where
  three := h.conv.three
  per := fun i => by show tnV (s (i + n)) = _; rw [h.sper]
  inner := fun i t h2 hn => by
    obtain ⟨a, b⟩ := h.turn i
    have c := h.cpos i
    have q := h.far (i := i + t) (t := n + 1 - t) (by omega) (by omega)
    rw [show i + t + (n + 1 - t) = i + 1 + n by omega, h.conv.per] at q
    have o := h.one' i
    have e : farZ (fun i => tnV (s i)) i t = (1 + dtV (s (i + t)) (p (i + 1))) * dtV (s i) (s (i + 1)) := by
      unfold farZ subV tnV
      dsimp only
      rw [a, b]
      clear q a b c
      generalize dtV (s i) (s (i + 1)) = C
      generalize s (i + t) = T
      generalize p (i + 1) = P at o
      generalize s i = S at o
      unfold dtV at *
      dsimp only
      have : P.1 * S.2 = 1 + P.2 * S.1 := by omega
      grind
    rw [e]
    exact Int.mul_pos (by omega) c
/-- the edge vectors, each corner ahead of those on the way from it -/
structure EdgeV (n : Nat) (p s : Nat → P2) (g : Nat → Nat) (m : Nat) (E : Nat → P2) (base : Nat → Nat) : Prop where
  zero : base 0 = 0
  succ : ∀ i, base (i + 1) = base i + g i
  all : base n = m
  per : ∀ e, E (e + m) = E e
  at1 : ∀ i x, x ≤ g i → (E (base i + x)).1 = (p i).1 + x * (s i).1
  at2 : ∀ i x, x ≤ g i → (E (base i + x)).2 = (p i).2 + x * (s i).2
variable {m : Nat} {E : Nat → P2} {base : Nat → Nat}
theorem EdgeV.find (k : EdgeV n p s g m E base) (h : ReflV n p s g) : ∀ e, ∃ i x, x < g i ∧ e = base i + x := by
  intro e
  induction e with
  | zero => exact ⟨0, 0, h.pos 0, by rw [k.zero]⟩
  | succ e ih =>
    obtain ⟨i, x, hx, he⟩ := ih
    by_cases c : x + 1 < g i
    · exact ⟨i, x + 1, c, by omega⟩
    · exact ⟨i + 1, 0, h.pos _, by rw [k.succ]; omega⟩
theorem EdgeV.bper (k : EdgeV n p s g m E base) (h : ReflV n p s g) (i : Nat) : base (i + n) = base i + m := by
  induction i with
  | zero => rw [Nat.zero_add, k.all, k.zero]; omega
  | succ i ih => rw [show i + 1 + n = i + n + 1 by omega, k.succ, ih, h.gper, k.succ]; omega
theorem EdgeV.mono (k : EdgeV n p s g m E base) (h : ReflV n p s g) (i : Nat) : ∀ d, base i + d ≤ base (i + d) := by
  intro d
  induction d with
  | zero => exact Nat.le_refl _
  | succ d ih =>
    have := h.pos (i + d)
    rw [← Nat.add_assoc i d 1, k.succ]
    omega
theorem EdgeV.one (k : EdgeV n p s g m E base) (h : ReflV n p s g) (e : Nat) : dtV (E e) (E (e + 1)) = 1 := by
  obtain ⟨i, x, hx, rfl⟩ := k.find h e
  have o := h.one i
  have a1 := k.at1 i x (by omega)
  have a2 := k.at2 i x (by omega)
  have b1 := k.at1 i (x + 1) hx
  have b2 := k.at2 i (x + 1) hx
  rw [← Nat.add_assoc] at b1 b2
  unfold dtV at *
  rw [a1, a2, b1, b2]
  push_cast
  grind
theorem cross_step {f : Nat → Int} : ∀ d t, f t ≤ 0 → 0 ≤ f (t + d) → 0 < d → ∃ k, t ≤ k ∧ k < t + d ∧ f k ≤ 0 ∧ 0 ≤ f (k + 1) := by
  intro d
  induction d with
  | zero => omega
  | succ d ih =>
    intro t h1 h2 _
    by_cases c : d = 0
    · subst c
      exact ⟨t, Nat.le_refl _, by omega, h1, h2⟩
    · by_cases q : 0 ≤ f (t + d)
      · obtain ⟨k, a, b, c, e⟩ := ih t h1 q (by omega)
        exact ⟨k, a, by omega, c, e⟩
      · exact ⟨t + d, by omega, by omega, by omega, h2⟩
/-- each edge vector lies on the side of all edges -/
theorem EdgeV.side (k : EdgeV n p s g m E base) (h : ReflV n p s g) (i : Nat) {j x : Nat} (hx : x ≤ g j) : g j * (dtV (s i) (E (base j + x)) + 1) = (g j - x) * (dtV (s i) (p j) + 1) + x * (dtV (s i) (p (j + 1)) + 1) := by
  have a1 := k.at1 j x hx
  have a2 := k.at2 j x hx
  have b1 := h.way1 j
  have b2 := h.way2 j
  unfold dtV
  rw [a1, a2, b1, b2]
  grind
theorem EdgeV.side_le (k : EdgeV n p s g m E base) (h : ReflV n p s g) (i e : Nat) : 0 ≤ dtV (s i) (E e) + 1 := by
  obtain ⟨j, x, hx, rfl⟩ := k.find h e
  have q := k.side h i (Nat.le_of_lt hx)
  have s1 := h.side i j
  have s2 := h.side i (j + 1)
  have m1 := Int.mul_nonneg (show (0 : Int) ≤ g j - x by omega) (show 0 ≤ dtV (s i) (p j) + 1 by omega)
  have m2 := Int.mul_nonneg (show (0 : Int) ≤ x by omega) (show 0 ≤ dtV (s i) (p (j + 1)) + 1 by omega)
  have := h.pos j
  refine nonneg_of_mul (b := g j) ?_ (by omega)
  rw [Int.mul_comm]
  omega
theorem EdgeV.rnd (k : EdgeV n p s g m E base) (h : ReflV n p s g) : RndV m E where
  per := k.per
  turn := fun i => by rw [k.one h]; decide
  neg := fun j t t' h0 h1 h2 hd => by
    rcases Int.lt_or_le (dtV (E j) (E (j + t'))) 0 with q | q
    · exact q
    · exfalso
      obtain ⟨d, hk1, hk2, c1, c2⟩ := cross_step (f := fun k => dtV (E j) (E (j + k))) (t' - t) t hd (by rw [show t + (t' - t) = t' by omega]; exact q) (by omega)
      obtain ⟨i0, x0, hx0, hj⟩ := k.find h j
      obtain ⟨i, x, hx, he⟩ := k.find h (j + d)
      have n3 := h.conv.three
      have a1 := k.at1 i x (by omega)
      have a2 := k.at2 i x (by omega)
      have b1 := k.at1 i (x + 1) hx
      have b2 := k.at2 i (x + 1) hx
      rw [← Nat.add_assoc, ← he] at b1 b2
      rw [← he] at a1 a2
      push_cast at b1 b2
      -- the crossing lies not behind the vector itself
      have F : dtV (E j) (E (j + (d + 1))) - dtV (E j) (E (j + d)) = -dtV (s i) (E j) := by
        rw [← Nat.add_assoc]
        unfold dtV
        rw [b1, b2, a1, a2]
        grind
      have L := k.side_le h i j
      have L1 := k.side_le h i0 (j + d)
      have L2 := k.side_le h i0 (j + d + 1)
      have o := k.one h (j + d)
      have id : dtV (E j) (E (j + (d + 1))) * (dtV (s i0) (E (j + d)) + 1) + -dtV (E j) (E (j + d)) * (dtV (s i0) (E (j + d + 1)) + 1) = dtV (s i0) (E j) * dtV (E (j + d)) (E (j + d + 1)) + (dtV (E j) (E (j + (d + 1))) - dtV (E j) (E (j + d))) := by
        rw [← Nat.add_assoc]
        unfold dtV
        grind
      rw [o] at id
      have sj : dtV (s i0) (E j) = -1 := by
        have u1 := k.at1 i0 x0 (by omega)
        have u2 := k.at2 i0 x0 (by omega)
        rw [← hj] at u1 u2
        have := h.one i0
        unfold dtV at *
        rw [u1, u2]
        have : (p i0).1 * (s i0).2 = 1 + (p i0).2 * (s i0).1 := by omega
        grind
      have m1 := Int.mul_nonneg c2 L1
      have m2 := Int.mul_nonneg (show 0 ≤ -dtV (E j) (E (j + d)) by omega) L2
      have on : dtV (s i) (E j) + 1 = 0 := by omega
      -- so it lies on the same edge
      have lo : i0 ≤ i := by
        rcases Nat.lt_or_ge i i0 with c | c
        · have w := k.mono h (i + 1) (i0 - (i + 1))
          rw [show i + 1 + (i0 - (i + 1)) = i0 by omega, k.succ] at w
          omega
        · exact c
      have hi : i ≤ i0 + n := by
        rcases Nat.lt_or_ge (i0 + n) i with c | c
        · have w := k.mono h (i0 + 1 + n) (i - (i0 + 1 + n))
          rw [show i0 + 1 + n + (i - (i0 + 1 + n)) = i by omega, k.bper h, k.succ] at w
          omega
        · exact c
      have same : ∀ y y' : Nat, (E j).1 = (p i).1 + y * (s i).1 → (E j).2 = (p i).2 + y * (s i).2 → dtV (E j) (E (j + d)) = x - y ∧ dtV (E j) (E (j + (d + 1))) = x + 1 - y := by
        intro y y' e1 e2
        have o := h.one i
        rw [← Nat.add_assoc]
        unfold dtV at *
        rw [e1, e2, a1, a2, b1, b2]
        have : (p i).1 * (s i).2 = 1 + (p i).2 * (s i).1 := by omega
        constructor <;> grind
      have u1 := k.at1 i0 x0 (by omega)
      have u2 := k.at2 i0 x0 (by omega)
      rw [← hj] at u1 u2
      by_cases e1 : i = i0
      · subst e1
        have := same x0 0 u1 u2
        omega
      by_cases e2 : i = i0 + n
      · subst e2
        have pp := h.conv.per i0
        have sp := h.sper i0
        have := same x0 0 (by rw [pp, sp]; exact u1) (by rw [pp, sp]; exact u2)
        rw [k.bper h] at he
        omega
      -- a corner of the edge
      have sd := k.side h i (j := i0) (Nat.le_of_lt hx0)
      rw [← hj, on, Int.mul_zero] at sd
      have s1 := h.side i i0
      have s2 := h.side i (i0 + 1)
      have m3 := Int.mul_nonneg (show (0 : Int) ≤ g i0 - x0 by omega) (show 0 ≤ dtV (s i) (p i0) + 1 by omega)
      have m4 := Int.mul_nonneg (show (0 : Int) ≤ x0 by omega) (show 0 ≤ dtV (s i) (p (i0 + 1)) + 1 by omega)
      by_cases e3 : i = i0 + n - 1
      · have c0 : x0 = 0 := by
          rcases Nat.eq_zero_or_pos x0 with z | z
          · exact z
          · exfalso
            have fr := h.far (i := i) (t := 2) (by omega) (by omega)
            rw [show i + 2 = i0 + 1 + n by omega, h.conv.per] at fr
            have := Int.mul_pos (show (0 : Int) < x0 by omega) (show 0 < dtV (s i) (p (i0 + 1)) + 1 by omega)
            omega
        subst c0
        have w1 := h.way1 i
        have w2 := h.way2 i
        have pp := h.conv.per i0
        rw [show i + 1 = i0 + n by omega, pp] at w1 w2
        have := same (g i) 0 (by rw [u1, ← w1]; simp) (by rw [u2, ← w2]; simp)
        have bb := k.succ i
        rw [show i + 1 = i0 + n by omega, k.bper h] at bb
        omega
      · have fr := h.far (i := i) (t := i0 + n - i) (by omega) (by omega)
        rw [show i + (i0 + n - i) = i0 + n by omega, h.conv.per] at fr
        have := Int.mul_pos (show (0 : Int) < g i0 - x0 by omega) (show 0 < dtV (s i) (p i0) + 1 by omega)
        omega
theorem EdgeV.three (k : EdgeV n p s g m E base) (h : ReflV n p s g) : 3 ≤ m := by
  have := k.mono h 0 n
  rw [Nat.zero_add, k.zero, k.all] at this
  have := h.conv.three
  omega
theorem EdgeV.smooth (k : EdgeV n p s g m E base) (h : ReflV n p s g) : SmV m E := ⟨k.rnd h, k.one h, k.three h⟩
theorem EdgeV.sum (k : EdgeV n p s g m E base) (h : ReflV n p s g) : ∀ j, sumI (fun i => 3 - dtV (E i) (E (i + 2))) (base j) = base j + sumI (fun i => dtV (s i) (s (i + 1))) j := by
  intro j
  induction j with
  | zero => rw [k.zero]; rfl
  | succ j ih =>
    have hp := h.pos j
    have last : dtV (E (base j + (g j - 1))) (E (base j + (g j - 1) + 2)) = 2 - dtV (s j) (s (j + 1)) := by
      have a1 := k.at1 j (g j - 1) (by omega)
      have a2 := k.at2 j (g j - 1) (by omega)
      have b1 := k.at1 (j + 1) 1 (h.pos _)
      have b2 := k.at2 (j + 1) 1 (h.pos _)
      rw [show base (j + 1) + 1 = base j + (g j - 1) + 2 by rw [k.succ]; omega] at b1 b2
      have w1 := h.way1 j
      have w2 := h.way2 j
      have o := h.one' j
      have o2 := h.one (j + 1)
      have q : ((g j - 1 : Nat) : Int) = (g j : Int) - 1 := by omega
      rw [q] at a1 a2
      have a1' : (E (base j + (g j - 1))).1 = (p (j + 1)).1 - (s j).1 := by rw [a1, w1]; grind
      have a2' : (E (base j + (g j - 1))).2 = (p (j + 1)).2 - (s j).2 := by rw [a2, w2]; grind
      unfold dtV at *
      rw [a1', a2', b1, b2]
      have : (p (j + 1)).1 * (s j).2 = 1 + (p (j + 1)).2 * (s j).1 := by omega
      have : (p (j + 1)).1 * (s (j + 1)).2 = 1 + (p (j + 1)).2 * (s (j + 1)).1 := by omega
      grind
    have mid : ∀ x, x < g j - 1 → dtV (E (base j + x)) (E (base j + x + 2)) = 2 := by
      intro x hx
      have a1 := k.at1 j x (by omega)
      have a2 := k.at2 j x (by omega)
      have b1 := k.at1 j (x + 2) (by omega)
      have b2 := k.at2 j (x + 2) (by omega)
      rw [← Nat.add_assoc] at b1 b2
      have o := h.one j
      unfold dtV at *
      rw [a1, a2, b1, b2]
      have : (p j).1 * (s j).2 = 1 + (p j).2 * (s j).1 := by omega
      push_cast
      grind
    rw [k.succ, sumI_split, ih, sumI_succ]
    have e1 : sumI (fun i => 3 - dtV (E (base j + i)) (E (base j + i + 2))) (g j) = g j - 1 + (1 + dtV (s j) (s (j + 1))) := by
      obtain ⟨G, hG⟩ : ∃ G, g j = G + 1 := ⟨g j - 1, by omega⟩
      rw [hG] at last mid ⊢
      rw [show G + 1 - 1 = G by omega] at last mid
      rw [sumI_succ, last, sumI_congr (g := fun _ => 1) (fun x hx => by rw [mid x hx]; rfl), sumI_const]
      omega
    rw [e1]
    omega
/-- twelve -/
theorem EdgeV.twelve (k : EdgeV n p s g m E base) (h : ReflV n p s g) : m + sumI (fun i => dtV (s i) (s (i + 1))) n = 12 := by
  have := noether m E (k.smooth h)
  unfold twV at this
  have q := k.sum h n
  rw [k.all] at q
  omega
end Go.Proofs.YtcieihbknfeddaaDoor
