/- Plain mathematics of cones: no walk. -/
import Derived.Test.YtncjidkgbfilkabDoorMb
namespace Go.Proofs.YtncjidkgbfilkabDoor
open Go.RowKit
/-- a vector whose product with a primitive one is 1 -/
def partZ (x y : Int) : Int × Int := if _h : y = 0 then (x, 0) else ((partZ y (x.tmod y)).2, (partZ y (x.tmod y)).1 - x.tdiv y * (partZ y (x.tmod y)).2)
termination_by y.natAbs
decreasing_by exact tmod_lt _h
theorem part_zero (x : Int) : partZ x 0 = (x, 0) := by rw [partZ, dif_pos rfl]
theorem part_step (x : Int) {y : Int} (h : y ≠ 0) : partZ x y = ((partZ y (x.tmod y)).2, (partZ y (x.tmod y)).1 - x.tdiv y * (partZ y (x.tmod y)).2) := by rw [partZ, dif_neg h]
theorem part_ind {P : Int → Int → Prop} (h0 : ∀ x, P x 0) (h1 : ∀ x y, y ≠ 0 → P y (x.tmod y) → P x y) : ∀ x y, P x y := by
  have key : ∀ k : Nat, ∀ x y : Int, y.natAbs ≤ k → P x y := by
    intro k
    induction k with
    | zero => intro x y h; have : y = 0 := by omega
              subst this; exact h0 x
    | succ k ih =>
      intro x y h
      by_cases hy : y = 0
      · subst hy; exact h0 x
      · refine h1 x y hy (ih _ _ ?_)
        have := tmod_lt (x := x) hy
        omega
  exact fun x y => key _ x y (Nat.le_refl _)
theorem part_one : ∀ x y : Int, gcdZ x y = 1 → (partZ x y).1 * x + (partZ x y).2 * y = 1 := by
  intro x y
  induction x, y using part_ind with
  | h0 x =>
    intro h
    rw [part_zero]
    have : x = 1 ∨ x = -1 := by unfold gcdZ at h; simp at h; omega
    rcases this with rfl | rfl <;> rfl
  | h1 x y hy ih =>
    intro h
    rw [← gcdZ_step] at h
    have := ih h
    rw [part_step x hy]
    generalize partZ y (x.tmod y) = m at *
    obtain ⟨a, b⟩ := m
    simp only at this ⊢
    have e := Int.mul_tdiv_add_tmod x y
    rw [Int.sub_mul, Int.mul_assoc, Int.mul_left_comm, ]
    have e2 : x.tmod y = x - y * x.tdiv y := by omega
    rw [e2, Int.mul_sub] at this
    have e3 : b * (y * x.tdiv y) = x.tdiv y * (b * y) := by rw [← Int.mul_assoc, Int.mul_comm]
    have e4 : b * (x.tdiv y * y) = x.tdiv y * (b * y) := by rw [Int.mul_left_comm]
    omega
theorem part_bd : ∀ x y : Int, gcdZ x y = 1 → (partZ x y).1.natAbs ≤ max y.natAbs 1 ∧ (partZ x y).2.natAbs ≤ max x.natAbs 1 := by
  intro x y
  induction x, y using part_ind with
  | h0 x =>
    intro h
    rw [part_zero]
    have : x = 1 ∨ x = -1 := by unfold gcdZ at h; simp at h; omega
    rcases this with rfl | rfl <;> decide
  | h1 x y hy ih =>
    intro h
    rw [← gcdZ_step] at h
    obtain ⟨b1, b2⟩ := ih h
    rw [part_step x hy]
    by_cases hm : x.tmod y = 0
    · rw [hm] at h ⊢
      rw [part_zero]
      have : y = 1 ∨ y = -1 := by unfold gcdZ at h; simp at h; omega
      refine ⟨by simp, ?_⟩
      simp only [Int.mul_zero, Int.sub_zero]
      omega
    · generalize partZ y (x.tmod y) = m at *
      obtain ⟨a, b⟩ := m
      simp only at b1 b2 ⊢
      refine ⟨by omega, ?_⟩
      have e : x.natAbs = y.natAbs * (x.tdiv y).natAbs + (x.tmod y).natAbs := by
        rw [Int.natAbs_tdiv, Int.natAbs_tmod]
        exact (Nat.div_add_mod ..).symm
      have h3 : (x.tdiv y * b).natAbs ≤ y.natAbs * (x.tdiv y).natAbs := by
        rw [Int.natAbs_mul, Nat.mul_comm]
        exact Nat.mul_le_mul_right _ (by omega)
      omega
theorem part_sz {x y : Int} (h : gcdZ x y = 1) (hx : -1000 ≤ x ∧ x ≤ 1000) (hy : -1000 ≤ y ∧ y ≤ 1000) : (-1000 ≤ (partZ x y).1 ∧ (partZ x y).1 ≤ 1000) ∧ (-1000 ≤ (partZ x y).2 ∧ (partZ x y).2 ≤ 1000) := by
  obtain ⟨h1, h2⟩ := part_bd x y h
  omega

/-- the kind of a cone -/
def kindZ (ux uy vx vy : Int) : Int := (-((partZ ux uy).1 * vx + (partZ ux uy).2 * vy)) % (ux * vy - uy * vx)
theorem kind_rng {ux uy vx vy : Int} (hn : 0 < ux * vy - uy * vx) : 0 ≤ kindZ ux uy vx vy ∧ kindZ ux uy vx vy < ux * vy - uy * vx :=
  ⟨Int.emod_nonneg _ (by omega), Int.emod_lt_of_pos _ hn⟩
theorem kind_fits {ux uy vx vy : Int} (h : gcdZ ux uy = 1) : (ux * vy - uy * vx) ∣ kindZ ux uy vx vy * ux + vx ∧ (ux * vy - uy * vx) ∣ kindZ ux uy vx vy * uy + vy := by
  have h1 := part_one ux uy h
  unfold kindZ
  generalize partZ ux uy = m at *
  obtain ⟨mx, my⟩ := m
  simp only at h1 ⊢
  obtain ⟨k, hk⟩ : ∃ k, (-(mx * vx + my * vy)) % (ux * vy - uy * vx) = -(mx * vx + my * vy) - (ux * vy - uy * vx) * k := ⟨_, Int.emod_def _ _⟩
  rw [hk]
  generalize hn : ux * vy - uy * vx = n
  constructor
  · refine ⟨-my - k * ux, ?_⟩
    have e : (-(mx * vx + my * vy)) * ux + vx = -(my * n) := by
      rw [← hn]
      grind
    have e2 : n * (-my - k * ux) = -(my * n) - n * k * ux := by rw [Int.mul_sub, Int.mul_neg, Int.mul_comm n my, Int.mul_assoc]
    rw [Int.sub_mul, e2]
    omega
  · refine ⟨mx - k * uy, ?_⟩
    have e : (-(mx * vx + my * vy)) * uy + vy = mx * n := by
      rw [← hn]
      grind
    have e2 : n * (mx - k * uy) = mx * n - n * k * uy := by rw [Int.mul_sub, Int.mul_comm n mx, Int.mul_assoc]
    rw [Int.sub_mul, e2]
    omega
theorem kind_only {ux uy vx vy q : Int} (h : gcdZ ux uy = 1) (h0 : 0 ≤ q) (h1 : q < ux * vy - uy * vx) (dx : (ux * vy - uy * vx) ∣ q * ux + vx) (dy : (ux * vy - uy * vx) ∣ q * uy + vy) : q = kindZ ux uy vx vy := by
  have hp := part_one ux uy h
  have hn : 0 < ux * vy - uy * vx := by omega
  obtain ⟨r0, r1⟩ := kind_rng hn
  obtain ⟨ex, ey⟩ := kind_fits (vx := vx) (vy := vy) h
  generalize kindZ ux uy vx vy = k at *
  generalize ux * vy - uy * vx = n at *
  generalize partZ ux uy = m at hp
  obtain ⟨mx, my⟩ := m
  simp only at hp
  have d1 : n ∣ (q * ux + vx) - (k * ux + vx) := Int.dvd_sub dx ex
  have d2 : n ∣ (q * uy + vy) - (k * uy + vy) := Int.dvd_sub dy ey
  have d3 : n ∣ q - k := by
    have := Int.dvd_add (Int.dvd_trans d1 (Int.dvd_mul_left mx _)) (Int.dvd_trans d2 (Int.dvd_mul_left my _))
    rwa [show mx * (q * ux + vx - (k * ux + vx)) + my * (q * uy + vy - (k * uy + vy)) = q - k by grind] at this
  obtain ⟨t, ht⟩ := d3
  have : t = 0 := by
    by_cases h2 : 1 ≤ t
    · have : n * 1 ≤ n * t := Int.mul_le_mul_of_nonneg_left h2 (by omega)
      omega
    · by_cases h3 : t ≤ -1
      · have : n * t ≤ n * (-1) := Int.mul_le_mul_of_nonneg_left h3 (by omega)
        omega
      · omega
  subst this
  omega
theorem kind_gcd {ux uy vx vy : Int} (h : gcdZ ux uy = 1) (h2 : gcdZ vx vy = 1) : gcdZ (ux * vy - uy * vx) (kindZ ux uy vx vy) = 1 := by
  obtain ⟨⟨a, ha⟩, ⟨b, hb⟩⟩ := kind_fits (vx := vx) (vy := vy) h
  generalize ux * vy - uy * vx = n at *
  generalize kindZ ux uy vx vy = k at *
  have e : gcdZ n k = (Int.gcd n k : Nat) := rfl
  rw [e]
  have d1 := Int.gcd_dvd_left n k
  have d2 := Int.gcd_dvd_right n k
  generalize Int.gcd n k = g at *
  have dx : (g : Int) ∣ vx := by
    have := Int.dvd_sub (Int.dvd_trans d1 (Int.dvd_mul_right n a)) (Int.dvd_trans d2 (Int.dvd_mul_right k ux))
    rwa [show n * a - k * ux = vx by omega] at this
  have dy : (g : Int) ∣ vy := by
    have := Int.dvd_sub (Int.dvd_trans d1 (Int.dvd_mul_right n b)) (Int.dvd_trans d2 (Int.dvd_mul_right k uy))
    rwa [show n * b - k * uy = vy by omega] at this
  have h3 := Int.dvd_gcd dx dy
  have e2 : gcdZ vx vy = (Int.gcd vx vy : Nat) := rfl
  rw [e2] at h2
  have : Int.gcd vx vy = 1 := by omega
  rw [this] at h3
  have := Nat.dvd_one.1 h3
  omega

/-! the whole base -/
/-- the rest of the base: what comes with last and next, by the numbers of the fraction -/
def baseZ : List Int → Int → Int → Int → Int → List (Int × Int)
  | [], _, _, nx, ny => [(nx, ny)]
  | b :: l, lx, ly, nx, ny => (nx, ny) :: baseZ l nx ny (nx * b - lx) (ny * b - ly)
/-- where the walk along the base stands -/
def atBase (vx vy n q lx ly nx ny : Int) : Prop := n * nx = q * lx + vx ∧ n * ny = q * ly + vy
theorem at_next {vx vy n q lx ly nx ny b : Int} (h : atBase vx vy n q lx ly nx ny) : atBase vx vy q (b * q - n) nx ny (nx * b - lx) (ny * b - ly) := by
  obtain ⟨h1, h2⟩ := h
  exact ⟨by grind, by grind⟩
theorem at_end {vx vy lx ly nx ny : Int} (h : atBase vx vy 1 0 lx ly nx ny) : nx = vx ∧ ny = vy := by
  obtain ⟨h1, h2⟩ := h
  omega
theorem at_one {n q l v x : Int} (h : n * x = q * l + v) (hq : 0 ≤ q) (hn : q < n) (hl : -1000 ≤ l ∧ l ≤ 1000) (hv : -1000 ≤ v ∧ v ≤ 1000) : -1000 ≤ x ∧ x ≤ 1000 := by
  have a1 : q * l ≤ q * 1000 := Int.mul_le_mul_of_nonneg_left hl.2 hq
  have a2 : q * (-1000) ≤ q * l := Int.mul_le_mul_of_nonneg_left hl.1 hq
  constructor
  · by_cases hc : -1000 ≤ x
    · exact hc
    · have : n * x ≤ n * (-1001) := Int.mul_le_mul_of_nonneg_left (by omega) (by omega)
      omega
  · by_cases hc : x ≤ 1000
    · exact hc
    · have : n * 1001 ≤ n * x := Int.mul_le_mul_of_nonneg_left (by omega) (by omega)
      omega
theorem at_bd {vx vy n q lx ly nx ny : Int} (h : atBase vx vy n q lx ly nx ny) (hq : 0 ≤ q) (hn : q < n) (hx : -1000 ≤ lx ∧ lx ≤ 1000) (hy : -1000 ≤ ly ∧ ly ≤ 1000) (vxb : -1000 ≤ vx ∧ vx ≤ 1000) (vyb : -1000 ≤ vy ∧ vy ≤ 1000) :
    (-1000 ≤ nx ∧ nx ≤ 1000) ∧ (-1000 ≤ ny ∧ ny ≤ 1000) := ⟨at_one h.1 hq hn hx vxb, at_one h.2 hq hn hy vyb⟩
end Go.Proofs.YtncjidkgbfilkabDoor
