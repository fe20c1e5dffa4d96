/- The promises of chapter 2: the mathematics. -/
import Derived.Test.YtohojjoediibhaaDoorPv
import Derived.Test.YtohojjoediibhaaDoorB5
namespace Go.Proofs.YtohojjoediibhaaDoor
open Go.RowKit

theorem gcdZ_comm (a b : Int) : gcdZ a b = gcdZ b a := by
  unfold gcdZ
  rw [Nat.gcd_comm]
theorem gcdZ_neg (a b : Int) : gcdZ a (-b) = gcdZ a b := by
  unfold gcdZ
  rw [Int.natAbs_neg]
theorem dual_det (a b c d : Int) : detZ d (-c) (-b) a = detZ a b c d := by
  unfold detZ
  grind
theorem dual_in {a b c d : Int} (h : coneB a b c d = true) : coneB d (-c) (-b) a = true := by
  obtain ⟨v1, o1, v2, o2, hp⟩ := cone_in h
  obtain ⟨⟨_, _⟩, ⟨_, _⟩⟩ := szs v1
  obtain ⟨⟨_, _⟩, ⟨_, _⟩⟩ := szs v2
  have e1 : vecB d (-c) = true := vec_mk ⟨by omega, by omega⟩ ⟨by omega, by omega⟩
  have e2 : vecB (-b) a = true := vec_mk ⟨by omega, by omega⟩ ⟨by omega, by omega⟩
  have g1 : oneB d (-c) = true := by
    unfold oneB
    rw [gcdZ_neg, gcdZ_comm]
    exact o2
  have g2 : oneB (-b) a = true := by
    unfold oneB
    rw [gcdZ_comm, gcdZ_neg]
    exact o1
  have p : posB d (-c) (-b) a = true := by
    unfold posB
    rw [dual_det]
    exact hp
  unfold coneB primB
  rw [e1, e2, g1, g2, p]
  rfl
theorem swap_det (a b c d : Int) : detZ d c b a = detZ a b c d := by
  unfold detZ
  grind
theorem swap_in {a b c d : Int} (h : coneB a b c d = true) : coneB d c b a = true := by
  obtain ⟨v1, o1, v2, o2, hp⟩ := cone_in h
  obtain ⟨s1, s2⟩ := szs v1
  obtain ⟨s3, s4⟩ := szs v2
  have g1 : oneB d c = true := by
    unfold oneB
    rw [gcdZ_comm]
    exact o2
  have g2 : oneB b a = true := by
    unfold oneB
    rw [gcdZ_comm]
    exact o1
  have p : posB d c b a = true := by
    unfold posB
    rw [swap_det]
    exact hp
  unfold coneB primB
  rw [vec_mk s4 s3, vec_mk s2 s1, g1, g2, p]
  rfl
theorem swap_move (a b c d : Int) : cmA a b c d 0 1 1 0 = d ∧ cmB a b c d 0 1 1 0 = c ∧ cmC a b c d 0 1 1 0 = b ∧ cmD a b c d 0 1 1 0 = a := by
  have e : negM 0 1 1 0 = true := rfl
  unfold cmA cmB cmC cmD
  rw [e]
  unfold pick2 moveX
  simp
theorem swap_ok {a b c d : Int} (h : coneB a b c d = true) : cmvOk a b c d 0 1 1 0 = true := by
  obtain ⟨e1, e2, e3, e4⟩ := swap_move a b c d
  unfold cmvOk cmOk
  rw [e1, e2, e3, e4, h, swap_in h]
  rfl
theorem dvd_one {n m a b : Int} (h : gcdZ a b = 1) (h1 : n ∣ m * a) (h2 : n ∣ m * b) : n ∣ m := by
  have h3 : ((n.natAbs : Nat)) ∣ Nat.gcd (m * a).natAbs (m * b).natAbs := Nat.dvd_gcd (Int.natAbs_dvd_natAbs.2 h1) (Int.natAbs_dvd_natAbs.2 h2)
  rw [Int.natAbs_mul, Int.natAbs_mul, Nat.gcd_mul_left] at h3
  have h4 : Nat.gcd a.natAbs b.natAbs = 1 := by
    unfold gcdZ at h
    omega
  rw [h4, Nat.mul_one] at h3
  exact Int.natAbs_dvd_natAbs.1 h3
/-- the kinds from both sides are inverse -/
theorem kind_inv {a b c d : Int} (h : coneB a b c d = true) : detZ a b c d ∣ 1 - kindC a b c d * kindC d c b a := by
  obtain ⟨e1, e2⟩ := base_at h
  obtain ⟨e3, e4⟩ := base_at (swap_in h)
  rw [swap_det] at e3 e4
  obtain ⟨_, o1, _, _, _⟩ := cone_in h
  generalize kindC a b c d = q at *
  generalize kindC d c b a = k at *
  generalize baseX a b c d = x1 at *
  generalize baseY a b c d = y1 at *
  generalize baseX d c b a = x2 at *
  generalize baseY d c b a = y2 at *
  generalize detZ a b c d = n at *
  refine dvd_one (oneB_true o1) ⟨y2 - k * x1, ?_⟩ ⟨x2 - k * y1, ?_⟩
  · grind
  · grind
theorem kind_one {a b c d : Int} (h : coneB a b c d = true) (h1 : 1 < detZ a b c d) : (kindC a b c d * kindC d c b a).tmod (detZ a b c d) = 1 := by
  obtain ⟨m, hm⟩ := kind_inv h
  have r1 := kindC_rng h
  have r2 := kindC_rng (swap_in h)
  have h0 : 0 ≤ kindC a b c d * kindC d c b a := Int.mul_nonneg r1.1 r2.1
  rw [Int.tmod_eq_emod_of_nonneg h0]
  have e : kindC a b c d * kindC d c b a = 1 + detZ a b c d * (-m) := by
    rw [Int.mul_neg]
    omega
  rw [e, Int.add_mul_emod_self_left]
  exact Int.emod_eq_of_lt (by omega) h1
theorem has_of {a b c d x y : Int} (h : coneB a b c d = true) (hv : vecB x y = true) (h1 : 0 ≤ detZ x y c d) (h2 : 0 ≤ detZ a b x y) : hasOk a b c d x y = true := by
  unfold hasOk cvOk inB
  rw [h, hv]
  simp [h1, h2]
theorem hasOk_in {a b c d x y : Int} (k : hasOk a b c d x y = true) : coneB a b c d = true ∧ vecB x y = true ∧ 0 ≤ detZ x y c d ∧ 0 ≤ detZ a b x y := by
  unfold hasOk cvOk inB at k
  simp only [Bool.and_eq_true, decide_eq_true_eq] at k
  exact ⟨k.1.1, k.1.2, k.2.1, k.2.2⟩
theorem det_nn (x y : Int) : detZ x y x y = 0 := by
  unfold detZ
  grind
theorem has_u {a b c d : Int} (h : coneB a b c d = true) : hasOk a b c d a b = true := by
  obtain ⟨v1, o1, v2, o2, hp⟩ := cone_in h
  have := posB_true hp
  exact has_of h v1 (by omega) (by rw [det_nn]; omega)
theorem has_v {a b c d : Int} (h : coneB a b c d = true) : hasOk a b c d c d = true := by
  obtain ⟨v1, o1, v2, o2, hp⟩ := cone_in h
  have := posB_true hp
  exact has_of h v2 (by rw [det_nn]; omega) (by omega)
theorem has_s {a b c d : Int} (h : coneB a b c d = true) (hv : vecB (a + c) (b + d) = true) : hasOk a b c d (a + c) (b + d) = true := by
  obtain ⟨v1, o1, v2, o2, hp⟩ := cone_in h
  have := posB_true hp
  refine has_of h hv ?_ ?_
  · rw [show detZ (a + c) (b + d) c d = detZ a b c d by unfold detZ; grind]
    omega
  · rw [show detZ a b (a + c) (b + d) = detZ a b c d by unfold detZ; grind]
    omega
theorem parts_eq (a b c d x y : Int) : detZ x y c d * a + detZ a b x y * c = detZ a b c d * x ∧ detZ x y c d * b + detZ a b x y * d = detZ a b c d * y := by
  unfold detZ
  constructor <;> grind
theorem mul_bd3 {a b : Int} (ha : -2000000 ≤ a ∧ a ≤ 2000000) (hb : -1000 ≤ b ∧ b ≤ 1000) : -2000000000 ≤ a * b ∧ a * b ≤ 2000000000 := by
  have h1 : (a * b).natAbs ≤ 2000000 * 1000 := by
    rw [Int.natAbs_mul]
    exact Nat.mul_le_mul (by omega) (by omega)
  omega
end Go.Proofs.YtohojjoediibhaaDoor
