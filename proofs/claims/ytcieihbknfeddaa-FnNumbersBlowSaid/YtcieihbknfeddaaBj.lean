import Derived.Test.YtcieihbknfeddaaB6
import Derived.Test.YtcieihbknfeddaaBh
import Derived.Test.YtcieihbknfeddaaWr
import Derived.Test.YtcieihbknfeddaaB2
import Derived.Deep.RegionHeld3
import Derived.Deep.DeepCutAuto
import Derived.Test.YtcieihbknfeddaaJn
/- Polygons: lists of corners: the mathematics that both sides share. -/
namespace Go.Proofs.Ytcieihbknfeddaa
open Go.RowKit

def cnrN (a : Int) : Bool := decide (-100 ≤ a) && decide (a ≤ 100)
def cnrV (u : V2) : Bool := cnrN u.1 && cnrN u.2
theorem cnr_in {u : V2} (h : cnrV u = true) : (-100 ≤ u.1 ∧ u.1 ≤ 100) ∧ -100 ≤ u.2 ∧ u.2 ≤ 100 := by
  simpa [cnrV, cnrN, and_assoc] using h
/-- the way from a corner to the next one -/
def wayZ (l : List V2) (i : Nat) : V2 := ((cyc l (i + 1)).1 - (cyc l i).1, (cyc l (i + 1)).2 - (cyc l i).2)
def waysL (l : List V2) : List V2 := (List.range l.length).map (wayZ l)
theorem waysL_len (l : List V2) : (waysL l).length = l.length := by simp [waysL]
theorem wayZ_mod (l : List V2) (i : Nat) : wayZ l (i % l.length) = wayZ l i := by
  have e : cyc l (i % l.length + 1) = cyc l (i + 1) := by
    rw [← cyc_mod l (i % l.length + 1), ← cyc_mod l (i + 1), Nat.add_mod, Nat.mod_mod, ← Nat.add_mod]
  unfold wayZ
  rw [e, cyc_mod]
theorem cyc_ways {l : List V2} (h : 0 < l.length) (i : Nat) : cyc (waysL l) i = wayZ l i := by
  have hi := Nat.mod_lt i h
  unfold cyc
  rw [waysL_len, ← wayZ_mod l i]
  simp [waysL, hi]
def bendB (l : List V2) (i : Nat) : Bool := decide (0 < detV (wayZ l i) (wayZ l (i + 1)))
def prng (l : List V2) : Bool := decide (3 ≤ l.length) && decide (l.length ≤ 30)
def allK (l : List V2) : Bool := (List.range l.length).all fun i => cnrV (cyc l i)
def allB (l : List V2) : Bool := (List.range l.length).all (bendB l)
/-- what is a polygon -/
def polyB (l : List V2) : Bool := prng l && (allK l && (allB l && oneBack (waysL l)))
theorem poly_in {l : List V2} (h : polyB l = true) : prng l = true ∧ allK l = true ∧ allB l = true ∧ oneBack (waysL l) = true := by simpa [polyB] using h
theorem prng_in {l : List V2} (h : prng l = true) : 3 ≤ l.length ∧ l.length ≤ 30 := by simpa [prng] using h
theorem prng_out {l : List V2} (h : prng l = false) : l.length < 3 ∨ 30 < l.length := by
  unfold prng at h
  simp at h
  omega
theorem poly_len {l : List V2} (h : polyB l = true) : 3 ≤ l.length ∧ l.length ≤ 30 := prng_in (poly_in h).1
theorem poly_short {l : List V2} (h : l.length < 3 ∨ 30 < l.length) : polyB l = false := by
  have : prng l = false := by unfold prng; simp; omega
  simp [polyB, this]
theorem allK_at {l : List V2} (h : allK l = true) (h0 : 0 < l.length) (i : Nat) : cnrV (cyc l i) = true := by
  have := List.all_eq_true.1 h (i % l.length) (List.mem_range.2 (Nat.mod_lt _ h0))
  rwa [cyc_mod] at this
theorem allK_not {l : List V2} {i : Nat} (hi : i < l.length) (h : cnrV (cyc l i) = false) : allK l = false := by
  unfold allK
  rw [List.all_eq_false]
  exact ⟨i, List.mem_range.2 hi, by rw [h]; decide⟩
theorem allK_of {l : List V2} (h : ∀ i, i < l.length → cnrV (cyc l i) = true) : allK l = true := List.all_eq_true.2 (fun i hi => h i (List.mem_range.1 hi))
theorem allB_not {l : List V2} {i : Nat} (hi : i < l.length) (h : bendB l i = false) : allB l = false := by
  unfold allB
  rw [List.all_eq_false]
  exact ⟨i, List.mem_range.2 hi, by rw [h]; decide⟩
theorem allB_of {l : List V2} (h : ∀ i, i < l.length → bendB l i = true) : allB l = true := List.all_eq_true.2 (fun i hi => h i (List.mem_range.1 hi))
theorem poly_notK {l : List V2} {i : Nat} (hi : i < l.length) (h : cnrV (cyc l i) = false) : polyB l = false := by simp [polyB, allK_not hi h]
theorem poly_notB {l : List V2} {i : Nat} (hi : i < l.length) (h : bendB l i = false) : polyB l = false := by simp [polyB, allB_not hi h]
theorem poly_is {l : List V2} (hr : prng l = true) (hk : ∀ i, i < l.length → cnrV (cyc l i) = true) (hb : ∀ i, i < l.length → bendB l i = true) : polyB l = oneBack (waysL l) := by
  unfold polyB
  rw [hr, allK_of hk, allB_of hb]
  simp
theorem poly_small {l : List V2} (h : polyB l = true) (i : Nat) : (-100 ≤ (cyc l i).1 ∧ (cyc l i).1 ≤ 100) ∧ -100 ≤ (cyc l i).2 ∧ (cyc l i).2 ≤ 100 :=
  cnr_in (allK_at (poly_in h).2.1 (by have := poly_len h; omega) i)
theorem vec_of {x y : Int} (h : (-1000 ≤ x ∧ x ≤ 1000) ∧ -1000 ≤ y ∧ y ≤ 1000) : vecB x y = true := by
  unfold vecB szB
  simp
  omega
theorem poly_vec {l : List V2} (h : polyB l = true) (i : Nat) : vecB (cyc l i).1 (cyc l i).2 = true := vec_of (by have := poly_small h i; omega)
theorem way_small {l : List V2} (hk : ∀ i, cnrV (cyc l i) = true) (i : Nat) : (-200 ≤ (wayZ l i).1 ∧ (wayZ l i).1 ≤ 200) ∧ -200 ≤ (wayZ l i).2 ∧ (wayZ l i).2 ≤ 200 := by
  have a := cnr_in (hk i)
  have b := cnr_in (hk (i + 1))
  unfold wayZ
  dsimp only
  omega
theorem allK_all {l : List V2} (h : allK l = true) (h0 : 0 < l.length) : ∀ i, cnrV (cyc l i) = true := allK_at h h0
theorem bk_ways {l : List V2} (h : 0 < l.length) (i : Nat) : bkB (waysL l) i = aheadB (wayZ l (i + 1)).1 (wayZ l (i + 1)).2 (wayZ l i).1 (wayZ l i).2 := by
  unfold bkB aheadV
  rw [cyc_ways h, cyc_ways h]
theorem ahd_ahead {a b : V2} (h : ahdV a b) : aheadV a b = true := by
  unfold aheadV aheadB
  unfold ahdV uppV lowV at h
  rcases h with ⟨h1, h2⟩ | ⟨h1, h2, h3⟩ | ⟨h1, h2, h3⟩
  · have k1 : backB a.1 a.2 = false := by unfold backB; simp; omega
    have k2 : backB b.1 b.2 = true := by unfold backB; simp; omega
    rw [k1, k2]
    rfl
  · have k1 : backB a.1 a.2 = false := by unfold backB; simp; omega
    have k2 : backB b.1 b.2 = false := by unfold backB; simp; omega
    rw [k1, k2]
    exact decide_eq_true h3
  · have k1 : backB a.1 a.2 = true := by unfold backB; simp; omega
    have k2 : backB b.1 b.2 = true := by unfold backB; simp; omega
    rw [k1, k2]
    exact decide_eq_true h3
theorem one_alone {p : Nat → Bool} : ∀ {n : Nat}, cnt p (List.range n) = 1 → ∃ b, b < n ∧ ∀ i, i < n → i ≠ b → p i = false := by
  intro n
  induction n with
  | zero => intro h; simp [cnt] at h
  | succ n ih =>
    intro h
    rw [List.range_succ, cnt_snoc] at h
    cases hp : p n
    · rw [hp] at h
      obtain ⟨b, hb, hq⟩ := ih (by simpa using h)
      refine ⟨b, by omega, fun i hi hne => ?_⟩
      by_cases e : i = n
      · rw [e]; exact hp
      · exact hq i (by omega) hne
    · rw [hp] at h
      have h0 : cnt p (List.range n) = 0 := by simpa using h
      refine ⟨n, by omega, fun i hi hne => ?_⟩
      unfold cnt at h0
      rw [List.countP_eq_zero] at h0
      have := h0 i (List.mem_range.2 (by omega))
      simpa using this
/-- directions that are in a list once round -/
theorem round_of {u : List V2} (h0 : 0 < u.length) (ht : ∀ i, i < u.length → 0 < detV (cyc u i) (cyc u (i + 1))) (h1 : oneBack u = true) : RoundV u.length (cyc u) where
  per := cyc_add u
  turn := fun i => by
    have := ht (i % u.length) (Nat.mod_lt _ h0)
    rw [cyc_mod] at this
    have e : cyc u (i % u.length + 1) = cyc u (i + 1) := by
      rw [← cyc_mod u (i % u.length + 1), ← cyc_mod u (i + 1), Nat.add_mod, Nat.mod_mod, ← Nat.add_mod]
    rw [e] at this
    exact this
  once := by
    have : cnt (bkB u) (List.range u.length) = 1 := by simpa [oneBack] using h1
    obtain ⟨b, hb, hq⟩ := one_alone this
    refine ⟨b, hb, fun i hi hne hk => ?_⟩
    have k := hq i hi hne
    unfold bkB at k
    rw [ahd_ahead hk] at k
    cases k
theorem poly_round {l : List V2} (h : polyB l = true) : RoundV l.length (fun i => subV (cyc l (i + 1)) (cyc l i)) := by
  have h3 := poly_len h
  obtain ⟨_, _, hb, ho⟩ := poly_in h
  have h0 : 0 < l.length := by omega
  have r := round_of (u := waysL l) (by rw [waysL_len]; exact h0) (fun i hi => by
    rw [waysL_len] at hi
    have := List.all_eq_true.1 hb i (List.mem_range.2 hi)
    rw [cyc_ways h0, cyc_ways h0]
    simpa [bendB] using this) ho
  rw [waysL_len] at r
  have e : cyc (waysL l) = fun i => subV (cyc l (i + 1)) (cyc l i) := funext fun i => by rw [cyc_ways h0]; rfl
  rwa [e] at r
/-- a polygon is convex -/
theorem poly_convP {l : List V2} (h : polyB l = true) : ConvP l.length (cyc l) := ⟨(poly_len h).1, cyc_add l, poly_round h⟩
theorem poly_conv {l : List V2} (h : polyB l = true) : ConvS l.length (cyc l) := (poly_convP h).conv
def big (n x y : Int) : Prop := (-n ≤ x ∧ x ≤ n) ∧ -n ≤ y ∧ y ≤ n
theorem mul_big {a b : Int} (ha : -800000 ≤ a ∧ a ≤ 800000) (hb : -800000 ≤ b ∧ b ≤ 800000) : -640000000000 ≤ a * b ∧ a * b ≤ 640000000000 := by
  have h1 := Int.mul_nonneg (show 0 ≤ a + 800000 by omega) (show 0 ≤ b + 800000 by omega)
  have h2 := Int.mul_nonneg (show 0 ≤ 800000 - a by omega) (show 0 ≤ 800000 - b by omega)
  have h3 := Int.mul_nonneg (show 0 ≤ a + 800000 by omega) (show 0 ≤ 800000 - b by omega)
  have h4 := Int.mul_nonneg (show 0 ≤ 800000 - a by omega) (show 0 ≤ b + 800000 by omega)
  simp only [Int.add_mul, Int.mul_add, Int.sub_mul, Int.mul_sub] at h1 h2 h3 h4
  omega
end Go.Proofs.Ytcieihbknfeddaa

/- Polygons: bends, corners: the program. -/
namespace Go.Proofs.Ytcieihbknfeddaa
open Go.RowKit

/-- does the way by three vectors bend at the second one -/
def bendV (a b c : V2) : Bool := decide (0 < detZ (b.1 - a.1) (b.2 - a.2) (c.1 - b.1) (c.2 - b.2))
theorem mod_is (i n : Nat) : Int.tmod (i : Int) (n : Int) = ((i % n : Nat) : Int) := Int.ofNat_tmod i n
end Go.Proofs.Ytcieihbknfeddaa

/- Polygons: checked: the program. -/
namespace Go.Proofs.Ytcieihbknfeddaa
open Go.RowKit

theorem bend_is (l : List V2) (i : Nat) : bendV (cyc l i) (cyc l (i + 1)) (cyc l (i + 2)) = bendB l i := rfl
theorem big_cnr {u : V2} (h : cnrV u = true) : big 400000 u.1 u.2 := by
  have := cnr_in h
  unfold big
  omega
end Go.Proofs.Ytcieihbknfeddaa

/- Polygons: their vectors, areas, edges: the program. -/
namespace Go.Proofs.Ytcieihbknfeddaa
open Go.RowKit

/-- is a vector one of the polygon's -/
def hasPB (l : List V2) (a : V2) : Bool := insB (cyc l) l.length 0 a
theorem hasP_not {l : List V2} {a : V2} {i : Nat} (hi : i < l.length) (h : sideZ (cyc l) i a < 0) : hasPB l a = false := by
  cases k : hasPB l a
  · rfl
  · have := ins_iff.1 k i hi
    omega
theorem hasP_yes {l : List V2} {a : V2} (h : ∀ i, i < l.length → 0 ≤ sideZ (cyc l) i a) : hasPB l a = true := ins_iff.2 h
end Go.Proofs.Ytcieihbknfeddaa
