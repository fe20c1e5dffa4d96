/- Polygons: normals: the mathematics. -/
import Derived.Test.YtcieihbknfeddaaDoorBj
import Derived.Test.YtcieihbknfeddaaDoorBh
import Derived.Test.YtcieihbknfeddaaDoorI8
namespace Go.Proofs.YtcieihbknfeddaaDoor
open Go.RowKit

/-- the primitive vector of a way, turned -/
def primW (u : V2) : V2 := (u.1.tdiv (gcdZ u.1 u.2), u.2.tdiv (gcdZ u.1 u.2))
def nrmZ (l : List V2) (i : Nat) : V2 := (-(primW (wayZ l i)).2, (primW (wayZ l i)).1)
def nrmL (l : List V2) : List V2 := (List.range l.length).map (nrmZ l)
theorem nrm_len (l : List V2) : (nrmL l).length = l.length := by simp [nrmL]
theorem nrmZ_mod (l : List V2) (i : Nat) : nrmZ l (i % l.length) = nrmZ l i := by unfold nrmZ; rw [wayZ_mod]
theorem cyc_nrm {l : List V2} (h : 0 < l.length) (i : Nat) : cyc (nrmL l) i = nrmZ l i := by
  have hi := Nat.mod_lt i h
  unfold cyc
  rw [nrm_len, ← nrmZ_mod l i]
  simp [nrmL, hi]
theorem prim_parts {x y : Int} (h : ¬ (x = 0 ∧ y = 0)) : 1 ≤ gcdZ x y ∧ x = gcdZ x y * x.tdiv (gcdZ x y) ∧ y = gcdZ x y * y.tdiv (gcdZ x y) ∧ gcdZ (x.tdiv (gcdZ x y)) (y.tdiv (gcdZ x y)) = 1 := by
  have hp := gcdZ_pos h
  have d1 : gcdZ x y ∣ x := by unfold gcdZ; exact Int.ofNat_dvd_left.2 (Nat.gcd_dvd_left _ _)
  have d2 : gcdZ x y ∣ y := by unfold gcdZ; exact Int.ofNat_dvd_left.2 (Nat.gcd_dvd_right _ _)
  have e1 := Int.mul_tdiv_cancel' d1
  have e2 := Int.mul_tdiv_cancel' d2
  refine ⟨hp, e1.symm, e2.symm, ?_⟩
  have hg : gcdZ (gcdZ x y * x.tdiv (gcdZ x y)) (gcdZ x y * y.tdiv (gcdZ x y)) = gcdZ x y * gcdZ (x.tdiv (gcdZ x y)) (y.tdiv (gcdZ x y)) := by
    generalize x.tdiv (gcdZ x y) = a
    generalize y.tdiv (gcdZ x y) = b
    have h0 : (0 : Int) ≤ gcdZ x y := by omega
    generalize gcdZ x y = g at *
    unfold gcdZ
    rw [Int.natAbs_mul, Int.natAbs_mul, Nat.gcd_mul_left, Int.natCast_mul]
    congr 1
    omega
  rw [e1, e2] at hg
  have : gcdZ x y * gcdZ (x.tdiv (gcdZ x y)) (y.tdiv (gcdZ x y)) = gcdZ x y * 1 := by omega
  exact Int.eq_of_mul_eq_mul_left (by omega) this
theorem nrm_det {l : List V2} (hz : ∀ i, ¬ ((wayZ l i).1 = 0 ∧ (wayZ l i).2 = 0)) (i j : Nat) : ∃ g, 0 < g ∧ dtV (wayZ l i) (wayZ l j) = g * dtV (nrmZ l i) (nrmZ l j) := by
  obtain ⟨a1, a2, a3, _⟩ := prim_parts (hz i)
  obtain ⟨b1, b2, b3, _⟩ := prim_parts (hz j)
  refine ⟨gcdZ (wayZ l i).1 (wayZ l i).2 * gcdZ (wayZ l j).1 (wayZ l j).2, Int.mul_pos (by omega) (by omega), ?_⟩
  unfold dtV nrmZ primW
  dsimp only
  generalize (wayZ l i).1.tdiv (gcdZ (wayZ l i).1 (wayZ l i).2) = p1 at *
  generalize (wayZ l i).2.tdiv (gcdZ (wayZ l i).1 (wayZ l i).2) = p2 at *
  generalize (wayZ l j).1.tdiv (gcdZ (wayZ l j).1 (wayZ l j).2) = q1 at *
  generalize (wayZ l j).2.tdiv (gcdZ (wayZ l j).1 (wayZ l j).2) = q2 at *
  generalize gcdZ (wayZ l i).1 (wayZ l i).2 = g at *
  generalize gcdZ (wayZ l j).1 (wayZ l j).2 = h at *
  rw [a2, a3, b2, b3]
  grind
theorem way_nz' {l : List V2} (h : polyB l = true) (i : Nat) : ¬ ((wayZ l i).1 = 0 ∧ (wayZ l i).2 = 0) := by
  rintro ⟨h1, h2⟩
  have t : 0 < detV (wayZ l i) (wayZ l (i + 1)) := (poly_conv h).turn i
  unfold detV detZ at t
  rw [h1, h2] at t
  omega
theorem nrm_prim {l : List V2} (h : polyB l = true) (i : Nat) : primB (nrmZ l i).1 (nrmZ l i).2 = true := by
  obtain ⟨a1, a2, a3, a4⟩ := prim_parts (way_nz' h i)
  have hw := way_small (allK_all (poly_in h).2.1 (by have := poly_len h; omega)) i
  have b1 := tdiv_bd (x := (wayZ l i).1) (n := 200) (m := gcdZ (wayZ l i).1 (wayZ l i).2) hw.1
  have b2 := tdiv_bd (x := (wayZ l i).2) (n := 200) (m := gcdZ (wayZ l i).1 (wayZ l i).2) hw.2
  unfold primB nrmZ primW
  dsimp only
  rw [vec_of (by omega)]
  unfold oneB
  have e : gcdZ (-(wayZ l i).2.tdiv (gcdZ (wayZ l i).1 (wayZ l i).2)) ((wayZ l i).1.tdiv (gcdZ (wayZ l i).1 (wayZ l i).2)) = 1 := by
    rw [← a4]
    unfold gcdZ
    rw [Int.natAbs_neg, Nat.gcd_comm]
  rw [e]
  rfl
theorem nrm_rnd {l : List V2} (h : polyB l = true) : RndV l.length (nrmZ l) := by
  have hz := way_nz' h
  have hr := (poly_round h).rnd
  have pos : ∀ {g x : Int}, 0 < g → 0 < g * x → 0 < x := fun hg h => pos_of_mul (by rw [Int.mul_comm]; exact h) hg
  refine ⟨fun i => ?_, fun i => ?_, fun j t t' h0 h1 h2 hd => ?_⟩
  · rw [← nrmZ_mod l (i + l.length), Nat.add_mod_right, nrmZ_mod]
  · obtain ⟨g, hg, e⟩ := nrm_det hz i (i + 1)
    have t := hr.turn i
    rw [show dtV ((fun i => subV (cyc l (i + 1)) (cyc l i)) i) ((fun i => subV (cyc l (i + 1)) (cyc l i)) (i + 1)) = dtV (wayZ l i) (wayZ l (i + 1)) from rfl, e] at t
    exact pos hg t
  · obtain ⟨g, hg, e⟩ := nrm_det hz j (j + t)
    obtain ⟨g', hg', e'⟩ := nrm_det hz j (j + t')
    have n := hr.neg j t t' h0 h1 h2 (show dtV (wayZ l j) (wayZ l (j + t)) ≤ 0 by
      rw [e]
      have := Int.mul_nonneg (show 0 ≤ g by omega) (show 0 ≤ -dtV (nrmZ l j) (nrmZ l (j + t)) by omega)
      rw [Int.mul_neg] at this
      omega)
    have n' : dtV (wayZ l j) (wayZ l (j + t')) < 0 := n
    rw [e'] at n'
    have := pos hg' (x := -dtV (nrmZ l j) (nrmZ l (j + t'))) (by rw [Int.mul_neg]; omega)
    omega
theorem ahead_ahd {a b : V2} (ha : nzB a.1 a.2 = true) (hb : nzB b.1 b.2 = true) (h : aheadV a b = true) : ahdV a b := by
  unfold ahdV uppV lowV dtV
  cases k1 : backB a.1 a.2 <;> cases k2 : backB b.1 b.2
  · have q1 := back_false ha k1
    have q2 := back_false hb k2
    rw [ahead_same (by rw [k1, k2])] at h
    have : 0 < detZ a.1 a.2 b.1 b.2 := by simpa using h
    unfold detZ at this
    omega
  · have q1 := back_false ha k1
    have q2 := back_true k2
    omega
  · rw [ahead_other (by rw [k1, k2]; decide), k2] at h
    cases h
  · have q1 := back_true k1
    have q2 := back_true k2
    rw [ahead_same (by rw [k1, k2])] at h
    have : 0 < detZ a.1 a.2 b.1 b.2 := by simpa using h
    unfold detZ at this
    omega
/-- a tidy fan begins with the ray that is met first -/
theorem tidy_min {l : List V2} (hn : ∀ i, NZ (cyc l i)) : ∀ k, ∀ j, j < k → aheadV (cyc l j) (cyc l (tidyAt l (List.range k))) = false := by
  intro k
  induction k with
  | zero => omega
  | succ k ih =>
    intro j hj
    rw [List.range_succ, tidy_snoc]
    cases hk : aheadV (cyc l k) (cyc l (tidyAt l (List.range k)))
    · rw [if_neg (by decide)]
      by_cases e : j = k
      · rw [e]; exact hk
      · exact ih j (by omega)
    · rw [if_pos rfl]
      by_cases e : j = k
      · rw [e]; exact ahead_self _
      · cases hj2 : aheadV (cyc l j) (cyc l k)
        · rfl
        · have := ahead_trans (hn j) (hn k) (hn _) hj2 hk
          rw [ih j (by omega)] at this
          cases this
theorem cnt_turn {f : Nat → Bool} {n : Nat} (h : f n = f 0) : cnt (fun i => f (i + 1)) (List.range n) = cnt f (List.range n) := by
  have a : cnt f (List.range (n + 1)) = cnt f (List.range n) + (if f n then 1 else 0) := by rw [List.range_succ, cnt_snoc]
  have b : cnt f (List.range (n + 1)) = (if f 0 then 1 else 0) + cnt (fun i => f (i + 1)) (List.range n) := by
    unfold cnt
    rw [List.range_succ_eq_map, List.countP_cons, List.countP_map]
    have : (f ∘ Nat.succ) = fun i => f (i + 1) := rfl
    rw [this]
    omega
  rw [h] at a
  omega
theorem cnt_rot {f : Nat → Bool} {n : Nat} (h : ∀ i, f (i + n) = f i) : ∀ K, cnt (fun i => f (K + i)) (List.range n) = cnt f (List.range n) := by
  intro K
  induction K with
  | zero => simp
  | succ K ih =>
    rw [← ih, ← cnt_turn (f := fun i => f (K + i)) (by show f (K + n) = f (K + 0); rw [h]; rfl)]
    congr 1
    funext i
    congr 1
    omega
theorem all_rot {f : Nat → Bool} {n : Nat} (hn : 0 < n) (h : ∀ i, f (i + n) = f i) (K : Nat) : (List.range n).all (fun i => f (K + i)) = (List.range n).all f := by
  have hm : ∀ i, f (i % n) = f i := by
    have : ∀ k i, f (i + n * k) = f i := by
      intro k
      induction k with
      | zero => intro i; rfl
      | succ k ih => intro i; rw [Nat.mul_succ, ← Nat.add_assoc, h, ih]
    intro i
    have e := this (i / n) (i % n)
    rw [Nat.mod_add_div] at e
    exact e.symm
  rw [Bool.eq_iff_iff, List.all_eq_true, List.all_eq_true]
  constructor
  · intro a k hk
    have hk := List.mem_range.1 hk
    have q := a ((k + n - K % n) % n) (List.mem_range.2 (Nat.mod_lt _ hn))
    rw [← hm] at q
    have hK := Nat.mod_lt K hn
    have hd := Nat.div_add_mod K n
    have e : (K + (k + n - K % n) % n) % n = k := by
      rw [Nat.add_mod_mod, show K + (k + n - K % n) = k + n * (K / n + 1) by rw [Nat.mul_succ]; omega, Nat.add_mul_mod_self_left, Nat.mod_eq_of_lt hk]
    rwa [e] at q
  · intro a k _
    rw [← hm]
    exact a _ (List.mem_range.2 (Nat.mod_lt _ hn))
/-- fans may begin with any ray -/
theorem fan_rot {l : List V2} {K : Nat} (hK : K ≤ l.length) : fanB (rot K l) = fanB l := by
  by_cases h0 : l.length = 0
  · have : l = [] := List.eq_nil_of_length_eq_zero h0
    subst this
    simp [rot]
  · have hn : 0 < l.length := by omega
    have e1 : rng (rot K l) = rng l := by unfold rng; rw [rot_len]
    have e2 : allC (rot K l) = allC l := by
      unfold allC
      rw [rot_len]
      have : conB (rot K l) = fun i => conB l (K + i) := funext fun i => by
        unfold conB
        rw [cyc_rot hK, cyc_rot hK, Nat.add_assoc]
      rw [this]
      exact all_rot hn (fun i => by unfold conB; rw [cyc_add, show i + l.length + 1 = i + 1 + l.length by omega, cyc_add]) K
    have e3 : oneBack (rot K l) = oneBack l := by
      unfold oneBack
      rw [rot_len]
      have : bkB (rot K l) = fun i => bkB l (K + i) := funext fun i => by
        unfold bkB
        rw [cyc_rot hK, cyc_rot hK, Nat.add_assoc]
      rw [this, cnt_rot (fun i => by unfold bkB; rw [cyc_add, show i + l.length + 1 = i + 1 + l.length by omega, cyc_add]) K]
    unfold fanB
    rw [e1, e2, e3]
theorem rot_mem {l : List V2} {K : Nat} (x : V2) : x ∈ rot K l ↔ x ∈ l := by
  unfold rot
  rw [List.mem_append]
  constructor
  · rintro (h | h)
    · exact List.mem_of_mem_drop h
    · exact List.mem_of_mem_take h
  · intro h
    have := List.take_append_drop K l
    rw [← this] at h
    exact (List.mem_append.1 h).symm
/-- directions that go round once are in order from the one on that is met first -/
theorem tidy_strict {l : List V2} (h0 : 0 < l.length) (hn : ∀ i, NZ (cyc l i)) (hr : RndV l.length (cyc l)) : Strict (tidyL l) := by
  have hK := tidyK_lt h0
  have hmin : ∀ j, ¬ ahdV (cyc l j) (cyc l (tidyK l)) := by
    intro j hj
    have a := tidy_min hn l.length (j % l.length) (Nat.mod_lt _ h0)
    rw [cyc_mod] at a
    have b := ahd_ahead hj
    unfold tidyK at b
    rw [a] at b
    cases b
  have hs := hr.sorted hmin
  unfold Strict
  rw [List.pairwise_iff_getElem]
  intro i j hi hj hij
  have hl := tidyL_len l
  have e : ∀ k (hk : k < (tidyL l).length), (tidyL l)[k] = cyc l (tidyK l + k) := by
    intro k hk
    rw [← cyc_rot (by omega : tidyK l ≤ l.length)]
    show _ = cyc (tidyL l) k
    rw [cyc_lt hk, List.getElem?_eq_getElem hk]
    rfl
  rw [e i hi, e j hj]
  exact ahd_ahead (hs j i hij (by omega))
/-- the normals of a polygon, as FanOf tells them -/
theorem nrm_fan {l : List V2} (h : polyB l = true) : ofB (nrmL l) = fanB (nrmL l) ∧ sortL (nrmL l) = tidyL (nrmL l) := by
  have h3 := poly_len h
  have h0 : 0 < l.length := by omega
  have hp : ∀ i, primB (cyc (nrmL l) i).1 (cyc (nrmL l) i).2 = true := fun i => by rw [cyc_nrm h0]; exact nrm_prim h i
  have hall : AllP (nrmL l) := by
    intro v hv
    unfold nrmL at hv
    obtain ⟨i, _, rfl⟩ := List.mem_map.1 hv
    exact nrm_prim h i
  have hr : RndV (nrmL l).length (cyc (nrmL l)) := by
    have e : cyc (nrmL l) = nrmZ l := funext fun i => cyc_nrm h0 i
    rw [nrm_len, e]
    exact nrm_rnd h
  have hs := tidy_strict (by rw [nrm_len]; exact h0) (fun i => prim_nz (hp i)) hr
  have e : tidyL (nrmL l) = sortL (nrmL l) := sort_is hall hs (fun x => rot_mem x)
  refine ⟨?_, e.symm⟩
  rw [of_fan (fun j _ => hp j), ← e]
  exact fan_rot (Nat.le_of_lt (tidyK_lt (by rw [nrm_len]; exact h0)))
end Go.Proofs.YtcieihbknfeddaaDoor
