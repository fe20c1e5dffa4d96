import Derived.Test.YtcieihbknfeddaaDoorWn
import Derived.Test.YtcieihbknfeddaaDoorO1
import Derived.Test.YtcieihbknfeddaaDoorBm
import Derived.Test.YtcieihbknfeddaaDoorB9
import Derived.Test.YtcieihbknfeddaaDoorB6
import Derived.Test.YtcieihbknfeddaaDoorBb
import Derived.Test.YtcieihbknfeddaaDoorI5
import Derived.Test.YtcieihbknfeddaaDoorBd
import Derived.Test.YtcieihbknfeddaaDoorBh
/- Fans: begun elsewhere, tidy, out of vectors in whatever order; the only cone that has a vector inside: the mathematics of the promises of chapter 3. -/
namespace Go.Proofs.YtcieihbknfeddaaDoor
open Go.RowKit

theorem strict_nx {l : List V2} (h : Strict l) {k : Nat} (hk : k + 1 < l.length) : aheadV (cyc l k) (cyc l (k + 1)) = true := by
  unfold Strict at h
  rw [List.pairwise_iff_getElem] at h
  have := h k (k + 1) (by omega) hk (by omega)
  rw [cyc_lt (by omega : k < l.length), cyc_lt hk, List.getElem?_eq_getElem hk, List.getElem?_eq_getElem (by omega)]
  exact this
theorem ahead_ok {u v : V2} (hu : primB u.1 u.2 = true) (hv : primB v.1 v.2 = true) (h : aheadV u v = true) : aheadOk u.1 u.2 v.1 v.2 = true := by
  have h1 : aheadB u.1 u.2 v.1 v.2 = true := h
  unfold aheadOk twoOk
  rw [(prim_in hu).1, (prim_in hv).1, show nzB u.1 u.2 = true from prim_nz hu, show nzB v.1 v.2 = true from prim_nz hv, h1]
  rfl
/-- the order of vectors does not matter -/
theorem of_rev {l : List V2} (h : ofB l = true) : ofB l.reverse = true ∧ sortL l.reverse = sortL l ∧ fanB (sortL l) = true := by
  unfold ofB at *
  rw [Bool.and_eq_true] at h
  have e := sort_perm (all_prim h.1) (List.reverse_perm l)
  rw [e, h.2, List.all_reverse, h.1]
  exact ⟨rfl, rfl, rfl⟩

/-! the only cone that has a vector inside -/
theorem plane3 (a b s x : P2) : dtV a b * dtV s x = dtV s b * dtV a x + dtV a s * dtV b x := by unfold dtV; grind
theorem pluck (a b c d : P2) : dtV a b * dtV c d = dtV a c * dtV b d - dtV a d * dtV b c := by unfold dtV; grind
theorem cone_alone {n : Nat} {u : Nat → P2} (h : RndV n u) {s : P2} {i t : Nat} (a : 0 < dtV (u i) s) (b : 0 < dtV s (u (i + 1))) (h1 : 1 ≤ t) (ht : t < n) (c : 0 ≤ dtV (u (i + t)) s) (d : 0 ≤ dtV s (u (i + t + 1))) : False := by
  have D := h.turn i
  have T := h.turn (i + t)
  have p0 := plane3 (u i) (u (i + 1)) s (u (i + t))
  have p1 := plane3 (u i) (u (i + 1)) s (u (i + t + 1))
  have c' : dtV s (u (i + t)) ≤ 0 := by have := dt_flip s (u (i + t)); omega
  have q0 : dtV (u i) (u (i + 1)) * dtV s (u (i + t)) ≤ 0 := by
    have := Int.mul_nonneg (Int.le_of_lt D) (show 0 ≤ -dtV s (u (i + t)) by omega)
    rw [Int.mul_neg] at this
    omega
  have q1 : 0 ≤ dtV (u i) (u (i + 1)) * dtV s (u (i + t + 1)) := Int.mul_nonneg (Int.le_of_lt D) d
  rw [p0] at q0
  rw [p1] at q1
  by_cases t1 : t = 1
  · subst t1
    rw [dt_self, Int.mul_zero, Int.add_zero] at q0
    have := Int.mul_pos b D
    omega
  have f1 : 0 < dtV (u i) (u (i + t)) → 0 < dtV (u (i + 1)) (u (i + t)) := by
    intro hp
    have g := h.neg (i + t) (n - t) (n - t + 1) (by omega) (by omega) (by omega) (by
      rw [show i + t + (n - t) = i + n by omega, h.per]
      have := dt_flip (u (i + t)) (u i)
      omega)
    rw [show i + t + (n - t + 1) = i + 1 + n by omega, h.per] at g
    have := dt_flip (u (i + t)) (u (i + 1))
    omega
  have A0 : dtV (u i) (u (i + t)) ≤ 0 := by
    refine Int.not_lt.1 (fun hp => ?_)
    have x := Int.mul_pos b hp
    have y := Int.mul_pos a (f1 hp)
    omega
  by_cases tn : t + 1 = n
  · have e0 : u (i + t + 1) = u i := by rw [show i + t + 1 = i + n by omega, h.per]
    rw [e0, dt_self, Int.mul_zero, Int.zero_add] at q1
    have y := Int.mul_pos a D
    rw [dt_flip (u i) (u (i + 1)), Int.mul_neg] at q1
    omega
  · have A1 := h.neg i t (t + 1) (by omega) (by omega) (by omega) A0
    rw [← Nat.add_assoc] at A1
    have x := Int.mul_pos b (show 0 < -dtV (u i) (u (i + t + 1)) by omega)
    rw [Int.mul_neg] at x
    have B1 : 0 < dtV (u (i + 1)) (u (i + t + 1)) := by
      refine Int.not_le.1 (fun hp => ?_)
      have y := Int.mul_nonneg (Int.le_of_lt a) (show 0 ≤ -dtV (u (i + 1)) (u (i + t + 1)) by omega)
      rw [Int.mul_neg] at y
      omega
    have B0 : 0 < dtV (u (i + 1)) (u (i + t)) := by
      refine Int.not_le.1 (fun hp => ?_)
      have g := h.neg (i + 1) (t - 1) t (by omega) (by omega) (by omega) (by rw [show i + 1 + (t - 1) = i + t by omega]; exact hp)
      rw [show i + 1 + t = i + t + 1 by omega] at g
      omega
    have k := pluck (u (i + 1)) (u (i + t)) s (u (i + t + 1))
    have k1 := Int.mul_pos b T
    have k2 := Int.mul_nonneg (Int.le_of_lt B1) c
    have k3 := Int.mul_nonneg (Int.le_of_lt B0) d
    rw [dt_flip s (u (i + 1)), Int.neg_mul] at k
    omega
/-- the sum of both rays is inside a cone -/
theorem sum_in {u v : V2} (h : 0 < detV u v) : 0 < dtV u (u.1 + v.1, u.2 + v.2) ∧ 0 < dtV (u.1 + v.1, u.2 + v.2) v := by
  unfold detV detZ at h
  unfold dtV
  dsimp only
  constructor <;> grind
theorem first_ex {p : Nat → Bool} {n : Nat} (h : ∃ i, i < n ∧ p i = true) : firstI p n < n ∧ p (firstI p n) = true ∧ ∀ j, j < firstI p n → p j = false := by
  obtain ⟨k, hk, hp⟩ := h
  have all : ∀ q, (∃ m, m < q ∧ p m = true ∧ ∀ j, j < m → p j = false) ∨ ∀ j, j < q → p j = false := by
    intro q
    induction q with
    | zero => exact .inr (fun j hj => by omega)
    | succ q ih =>
      rcases ih with ⟨m, a, b, c⟩ | ih
      · exact .inl ⟨m, by omega, b, c⟩
      · cases hq : p q
        · refine .inr (fun j hj => ?_)
          by_cases e : j = q
          · rw [e]; exact hq
          · exact ih j (by omega)
        · exact .inl ⟨q, by omega, hq, ih⟩
  rcases all (k + 1) with ⟨m, hm, b, c⟩ | q
  · rw [first_is (show m < n by omega) b c]
    exact ⟨by omega, b, c⟩
  · have := q k (by omega)
    rw [hp] at this
    cases this
theorem inC_in {l : List V2} {i : Nat} {a : V2} (h : inC l i a = true) : 0 ≤ dtV a (cyc l (i + 1)) ∧ 0 ≤ dtV (cyc l i) a := by
  unfold inC inB detZ at h
  unfold dtV
  simpa using h
theorem where_sum {l : List V2} (h : fanB l = true) {i : Nat} (hi : i < l.length) : firstI (fun k => inC l k ((cyc l i).1 + (cyc l (i + 1)).1, (cyc l i).2 + (cyc l (i + 1)).2)) l.length = i := by
  have hr := fan_rnd h
  have D : 0 < detV (cyc l i) (cyc l (i + 1)) := hr.turn i
  obtain ⟨s1, s2⟩ := sum_in D
  refine first_is hi ?_ (fun k hk => ?_)
  · unfold inC inB
    unfold dtV at s1 s2
    unfold detZ
    dsimp only at s1 s2 ⊢
    simp
    omega
  · cases hc : inC l k ((cyc l i).1 + (cyc l (i + 1)).1, (cyc l i).2 + (cyc l (i + 1)).2)
    · rfl
    · exfalso
      obtain ⟨c1, c2⟩ := inC_in hc
      have e : cyc l (i + (k + l.length - i)) = cyc l k := by rw [show i + (k + l.length - i) = k + l.length by omega, cyc_add]
      have e1 : cyc l (i + (k + l.length - i) + 1) = cyc l (k + 1) := by rw [show i + (k + l.length - i) + 1 = k + 1 + l.length by omega, cyc_add]
      exact cone_alone hr s1 s2 (t := k + l.length - i) (by omega) (by omega) (by rw [e]; exact c2) (by rw [e1]; exact c1)
theorem where_inF {l : List V2} (h : fanB l = true) (a : V2) : firstI (fun k => inC l k a) l.length < l.length ∧ inC l (firstI (fun k => inC l k a) l.length) a = true := by
  have := first_ex (p := fun k => inC l k a) (fan_covers h a)
  exact ⟨this.1, this.2.1⟩
theorem inC_twice (l : List V2) (i : Nat) (x y : Int) : inC l i (x * 2, y * 2) = inC l i (x, y) := by
  unfold inC inB
  dsimp only
  have e1 : detZ (x * 2) (y * 2) (cyc l (i + 1)).1 (cyc l (i + 1)).2 = 2 * detZ x y (cyc l (i + 1)).1 (cyc l (i + 1)).2 := by unfold detZ; grind
  have e2 : detZ (cyc l i).1 (cyc l i).2 (x * 2) (y * 2) = 2 * detZ (cyc l i).1 (cyc l i).2 x y := by unfold detZ; grind
  rw [e1, e2, show decide (0 ≤ 2 * detZ x y (cyc l (i + 1)).1 (cyc l (i + 1)).2) = decide (0 ≤ detZ x y (cyc l (i + 1)).1 (cyc l (i + 1)).2) from decide_eq_decide.2 (by omega),
    show decide (0 ≤ 2 * detZ (cyc l i).1 (cyc l i).2 x y) = decide (0 ≤ detZ (cyc l i).1 (cyc l i).2 x y) from decide_eq_decide.2 (by omega)]
theorem where_twice (l : List V2) (x y : Int) : firstI (fun k => inC l k (x * 2, y * 2)) l.length = firstI (fun k => inC l k (x, y)) l.length := by
  congr 1
  funext k
  exact inC_twice l k x y
theorem where_has {l : List V2} (h : fanB l = true) {x y : Int} (hv : vecB x y = true) {i : Nat} (hi : inC l i (x, y) = true) : hasOk (cyc l i).1 (cyc l i).2 (cyc l (i + 1)).1 (cyc l (i + 1)).2 x y = true := by
  have hc : coneB (cyc l i).1 (cyc l i).2 (cyc l (i + 1)).1 (cyc l (i + 1)).2 = true := fan_cone h i
  have hi' : inB (cyc l i).1 (cyc l i).2 (cyc l (i + 1)).1 (cyc l (i + 1)).2 x y = true := hi
  unfold hasOk cvOk
  rw [hc, hv, hi']
  rfl
end Go.Proofs.YtcieihbknfeddaaDoor

/- Fans blown down, least fans: the mathematics of the promises of chapter 3. -/
namespace Go.Proofs.YtcieihbknfeddaaDoor
open Go.RowKit

theorem smV_of {l : List V2} (h : smoothB l = true) : SmV l.length (cyc l) := ⟨smooth_round h, fun i => (smooth_all h).2 i, (smooth_len h).1⟩
theorem smooth_mk {l : List V2} (hf : fanB l = true) (h : ∀ i, detV (cyc l i) (cyc l (i + 1)) = 1) : smoothB l = true := by
  unfold smoothB
  rw [hf, Bool.true_and]
  exact List.all_eq_true.2 (fun i _ => by unfold smB; rw [h i]; rfl)
theorem one_ofdet {a b c d : Int} (h : detZ a b c d = 1) : oneB a b = true := by
  unfold oneB
  have d1 : gcdZ a b ∣ a := by unfold gcdZ; exact Int.ofNat_dvd_left.2 (Nat.gcd_dvd_left _ _)
  have d2 : gcdZ a b ∣ b := by unfold gcdZ; exact Int.ofNat_dvd_left.2 (Nat.gcd_dvd_right _ _)
  have d3 : gcdZ a b ∣ 1 := by
    rw [← h]
    unfold detZ
    exact Int.dvd_sub (Int.dvd_trans d1 (Int.dvd_mul_right _ _)) (Int.dvd_trans d2 (Int.dvd_mul_right _ _))
  have := Int.eq_one_of_dvd_one (gcdZ_nonneg a b) d3
  rw [this]
  rfl
theorem prim_ofdet {a b : V2} (hv : vecB a.1 a.2 = true) (h : detV a b = 1) : primB a.1 a.2 = true := by
  unfold primB
  rw [hv, one_ofdet h]
  rfl
theorem allS_rot {l : List V2} {K : Nat} (hK : K ≤ l.length) : allS (rot K l) = allS l := by
  by_cases h0 : l.length = 0
  · have : l = [] := List.eq_nil_of_length_eq_zero h0
    subst this
    simp [rot]
  · unfold allS
    rw [rot_len]
    have : smB (rot K l) = fun i => smB l (K + i) := funext fun i => by
      unfold smB
      rw [cyc_rot hK, cyc_rot hK, Nat.add_assoc]
    rw [this]
    exact all_rot (by omega) (fun i => by unfold smB; rw [cyc_add, show i + l.length + 1 = i + 1 + l.length by omega, cyc_add]) K
theorem smooth_rotB {l : List V2} {K : Nat} (hK : K ≤ l.length) : smoothB (rot K l) = smoothB l := by
  unfold smoothB
  rw [fan_rot hK, allS_rot hK]
theorem smooth_tidy {l : List V2} (h : smoothB l = true) : smoothB (tidyL l) = true := by
  have := smooth_len h
  unfold tidyL
  rw [smooth_rotB (Nat.le_of_lt (tidyK_lt (by omega)))]
  exact h

/-! blown down -/
theorem down_in {l : List V2} {i : Nat} (hd : downB l i = true) : 3 < l.length ∧ numZ l i = -1 := by
  unfold downB at hd
  rw [Bool.and_eq_true] at hd
  exact ⟨of_decide_eq_true hd.1, by simpa using hd.2⟩
theorem without_len {l : List V2} {i : Nat} (hi : i < l.length) : (l.drop (i + 1) ++ l.take i).length = l.length - 1 := by simp; omega
theorem without_cyc {l : List V2} {i : Nat} (hi : i < l.length) (h2 : 2 ≤ l.length) (j : Nat) : cyc (l.drop (i + 1) ++ l.take i) j = cyc l (i + 1 + skV l.length j) := by
  have hl := without_len hi
  have hr := Nat.mod_lt j (show 0 < l.length - 1 by omega)
  rw [← cyc_mod (l.drop (i + 1) ++ l.take i) j, hl]
  have e : cyc (l.drop (i + 1) ++ l.take i) (j % (l.length - 1)) = cyc (rot (i + 1) l) (j % (l.length - 1)) := by
    rw [rot_lastV hi, cyc_app_lt (by rw [hl]; exact hr)]
  rw [e, cyc_rot (by omega)]
  refine cyc_congr l ?_
  unfold skV
  rw [show i + 1 + (j / (l.length - 1) * l.length + j % (l.length - 1)) = i + 1 + j % (l.length - 1) + l.length * (j / (l.length - 1)) by rw [Nat.mul_comm]; omega, Nat.add_mul_mod_self_left]
theorem num_dt {l : List V2} {i : Nat} (_ : 0 < l.length) (hn : numZ l i = -1) : dtV (cyc l (i + l.length - 1)) (cyc l (i + 1)) = 1 := by
  unfold numZ at hn
  have : detV (cyc l (i + l.length - 1)) (cyc l (i + 1)) = 1 := by omega
  exact this
theorem smooth_downF {l : List V2} {i : Nat} (h : smoothB l = true) (hi : i < l.length) (hd : downB l i = true) : smoothB (downL l i) = true := by
  have hS := smooth_down (smooth_all h) hi hd
  obtain ⟨h3, hn⟩ := down_in hd
  have h20 := smooth_len h
  have hl := without_len hi
  have ht := ((smV_of h).shift (i + 1)).take (by omega) (by
    show dtV (cyc l (i + 1 + (l.length - 2))) (cyc l (i + 1 + l.length)) = 1
    rw [cyc_add, show i + 1 + (l.length - 2) = i + l.length - 1 by omega]
    exact num_dt (by omega) hn)
  have ec : cyc (l.drop (i + 1) ++ l.take i) = fun j => cyc l (i + 1 + skV l.length j) := funext (without_cyc hi (by omega))
  have hr : RndV (l.drop (i + 1) ++ l.take i).length (cyc (l.drop (i + 1) ++ l.take i)) := by
    rw [hl, ec]
    exact ht.rnd
  have hf : fanB (l.drop (i + 1) ++ l.take i) = true := fan_mk (by omega) (by omega) (fun j => by
    have o : detV (cyc (l.drop (i + 1) ++ l.take i) j) (cyc (l.drop (i + 1) ++ l.take i) (j + 1)) = 1 := by rw [ec]; exact ht.one j
    refine prim_ofdet ?_ o
    rw [ec]
    exact (smooth_all h).1 _) hr
  refine smooth_mk ?_ hS.2
  rw [← rot_downV, fan_rot (by omega)]
  exact hf
theorem down_cyc {l : List V2} {i : Nat} (hi : i < l.length) (h2 : 2 ≤ l.length) (j : Nat) : cyc (downL l i) j = cyc l (i + 1 + skV l.length (l.length - (i + 1) + j)) := by
  rw [← rot_downV, cyc_rot (by rw [without_len hi]; omega), without_cyc hi h2]
/-- the cone at which a ray that has been blown down was -/
def upI (n i : Nat) : Nat := (i + n - 2) % (n - 1)
theorem upI_is {n i : Nat} (h4 : 4 ≤ n) (hi : i < n) : upI n i = if i = 0 then n - 2 else i - 1 := by
  unfold upI
  by_cases h : i = 0
  · rw [if_pos h, h, Nat.zero_add, Nat.mod_eq_of_lt (by omega)]
  · rw [if_neg h, show i + n - 2 = i - 1 + (n - 1) by omega, Nat.add_mod_right, Nat.mod_eq_of_lt (by omega)]
theorem up_ray {l : List V2} {i : Nat} (h : smoothB l = true) (hi : i < l.length) (hd : downB l i = true) : blowP (downL l i) (upI l.length i) = cyc l i := by
  obtain ⟨h3, hn⟩ := down_in hd
  have hS := smooth_all h
  have t0 := num_dt (by omega) hn
  have d1 : detV (cyc l (i + l.length - 1)) (cyc l i) = 1 := by
    have := hS.2 (i + l.length - 1)
    rwa [show i + l.length - 1 + 1 = i + l.length by omega, cyc_add] at this
  have t := three d1 (hS.2 i)
  have t0' : detV (cyc l (i + l.length - 1)) (cyc l (i + 1)) = 1 := t0
  rw [t0'] at t
  have e0 : cyc (downL l i) (upI l.length i) = cyc l (i + l.length - 1) := by
    rw [down_cyc hi (by omega), upI_is (by omega) hi]
    by_cases c : i = 0
    · subst c
      rw [if_pos rfl, show l.length - (0 + 1) + (l.length - 2) = l.length - 2 + (l.length - 1) by omega, sk_per (by omega), sk_lt (by omega), show 0 + 1 + (l.length - 2 + l.length) = 0 + l.length - 1 + l.length by omega, cyc_add]
    · rw [if_neg c, show l.length - (i + 1) + (i - 1) = l.length - 2 by omega, sk_lt (by omega), show i + 1 + (l.length - 2) = i + l.length - 1 by omega]
  have e1 : cyc (downL l i) (upI l.length i + 1) = cyc l (i + 1) := by
    rw [down_cyc hi (by omega), upI_is (by omega) hi]
    by_cases c : i = 0
    · subst c
      rw [if_pos rfl, show l.length - (0 + 1) + (l.length - 2 + 1) = 0 + (l.length - 1) + (l.length - 1) by omega, sk_per (by omega), sk_per (by omega), sk_lt (by omega), show 0 + 1 + (0 + l.length + l.length) = 0 + 1 + l.length + l.length by omega, cyc_add, cyc_add]
    · rw [if_neg c, show l.length - (i + 1) + (i - 1 + 1) = 0 + (l.length - 1) by omega, sk_per (by omega), sk_lt (by omega), show i + 1 + (0 + l.length) = i + 1 + l.length by omega, cyc_add]
  unfold blowP
  rw [e0, e1]
  refine Prod.ext ?_ ?_ <;> dsimp only <;> omega
theorem blow_down {l : List V2} {i : Nat} (h : smoothB l = true) (hi : i < l.length) (hd : downB l i = true) :
    ∃ r, r ≤ l.length ∧ blowL (downL l i) (upI l.length i) (blowP (downL l i) (upI l.length i)) = rot r l := by
  rw [up_ray h hi hd]
  obtain ⟨h3, _⟩ := down_in hd
  rw [upI_is (by omega) hi]
  by_cases c : i = 0
  · subst c
    refine ⟨1, by omega, ?_⟩
    have e := rot_lastV (l := l) (i := 0) hi
    rw [show 0 + 1 = 1 from rfl] at e
    rw [e, if_pos rfl]
    unfold blowL downL
    have hl : (l.take 0 ++ l.drop (0 + 1)).length = l.length - 1 := by simp
    rw [List.take_of_length_le (l := l.take 0 ++ l.drop (0 + 1)) (i := l.length - 2 + 1) (by omega), List.drop_of_length_le (l := l.take 0 ++ l.drop (0 + 1)) (i := l.length - 2 + 1) (by omega)]
    simp
  · refine ⟨0, Nat.zero_le _, ?_⟩
    rw [if_neg c]
    unfold blowL downL rot
    have hl : (l.take i).length = i := by simp; omega
    rw [show i - 1 + 1 = i by omega, List.take_left' hl, List.drop_left' hl]
    have e := List.take_append_drop i l
    rw [List.drop_eq_getElem_cons hi] at e
    have ec : cyc l i = l[i] := by rw [cyc_lt hi, List.getElem?_eq_getElem hi]; rfl
    rw [ec]
    simp
theorem upI_lt {l : List V2} {i : Nat} (hi : i < l.length) (hd : downB l i = true) : upI l.length i < (downL l i).length := by
  obtain ⟨h3, _⟩ := down_in hd
  rw [downL_len hi, upI_is (by omega) hi]
  split <;> omega
theorem downF_back {l : List V2} {i : Nat} (h : smoothB l = true) (hi : i < l.length) (hd : downB l i = true) :
    blowB (downL l i) (upI l.length i : Nat) = true ∧ ∃ L, blowL (downL l i) (upI l.length i) (blowP (downL l i) (upI l.length i)) = L ∧ L.length = l.length ∧ fanB L = true ∧ tidyL L = tidyL l := by
  obtain ⟨r, hr, e⟩ := blow_down h hi hd
  have hf := (smooth_in h).1
  refine ⟨?_, _, e, rot_len _ _, by rw [fan_rot hr]; exact hf, tidy_rot hf hr⟩
  unfold blowB idxB
  rw [Int.toNat_natCast, e, fan_rot hr, hf, decide_eq_true (by omega), decide_eq_true (by have := upI_lt hi hd; omega)]
  rfl

/-! least ones -/
theorem firstD_in {l : List V2} {i : Nat} (h : firstD l = some i) : i < l.length ∧ downB l i = true := by
  unfold firstD at h
  exact ⟨List.mem_range.1 (List.mem_of_find?_eq_some h), List.find?_some h⟩
theorem leastN_smooth (k : Nat) : ∀ l : List V2, smoothB l = true → smoothB (leastN k l) = true := by
  induction k with
  | zero => intro l h; exact h
  | succ k ih =>
    intro l h
    show smoothB (match firstD l with | none => l | some i => leastN k (downL l i)) = true
    cases hf : firstD l with
    | none => exact h
    | some i =>
      obtain ⟨h1, h2⟩ := firstD_in hf
      exact ih _ (smooth_downF h h1 h2)
theorem leastN_none (k : Nat) : ∀ l : List V2, l.length ≤ k + 3 → ∀ i, i < (leastN k l).length → downB (leastN k l) i = false := by
  induction k with
  | zero =>
    intro l hl i _
    show downB l i = false
    unfold downB
    rw [decide_eq_false (by omega)]
    rfl
  | succ k ih =>
    intro l hl i
    show i < (match firstD l with | none => l | some i => leastN k (downL l i)).length → downB (match firstD l with | none => l | some i => leastN k (downL l i)) i = false
    cases hf : firstD l with
    | none =>
      intro hi
      unfold firstD at hf
      rw [List.find?_eq_none] at hf
      simpa using hf i (List.mem_range.2 hi)
    | some j =>
      obtain ⟨h1, h2⟩ := firstD_in hf
      exact ih _ (by rw [downL_len h1]; omega) i
theorem down_mod {l : List V2} (i : Nat) : downB l (i % l.length) = downB l i := by
  unfold downB
  have := num_congr l i 0
  rw [Nat.add_zero, Nat.add_zero] at this
  rw [this]
theorem least_few {l : List V2} (h : smoothB l = true) (hn : ∀ i, i < l.length → downB l i = false) : l.length = 3 ∨ l.length = 4 := by
  have h3 := smooth_len h
  rcases Nat.lt_or_ge 4 l.length with h5 | h5
  · exfalso
    obtain ⟨i, hi⟩ := (smV_of h).has_one h5
    have e : numZ l (i + 1) = -1 := by
      unfold numZ
      rw [show i + 1 + l.length - 1 = i + l.length by omega, cyc_add]
      have : detV (cyc l i) (cyc l (i + 1 + 1)) = 1 := hi
      omega
    have k := hn ((i + 1) % l.length) (Nat.mod_lt _ (by omega))
    rw [down_mod] at k
    unfold downB at k
    rw [decide_eq_true (by omega : 3 < l.length), e] at k
    cases k
  · omega
theorem least_kind {l : List V2} (h : smoothB l = true) (hn : ∀ i, i < l.length → downB l i = false) : kind4 l ≠ 1 ∧ kindOk l = true := by
  have hf := least_few h hn
  refine ⟨?_, by unfold kindOk; apply decide_eq_true; omega⟩
  unfold kind4
  by_cases h3 : l.length = 3
  · rw [if_pos h3]; omega
  · have h4 : l.length = 4 := by omega
    rw [if_neg h3, if_pos h4]
    obtain ⟨a, b, c, _⟩ := four_cases h4 (smooth_all h)
    have key : ∀ j, j < 4 → numZ l j ≠ -1 := by
      intro j hj e
      have k := hn j (by omega)
      unfold downB at k
      rw [decide_eq_true (by omega : 3 < l.length), e] at k
      cases k
    have k0 := key 0 (by omega)
    have k1 := key 1 (by omega)
    have k2 := key 2 (by omega)
    have k3 := key 3 (by omega)
    unfold kindM
    (repeat' split) <;> omega
/-- the kind does not tell where a fan begins -/
theorem kindM_rot {l : List V2} (h4 : l.length = 4) {K : Nat} (hK : K ≤ l.length) : kindM (rot K l) = kindM l := by
  have e : ∀ K, (if 0 ≤ numZ l K then numZ l K else -numZ l K) + (if 0 ≤ numZ l (K + 1) then numZ l (K + 1) else -numZ l (K + 1)) = kindM l := by
    intro K
    induction K with
    | zero => rfl
    | succ K ih =>
      rw [← ih, show K + 1 + 1 = K + 2 from rfl, num_two h4 K]
      (repeat' split) <;> omega
  rw [← e K]
  unfold kindM
  rw [num_rot hK (by omega), num_rot hK (by omega)]
  rfl
theorem kind_rot {l : List V2} {K : Nat} (hK : K ≤ l.length) : kind4 (rot K l) = kind4 l := by
  unfold kind4
  rw [rot_len]
  by_cases h3 : l.length = 3
  · rw [if_pos h3, if_pos h3]
  · rw [if_neg h3, if_neg h3]
    by_cases h4 : l.length = 4
    · rw [if_pos h4, if_pos h4, kindM_rot h4 hK]
    · rw [if_neg h4, if_neg h4]
theorem least_all {l : List V2} (h : smoothB l = true) : smoothB (tidyL (leastL l)) = true ∧ ((tidyL (leastL l)).length = 3 ∨ (tidyL (leastL l)).length = 4) ∧ (tidyL (leastL l)).length ≤ l.length ∧ kind4 (tidyL (leastL l)) ≠ 1 ∧ kindOk (tidyL (leastL l)) = true := by
  have hs : smoothB (leastL l) = true := leastN_smooth _ _ h
  have hn : ∀ i, i < (leastL l).length → downB (leastL l) i = false := leastN_none _ _ (by omega)
  obtain ⟨k1, k2⟩ := least_kind hs hn
  have hl := least_few hs hn
  have hle := least_len l
  have hK : tidyK (leastL l) ≤ (leastL l).length := Nat.le_of_lt (tidyK_lt (by omega))
  refine ⟨smooth_tidy hs, by rw [tidyL_len]; exact hl, by rw [tidyL_len]; exact hle, ?_, ?_⟩
  · unfold tidyL
    rw [kind_rot hK]
    exact k1
  · unfold kindOk at *
    rw [tidyL_len]
    exact k2

/-! built ones -/
theorem build_all (is : List Int) : ∀ l l', smoothB l = true → buildS is l = some l' → smoothB l' = true ∧ l'.length = l.length + is.length := by
  induction is with
  | nil => intro l l' h e; cases e; exact ⟨h, rfl⟩
  | cons i r ih =>
    intro l l' h e
    unfold buildS at e
    split at e
    · next hc =>
      rw [Bool.and_eq_true] at hc
      have h2 := hc.2
      unfold blowB at h2
      rw [Bool.and_eq_true] at h2
      have hi : i.toNat < l.length := by
        have h3 := h2.1
        unfold idxB at h3
        rw [Bool.and_eq_true] at h3
        have a := of_decide_eq_true h3.1
        have b := of_decide_eq_true h3.2
        omega
      have hs := smooth_blow (smooth_all h) hi h2.2
      obtain ⟨s1, s2⟩ := ih _ _ hs e
      refine ⟨s1, ?_⟩
      rw [s2, blowL_len hi, List.length_cons]
      omega
    · cases e
theorem built_all {is : List Int} (h : builtB is = true) : smoothB (builtL is) = true ∧ (builtL is).length = 3 + is.length := by
  unfold builtB at h
  obtain ⟨l', hl⟩ := Option.isSome_iff_exists.1 h
  have := build_all is triL l' tri_smooth hl
  unfold builtL
  rw [hl]
  exact this
end Go.Proofs.YtcieihbknfeddaaDoor
