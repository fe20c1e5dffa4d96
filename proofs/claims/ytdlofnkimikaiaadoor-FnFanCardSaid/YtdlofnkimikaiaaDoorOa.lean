/- Fans: begun elsewhere, tidy, out of vectors in whatever order; the only cone that has a vector inside: the mathematics of the promises of chapter 3. -/
import Derived.Test.YtdlofnkimikaiaaDoorWn
import Derived.Test.YtdlofnkimikaiaaDoorBm
import Derived.Test.YtdlofnkimikaiaaDoorB9
import Derived.Test.YtdlofnkimikaiaaDoorB6
namespace Go.Proofs.YtdlofnkimikaiaaDoor
open Go.RowKit

theorem fan_rnd {l : List V2} (h : fanB l = true) : RndV l.length (cyc l) := by
  have h3 := fan_len h
  refine (round_of (by omega) (fun i _ => ?_) (fan_in h).2.2).rnd
  obtain ⟨_, _, _, _, hp⟩ := cone_in (fan_cone h i)
  exact posB_true hp
theorem fan_prim {l : List V2} (h : fanB l = true) (i : Nat) : primB (cyc l i).1 (cyc l i).2 = true := by
  obtain ⟨h1, h2, _⟩ := cone_in (fan_cone h i)
  unfold primB
  rw [h1, h2]
  rfl
theorem fan_allP {l : List V2} (h : fanB l = true) : AllP l := by
  intro v hv
  obtain ⟨i, hi, rfl⟩ := List.mem_iff_getElem.1 hv
  have := fan_prim h i
  rwa [cyc_lt hi, List.getElem?_eq_getElem hi] at this
theorem cnt_upR (p : Nat → Bool) (k : Nat) : cnt p (List.range (k + 1)) = cnt p (List.range k) + (if p k then 1 else 0) := by
  rw [List.range_succ, cnt_snoc]
/-- directions that go round once are met once again from the start -/
theorem rnd_one {l : List V2} (h0 : 0 < l.length) (hn : ∀ i, NZ (cyc l i)) (hr : RndV l.length (cyc l)) : oneBack l = true := by
  have hmin : ∀ j, ¬ ahdV (cyc l j) (cyc l (tidyK l)) := by
    intro j hj
    have a := tidy_min hn l.length (j % l.length) (Nat.mod_lt _ h0)
    rw [cyc_mod] at a
    have b := ahd_ahead hj
    unfold tidyK at b
    rw [a] at b
    cases b
  have hs := hr.sorted hmin
  generalize tidyK l = K at *
  have e : cnt (bkB l) (List.range l.length) = cnt (fun t => bkB l (K + t)) (List.range l.length) := (cnt_rot (fun i => by unfold bkB; rw [cyc_add, show i + l.length + 1 = i + 1 + l.length by omega, cyc_add]) K).symm
  unfold oneBack
  rw [e]
  have lo : ∀ m, m + 1 ≤ l.length → cnt (fun t => bkB l (K + t)) (List.range m) = 0 := by
    intro m
    induction m with
    | zero => intro _; rfl
    | succ m ih =>
      intro hm
      rw [cnt_upR, ih (by omega)]
      have : bkB l (K + m) = false := ahead_asymm (ahd_ahead (hs (m + 1) m (by omega) (by omega)))
      rw [this]
      rfl
  have h2 : 2 ≤ l.length := by
    rcases Nat.lt_or_ge l.length 2 with q | q
    · have h1 : l.length = 1 := by omega
      have t := hr.turn 0
      have p := hr.per 0
      rw [h1] at p
      rw [p, dt_self] at t
      omega
    · exact q
  obtain ⟨m, hm⟩ : ∃ m, l.length = m + 1 := ⟨l.length - 1, by omega⟩
  have : bkB l (K + m) = true := by
    unfold bkB
    have a := hs m 0 (by omega) (by omega)
    rw [show K + m + 1 = K + 0 + l.length by omega, cyc_add]
    exact ahd_ahead a
  rw [hm, cnt_upR, lo m (by omega), this]
  rfl
theorem fan_mk {l : List V2} (h3 : 3 ≤ l.length) (h20 : l.length ≤ 20) (hp : ∀ i, primB (cyc l i).1 (cyc l i).2 = true) (hr : RndV l.length (cyc l)) : fanB l = true := by
  have h1 := rnd_one (by omega) (fun i => prim_nz (hp i)) hr
  have h2 : allC l = true := List.all_eq_true.2 (fun i _ => by
    have t : 0 < detV (cyc l i) (cyc l (i + 1)) := hr.turn i
    unfold conB coneB
    rw [hp i, hp (i + 1)]
    exact decide_eq_true t)
  unfold fanB rng
  rw [h1, h2, decide_eq_true h3, decide_eq_true h20]
  rfl
theorem tidy_strictF {l : List V2} (h : fanB l = true) : Strict (tidyL l) :=
  tidy_strict (by have := fan_len h; omega) (fun i => prim_nz (fan_prim h i)) (fan_rnd h)
theorem fan_sort {l : List V2} (h : fanB l = true) : sortL l = tidyL l := (sort_is (fan_allP h) (tidy_strictF h) (fun x => rot_mem x)).symm
theorem fan_tidyF {l : List V2} (h : fanB l = true) : fanB (tidyL l) = true := by
  have := fan_len h
  unfold tidyL
  rw [fan_rot (Nat.le_of_lt (tidyK_lt (by omega)))]
  exact h
theorem fan_ofB {l : List V2} (h : fanB l = true) : ofB l = true := by
  rw [of_fan (fun j _ => fan_prim h j), fan_sort h]
  exact fan_tidyF h
theorem tidy_same {l l' : List V2} (h : fanB l = true) (h' : fanB l' = true) (hm : ∀ x, x ∈ l' ↔ x ∈ l) : tidyL l' = tidyL l := by
  rw [← fan_sort h, ← fan_sort h']
  exact strict_unique (strict_sort (fan_allP h')) (strict_sort (fan_allP h)) (fun x => by rw [mem_sort, mem_sort]; exact hm x)
theorem tidy_rot {l : List V2} {k : Nat} (h : fanB l = true) (hk : k ≤ l.length) : tidyL (rot k l) = tidyL l :=
  tidy_same h (by rw [fan_rot hk]; exact h) (fun x => rot_mem x)
theorem strict_nx {l : List V2} (h : Strict l) {k : Nat} (hk : k + 1 < l.length) : aheadV (cyc l k) (cyc l (k + 1)) = true := by
  unfold Strict at h
  rw [List.pairwise_iff_getElem] at h
  have := h k (k + 1) (by omega) hk (by omega)
  rw [cyc_lt (by omega : k < l.length), cyc_lt hk, List.getElem?_eq_getElem hk, List.getElem?_eq_getElem (by omega)]
  exact this
theorem ahead_ok {u v : V2} (hu : primB u.1 u.2 = true) (hv : primB v.1 v.2 = true) (h : aheadV u v = true) : aheadOk u.1 u.2 v.1 v.2 = true := by
  have h1 : aheadB u.1 u.2 v.1 v.2 = true := h
  unfold aheadOk twoOk
  rw [(prim_in hu).1, (prim_in hv).1, show nzB u.1 u.2 = true from prim_nz hu, show nzB v.1 v.2 = true from prim_nz hv, h1]
  rfl
/-- the order of vectors does not matter -/
theorem of_rev {l : List V2} (h : ofB l = true) : ofB l.reverse = true ∧ sortL l.reverse = sortL l ∧ fanB (sortL l) = true := by
  unfold ofB at *
  rw [Bool.and_eq_true] at h
  have e := sort_perm (all_prim h.1) (List.reverse_perm l)
  rw [e, h.2, List.all_reverse, h.1]
  exact ⟨rfl, rfl, rfl⟩

/-! the only cone that has a vector inside -/
theorem plane3 (a b s x : P2) : dtV a b * dtV s x = dtV s b * dtV a x + dtV a s * dtV b x := by unfold dtV; grind
theorem pluck (a b c d : P2) : dtV a b * dtV c d = dtV a c * dtV b d - dtV a d * dtV b c := by unfold dtV; grind
theorem cone_alone {n : Nat} {u : Nat → P2} (h : RndV n u) {s : P2} {i t : Nat} (a : 0 < dtV (u i) s) (b : 0 < dtV s (u (i + 1))) (h1 : 1 ≤ t) (ht : t < n) (c : 0 ≤ dtV (u (i + t)) s) (d : 0 ≤ dtV s (u (i + t + 1))) : False := by
  have D := h.turn i
  have T := h.turn (i + t)
  have p0 := plane3 (u i) (u (i + 1)) s (u (i + t))
  have p1 := plane3 (u i) (u (i + 1)) s (u (i + t + 1))
  have c' : dtV s (u (i + t)) ≤ 0 := by have := dt_flip s (u (i + t)); omega
  have q0 : dtV (u i) (u (i + 1)) * dtV s (u (i + t)) ≤ 0 := by
    have := Int.mul_nonneg (Int.le_of_lt D) (show 0 ≤ -dtV s (u (i + t)) by omega)
    rw [Int.mul_neg] at this
    omega
  have q1 : 0 ≤ dtV (u i) (u (i + 1)) * dtV s (u (i + t + 1)) := Int.mul_nonneg (Int.le_of_lt D) d
  rw [p0] at q0
  rw [p1] at q1
  by_cases t1 : t = 1
  · subst t1
    rw [dt_self, Int.mul_zero, Int.add_zero] at q0
    have := Int.mul_pos b D
    omega
  have f1 : 0 < dtV (u i) (u (i + t)) → 0 < dtV (u (i + 1)) (u (i + t)) := by
    intro hp
    have g := h.neg (i + t) (n - t) (n - t + 1) (by omega) (by omega) (by omega) (by
      rw [show i + t + (n - t) = i + n by omega, h.per]
      have := dt_flip (u (i + t)) (u i)
      omega)
    rw [show i + t + (n - t + 1) = i + 1 + n by omega, h.per] at g
    have := dt_flip (u (i + t)) (u (i + 1))
    omega
  have A0 : dtV (u i) (u (i + t)) ≤ 0 := by
    refine Int.not_lt.1 (fun hp => ?_)
    have x := Int.mul_pos b hp
    have y := Int.mul_pos a (f1 hp)
    omega
  by_cases tn : t + 1 = n
  · have e0 : u (i + t + 1) = u i := by rw [show i + t + 1 = i + n by omega, h.per]
    rw [e0, dt_self, Int.mul_zero, Int.zero_add] at q1
    have y := Int.mul_pos a D
    rw [dt_flip (u i) (u (i + 1)), Int.mul_neg] at q1
    omega
  · have A1 := h.neg i t (t + 1) (by omega) (by omega) (by omega) A0
    rw [← Nat.add_assoc] at A1
    have x := Int.mul_pos b (show 0 < -dtV (u i) (u (i + t + 1)) by omega)
    rw [Int.mul_neg] at x
    have B1 : 0 < dtV (u (i + 1)) (u (i + t + 1)) := by
      refine Int.not_le.1 (fun hp => ?_)
      have y := Int.mul_nonneg (Int.le_of_lt a) (show 0 ≤ -dtV (u (i + 1)) (u (i + t + 1)) by omega)
      rw [Int.mul_neg] at y
      omega
    have B0 : 0 < dtV (u (i + 1)) (u (i + t)) := by
      refine Int.not_le.1 (fun hp => ?_)
      have g := h.neg (i + 1) (t - 1) t (by omega) (by omega) (by omega) (by rw [show i + 1 + (t - 1) = i + t by omega]; exact hp)
      rw [show i + 1 + t = i + t + 1 by omega] at g
      omega
    have k := pluck (u (i + 1)) (u (i + t)) s (u (i + t + 1))
    have k1 := Int.mul_pos b T
    have k2 := Int.mul_nonneg (Int.le_of_lt B1) c
    have k3 := Int.mul_nonneg (Int.le_of_lt B0) d
    rw [dt_flip s (u (i + 1)), Int.neg_mul] at k
    omega
/-- the sum of both rays is inside a cone -/
theorem sum_in {u v : V2} (h : 0 < detV u v) : 0 < dtV u (u.1 + v.1, u.2 + v.2) ∧ 0 < dtV (u.1 + v.1, u.2 + v.2) v := by
  unfold detV detZ at h
  unfold dtV
  dsimp only
  constructor <;> grind
theorem first_ex {p : Nat → Bool} {n : Nat} (h : ∃ i, i < n ∧ p i = true) : firstI p n < n ∧ p (firstI p n) = true ∧ ∀ j, j < firstI p n → p j = false := by
  obtain ⟨k, hk, hp⟩ := h
  have all : ∀ q, (∃ m, m < q ∧ p m = true ∧ ∀ j, j < m → p j = false) ∨ ∀ j, j < q → p j = false := by
    intro q
    induction q with
    | zero => exact .inr (fun j hj => by omega)
    | succ q ih =>
      rcases ih with ⟨m, a, b, c⟩ | ih
      · exact .inl ⟨m, by omega, b, c⟩
      · cases hq : p q
        · refine .inr (fun j hj => ?_)
          by_cases e : j = q
          · rw [e]; exact hq
          · exact ih j (by omega)
        · exact .inl ⟨q, by omega, hq, ih⟩
  rcases all (k + 1) with ⟨m, hm, b, c⟩ | q
  · rw [first_is (show m < n by omega) b c]
    exact ⟨by omega, b, c⟩
  · have := q k (by omega)
    rw [hp] at this
    cases this
theorem inC_in {l : List V2} {i : Nat} {a : V2} (h : inC l i a = true) : 0 ≤ dtV a (cyc l (i + 1)) ∧ 0 ≤ dtV (cyc l i) a := by
  unfold inC inB detZ at h
  unfold dtV
  simpa using h
theorem where_sum {l : List V2} (h : fanB l = true) {i : Nat} (hi : i < l.length) : firstI (fun k => inC l k ((cyc l i).1 + (cyc l (i + 1)).1, (cyc l i).2 + (cyc l (i + 1)).2)) l.length = i := by
  have hr := fan_rnd h
  have D : 0 < detV (cyc l i) (cyc l (i + 1)) := hr.turn i
  obtain ⟨s1, s2⟩ := sum_in D
  refine first_is hi ?_ (fun k hk => ?_)
  · unfold inC inB
    unfold dtV at s1 s2
    unfold detZ
    dsimp only at s1 s2 ⊢
    simp
    omega
  · cases hc : inC l k ((cyc l i).1 + (cyc l (i + 1)).1, (cyc l i).2 + (cyc l (i + 1)).2)
    · rfl
    · exfalso
      obtain ⟨c1, c2⟩ := inC_in hc
      have e : cyc l (i + (k + l.length - i)) = cyc l k := by rw [show i + (k + l.length - i) = k + l.length by omega, cyc_add]
      have e1 : cyc l (i + (k + l.length - i) + 1) = cyc l (k + 1) := by rw [show i + (k + l.length - i) + 1 = k + 1 + l.length by omega, cyc_add]
      exact cone_alone hr s1 s2 (t := k + l.length - i) (by omega) (by omega) (by rw [e]; exact c2) (by rw [e1]; exact c1)
theorem where_inF {l : List V2} (h : fanB l = true) (a : V2) : firstI (fun k => inC l k a) l.length < l.length ∧ inC l (firstI (fun k => inC l k a) l.length) a = true := by
  have := first_ex (p := fun k => inC l k a) (fan_covers h a)
  exact ⟨this.1, this.2.1⟩
theorem inC_twice (l : List V2) (i : Nat) (x y : Int) : inC l i (x * 2, y * 2) = inC l i (x, y) := by
  unfold inC inB
  dsimp only
  have e1 : detZ (x * 2) (y * 2) (cyc l (i + 1)).1 (cyc l (i + 1)).2 = 2 * detZ x y (cyc l (i + 1)).1 (cyc l (i + 1)).2 := by unfold detZ; grind
  have e2 : detZ (cyc l i).1 (cyc l i).2 (x * 2) (y * 2) = 2 * detZ (cyc l i).1 (cyc l i).2 x y := by unfold detZ; grind
  rw [e1, e2, show decide (0 ≤ 2 * detZ x y (cyc l (i + 1)).1 (cyc l (i + 1)).2) = decide (0 ≤ detZ x y (cyc l (i + 1)).1 (cyc l (i + 1)).2) from decide_eq_decide.2 (by omega),
    show decide (0 ≤ 2 * detZ (cyc l i).1 (cyc l i).2 x y) = decide (0 ≤ detZ (cyc l i).1 (cyc l i).2 x y) from decide_eq_decide.2 (by omega)]
theorem where_twice (l : List V2) (x y : Int) : firstI (fun k => inC l k (x * 2, y * 2)) l.length = firstI (fun k => inC l k (x, y)) l.length := by
  congr 1
  funext k
  exact inC_twice l k x y
theorem where_has {l : List V2} (h : fanB l = true) {x y : Int} (hv : vecB x y = true) {i : Nat} (hi : inC l i (x, y) = true) : hasOk (cyc l i).1 (cyc l i).2 (cyc l (i + 1)).1 (cyc l (i + 1)).2 x y = true := by
  have hc : coneB (cyc l i).1 (cyc l i).2 (cyc l (i + 1)).1 (cyc l (i + 1)).2 = true := fan_cone h i
  have hi' : inB (cyc l i).1 (cyc l i).2 (cyc l (i + 1)).1 (cyc l (i + 1)).2 x y = true := hi
  unfold hasOk cvOk
  rw [hc, hv, hi']
  rfl
end Go.Proofs.YtdlofnkimikaiaaDoor
