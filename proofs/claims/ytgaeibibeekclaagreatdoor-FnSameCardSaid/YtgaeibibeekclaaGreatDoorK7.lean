import Derived.Test.YtgaeibibeekclaaGreatDoorM1
import Derived.Test.YtgaeibibeekclaaGreatDoorXe
import Derived.Test.YtgaeibibeekclaaGreatDoorBg
import Derived.Test.YtgaeibibeekclaaGreatDoorBk
import Derived.Test.YtgaeibibeekclaaGreatDoorK0
/- Polygons: shifted and moved ones have the same numbers and are the same: the mathematics of the promises of chapter 6. -/
namespace Go.Proofs.YtgaeibibeekclaaGreatDoor
open Go.RowKit

theorem pe_back (g : Nat → Int) : ∀ n, sumI (fun i => g (n - 1 - i)) n = sumI g n := by
  intro n
  induction n with
  | zero => rfl
  | succ n ih =>
    rw [pe_front, sumI_succ, ← ih]
    have e : sumI (fun i => g (n + 1 - 1 - (i + 1))) n = sumI (fun i => g (n - 1 - i)) n := sumI_congr (fun i hi => by rw [show n + 1 - 1 - (i + 1) = n - 1 - i by omega])
    rw [e]
    show g (n + 1 - 1 - 0) + _ = _ + g n
    rw [show n + 1 - 1 - 0 = n by omega]
    omega
theorem pe_sumrev {f : Nat → Int} {n : Nat} (hp : ∀ i, f (i + n) = f i) : sumI (fun x => f (2 * n - 2 - x)) n = sumI f n := by
  have e : sumI (fun x => f (2 * n - 2 - x)) n = sumI (fun x => (fun y => f (n - 1 + y)) (n - 1 - x)) n := sumI_congr (fun x hx => by
    show f (2 * n - 2 - x) = f (n - 1 + (n - 1 - x))
    rw [show 2 * n - 2 - x = n - 1 + (n - 1 - x) by omega])
  rw [e, pe_back (fun y => f (n - 1 + y)), sumI_rot hp]
theorem pe_rev {l : List V2} {x : Nat} (hx : x < l.length) : cyc l.reverse x = cyc l (2 * l.length - 2 - x + 1) ∧ cyc l.reverse (x + 1) = cyc l (2 * l.length - 2 - x) := by
  have e0 := cyc_rev (l := l) (by omega) x 0 (by omega)
  have e1 := cyc_rev (l := l) (by omega) x 1 (by omega)
  rw [Nat.mod_eq_of_lt hx] at e0 e1
  rw [Nat.add_zero] at e0
  rw [e0, e1]
  exact ⟨by rw [show l.length - 1 - x + l.length - 0 = 2 * l.length - 2 - x + 1 by omega], by rw [show l.length - 1 - x + l.length - 1 = 2 * l.length - 2 - x by omega]⟩
theorem pe_areaR (l : List V2) : areaZ l.reverse = -areaZ l := by
  unfold areaZ
  rw [sumZ_I, sumZ_I, List.length_reverse]
  have e : sumI (fun x => detV (cyc l.reverse x) (cyc l.reverse (x + 1))) l.length = sumI (fun x => (-1) * (fun y => detV (cyc l y) (cyc l (y + 1))) (2 * l.length - 2 - x)) l.length := sumI_congr (fun x hx => by
    rw [(pe_rev hx).1, (pe_rev hx).2]
    unfold detV detZ
    dsimp only
    grind)
  rw [e, sumI_mul, pe_sumrev (f := fun y => detV (cyc l y) (cyc l (y + 1))) (fun i => by show detV (cyc l (i + l.length)) (cyc l (i + l.length + 1)) = _; rw [cyc_add, show i + l.length + 1 = i + 1 + l.length by omega, cyc_add])]
  omega
theorem pe_gcdN (a b : Int) : gcdZ (-a) (-b) = gcdZ a b := by
  unfold gcdZ
  rw [Int.natAbs_neg, Int.natAbs_neg]
theorem pe_edgeR (l : List V2) : edgeZ l.reverse l.reverse.length = edgeZ l l.length := by
  unfold edgeZ
  rw [sumZ_I, sumZ_I, List.length_reverse]
  have e : sumI (fun x => gcdZ (wayZ l.reverse x).1 (wayZ l.reverse x).2) l.length = sumI (fun x => (fun y => gcdZ (wayZ l y).1 (wayZ l y).2) (2 * l.length - 2 - x)) l.length := sumI_congr (fun x hx => by
    show _ = gcdZ (wayZ l (2 * l.length - 2 - x)).1 (wayZ l (2 * l.length - 2 - x)).2
    unfold wayZ
    rw [(pe_rev hx).1, (pe_rev hx).2, ← pe_gcdN]
    dsimp only
    rw [Int.neg_sub, Int.neg_sub])
  rw [e]
  exact pe_sumrev (f := fun y => gcdZ (wayZ l y).1 (wayZ l y).2) (fun i => by show gcdZ (wayZ l (i + l.length)).1 (wayZ l (i + l.length)).2 = _; rw [way_per])
theorem pe_wayF {l : List V2} (h0 : 0 < l.length) (a b c d : Int) (i : Nat) : wayZ (l.map (moveF a b c d)) i = moveF a b c d (wayZ l i) := by
  unfold wayZ
  rw [map_cyc h0, map_cyc h0]
  unfold moveF moveX
  refine Prod.ext ?_ ?_ <;> dsimp only <;> grind
theorem pe_dm {a b c d : Int} (hM : matB a b c d = true) : detM a b c d = 1 ∨ detM a b c d = -1 := by
  have := (mat_in hM).2
  unfold detOk at this
  simpa using this
theorem pe_mb {a b c d p q : Int} (k : matB a b c d = true) :
    moveX (detM a b c d * d) (-(detM a b c d * b)) (moveX a b p q) (moveX c d p q) = p ∧ moveX (-(detM a b c d * c)) (detM a b c d * a) (moveX a b p q) (moveX c d p q) = q := by
  have hd : a * d - b * c = detM a b c d := rfl
  rcases pe_dm k with h1 | h1
  all_goals
    rw [h1] at hd ⊢
    unfold moveX
    refine ⟨?_, ?_⟩ <;> grind
theorem pe_gd (x y : Int) : gcdZ x y ∣ x ∧ gcdZ x y ∣ y := ⟨by unfold gcdZ; exact Int.ofNat_dvd_left.2 (Nat.gcd_dvd_left _ _), by unfold gcdZ; exact Int.ofNat_dvd_left.2 (Nat.gcd_dvd_right _ _)⟩
theorem pe_dm2 {k a b x y : Int} (h1 : k ∣ x) (h2 : k ∣ y) : k ∣ moveX a b x y := Int.dvd_add (Int.dvd_trans h1 (Int.dvd_mul_left _ _)) (Int.dvd_trans h2 (Int.dvd_mul_left _ _))
theorem pe_gm {a b c d p q : Int} (k : matB a b c d = true) : gcdZ (moveX a b p q) (moveX c d p q) = gcdZ p q := by
  obtain ⟨b1, b2⟩ := pe_mb (p := p) (q := q) k
  obtain ⟨e1, e2⟩ := pe_gd p q
  obtain ⟨e3, e4⟩ := pe_gd (moveX a b p q) (moveX c d p q)
  refine Int.dvd_antisymm (gcdZ_nonneg _ _) (gcdZ_nonneg _ _) (Int.dvd_coe_gcd ?_ ?_) (Int.dvd_coe_gcd (pe_dm2 e1 e2) (pe_dm2 e1 e2))
  · have := pe_dm2 (a := detM a b c d * d) (b := -(detM a b c d * b)) e3 e4
    rwa [b1] at this
  · have := pe_dm2 (a := -(detM a b c d * c)) (b := detM a b c d * a) e3 e4
    rwa [b2] at this
theorem pe_areaM {l : List V2} (h0 : 0 < l.length) {a b c d : Int} (hM : matB a b c d = true) : areaZ (moveL a b c d l) = areaZ l := by
  have key : areaZ (l.map (moveF a b c d)) = detM a b c d * areaZ l := area_map h0 _ _ (fun u v => by
    unfold detV detZ moveF moveX detM
    dsimp only
    grind)
  unfold moveL
  rcases pe_dm hM with q | q
  · rw [if_pos (by omega), key, q]; omega
  · rw [if_neg (by omega), pe_areaR, key, q]; omega
theorem pe_edgeM {l : List V2} (h0 : 0 < l.length) {a b c d : Int} (hM : matB a b c d = true) : edgeZ (moveL a b c d l) (moveL a b c d l).length = edgeZ l l.length := by
  have key : edgeZ (l.map (moveF a b c d)) (l.map (moveF a b c d)).length = edgeZ l l.length := by
    unfold edgeZ
    rw [sumZ_I, sumZ_I, List.length_map]
    refine sumI_congr (fun i _ => ?_)
    rw [pe_wayF h0]
    exact pe_gm hM
  unfold moveL
  split
  · exact key
  · rw [pe_edgeR, key]
theorem pe_numsM {l : List V2} (h : polyB l = true) {a b c d : Int} (hM : matB a b c d = true) : areaZ (tidyP (moveL a b c d l)) = areaZ l ∧ edgeZ (tidyP (moveL a b c d l)) (tidyP (moveL a b c d l)).length = edgeZ l l.length ∧ innerZ (tidyP (moveL a b c d l)) = innerZ l := by
  have h0 : 0 < l.length := by have := poly_len h; omega
  have e1 : areaZ (tidyP (moveL a b c d l)) = areaZ l := by rw [area_tidy, pe_areaM h0 hM]
  have e2 : edgeZ (tidyP (moveL a b c d l)) (tidyP (moveL a b c d l)).length = edgeZ l l.length := by rw [pc_edgeT, pe_edgeM h0 hM]
  refine ⟨e1, e2, ?_⟩
  unfold innerZ
  rw [e1, e2]
/-! the same -/
theorem pe_idx {n K : Nat} (hK : K ≤ n) (k : Nat) : (K + ((n - K) % n + k)) % n = k % n := by
  rw [← Nat.add_assoc, Nat.add_mod, Nat.add_mod K, Nat.mod_mod, ← Nat.add_mod K, show K + (n - K) = n by omega, Nat.mod_self, Nat.zero_add, Nat.mod_mod]
theorem pe_one (u : V2) : (⟨1, 0, 0, 1⟩ : M4).mv u = u := by
  unfold M4.mv moveF moveX
  refine Prod.ext ?_ ?_ <;> dsimp only <;> omega
theorem pe_shift {l : List V2} (h : polyB l = true) (s : V2) (h' : polyB (l.map (shiftF s)) = true) : sameL l (tidyP (l.map (shiftF s))) = true := by
  have h0 : 0 < l.length := by have := poly_len h; omega
  have hl : (l.map (shiftF s)).length = l.length := by simp
  have hK := leastK_le (l.map (shiftF s))
  have hd : leadsB l (tidyP (l.map (shiftF s))) = true := by
    refine (leads_iff h (by rw [tidyP_len, hl])).2 ⟨(l.length - leastAt (l.map (shiftF s)) ((l.map (shiftF s)).length - 1)) % l.length, by rw [tidyP_len, hl]; exact Nat.mod_lt _ h0, ⟨1, 0, 0, 1⟩, by decide, fun k => ?_⟩
    rw [pe_one]
    unfold tidyP
    dsimp only
    rw [way_rot hK, way_shift h0]
    exact way_congr l (pe_idx (by omega) k).symm
  unfold sameL
  rw [h, tidyP_poly, h', hd]
  rfl
theorem pe_move {l : List V2} (h : polyB l = true) {a b c d : Int} (hM : matB a b c d = true) (h' : polyB (moveL a b c d l) = true) : sameL l (tidyP (moveL a b c d l)) = true := by
  have h3 := poly_len h
  have h0 : 0 < l.length := by omega
  have hl : (moveL a b c d l).length = l.length := moveL_len ..
  have hK : leastAt (moveL a b c d l) ((moveL a b c d l).length - 1) ≤ l.length - 1 := by have := leastAt_le (moveL a b c d l) ((moveL a b c d l).length - 1); omega
  rw [sameL_is]
  unfold sameM
  rw [h, tidyP_poly, h', tidyP_len, hl, Bool.and_true, Bool.true_and, Bool.and_eq_true]
  refine ⟨by simp, any_iff.2 ?_⟩
  have hlt : l.length = (tidyP (moveL a b c d l)).length := by rw [tidyP_len, hl]
  unfold tidyP at hlt ⊢
  generalize leastAt (moveL a b c d l) ((moveL a b c d l).length - 1) = K at *
  rcases pe_dm hM with q | q
  · refine ⟨(l.length - K) % l.length, Nat.mod_lt _ h0, ?_⟩
    rw [Bool.or_eq_true]
    refine .inl ((fit_iff h hlt _ _).2 ⟨⟨a, b, c, d⟩, hM, fun k => ?_⟩)
    have e : moveL a b c d l = l.map (moveF a b c d) := by unfold moveL; rw [if_pos (by omega)]
    rw [step_one, way_rot (by omega), e, pe_wayF h0]
    show moveF a b c d (wayZ l k) = _
    rw [way_congr l (pe_idx (n := l.length) (K := K) (by omega) k)]
  · refine ⟨l.length - 1 - K, by omega, ?_⟩
    rw [Bool.or_eq_true]
    refine .inr ((fit_iff h hlt _ _).2 ⟨⟨a, b, c, d⟩, hM, fun k => ?_⟩)
    have e : moveL a b c d l = ((l.map (moveF c d a b)).map swV).reverse := by
      unfold moveL
      rw [if_neg (by omega), List.map_map]
      rfl
    have hs := step_back (q := rot K (moveL a b c d l)) (by omega) (l.length - 1 - K) k
    rw [← hlt] at hs
    rw [hs, way_rot (by omega), e]
    have ho := over_way (p := l.map (moveF c d a b)) (by simp; omega) (x := K + (l.length - 1 - K + (l.length - 1) * (k + 1))) (y := k) (c := k + 2) (by
      rw [List.length_map, Nat.sub_mul, Nat.mul_add l.length k 2, Nat.mul_add l.length k 1]
      have : k + 1 ≤ l.length * (k + 1) := Nat.le_mul_of_pos_left _ h0
      rw [Nat.mul_add] at this
      omega)
    rw [ho, pe_wayF h0]
    show moveF a b c d (wayZ l k) = ngV (ngV (swV (moveF c d a b (wayZ l k))))
    unfold ngV swV moveF
    dsimp only
    rw [Int.neg_neg, Int.neg_neg]
end Go.Proofs.YtgaeibibeekclaaGreatDoor

/- Polygons with one inner vector: the mathematics of FnOneInner and FnReflexive. -/
namespace Go.Proofs.YtgaeibibeekclaaGreatDoor
open Go.RowKit

theorem pf_dvd (l : List V2) (i : Nat) : gcdZ (wayZ l i).1 (wayZ l i).2 ∣ detV (cyc l i) (cyc l (i + 1)) := by
  obtain ⟨a, b⟩ := pe_gd (wayZ l i).1 (wayZ l i).2
  have e : detV (cyc l i) (cyc l (i + 1)) = (cyc l i).1 * (wayZ l i).2 - (cyc l i).2 * (wayZ l i).1 := by
    unfold detV detZ wayZ
    dsimp only
    grind
  rw [e]
  exact Int.dvd_sub (Int.dvd_trans b (Int.dvd_mul_left _ _)) (Int.dvd_trans a (Int.dvd_mul_left _ _))
theorem pf_refl {l : List V2} (h : reflB l = true) : innerZ l = 1 := by
  obtain ⟨hp, hr⟩ := refl_in h
  have h3 := poly_len hp
  have pk := (pc_pick hp).1
  have e : areaZ l = edgeZ l l.length := by
    unfold areaZ edgeZ
    rw [sumZ_I, sumZ_I]
    exact sumI_congr (fun i _ => allR_at hr (by omega) i)
  omega
/-- if 0 lies inside: reflexive just if no other vector does -/
theorem pf_one {l : List V2} (hp : polyB l = true) (hd : ∀ i, i < l.length → 0 < detV (cyc l i) (cyc l (i + 1))) : reflB l = (innerZ l == 1) := by
  have h3 := poly_len hp
  have pk := (pc_pick hp).1
  cases hr : reflB l
  · symm
    rw [beq_eq_false_iff_ne]
    intro e
    have hs : sumI (fun i => gcdZ (wayZ l i).1 (wayZ l i).2) l.length = sumI (fun i => detV (cyc l i) (cyc l (i + 1))) l.length := by
      rw [← sumZ_I, ← sumZ_I]
      show edgeZ l l.length = areaZ l
      omega
    have ha := (pf_sum (f := fun i => detV (cyc l i) (cyc l (i + 1))) (g := fun i => gcdZ (wayZ l i).1 (wayZ l i).2) (fun i hi => Int.le_of_dvd (hd i hi) (pf_dvd l i))).2 hs
    have : reflB l = true := by
      unfold reflB
      rw [hp, Bool.true_and]
      exact allR_of (fun i hi => by unfold reflK; exact decide_eq_true (ha i hi).symm)
    rw [this] at hr
    cases hr
  · rw [pf_refl hr]
    rfl
/-- how many of the first corners have 0 to their left -/
def zroB (l : List V2) (k : Nat) : Bool := (List.range k).all fun i => decide (0 < detV (cyc l i) (cyc l (i + 1)))
theorem zro_succ (l : List V2) (k : Nat) : zroB l (k + 1) = (zroB l k && decide (0 < detV (cyc l k) (cyc l (k + 1)))) := by
  unfold zroB
  rw [List.range_succ, List.all_append]
  simp
theorem pf_law {l : List V2} (hp : polyB l = true) : (!zroB l l.length || reflB l == (innerZ l == 1)) = true := by
  cases hz : zroB l l.length
  · rfl
  · rw [pf_one hp (fun i hi => of_decide_eq_true (List.all_eq_true.1 hz i (List.mem_range.2 hi)))]
    simp
end Go.Proofs.YtgaeibibeekclaaGreatDoor

/- The same both ways: the mathematics of FnSame. -/
namespace Go.Proofs.YtgaeibibeekclaaGreatDoor
open Go.RowKit

def M4.iv (m : M4) : M4 := ⟨detM m.a m.b m.c m.d * m.d, -(detM m.a m.b m.c m.d * m.b), -(detM m.a m.b m.c m.d * m.c), detM m.a m.b m.c m.d * m.a⟩
theorem iv_mv {m : M4} (h : m.ok = true) (u : V2) : m.iv.mv (m.mv u) = u := by
  obtain ⟨e1, e2⟩ := pe_mb (p := u.1) (q := u.2) (show matB m.a m.b m.c m.d = true from h)
  exact Prod.ext e1 e2
theorem iv_ok {m : M4} (h : m.ok = true) : m.iv.ok = true := by
  obtain ⟨a, b, c, d⟩ := m
  have h' : matB a b c d = true := h
  obtain ⟨⟨h1, h2, h3, h4⟩, _⟩ := mat_in h'
  have hd := pe_dm h'
  have s1 := szB_true h1
  have s2 := szB_true h2
  have s3 := szB_true h3
  have s4 := szB_true h4
  have hD : a * d - b * c = detM a b c d := rfl
  show matB (detM a b c d * d) (-(detM a b c d * b)) (-(detM a b c d * c)) (detM a b c d * a) = true
  rcases hd with q | q
  all_goals
    rw [q] at hD ⊢
    unfold matB sz4
    rw [szB_mk (by omega) (by omega), szB_mk (by omega) (by omega), szB_mk (by omega) (by omega), szB_mk (by omega) (by omega)]
    unfold detOk detM
  · have : (1 * d) * (1 * a) - -(1 * b) * -(1 * c) = 1 := by grind
    rw [this]
    rfl
  · have : (-1 * d) * (-1 * a) - -(-1 * b) * -(-1 * c) = -1 := by grind
    rw [this]
    rfl
theorem ps_same1 {p q : List V2} (hl : p.length = q.length) (h0 : 0 < p.length) {i : Nat} (hi : i < q.length) {m : M4} (hm : m.ok = true) (h : ∀ k, m.mv (wayZ p k) = stpQ q i 1 k) : ∃ j, j < p.length ∧ MvP (wayZ q) (stpQ p j 1) := by
  refine ⟨(q.length - i) % q.length, by rw [hl]; exact Nat.mod_lt _ (by omega), m.iv, iv_ok hm, fun k => ?_⟩
  have e := h ((q.length - i) % q.length + k)
  rw [step_one] at e
  have e2 : wayZ q (i + ((q.length - i) % q.length + k)) = wayZ q k := way_congr q (pe_idx (by omega) k)
  rw [e2] at e
  rw [step_one, ← e, iv_mv hm]
theorem ps_same2 {p q : List V2} (hl : p.length = q.length) (h0 : 1 < p.length) {i : Nat} (hi : i < q.length) {m : M4} (hm : m.ok = true) (h : ∀ k, m.mv (wayZ p k) = stpQ q i (q.length - 1) k) : ∃ j, j < p.length ∧ MvP (wayZ q) (stpQ p j (p.length - 1)) := by
  refine ⟨i, by omega, m.iv, iv_ok hm, fun k => ?_⟩
  have e := h (i + (p.length - 1) * (k + 1))
  rw [step_back (by omega)] at e
  have e2 : wayZ q (i + (q.length - 1) * (i + (p.length - 1) * (k + 1) + 1)) = wayZ q k := by
    refine way_congr q ?_
    obtain ⟨n, hn⟩ : ∃ n, q.length = n + 2 := ⟨q.length - 2, by omega⟩
    rw [hl, hn]
    have e3 : i + (n + 2 - 1) * (i + (n + 2 - 1) * (k + 1) + 1) = k + (n + 2) * (i + n * (k + 1) + 1) := by
      rw [show n + 2 - 1 = n + 1 by omega]
      grind
    rw [e3, Nat.add_mul_mod_self_left]
  rw [e2] at e
  rw [step_back (by omega), ← iv_mv hm (wayZ p (i + (p.length - 1) * (k + 1))), e, mv_way, ng_ng]
theorem ps_at {p q : List V2} {i : Nat} {m : M4} (h : ∀ k, m.mv (wayZ p k) = wayZ q (i + k)) : ∀ k, cyc q (i + k) = shiftF (subV (cyc q i) (m.mv (cyc p 0))) (m.mv (cyc p k)) := by
  intro k
  induction k with
  | zero =>
    unfold shiftF subV
    refine Prod.ext ?_ ?_ <;> dsimp only [Nat.add_zero] <;> omega
  | succ k ih =>
    have e := h k
    have a1 : cyc q (i + (k + 1)) = ((cyc q (i + k)).1 + (wayZ q (i + k)).1, (cyc q (i + k)).2 + (wayZ q (i + k)).2) := by
      unfold wayZ
      rw [show i + (k + 1) = i + k + 1 by omega]
      refine Prod.ext ?_ ?_ <;> dsimp only <;> omega
    rw [a1, ← e, ih]
    unfold wayZ M4.mv moveF moveX shiftF subV
    refine Prod.ext ?_ ?_ <;> dsimp only <;> grind
theorem ps_list {p q : List V2} (hl : p.length = q.length) {i : Nat} (hi : i < q.length) {m : M4} (h : ∀ k, m.mv (wayZ p k) = wayZ q (i + k)) : rot i q = (p.map (moveF m.a m.b m.c m.d)).map (shiftF (subV (cyc q i) (m.mv (cyc p 0)))) := by
  refine (cyc_same (by rw [rot_len]; simp [hl])).2 (fun j hj => ?_)
  rw [cyc_rot (by omega), ps_at h, map_cyc (by simp; omega), map_cyc (by omega)]
  rfl
theorem ps_shiftE {l : List V2} (h0 : 0 < l.length) (s : V2) : edgeZ (l.map (shiftF s)) (l.map (shiftF s)).length = edgeZ l l.length := by
  rw [← pc_edgeT, pc_edgeS h0]
theorem ps_nums {p q : List V2} (hl : p.length = q.length) (h0 : 0 < p.length) {i : Nat} (hi : i < q.length) {m : M4} (hm : m.ok = true) (h : ∀ k, m.mv (wayZ p k) = wayZ q (i + k)) : areaZ q = detM m.a m.b m.c m.d * areaZ p ∧ edgeZ q q.length = edgeZ p p.length := by
  have e := ps_list hl hi h
  have h1 : 0 < (p.map (moveF m.a m.b m.c m.d)).length := by simp; omega
  constructor
  · rw [← area_rot (l := q) (K := i) (by omega), e, area_shift h1]
    exact area_map h0 _ _ (fun u v => by
      unfold detV detZ moveF moveX detM
      dsimp only
      grind)
  · rw [← pc_edgeR (l := q) (K := i) (by omega), e, ps_shiftE h1]
    unfold edgeZ
    rw [sumZ_I, sumZ_I, List.length_map]
    refine sumI_congr (fun j _ => ?_)
    rw [pe_wayF h0]
    exact pe_gm hm
theorem ps_pos {A B D : Int} (hA : 0 < A) (hB : 0 < B) (hD : D = 1 ∨ D = -1) (h : A = D * B) : A = B := by
  rcases hD with rfl | rfl <;> omega
theorem ps_same {p q : List V2} (h : sameL p q = true) : polyB p = true ∧ polyB q = true ∧ areaZ p = areaZ q ∧ edgeZ p p.length = edgeZ q q.length ∧ sameL q p = true := by
  rw [sameL_is] at h ⊢
  have h' := h
  unfold sameM at h'
  rw [Bool.and_eq_true, Bool.and_eq_true, Bool.and_eq_true, any_iff] at h'
  obtain ⟨⟨hp, hq⟩, hl, i, hi, hf⟩ := h'
  have hl : p.length = q.length := by simpa using hl
  have h3 := poly_len hp
  have ap := (pc_pick hp).2.2.2
  have aq := (pc_pick hq).2.2.2
  refine ⟨hp, hq, ?_⟩
  rw [Bool.or_eq_true, fit_iff hp hl, fit_iff hp hl] at hf
  have fin : (∃ j, j < p.length ∧ (fitL q p j 1 || fitL q p j (p.length - 1)) = true) → sameM q p = true := by
    intro hj
    unfold sameM
    rw [hp, hq, Bool.and_true, Bool.true_and, Bool.and_eq_true, any_iff]
    exact ⟨by simp [hl], hj⟩
  rcases hf with ⟨m, hm, hk⟩ | ⟨m, hm, hk⟩
  · have hw : ∀ k, m.mv (wayZ p k) = wayZ q (i + k) := fun k => by rw [hk k, step_one]
    obtain ⟨n1, n2⟩ := ps_nums hl (by omega) hi hm hw
    refine ⟨(ps_pos aq ap (pe_dm hm) n1).symm, n2.symm, fin ?_⟩
    obtain ⟨j, hj, hM⟩ := ps_same1 hl (by omega) hi hm hk
    exact ⟨j, hj, by rw [Bool.or_eq_true]; exact .inl ((fit_iff hq hl.symm j 1).2 hM)⟩
  · obtain ⟨i', hi', m', hm', hw⟩ := (over_fit (p := p) (q := q) (by omega) hl.symm 0).2 ⟨i, hi, m, hm, hk⟩
    have hlo : (p.map swV).reverse.length = q.length := by simp [hl]
    have hM : matB 0 1 1 0 = true := by decide
    have ea : areaZ (p.map swV).reverse = areaZ p := by rw [← over_is]; exact pe_areaM (by omega) hM
    have ee : edgeZ (p.map swV).reverse (p.map swV).reverse.length = edgeZ p p.length := by rw [← over_is]; exact pe_edgeM (by omega) hM
    obtain ⟨n1, n2⟩ := ps_nums hlo (by omega) hi' hm' (fun k => by have e := hw k; dsimp only at e; rwa [Nat.zero_add] at e)
    rw [ea] at n1
    rw [ee] at n2
    refine ⟨(ps_pos aq ap (pe_dm hm') n1).symm, n2.symm, fin ?_⟩
    obtain ⟨j, hj, hM⟩ := ps_same2 hl (by omega) hi hm hk
    exact ⟨j, hj, by rw [Bool.or_eq_true]; exact .inr ((fit_iff hq hl.symm j _).2 hM)⟩
end Go.Proofs.YtgaeibibeekclaaGreatDoor
