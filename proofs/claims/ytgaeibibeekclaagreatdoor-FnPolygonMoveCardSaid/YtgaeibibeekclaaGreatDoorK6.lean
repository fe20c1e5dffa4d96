import Derived.Test.YtgaeibibeekclaaGreatDoorK3
import Derived.Test.YtgaeibibeekclaaGreatDoorK8
import Derived.Test.YtgaeibibeekclaaGreatDoorK4
/- Polygons: sums, and doubles as sums: the mathematics of the promises of chapter 6. -/
namespace Go.Proofs.YtgaeibibeekclaaGreatDoor
open Go.RowKit

theorem pd_mem {p q : List V2} {x : V2} : x ∈ smL p q ↔ ∃ i j, i < p.length ∧ j < q.length ∧ adV (cyc p i) (cyc q j) = x := by
  unfold smL sumK adR
  rw [List.mem_flatMap]
  constructor
  · rintro ⟨i, hi, hx⟩
    obtain ⟨j, hj, rfl⟩ := List.mem_map.1 hx
    exact ⟨i, j, List.mem_range.1 hi, List.mem_range.1 hj, rfl⟩
  · rintro ⟨i, j, hi, hj, rfl⟩
    exact ⟨i, List.mem_range.2 hi, List.mem_map.2 ⟨j, List.mem_range.2 hj, rfl⟩⟩
theorem pd_adV (a b : V2) : adV a b = adV b a := by
  unfold adV
  rw [Int.add_comm a.1, Int.add_comm a.2]
theorem pd_comm (p q : List V2) : hullD (smL p q) = hullD (smL q p) := hullD_sameA (fun x => by
  rw [pd_mem, pd_mem]
  constructor
  · rintro ⟨i, j, hi, hj, h⟩
    exact ⟨j, i, hj, hi, by rw [pd_adV]; exact h⟩
  · rintro ⟨i, j, hi, hj, h⟩
    exact ⟨j, i, hj, hi, by rw [pd_adV]; exact h⟩)
theorem pd_sumB (p q : List V2) : SumB q p = SumB p q := by
  unfold SumB
  rw [pd_comm q p, Bool.and_comm (polyB q)]
theorem pd_sumL (p q : List V2) : SumL q p = SumL p q := by
  unfold SumL
  rw [pd_sumB, pd_comm q p]
/-- the sum of a polygon and itself is its double -/
theorem pd_self {p : List V2} (h : polyB p = true) (h2 : polyB (p.map (timesF 2)) = true) : hullD (smL p p) = tidyP (p.map (timesF 2)) := by
  have h0 : 0 < p.length := by have := poly_len h; omega
  have hl : (p.map (timesF 2)).length = p.length := by simp
  refine hull_over (poly_conv h2) (fun j hj => ?_) (fun q hq k => ?_)
  · rw [hl] at hj
    refine pd_mem.2 ⟨j, j, hj, hj, ?_⟩
    rw [map_cyc h0]
    unfold adV timesF
    refine Prod.ext ?_ ?_ <;> dsimp only <;> omega
  · obtain ⟨i, j, -, -, rfl⟩ := pd_mem.1 hq
    have a := (poly_conv h).side0 k i
    have b := (poly_conv h).side0 k j
    have e : sideZ (cyc (p.map (timesF 2))) k (adV (cyc p i) (cyc p j)) = 2 * (sideZ (cyc p) k (cyc p i) + sideZ (cyc p) k (cyc p j)) := by
      unfold sideZ wyV
      rw [map_cyc h0, map_cyc h0]
      unfold timesF adV subV dtV
      dsimp only
      grind
    omega
theorem pd_two {l : List V2} (h : polyB (hullD l) = true) : 2 ≤ (sortD l).length := by
  refine Nat.not_lt.1 (fun q => ?_)
  have h3 := (poly_len h).1
  have := hull_two (l := l) (by omega)
  omega
theorem pd_has {l : List V2} (h : polyB (hullD l) = true) {x : V2} (hx : x ∈ l) : hasPB (hullD l) x = true := hull_all (pd_two h) hx
theorem pd_sum_has {p q : List V2} (h : SumB p q = true) : hasPB (hullD (smL p q)) (adV (cyc p 0) (cyc q 0)) = true ∧ vecB ((cyc p 0).1 + (cyc q 0).1) ((cyc p 0).2 + (cyc q 0).2) = true := by
  unfold SumB at h
  rw [Bool.and_eq_true, Bool.and_eq_true] at h
  obtain ⟨⟨hp, hq⟩, hs⟩ := h
  have p3 := poly_len hp
  have q3 := poly_len hq
  refine ⟨pd_has hs (pd_mem.2 ⟨0, 0, by omega, by omega, rfl⟩), ?_⟩
  have a := poly_small hp 0
  have b := poly_small hq 0
  exact vec_of (by omega)
end Go.Proofs.YtgaeibibeekclaaGreatDoor

/- Mixed areas: two closed lists of multiples of directions that go once round: the square of the mixed area is at least the product of the areas. -/
namespace Go.Proofs.YtgaeibibeekclaaGreatDoor
open Go.RowKit

/-- a direction and two multiples of it -/
structure Dir where
  u : V2
  a : Int
  b : Int
def scD (D : Int) (e : Dir) : Dir := ⟨e.u, D * e.a, D * e.b⟩
def stP (p : V2) (c : Int) (u : V2) : V2 := (p.1 + c * u.1, p.2 + c * u.2)
def endD (f : Dir → Int) : List Dir → V2 → V2
  | [], p => p
  | e :: t, p => endD f t (stP p (f e) e.u)
def mxD (f g : Dir → Int) : List Dir → V2 → V2 → Int
  | [], _, _ => 0
  | e :: t, p, q => (g e * dtV p e.u + f e * dtV q e.u) + mxD f g t (stP p (f e) e.u) (stP q (g e) e.u)
def dlV (D : Int) (p : V2) : V2 := (D * p.1, D * p.2)
/-- taken away: the middle one of three, its multiples given to its neighbours -/
def rm0 (x y z : Dir) : Dir := ⟨x.u, dtV x.u z.u * x.a + dtV y.u z.u * y.a, dtV x.u z.u * x.b + dtV y.u z.u * y.b⟩
def rm2 (x y z : Dir) : Dir := ⟨z.u, dtV x.u z.u * z.a + dtV x.u y.u * y.a, dtV x.u z.u * z.b + dtV x.u y.u * y.b⟩
def Pick2 (f : Dir → Int) : Prop := f = Dir.a ∨ f = Dir.b
theorem pick_sc {f : Dir → Int} (h : Pick2 f) (D : Int) (e : Dir) : f (scD D e) = D * f e := by
  rcases h with rfl | rfl <;> rfl
theorem pick_0 {f : Dir → Int} (h : Pick2 f) (x y z : Dir) : f (rm0 x y z) = dtV x.u z.u * f x + dtV y.u z.u * f y := by
  rcases h with rfl | rfl <;> rfl
theorem pick_2 {f : Dir → Int} (h : Pick2 f) (x y z : Dir) : f (rm2 x y z) = dtV x.u z.u * f z + dtV x.u y.u * f y := by
  rcases h with rfl | rfl <;> rfl
theorem st_sc (D c : Int) (p u : V2) : stP (dlV D p) (D * c) u = dlV D (stP p c u) := by
  unfold stP dlV
  refine Prod.ext ?_ ?_ <;> dsimp only <;> grind
theorem end_sc {f : Dir → Int} (h : Pick2 f) (D : Int) : ∀ (t : List Dir) (p : V2), endD f (t.map (scD D)) (dlV D p) = dlV D (endD f t p)
  | [], _ => rfl
  | e :: t, p => by
    show endD f (t.map (scD D)) (stP (dlV D p) (f (scD D e)) e.u) = dlV D (endD f t (stP p (f e) e.u))
    rw [pick_sc h, st_sc, end_sc h D t]
theorem mx_sc {f g : Dir → Int} (h : Pick2 f) (k : Pick2 g) (D : Int) : ∀ (t : List Dir) (p q : V2), mxD f g (t.map (scD D)) (dlV D p) (dlV D q) = D * D * mxD f g t p q
  | [], _, _ => by show (0 : Int) = D * D * 0; omega
  | e :: t, p, q => by
    show (g (scD D e) * dtV (dlV D p) e.u + f (scD D e) * dtV (dlV D q) e.u) + mxD f g (t.map (scD D)) (stP (dlV D p) (f (scD D e)) e.u) (stP (dlV D q) (g (scD D e)) e.u) = D * D * ((g e * dtV p e.u + f e * dtV q e.u) + mxD f g t (stP p (f e) e.u) (stP q (g e) e.u))
    rw [pick_sc h, pick_sc k, st_sc, st_sc, mx_sc h k D t]
    generalize mxD f g t (stP p (f e) e.u) (stP q (g e) e.u) = R
    unfold dtV dlV
    dsimp only
    grind
theorem st_rm {f : Dir → Int} (h : Pick2 f) (x y z : Dir) (p : V2) : stP (stP (dlV (dtV x.u z.u) p) (f (rm0 x y z)) x.u) (f (rm2 x y z)) z.u = dlV (dtV x.u z.u) (stP (stP (stP p (f x) x.u) (f y) y.u) (f z) z.u) := by
  rw [pick_0 h, pick_2 h]
  unfold stP dlV dtV
  refine Prod.ext ?_ ?_ <;> dsimp only <;> grind
theorem mx_rm {f g : Dir → Int} (h : Pick2 f) (k : Pick2 g) (x y z : Dir) (t : List Dir) (p q : V2) :
    mxD f g (rm0 x y z :: rm2 x y z :: t.map (scD (dtV x.u z.u))) (dlV (dtV x.u z.u) p) (dlV (dtV x.u z.u) q) =
      dtV x.u z.u * dtV x.u z.u * mxD f g (x :: y :: z :: t) p q + 2 * (dtV x.u y.u * dtV y.u z.u * dtV x.u z.u) * (f y * g y) := by
  show (g (rm0 x y z) * dtV (dlV (dtV x.u z.u) p) x.u + f (rm0 x y z) * dtV (dlV (dtV x.u z.u) q) x.u) + ((g (rm2 x y z) * dtV (stP (dlV (dtV x.u z.u) p) (f (rm0 x y z)) x.u) z.u + f (rm2 x y z) * dtV (stP (dlV (dtV x.u z.u) q) (g (rm0 x y z)) x.u) z.u) +
      mxD f g (t.map (scD (dtV x.u z.u))) (stP (stP (dlV (dtV x.u z.u) p) (f (rm0 x y z)) x.u) (f (rm2 x y z)) z.u) (stP (stP (dlV (dtV x.u z.u) q) (g (rm0 x y z)) x.u) (g (rm2 x y z)) z.u)) =
    dtV x.u z.u * dtV x.u z.u * ((g x * dtV p x.u + f x * dtV q x.u) + ((g y * dtV (stP p (f x) x.u) y.u + f y * dtV (stP q (g x) x.u) y.u) + ((g z * dtV (stP (stP p (f x) x.u) (f y) y.u) z.u + f z * dtV (stP (stP q (g x) x.u) (g y) y.u) z.u) +
      mxD f g t (stP (stP (stP p (f x) x.u) (f y) y.u) (f z) z.u) (stP (stP (stP q (g x) x.u) (g y) y.u) (g z) z.u)))) + 2 * (dtV x.u y.u * dtV y.u z.u * dtV x.u z.u) * (f y * g y)
  rw [st_rm h, st_rm k, mx_sc h k, pick_0 h, pick_0 k, pick_2 h, pick_2 k]
  generalize mxD f g t (stP (stP (stP p (f x) x.u) (f y) y.u) (f z) z.u) (stP (stP (stP q (g x) x.u) (g y) y.u) (g z) z.u) = R
  generalize f x = fx
  generalize f y = fy
  generalize f z = fz
  generalize g x = gx
  generalize g y = gy
  generalize g z = gz
  obtain ⟨⟨x1, x2⟩, xa, xb⟩ := x
  obtain ⟨⟨y1, y2⟩, ya, yb⟩ := y
  obtain ⟨⟨z1, z2⟩, za, zb⟩ := z
  obtain ⟨p1, p2⟩ := p
  obtain ⟨q1, q2⟩ := q
  unfold dtV dlV stP
  dsimp only
  grind
theorem mx_rmS {f g : Dir → Int} (h : Pick2 f) (k : Pick2 g) (x y z : Dir) (t : List Dir) : ∀ (s : List Dir) (p q : V2),
    mxD f g (s.map (scD (dtV x.u z.u)) ++ rm0 x y z :: rm2 x y z :: t.map (scD (dtV x.u z.u))) (dlV (dtV x.u z.u) p) (dlV (dtV x.u z.u) q) =
      dtV x.u z.u * dtV x.u z.u * mxD f g (s ++ x :: y :: z :: t) p q + 2 * (dtV x.u y.u * dtV y.u z.u * dtV x.u z.u) * (f y * g y)
  | [], p, q => mx_rm h k x y z t p q
  | e :: s, p, q => by
    have ih := mx_rmS h k x y z t s (stP p (f e) e.u) (stP q (g e) e.u)
    show (g (scD (dtV x.u z.u) e) * dtV (dlV (dtV x.u z.u) p) e.u + f (scD (dtV x.u z.u) e) * dtV (dlV (dtV x.u z.u) q) e.u) + mxD f g (s.map (scD (dtV x.u z.u)) ++ rm0 x y z :: rm2 x y z :: t.map (scD (dtV x.u z.u))) (stP (dlV (dtV x.u z.u) p) (f (scD (dtV x.u z.u) e)) e.u) (stP (dlV (dtV x.u z.u) q) (g (scD (dtV x.u z.u) e)) e.u) =
      dtV x.u z.u * dtV x.u z.u * ((g e * dtV p e.u + f e * dtV q e.u) + mxD f g (s ++ x :: y :: z :: t) (stP p (f e) e.u) (stP q (g e) e.u)) + 2 * (dtV x.u y.u * dtV y.u z.u * dtV x.u z.u) * (f y * g y)
    rw [pick_sc h, pick_sc k, st_sc, st_sc, ih]
    generalize mxD f g (s ++ x :: y :: z :: t) (stP p (f e) e.u) (stP q (g e) e.u) = R
    generalize 2 * (dtV x.u y.u * dtV y.u z.u * dtV x.u z.u) * (f y * g y) = S
    generalize dtV x.u z.u = D
    unfold dtV dlV
    dsimp only
    grind
theorem end_rmS {f : Dir → Int} (h : Pick2 f) (x y z : Dir) (t : List Dir) : ∀ (s : List Dir) (p : V2),
    endD f (s.map (scD (dtV x.u z.u)) ++ rm0 x y z :: rm2 x y z :: t.map (scD (dtV x.u z.u))) (dlV (dtV x.u z.u) p) = dlV (dtV x.u z.u) (endD f (s ++ x :: y :: z :: t) p)
  | [], p => by
    show endD f (t.map (scD (dtV x.u z.u))) (stP (stP (dlV (dtV x.u z.u) p) (f (rm0 x y z)) x.u) (f (rm2 x y z)) z.u) = _
    rw [st_rm h, end_sc h]
    rfl
  | e :: s, p => by
    have ih := end_rmS h x y z t s (stP p (f e) e.u)
    show endD f (s.map (scD (dtV x.u z.u)) ++ rm0 x y z :: rm2 x y z :: t.map (scD (dtV x.u z.u))) (stP (dlV (dtV x.u z.u) p) (f (scD (dtV x.u z.u) e)) e.u) = _
    rw [pick_sc h, st_sc, ih]
    rfl
/-- the step's inequality -/
theorem mx_ineq {A B T A' B' T' D c a b : Int} (hD : 0 < D) (hc : 0 < c) (hB : 0 < B) (eA : A' = D * D * A + c * (a * a)) (eB : B' = D * D * B + c * (b * b)) (eT : T' = D * D * T + c * (a * b)) (hN : A' * B' ≤ T' * T') : A * B ≤ T * T := by
  have hbb : 0 ≤ b * b := by
    rcases Int.le_total 0 b with q | q
    · exact Int.mul_nonneg q q
    · exact Int.mul_nonneg_of_nonpos_of_nonpos q q
  have hB' : 0 < B' := by
    have h1 : 0 < D * D * B := Int.mul_pos (Int.mul_pos hD hD) hB
    have h2 : 0 ≤ c * (b * b) := Int.mul_nonneg (by omega) hbb
    omega
  have hsq : 0 ≤ (a * B' - b * T') * (a * B' - b * T') := by
    rcases Int.le_total 0 (a * B' - b * T') with q | q
    · exact Int.mul_nonneg q q
    · exact Int.mul_nonneg_of_nonpos_of_nonpos q q
  have key : B' * ((D * D) * (D * D) * (T * T - A * B)) = (T' * T' - A' * B') * (D * D * B) + c * ((a * B' - b * T') * (a * B' - b * T')) := by
    subst eA eB eT
    grind
  refine Int.not_lt.1 (fun q => ?_)
  have h1 : 0 ≤ (T' * T' - A' * B') * (D * D * B) := Int.mul_nonneg (by omega) (Int.le_of_lt (Int.mul_pos (Int.mul_pos hD hD) hB))
  have h2 : 0 ≤ c * ((a * B' - b * T') * (a * B' - b * T')) := Int.mul_nonneg (by omega) hsq
  have h3 : 0 < B' * ((D * D) * (D * D) * (A * B - T * T)) := Int.mul_pos hB' (Int.mul_pos (Int.mul_pos (Int.mul_pos hD hD) (Int.mul_pos hD hD)) (by omega))
  have h4 : B' * ((D * D) * (D * D) * (T * T - A * B)) = -(B' * ((D * D) * (D * D) * (A * B - T * T))) := by grind
  omega
end Go.Proofs.YtgaeibibeekclaaGreatDoor

/- Mixed areas: Minkowski's inequality for closed lists of multiples of directions. -/
namespace Go.Proofs.YtgaeibibeekclaaGreatDoor
open Go.RowKit

theorem per_mul {n : Nat} {u : Nat → P2} (h : ∀ i, u (i + n) = u i) (i : Nat) : ∀ m, u (n * m + i) = u i := by
  intro m
  induction m with
  | zero => rw [Nat.mul_zero, Nat.zero_add]
  | succ m ih => rw [Nat.mul_succ, show n * m + n + i = n * m + i + n by omega, h, ih]
/-- one direction less -/
theorem RndV.less {n c : Nat} {u u' : Nat → P2} (h : RndV (n + 1) u) (h1 : 1 ≤ c) (hc : c < n) (ht : 0 < dtV (u (c - 1)) (u (c + 1))) (hu : ∀ m r, r < n → u' (n * m + r) = u ((n + 1) * m + (if r < c then r else r + 1))) : RndV n u' := by
  have hm : ∀ k, ∃ m r, r < n ∧ k = n * m + r := fun k => ⟨k / n, k % n, Nat.mod_lt _ (by omega), (Nat.div_add_mod k n).symm⟩
  have hp := fun i m => per_mul h.per i m
  refine ⟨fun k => ?_, fun k => ?_, fun j t t' h0 htt hn hle => ?_⟩
  · obtain ⟨m, r, hr, rfl⟩ := hm k
    have e1 := hu (m + 1) r hr
    rw [Nat.mul_succ, Nat.mul_succ] at e1
    rw [show n * m + r + n = n * m + n + r by omega, e1, hu m r hr, show (n + 1) * m + (n + 1) + (if r < c then r else r + 1) = (n + 1) * m + (if r < c then r else r + 1) + (n + 1) by omega, h.per]
  · obtain ⟨m, r, hr, rfl⟩ := hm k
    rw [hu m r hr]
    rcases Nat.lt_or_ge (r + 1) n with q | q
    · have e1 := hu m (r + 1) q
      rw [← Nat.add_assoc] at e1
      rw [e1]
      by_cases a : r + 1 < c
      · rw [if_pos (by omega), if_pos a, ← Nat.add_assoc]
        exact h.turn _
      · by_cases b : r < c
        · rw [if_pos b, if_neg a, hp, hp]
          rw [show r = c - 1 by omega, show c - 1 + 1 + 1 = c + 1 by omega]
          exact ht
        · rw [if_neg b, if_neg a, ← Nat.add_assoc ((n + 1) * m) (r + 1) 1]
          exact h.turn _
    · obtain rfl : n = r + 1 := by omega
      have e1 := hu (m + 1) 0 (by omega)
      rw [Nat.mul_succ, Nat.add_zero, if_pos (by omega), Nat.mul_succ, Nat.add_zero] at e1
      rw [show (r + 1) * m + r + 1 = (r + 1) * m + (r + 1) by omega, e1, if_neg (by omega), show (r + 1 + 1) * m + (r + 1 + 1) = (r + 1 + 1) * m + (r + 1) + 1 by omega]
      exact h.turn _
  · obtain ⟨m, r, hr, rfl⟩ := hm j
    have key : ∀ s, s < n → ∃ d, d < n + 1 ∧ u' (n * m + r + s) = u ((n + 1) * m + (if r < c then r else r + 1) + d) ∧ d = (if r + s < n then (if r + s < c then r + s else r + s + 1) else (if r + s - n < c then r + s - n else r + s - n + 1) + (n + 1)) - (if r < c then r else r + 1) := by
      intro s hs
      refine ⟨_, ?_, ?_, rfl⟩
      · split <;> split <;> split <;> omega
      · by_cases a : r + s < n
        · have e1 := hu m (r + s) a
          rw [← Nat.add_assoc] at e1
          rw [e1, if_pos a]
          congr 1
          split <;> split <;> omega
        · have e1 := hu (m + 1) (r + s - n) (by omega)
          rw [Nat.mul_succ, Nat.mul_succ, show n * m + n + (r + s - n) = n * m + r + s by omega] at e1
          rw [e1, if_neg a]
          congr 1
          split <;> split <;> omega
    obtain ⟨d, d1, d2, d3⟩ := key t (by omega)
    obtain ⟨d', d4, d5, d6⟩ := key t' hn
    have e0 : u' (n * m + r) = u ((n + 1) * m + (if r < c then r else r + 1)) := hu m r hr
    rw [e0, d2] at hle
    rw [e0, d5]
    refine h.neg _ d d' ?_ ?_ d4 hle
    · rw [d3]; split <;> split <;> split <;> omega
    · rw [d3, d6]; split <;> split <;> split <;> split <;> split <;> omega
theorem cyc_less {U : List V2} {c : Nat} (hc : c < U.length) (h2 : 2 ≤ U.length) (m r : Nat) (hr : r < U.length - 1) : cyc (U.eraseIdx c) ((U.length - 1) * m + r) = cyc U (U.length * m + (if r < c then r else r + 1)) := by
  have hl : (U.eraseIdx c).length = U.length - 1 := by rw [List.length_eraseIdx, if_pos hc]
  have e1 : cyc (U.eraseIdx c) ((U.length - 1) * m + r) = cyc (U.eraseIdx c) r := by
    rw [← hl]
    exact cyc_congr _ (by rw [Nat.mul_add_mod])
  have e2 : cyc U (U.length * m + (if r < c then r else r + 1)) = cyc U (if r < c then r else r + 1) := cyc_congr _ (by rw [Nat.mul_add_mod])
  rw [e1, e2, cyc_lt (by omega), cyc_lt (by split <;> omega), List.getElem?_eraseIdx]
  split <;> rfl
theorem rnd_less {U : List V2} {c : Nat} (h : RndV U.length (cyc U)) (h1 : 1 ≤ c) (hc : c + 1 < U.length) (ht : 0 < dtV (cyc U (c - 1)) (cyc U (c + 1))) : RndV (U.eraseIdx c).length (cyc (U.eraseIdx c)) := by
  rw [List.length_eraseIdx, if_pos (by omega)]
  obtain ⟨n, hn⟩ : ∃ n, U.length = n + 1 := ⟨U.length - 1, by omega⟩
  have hk := cyc_less (U := U) (c := c) (by omega) (by omega)
  rw [hn, Nat.add_sub_cancel] at hk ⊢
  rw [hn] at h
  exact h.less h1 (by omega) ht hk
/-- three directions -/
theorem mink3 (x y z : Dir) (h2 : 0 < dtV y.u z.u) (ca : endD Dir.a [x, y, z] (0, 0) = (0, 0)) (cb : endD Dir.b [x, y, z] (0, 0) = (0, 0)) :
    mxD Dir.a Dir.a [x, y, z] (0, 0) (0, 0) * mxD Dir.b Dir.b [x, y, z] (0, 0) (0, 0) ≤ mxD Dir.a Dir.b [x, y, z] (0, 0) (0, 0) * mxD Dir.a Dir.b [x, y, z] (0, 0) (0, 0) := by
  obtain ⟨⟨x1, x2⟩, xa, xb⟩ := x
  obtain ⟨⟨y1, y2⟩, ya, yb⟩ := y
  obtain ⟨⟨z1, z2⟩, za, zb⟩ := z
  simp only [endD, stP, Prod.mk.injEq, Int.zero_add] at ca cb
  obtain ⟨a1, a2⟩ := ca
  obtain ⟨b1, b2⟩ := cb
  simp only [mxD, stP, dtV] at h2 ⊢
  have ea : xa * (x1 * z2 - x2 * z1) + ya * (y1 * z2 - y2 * z1) = 0 := by grind
  have eb : xb * (x1 * z2 - x2 * z1) + yb * (y1 * z2 - y2 * z1) = 0 := by grind
  have e0 : (xa * yb - ya * xb) * (y1 * z2 - y2 * z1) = 0 := by grind
  have e1 : xa * yb - ya * xb = 0 := by
    rcases Int.mul_eq_zero.1 e0 with q | q
    · exact q
    · omega
  refine Int.le_of_eq ?_
  grind
theorem form4 {f g : Dir → Int} (x y z w : Dir) (cf : endD f [x, y, z, w] (0, 0) = (0, 0)) (cg : endD g [x, y, z, w] (0, 0) = (0, 0)) :
    dtV z.u w.u * mxD f g [x, y, z, w] (0, 0) (0, 0) = 2 * (dtV x.u z.u * dtV w.u x.u * (f x * g x) + dtV y.u z.u * dtV w.u x.u * (f x * g y + f y * g x) - dtV y.u z.u * dtV y.u w.u * (f y * g y)) := by
  simp only [endD, stP, Prod.mk.injEq, Int.zero_add] at cf cg
  simp only [mxD, stP, dtV]
  generalize f x = a0 at *
  generalize f y = a1 at *
  generalize f z = a2 at *
  generalize f w = a3 at *
  generalize g x = b0 at *
  generalize g y = b1 at *
  generalize g z = b2 at *
  generalize g w = b3 at *
  obtain ⟨⟨x1, x2⟩, xa, xb⟩ := x
  obtain ⟨⟨y1, y2⟩, ya, yb⟩ := y
  obtain ⟨⟨z1, z2⟩, za, zb⟩ := z
  obtain ⟨⟨w1, w2⟩, wa, wb⟩ := w
  dsimp only at *
  obtain ⟨a1', a2'⟩ := cf
  obtain ⟨b1', b2'⟩ := cg
  have ea : a2 * (z1 * w2 - z2 * w1) = a0 * (w1 * x2 - w2 * x1) - a1 * (y1 * w2 - y2 * w1) := by grind
  have eb : b2 * (z1 * w2 - z2 * w1) = b0 * (w1 * x2 - w2 * x1) - b1 * (y1 * w2 - y2 * w1) := by grind
  have la : b3 * ((a0 * x1 + a1 * y1 + a2 * z1) * w2 - (a0 * x2 + a1 * y2 + a2 * z2) * w1) = 0 := by
    rw [show (a0 * x1 + a1 * y1 + a2 * z1) = -(a3 * w1) by omega, show (a0 * x2 + a1 * y2 + a2 * z2) = -(a3 * w2) by omega]
    grind
  have lb : a3 * ((b0 * x1 + b1 * y1 + b2 * z1) * w2 - (b0 * x2 + b1 * y2 + b2 * z2) * w1) = 0 := by
    rw [show (b0 * x1 + b1 * y1 + b2 * z1) = -(b3 * w1) by omega, show (b0 * x2 + b1 * y2 + b2 * z2) = -(b3 * w2) by omega]
    grind
  clear a1' a2' b1' b2'
  have pl : (x1 * y2 - x2 * y1) * (z1 * w2 - z2 * w1) = (x1 * z2 - x2 * z1) * (y1 * w2 - y2 * w1) + (w1 * x2 - w2 * x1) * (y1 * z2 - y2 * z1) := by grind
  grind
/-- four -/
theorem mink4 (x y z w : Dir) (h1 : 0 < dtV x.u y.u) (h2 : 0 < dtV y.u z.u) (h3 : 0 < dtV z.u w.u) (h4 : 0 < dtV w.u x.u) (ca : endD Dir.a [x, y, z, w] (0, 0) = (0, 0)) (cb : endD Dir.b [x, y, z, w] (0, 0) = (0, 0)) :
    mxD Dir.a Dir.a [x, y, z, w] (0, 0) (0, 0) * mxD Dir.b Dir.b [x, y, z, w] (0, 0) (0, 0) ≤ mxD Dir.a Dir.b [x, y, z, w] (0, 0) (0, 0) * mxD Dir.a Dir.b [x, y, z, w] (0, 0) (0, 0) := by
  have key : dtV z.u w.u * dtV z.u w.u * (mxD Dir.a Dir.b [x, y, z, w] (0, 0) (0, 0) * mxD Dir.a Dir.b [x, y, z, w] (0, 0) (0, 0) - mxD Dir.a Dir.a [x, y, z, w] (0, 0) (0, 0) * mxD Dir.b Dir.b [x, y, z, w] (0, 0) (0, 0)) =
      4 * (dtV y.u z.u * dtV w.u x.u * dtV x.u y.u * dtV z.u w.u) * ((x.a * y.b - y.a * x.b) * (x.a * y.b - y.a * x.b)) := by
    have fa := form4 (f := Dir.a) (g := Dir.a) x y z w ca ca
    have fb := form4 (f := Dir.b) (g := Dir.b) x y z w cb cb
    have fm := form4 (f := Dir.a) (g := Dir.b) x y z w ca cb
    have pl : dtV x.u y.u * dtV z.u w.u = dtV x.u z.u * dtV y.u w.u + dtV w.u x.u * dtV y.u z.u := by unfold dtV; grind
    clear h1 h2 h3 h4 ca cb
    have e : dtV z.u w.u * dtV z.u w.u * (mxD Dir.a Dir.b [x, y, z, w] (0, 0) (0, 0) * mxD Dir.a Dir.b [x, y, z, w] (0, 0) (0, 0) - mxD Dir.a Dir.a [x, y, z, w] (0, 0) (0, 0) * mxD Dir.b Dir.b [x, y, z, w] (0, 0) (0, 0)) = (dtV z.u w.u * mxD Dir.a Dir.b [x, y, z, w] (0, 0) (0, 0)) * (dtV z.u w.u * mxD Dir.a Dir.b [x, y, z, w] (0, 0) (0, 0)) - (dtV z.u w.u * mxD Dir.a Dir.a [x, y, z, w] (0, 0) (0, 0)) * (dtV z.u w.u * mxD Dir.b Dir.b [x, y, z, w] (0, 0) (0, 0)) := by grind
    rw [e, fa, fb, fm, show 4 * (dtV y.u z.u * dtV w.u x.u * dtV x.u y.u * dtV z.u w.u) = 4 * (dtV y.u z.u * dtV w.u x.u * (dtV x.u y.u * dtV z.u w.u)) by grind, pl]
    clear e fa fb fm pl
    generalize dtV x.u z.u = p
    generalize dtV y.u w.u = q
    generalize dtV w.u x.u = r
    generalize dtV y.u z.u = s
    generalize x.a = a0
    generalize y.a = a1
    generalize x.b = b0
    generalize y.b = b1
    grind
  have hs : 0 ≤ (x.a * y.b - y.a * x.b) * (x.a * y.b - y.a * x.b) := by
    rcases Int.le_total 0 (x.a * y.b - y.a * x.b) with q | q
    · exact Int.mul_nonneg q q
    · exact Int.mul_nonneg_of_nonpos_of_nonpos q q
  refine Int.not_lt.1 (fun q => ?_)
  have p1 : 0 ≤ 4 * (dtV y.u z.u * dtV w.u x.u * dtV x.u y.u * dtV z.u w.u) * ((x.a * y.b - y.a * x.b) * (x.a * y.b - y.a * x.b)) := Int.mul_nonneg (Int.mul_nonneg (by omega) (Int.le_of_lt (Int.mul_pos (Int.mul_pos (Int.mul_pos h2 h4) h1) h3))) hs
  have p2 := Int.mul_pos (Int.mul_pos h3 h3) (show 0 < mxD Dir.a Dir.a [x, y, z, w] (0, 0) (0, 0) * mxD Dir.b Dir.b [x, y, z, w] (0, 0) (0, 0) - mxD Dir.a Dir.b [x, y, z, w] (0, 0) (0, 0) * mxD Dir.a Dir.b [x, y, z, w] (0, 0) (0, 0) by omega)
  have p3 : dtV z.u w.u * dtV z.u w.u * (mxD Dir.a Dir.a [x, y, z, w] (0, 0) (0, 0) * mxD Dir.b Dir.b [x, y, z, w] (0, 0) (0, 0) - mxD Dir.a Dir.b [x, y, z, w] (0, 0) (0, 0) * mxD Dir.a Dir.b [x, y, z, w] (0, 0) (0, 0)) = -(dtV z.u w.u * dtV z.u w.u * (mxD Dir.a Dir.b [x, y, z, w] (0, 0) (0, 0) * mxD Dir.a Dir.b [x, y, z, w] (0, 0) (0, 0) - mxD Dir.a Dir.a [x, y, z, w] (0, 0) (0, 0) * mxD Dir.b Dir.b [x, y, z, w] (0, 0) (0, 0))) := by
    rw [← Int.mul_neg, Int.neg_sub]
  omega
theorem cyc_at {U : List V2} {i : Nat} (h : i < U.length) {v : V2} (e : U[i]? = some v) : cyc U i = v := by rw [cyc_lt h, e]; rfl
theorem mink : ∀ (n : Nat) (l : List Dir), l.length = n → 3 ≤ n → RndV (l.map Dir.u).length (cyc (l.map Dir.u)) → endD Dir.a l (0, 0) = (0, 0) → endD Dir.b l (0, 0) = (0, 0) → 0 < mxD Dir.b Dir.b l (0, 0) (0, 0) →
    mxD Dir.a Dir.a l (0, 0) (0, 0) * mxD Dir.b Dir.b l (0, 0) (0, 0) ≤ mxD Dir.a Dir.b l (0, 0) (0, 0) * mxD Dir.a Dir.b l (0, 0) (0, 0) := by
  intro n
  induction n using Nat.strongRecOn with
  | _ n ih =>
  intro l hl h3 hr ca cb hB
  have step : ∀ (s : List Dir) (x y z : Dir) (t : List Dir), l = s ++ x :: y :: z :: t → 4 ≤ n → 0 < dtV x.u y.u → 0 < dtV y.u z.u → 0 < dtV x.u z.u →
      mxD Dir.a Dir.a l (0, 0) (0, 0) * mxD Dir.b Dir.b l (0, 0) (0, 0) ≤ mxD Dir.a Dir.b l (0, 0) (0, 0) * mxD Dir.a Dir.b l (0, 0) (0, 0) := by
    intro s x y z t he h4 t1 t2 t3
    have h0 : dlV (dtV x.u z.u) (0, 0) = (0, 0) := by unfold dlV; simp
    have ea := mx_rmS (f := Dir.a) (g := Dir.a) (.inl rfl) (.inl rfl) x y z t s (0, 0) (0, 0)
    have eb := mx_rmS (f := Dir.b) (g := Dir.b) (.inr rfl) (.inr rfl) x y z t s (0, 0) (0, 0)
    have em := mx_rmS (f := Dir.a) (g := Dir.b) (.inl rfl) (.inr rfl) x y z t s (0, 0) (0, 0)
    have na := end_rmS (f := Dir.a) (.inl rfl) x y z t s (0, 0)
    have nb := end_rmS (f := Dir.b) (.inr rfl) x y z t s (0, 0)
    rw [h0, ← he] at ea eb em na nb
    rw [ca, h0] at na
    rw [cb, h0] at nb
    have hc : 0 < 2 * (dtV x.u y.u * dtV y.u z.u * dtV x.u z.u) := Int.mul_pos (by omega) (Int.mul_pos (Int.mul_pos t1 t2) t3)
    have hU : (s.map (scD (dtV x.u z.u)) ++ rm0 x y z :: rm2 x y z :: t.map (scD (dtV x.u z.u))).map Dir.u = (l.map Dir.u).eraseIdx (s.length + 1) := by
      have sm : ∀ (r : List Dir) (D : Int), (r.map (scD D)).map Dir.u = r.map Dir.u := fun r D => by rw [List.map_map]; rfl
      rw [he, List.map_append, List.map_append, sm, List.map_cons, List.map_cons, sm]
      rw [List.eraseIdx_append_of_length_le (by simp)]
      simp [rm0, rm2]
    have hlen : (s.map (scD (dtV x.u z.u)) ++ rm0 x y z :: rm2 x y z :: t.map (scD (dtV x.u z.u))).length + 1 = n := by
      rw [← hl, he]; simp; omega
    have hs : s.length + 3 ≤ n := by rw [← hl, he]; simp
    have hml : (l.map Dir.u).length = n := by rw [List.length_map, hl]
    have g1 : cyc (l.map Dir.u) (s.length + 1 - 1) = x.u := cyc_at (by omega) (by rw [he]; simp)
    have g2 : cyc (l.map Dir.u) (s.length + 1 + 1) = z.u := cyc_at (by omega) (by rw [he, List.map_append, List.getElem?_append_right (by simp; omega)]; simp [show s.length + 1 + 1 - s.length = 2 by omega])
    have hr' := rnd_less (c := s.length + 1) hr (by omega) (by omega) (by rw [g1, g2]; exact t3)
    rw [← hU] at hr'
    have hB' : 0 < mxD Dir.b Dir.b (s.map (scD (dtV x.u z.u)) ++ rm0 x y z :: rm2 x y z :: t.map (scD (dtV x.u z.u))) (0, 0) (0, 0) := by
      rw [eb]
      have q1 := Int.mul_pos (Int.mul_pos t3 t3) hB
      have q2 : 0 ≤ y.b * y.b := by
        rcases Int.le_total 0 y.b with q | q
        · exact Int.mul_nonneg q q
        · exact Int.mul_nonneg_of_nonpos_of_nonpos q q
      have q3 := Int.mul_nonneg (Int.le_of_lt hc) q2
      omega
    have := ih (n - 1) (by omega) _ (by omega) (by omega) hr' na nb hB'
    exact mx_ineq t3 hc hB ea eb em this
  have hml : (l.map Dir.u).length = n := by rw [List.length_map, hl]
  match l, hl with
  | [x, y, z], _ => exact mink3 x y z (hr.turn 1) ca cb
  | [x, y, z, w], _ => exact mink4 x y z w (hr.turn 0) (hr.turn 1) (hr.turn 2) (by have := hr.turn 3; rw [show 3 + 1 = 0 + ([x, y, z, w].map Dir.u).length from rfl, hr.per] at this; exact this) ca cb
  | x :: y :: z :: w :: v :: t, hl =>
    have c0 : cyc ((x :: y :: z :: w :: v :: t).map Dir.u) 0 = x.u := cyc_at (by simp) rfl
    have c1 : cyc ((x :: y :: z :: w :: v :: t).map Dir.u) 1 = y.u := cyc_at (by simp) rfl
    have c2 : cyc ((x :: y :: z :: w :: v :: t).map Dir.u) 2 = z.u := cyc_at (by simp) rfl
    have c3 : cyc ((x :: y :: z :: w :: v :: t).map Dir.u) 3 = w.u := cyc_at (by simp) rfl
    have c4 : cyc ((x :: y :: z :: w :: v :: t).map Dir.u) 4 = v.u := cyc_at (by simp) rfl
    have n5 : 5 ≤ n := by rw [← hl]; simp
    have d01 := hr.turn 0
    have d12 := hr.turn 1
    have d23 := hr.turn 2
    have d34 := hr.turn 3
    rw [c0, c1] at d01
    rw [c1, c2] at d12
    rw [c2, c3] at d23
    rw [c3, c4] at d34
    rcases Int.lt_or_le 0 (dtV x.u z.u) with q | q
    · exact step [] x y z (w :: v :: t) rfl (by omega) d01 d12 q
    · rcases Int.lt_or_le 0 (dtV z.u v.u) with k | k
      · exact step [x, y] z w v t rfl (by omega) d23 d34 k
      · have e1 := hr.neg 2 2 (n - 2) (by omega) (by omega) (by omega) (by rw [c2, c4]; exact k)
        rw [show 2 + (n - 2) = 0 + ((x :: y :: z :: w :: v :: t).map Dir.u).length by omega, hr.per, c2, c0] at e1
        have := dt_flip x.u z.u
        omega
  | [], hl => simp at hl; omega
  | [_], hl => simp at hl; omega
  | [_, _], hl => simp at hl; omega
end Go.Proofs.YtgaeibibeekclaaGreatDoor

/- Mixed areas of polygons: the sum's corners walk round both polygons; FnMixed's mathematics. -/
namespace Go.Proofs.YtgaeibibeekclaaGreatDoor
open Go.RowKit

/-- two corners that no corner is to the right of, the second one ahead: the same one, or the next one -/
theorem pi_step {n : Nat} {p : Nat → P2} (h : ConvS n p) {x y : Nat} {V W : V2} (hVW : 0 < dtV V W) (hx : ∀ i, 0 ≤ dtV W (subV (p i) (p x))) (hy : ∀ i, 0 ≤ dtV W (subV (p i) (p y))) (hV : 0 ≤ dtV V (subV (p y) (p x))) : p y = p x ∨ p y = p (x + 1) := by
  have n3 := h.three
  have e0 : dtV W (subV (p y) (p x)) = 0 := by
    have a := hx y
    have b := hy x
    have : dtV W (subV (p x) (p y)) = -dtV W (subV (p y) (p x)) := by unfold dtV subV; grind
    omega
  have hw := hx (x + 1)
  have e1 : dtV V W * dtV (subV (p (x + 1)) (p x)) (subV (p y) (p x)) = dtV V (subV (p (x + 1)) (p x)) * dtV W (subV (p y) (p x)) - dtV V (subV (p y) (p x)) * dtV W (subV (p (x + 1)) (p x)) := by unfold dtV; grind
  rw [e0, Int.mul_zero] at e1
  have m := Int.mul_nonneg hV hw
  have hs := h.side_le x y
  have e2 : dtV (subV (p (x + 1)) (p x)) (subV (p y) (p x)) = 0 := by
    refine Int.le_antisymm (Int.not_lt.1 (fun q => ?_)) hs
    have := Int.mul_pos hVW q
    omega
  have hxm : p (x % n) = p x := h.mod x
  have hym : p (y % n) = p y := h.mod y
  have hxs : p (x % n + 1) = p (x + 1) := h.shift _ _ (Nat.mod_add_mod x n 1)
  by_cases c1 : y % n = x % n
  · left; rw [← hym, c1, hxm]
  by_cases c2 : y % n = (x % n + 1) % n
  · right; rw [← hym, c2, h.mod, hxs]
  have := h.side (Nat.mod_lt x (by omega)) (Nat.mod_lt y (by omega)) c1 c2
  rw [hxm, hym, hxs] at this
  omega
theorem pi_dself (a : V2) : dtV a a = 0 := by unfold dtV; grind
/-- steps of none or one, back at the beginning: some rounds -/
theorem pi_round {l : List V2} (h : ConvS l.length (cyc l)) {I : Nat → Nat} {n : Nat} (hs : ∀ t, cyc l (I (t + 1)) = cyc l (I t) ∨ cyc l (I (t + 1)) = cyc l (I t + 1)) (hn : cyc l (I n) = cyc l (I 0)) :
    ∃ w : Nat, sumI (fun t => dtV (cyc l (I t)) (cyc l (I (t + 1)))) n = w * areaZ l ∧ (w = 0 → ∀ t, t ≤ n → cyc l (I t) = cyc l (I 0)) := by
  have h3 := h.three
  have key : ∀ t, ∃ K, cyc l (I 0 + K) = cyc l (I t) ∧ sumI (fun t => dtV (cyc l (I t)) (cyc l (I (t + 1)))) t = sumI (fun s => dtV (cyc l (I 0 + s)) (cyc l (I 0 + s + 1))) K ∧ (K = 0 → ∀ s, s ≤ t → cyc l (I s) = cyc l (I 0)) := by
    intro t
    induction t with
    | zero => exact ⟨0, rfl, rfl, fun _ s hs => by rw [Nat.le_zero.1 hs]⟩
    | succ t ih =>
      obtain ⟨K, a, b, c⟩ := ih
      rcases hs t with q | q
      · refine ⟨K, by rw [a, q], ?_, fun hK s hs => ?_⟩
        · rw [sumI_succ, b, q, pi_dself, Int.add_zero]
        · rcases Nat.lt_or_ge s (t + 1) with r | r
          · exact c hK s (by omega)
          · rw [show s = t + 1 by omega, q]
            exact c hK t (Nat.le_refl t)
      · have e : cyc l (I 0 + (K + 1)) = cyc l (I t + 1) := by
          have hm : (I 0 + K) % l.length = I t % l.length := by
            refine Decidable.byContradiction (fun hne => ?_)
            refine h.ne (Nat.mod_lt (I 0 + K) (by omega)) (Nat.mod_lt (I t) (by omega)) hne ?_
            rw [cyc_mod, cyc_mod, a]
          exact cyc_congr l (by rw [← Nat.add_assoc, Nat.add_mod, hm, ← Nat.add_mod])
        refine ⟨K + 1, by rw [e, q], ?_, fun hK => by omega⟩
        rw [sumI_succ, sumI_succ, b, q, a, ← e, Nat.add_assoc]
  obtain ⟨K, a, b, c⟩ := key n
  have hm : (I 0 + K) % l.length = I 0 % l.length := by
    refine Decidable.byContradiction (fun hne => ?_)
    refine h.ne (Nat.mod_lt (I 0 + K) (by omega)) (Nat.mod_lt (I 0) (by omega)) hne ?_
    rw [cyc_mod, cyc_mod, a, hn]
  obtain ⟨w, hw⟩ : ∃ w, K = l.length * w := by
    have h1 := Nat.div_add_mod (I 0 + K) l.length
    have h2 := Nat.div_add_mod (I 0) l.length
    rw [hm] at h1
    have hle : I 0 / l.length ≤ (I 0 + K) / l.length := Nat.div_le_div_right (by omega)
    refine ⟨(I 0 + K) / l.length - I 0 / l.length, ?_⟩
    rw [Nat.mul_sub]
    omega
  have tot : ∀ w, sumI (fun s => dtV (cyc l (I 0 + s)) (cyc l (I 0 + s + 1))) (l.length * w) = w * areaZ l := by
    intro w
    have hper : ∀ i, (fun s => dtV (cyc l (I 0 + s)) (cyc l (I 0 + s + 1))) (i + l.length) = (fun s => dtV (cyc l (I 0 + s)) (cyc l (I 0 + s + 1))) i := fun i => by
      show dtV (cyc l (I 0 + (i + l.length))) (cyc l (I 0 + (i + l.length) + 1)) = _
      rw [← Nat.add_assoc, cyc_add, show I 0 + i + l.length + 1 = I 0 + i + 1 + l.length by omega, cyc_add]
    have one : sumI (fun s => dtV (cyc l (I 0 + s)) (cyc l (I 0 + s + 1))) l.length = areaZ l := by
      unfold areaZ
      rw [sumZ_I]
      exact sumI_rot (f := fun i => dtV (cyc l i) (cyc l (i + 1))) (fun i => by show dtV (cyc l (i + l.length)) (cyc l (i + l.length + 1)) = _; rw [cyc_add, show i + l.length + 1 = i + 1 + l.length by omega, cyc_add]) (I 0)
    induction w with
    | zero => rw [Nat.mul_zero]; show (0 : Int) = ((0 : Nat) : Int) * areaZ l; omega
    | succ w ih =>
      have split : ∀ (f : Nat → Int) a b, sumI f (a + b) = sumI f a + sumI (fun i => f (a + i)) b := by
        intro f a b
        induction b with
        | zero => show sumI f a = sumI f a + 0; omega
        | succ b ihb => rw [show a + (b + 1) = a + b + 1 by omega, sumI_succ, ihb, sumI_succ]; omega
      have pm : ∀ i, (fun s => dtV (cyc l (I 0 + s)) (cyc l (I 0 + s + 1))) (l.length * w + i) = (fun s => dtV (cyc l (I 0 + s)) (cyc l (I 0 + s + 1))) i := by
        intro i
        show dtV (cyc l (I 0 + (l.length * w + i))) (cyc l (I 0 + (l.length * w + i) + 1)) = dtV (cyc l (I 0 + i)) (cyc l (I 0 + i + 1))
        rw [cyc_congr l (show (I 0 + (l.length * w + i)) % l.length = (I 0 + i) % l.length by rw [show I 0 + (l.length * w + i) = I 0 + i + l.length * w by omega, Nat.add_mul_mod_self_left]), cyc_congr l (show (I 0 + (l.length * w + i) + 1) % l.length = (I 0 + i + 1) % l.length by rw [show I 0 + (l.length * w + i) + 1 = I 0 + i + 1 + l.length * w by omega, Nat.add_mul_mod_self_left])]
      rw [Nat.mul_succ, split, ih, funext pm, one, Int.natCast_add, Int.add_mul]
      omega
  subst hw
  refine ⟨w, by rw [b, tot], fun hw0 => c (by rw [hw0, Nat.mul_zero])⟩
end Go.Proofs.YtgaeibibeekclaaGreatDoor

/- FnMixed: the mathematics: mixed areas go both ways, M(p, p) is the area, M^2 >= A B. -/
namespace Go.Proofs.YtgaeibibeekclaaGreatDoor
open Go.RowKit

/-- along a primitive vector -/
theorem pj_par {u d : V2} (h : gcdZ u.1 u.2 = 1) (h0 : dtV u d = 0) : ∃ c : Int, d = (c * u.1, c * u.2) := by
  obtain ⟨u1, u2⟩ := u
  obtain ⟨d1, d2⟩ := d
  unfold dtV at h0
  dsimp only at h h0 ⊢
  have hg : Nat.gcd u1.natAbs u2.natAbs = 1 := by unfold gcdZ at h; omega
  have he : u1 * d2 = u2 * d1 := by omega
  have hn : u1.natAbs ∣ u2.natAbs * d1.natAbs := by
    rw [← Int.natAbs_mul, ← he, Int.natAbs_mul]
    exact Nat.dvd_mul_right _ _
  have hd : u1 ∣ d1 := Int.natAbs_dvd_natAbs.1 (Nat.Coprime.dvd_of_dvd_mul_left hg hn)
  by_cases hz : u1 = 0
  · subst hz
    have hu : u2.natAbs = 1 := by simpa using hg
    have h1 : d1 = 0 := by
      rw [Int.zero_mul] at he
      rcases Int.mul_eq_zero.1 he.symm with q | q
      · omega
      · exact q
    refine ⟨d2 * u2, ?_⟩
    have hs : u2 * u2 = 1 := by
      rcases Int.natAbs_eq u2 with q | q <;> rw [q, hu] <;> decide
    refine Prod.ext (by dsimp only; omega) ?_
    dsimp only
    rw [Int.mul_assoc, hs, Int.mul_one]
  · obtain ⟨c, rfl⟩ := hd
    refine ⟨c, Prod.ext (by dsimp only; exact Int.mul_comm _ _) ?_⟩
    dsimp only
    have : u1 * d2 = u1 * (c * u2) := by rw [he]; grind
    exact Int.eq_of_mul_eq_mul_left hz this
def lstD (e : Nat → Dir) : Nat → Nat → List Dir
  | _, 0 => []
  | s, m + 1 => e s :: lstD e (s + 1) m
theorem lst_len (e : Nat → Dir) : ∀ m s, (lstD e s m).length = m
  | 0, _ => rfl
  | m + 1, s => by show (lstD e (s + 1) m).length + 1 = m + 1; rw [lst_len e m]
theorem lst_at (e : Nat → Dir) : ∀ m s i, i < m → (lstD e s m)[i]? = some (e (s + i))
  | 0, _, _, h => by omega
  | m + 1, s, 0, _ => rfl
  | m + 1, s, i + 1, h => by
    show (lstD e (s + 1) m)[i]? = _
    rw [lst_at e m (s + 1) i (by omega), show s + 1 + i = s + (i + 1) by omega]
theorem end_lst {f : Dir → Int} {e : Nat → Dir} {P : Nat → V2} (hP : ∀ k, P (k + 1) = stP (P k) (f (e k)) (e k).u) : ∀ m s, endD f (lstD e s m) (P s) = P (s + m)
  | 0, _ => rfl
  | m + 1, s => by
    show endD f (lstD e (s + 1) m) (stP (P s) (f (e s)) (e s).u) = _
    rw [← hP, end_lst hP m (s + 1), show s + 1 + m = s + (m + 1) by omega]
theorem mx_lst {f g : Dir → Int} {e : Nat → Dir} {P Q : Nat → V2} (hP : ∀ k, P (k + 1) = stP (P k) (f (e k)) (e k).u) (hQ : ∀ k, Q (k + 1) = stP (Q k) (g (e k)) (e k).u) :
    ∀ m s, mxD f g (lstD e s m) (P s) (Q s) = sumI (fun t => g (e (s + t)) * dtV (P (s + t)) (e (s + t)).u + f (e (s + t)) * dtV (Q (s + t)) (e (s + t)).u) m
  | 0, _ => rfl
  | m + 1, s => by
    rw [pe_front]
    show (g (e s) * dtV (P s) (e s).u + f (e s) * dtV (Q s) (e s).u) + mxD f g (lstD e (s + 1) m) (stP (P s) (f (e s)) (e s).u) (stP (Q s) (g (e s)) (e s).u) = _
    rw [← hP, ← hQ, mx_lst hP hQ m (s + 1)]
    show _ = (g (e (s + 0)) * dtV (P (s + 0)) (e (s + 0)).u + f (e (s + 0)) * dtV (Q (s + 0)) (e (s + 0)).u) + _
    rw [Nat.add_zero]
    congr 1
    refine sumI_congr (fun i _ => ?_)
    rw [show s + 1 + i = s + (i + 1) by omega]
theorem pj_self {p : List V2} (h : polyB p = true) : hullD (smL p p) = tidyP (p.map (timesF 2)) := by
  have h0 : 0 < p.length := by have := poly_len h; omega
  have hl : (p.map (timesF 2)).length = p.length := by simp
  have hc : ConvS (p.map (timesF 2)).length (cyc (p.map (timesF 2))) := conv_map (poly_conv h) _ _ (Int.mul_pos (by omega) (by omega)) (times_turn 2)
  refine hull_over hc (fun j hj => ?_) (fun q hq k => ?_)
  · rw [hl] at hj
    refine pd_mem.2 ⟨j, j, hj, hj, ?_⟩
    rw [map_cyc h0]
    unfold adV timesF
    refine Prod.ext ?_ ?_ <;> dsimp only <;> omega
  · obtain ⟨i, j, -, -, rfl⟩ := pd_mem.1 hq
    have a := (poly_conv h).side0 k i
    have b := (poly_conv h).side0 k j
    have e : sideZ (cyc (p.map (timesF 2))) k (adV (cyc p i) (cyc p j)) = 2 * (sideZ (cyc p) k (cyc p i) + sideZ (cyc p) k (cyc p j)) := by
      unfold sideZ wyV
      rw [map_cyc h0, map_cyc h0]
      unfold timesF adV subV dtV
      dsimp only
      grind
    omega
theorem mix_comm (p q : List V2) : mixZ q p = mixZ p q := by
  unfold mixZ
  rw [pd_sumL, show areaZ (SumL p q) - areaZ q - areaZ p = areaZ (SumL p q) - areaZ p - areaZ q by omega]
theorem mix_self {p : List V2} (h : SumB p p = true) : mixZ p p = areaZ p := by
  have hp := (sum_parts h).1
  have h0 : 0 < p.length := by have := poly_len hp; omega
  unfold mixZ SumL
  rw [h]
  show (areaZ (hullD (smL p p)) - areaZ p - areaZ p).tdiv 2 = areaZ p
  rw [pj_self hp, area_times h0 2, show 2 * 2 * areaZ p - areaZ p - areaZ p = areaZ p * 2 by omega]
  exact Int.mul_tdiv_cancel _ (by omega)
/-- a polygon whose corners lead along another one's edges -/
structure Leads (p r : List V2) (I : Nat → Nat) : Prop where
  per : ∀ k, I (k + r.length) = I k
  lo : ∀ k i, 0 ≤ dtV (wyV (cyc r) k) (subV (cyc p i) (cyc p (I k)))
  hi : ∀ k i, 0 ≤ dtV (wyV (cyc r) k) (subV (cyc p i) (cyc p (I (k + 1))))
theorem pj_sum {p r : List V2} (hp : polyB p = true) (hr : polyB r = true) {I : Nat → Nat} (h : Leads p r I) :
    ∃ w : Nat, 1 ≤ w ∧ sumI (fun t => dtV (cyc p (I t)) (cyc p (I (t + 1)))) r.length = w * areaZ p := by
  have hc := poly_conv hp
  have hR := poly_conv hr
  have hs : ∀ t, cyc p (I (t + 1)) = cyc p (I t) ∨ cyc p (I (t + 1)) = cyc p (I t + 1) := by
    intro t
    obtain ⟨s, hs⟩ : ∃ s, t + r.length = s + 1 := ⟨t + r.length - 1, by have := poly_len hr; omega⟩
    have e1 : I (s + 1) = I t := by rw [← hs, h.per]
    have e2 : I (s + 1 + 1) = I (t + 1) := by rw [← hs, show t + r.length + 1 = t + 1 + r.length by omega, h.per]
    have a := pi_step hc (x := I (s + 1)) (y := I (s + 1 + 1)) (V := wyV (cyc r) s) (W := wyV (cyc r) (s + 1)) (hR.turn s) (h.lo (s + 1)) (h.hi (s + 1)) (h.hi s _)
    rw [e1, e2] at a
    exact a
  obtain ⟨w, hw, h0⟩ := pi_round hc hs (n := r.length) (by have := h.per 0; rw [Nat.zero_add] at this; rw [this])
  refine ⟨w, Nat.not_lt.1 (fun q => ?_), hw⟩
  have hall := h0 (by omega)
  have hl := poly_len hr
  have pos : ∀ t, t < r.length → 0 ≤ dtV (wyV (cyc r) t) (wayZ p (I 0)) := by
    intro t ht
    have := h.lo t (I 0 + 1)
    rw [hall t (by omega)] at this
    exact this
  have tele : sumI (fun t => dtV (wyV (cyc r) t) (wayZ p (I 0))) r.length = 0 := by
    have e : sumI (fun t => dtV (wyV (cyc r) t) (wayZ p (I 0))) r.length = sumI (fun t => (fun k => dtV (cyc r k) (wayZ p (I 0))) (t + 1) - (fun k => dtV (cyc r k) (wayZ p (I 0))) t) r.length := sumI_congr (fun t _ => by
      unfold wyV subV dtV
      dsimp only
      grind)
    rw [e, sum_tele (fun k => dtV (cyc r k) (wayZ p (I 0)))]
    have : cyc r r.length = cyc r 0 := by have := cyc_add r 0; rwa [Nat.zero_add] at this
    show dtV (cyc r r.length) _ - dtV (cyc r 0) _ = 0
    rw [this]
    omega
  have zer : ∀ t, t < r.length → 0 = dtV (wyV (cyc r) t) (wayZ p (I 0)) := by
    have zs : ∀ n, sumI (fun _ => (0 : Int)) n = 0 := by
      intro n
      induction n with
      | zero => rfl
      | succ n ih => rw [sumI_succ, ih]; rfl
    exact (pf_sum (f := fun t => dtV (wyV (cyc r) t) (wayZ p (I 0))) (g := fun _ => 0) pos).2 (by rw [zs, tele])
  have z0 := zer 0 (by omega)
  have z1 := zer 1 (by omega)
  have ht : 0 < dtV (wyV (cyc r) 0) (wyV (cyc r) 1) := hR.turn 0
  refine way_nz' hp (I 0) ?_
  generalize wayZ p (I 0) = d at *
  generalize wyV (cyc r) 0 = A at *
  generalize wyV (cyc r) 1 = B at *
  have e1 : dtV A B * d.1 = dtV A d * B.1 - dtV B d * A.1 := by unfold dtV; grind
  have e2 : dtV A B * d.2 = dtV A d * B.2 - dtV B d * A.2 := by unfold dtV; grind
  rw [← z0, ← z1] at e1 e2
  constructor
  · rcases Int.mul_eq_zero.1 (show dtV A B * d.1 = 0 by omega) with q | q <;> omega
  · rcases Int.mul_eq_zero.1 (show dtV A B * d.2 = 0 by omega) with q | q <;> omega
theorem leads_of {p q : List V2} (h : SumB p q = true) : ∃ I J : Nat → Nat, Leads p (hullD (smL p q)) I ∧ Leads q (hullD (smL p q)) J ∧ ∀ k, adV (cyc p (I k)) (cyc q (J k)) = cyc (hullD (smL p q)) k := by
  unfold SumB at h
  rw [Bool.and_eq_true, Bool.and_eq_true] at h
  obtain ⟨⟨hp, hq⟩, hr⟩ := h
  have p3 := poly_len hp
  have q3 := poly_len hq
  have r3 := poly_len hr
  have hex : ∀ k, ∃ ij : Nat × Nat, adV (cyc p ij.1) (cyc q ij.2) = cyc (hullD (smL p q)) k := fun k => by
    obtain ⟨i, j, _, _, e⟩ := pd_mem.1 (hull_sub (cyc_mem (l := hullD (smL p q)) (by omega) k))
    exact ⟨(i, j), e⟩
  have hin : ∀ k i j, 0 ≤ dtV (wyV (cyc (hullD (smL p q))) k) (subV (adV (cyc p i) (cyc q j)) (cyc (hullD (smL p q)) k)) := fun k i j => by
    have hm : adV (cyc p i) (cyc q j) ∈ smL p q := pd_mem.2 ⟨i % p.length, j % q.length, Nat.mod_lt _ (by omega), Nat.mod_lt _ (by omega), by rw [cyc_mod, cyc_mod]⟩
    exact has_side (by omega) (pd_has hr hm) k
  generalize hullD (smL p q) = r at *
  obtain ⟨f, hf⟩ := Classical.axiomOfChoice hex
  have hk : ∀ k, adV (cyc p (f (k % r.length)).1) (cyc q (f (k % r.length)).2) = cyc r k := fun k => by rw [hf, cyc_mod]
  refine ⟨fun k => (f (k % r.length)).1, fun k => (f (k % r.length)).2, ⟨fun k => by show (f ((k + r.length) % r.length)).1 = _; rw [Nat.add_mod_right], fun k i => ?_, fun k i => ?_⟩, ⟨fun k => by show (f ((k + r.length) % r.length)).2 = _; rw [Nat.add_mod_right], fun k i => ?_, fun k i => ?_⟩, hk⟩
  · have a := hin k i (f (k % r.length)).2
    rw [← hk k] at a
    have e : subV (adV (cyc p i) (cyc q (f (k % r.length)).2)) (adV (cyc p (f (k % r.length)).1) (cyc q (f (k % r.length)).2)) = subV (cyc p i) (cyc p (f (k % r.length)).1) := by
      unfold subV adV
      refine Prod.ext ?_ ?_ <;> dsimp only <;> omega
    rw [e] at a
    exact a
  · have a := hin k i (f ((k + 1) % r.length)).2
    have b := hk (k + 1)
    have e : dtV (wyV (cyc r) k) (subV (adV (cyc p i) (cyc q (f ((k + 1) % r.length)).2)) (cyc r k)) = dtV (wyV (cyc r) k) (subV (cyc p i) (cyc p (f ((k + 1) % r.length)).1)) := by
      unfold wyV
      rw [← b]
      unfold subV adV dtV
      dsimp only
      grind
    rw [e] at a
    exact a
  · have a := hin k (f (k % r.length)).1 i
    rw [← hk k] at a
    have e : subV (adV (cyc p (f (k % r.length)).1) (cyc q i)) (adV (cyc p (f (k % r.length)).1) (cyc q (f (k % r.length)).2)) = subV (cyc q i) (cyc q (f (k % r.length)).2) := by
      unfold subV adV
      refine Prod.ext ?_ ?_ <;> dsimp only <;> omega
    rw [e] at a
    exact a
  · have a := hin k (f ((k + 1) % r.length)).1 i
    have b := hk (k + 1)
    have e : dtV (wyV (cyc r) k) (subV (adV (cyc p (f ((k + 1) % r.length)).1) (cyc q i)) (cyc r k)) = dtV (wyV (cyc r) k) (subV (cyc q i) (cyc q (f ((k + 1) % r.length)).2)) := by
      unfold wyV
      rw [← b]
      unfold subV adV dtV
      dsimp only
      grind
    rw [e] at a
    exact a
end Go.Proofs.YtgaeibibeekclaaGreatDoor

/- FnMixed: the square of the mixed area is at least the product of the areas. -/
namespace Go.Proofs.YtgaeibibeekclaaGreatDoor
open Go.RowKit

theorem pk_rnd {l : List V2} (h : polyB l = true) : RndV l.length (fun k => primW (wayZ l k)) := by
  have hr := nrm_rnd h
  have e : ∀ i j, dtV (primW (wayZ l i)) (primW (wayZ l j)) = dtV (nrmZ l i) (nrmZ l j) := fun i j => by unfold nrmZ dtV; dsimp only; grind
  refine ⟨fun i => by show primW (wayZ l (i + l.length)) = _; rw [way_per], fun i => ?_, fun j t t' a b c d => ?_⟩
  · show 0 < dtV (primW (wayZ l i)) (primW (wayZ l (i + 1)))
    rw [e]; exact hr.turn i
  · show dtV (primW (wayZ l j)) (primW (wayZ l (j + t'))) < 0
    rw [e]
    exact hr.neg j t t' a b c (by rw [← e]; exact d)
/-- the multiples of the sum's directions -/
theorem pk_mul {p r : List V2} (hr : polyB r = true) {I : Nat → Nat} (h : Leads p r I) : ∃ c : Nat → Int, ∀ k, 0 ≤ c k ∧ subV (cyc p (I (k + 1))) (cyc p (I k)) = (c k * (primW (wayZ r k)).1, c k * (primW (wayZ r k)).2) ∧ 0 ≤ dtV (subV (cyc p (I k)) (cyc p (I 0))) (primW (wayZ r k)) := by
  have hex : ∀ k, ∃ c : Int, 0 ≤ c ∧ subV (cyc p (I (k + 1))) (cyc p (I k)) = (c * (primW (wayZ r k)).1, c * (primW (wayZ r k)).2) ∧ 0 ≤ dtV (subV (cyc p (I k)) (cyc p (I 0))) (primW (wayZ r k)) := by
    intro k
    have hR := poly_conv hr
    have l3 := poly_len hr
    obtain ⟨g1, gx, gy, gg⟩ := prim_parts (way_nz' hr k)
    have hg : ∀ d, dtV (wyV (cyc r) k) d = gcdZ (wayZ r k).1 (wayZ r k).2 * dtV (primW (wayZ r k)) d := fun d => by
      show dtV (wayZ r k) d = _
      unfold primW dtV
      dsimp only
      generalize (wayZ r k).1.tdiv (gcdZ (wayZ r k).1 (wayZ r k).2) = s at *
      generalize (wayZ r k).2.tdiv (gcdZ (wayZ r k).1 (wayZ r k).2) = t at *
      generalize gcdZ (wayZ r k).1 (wayZ r k).2 = g at *
      rw [gx, gy]
      grind
    have pos : ∀ d, 0 ≤ dtV (wyV (cyc r) k) d → 0 ≤ dtV (primW (wayZ r k)) d := fun d hd => by
      rw [hg] at hd
      refine Int.not_lt.1 (fun q => ?_)
      have := Int.mul_pos (show 0 < gcdZ (wayZ r k).1 (wayZ r k).2 by omega) (show 0 < -dtV (primW (wayZ r k)) d by omega)
      rw [Int.mul_neg] at this
      omega
    have a := pos _ (h.lo k (I (k + 1)))
    have b := pos _ (h.hi k (I k))
    have z : dtV (primW (wayZ r k)) (subV (cyc p (I (k + 1))) (cyc p (I k))) = 0 := by
      have : dtV (primW (wayZ r k)) (subV (cyc p (I k)) (cyc p (I (k + 1)))) = -dtV (primW (wayZ r k)) (subV (cyc p (I (k + 1))) (cyc p (I k))) := by unfold dtV subV; grind
      omega
    obtain ⟨c, hc⟩ := pj_par (u := primW (wayZ r k)) gg z
    refine ⟨c, ?_, hc, ?_⟩
    · obtain ⟨s, hs⟩ : ∃ s, k + r.length = s + 1 := ⟨k + r.length - 1, by omega⟩
      have x := h.hi s (I (k + 1))
      have e1 : I (s + 1) = I k := by rw [← hs, h.per]
      rw [e1, hc] at x
      have t : 0 < dtV (wyV (cyc r) s) (wyV (cyc r) (s + 1)) := hR.turn s
      have e2 : wyV (cyc r) (s + 1) = wyV (cyc r) k := by
        show wayZ r (s + 1) = wayZ r k
        rw [← hs, way_per]
      rw [e2] at t
      have e3 : dtV (wyV (cyc r) s) (wyV (cyc r) k) = gcdZ (wayZ r k).1 (wayZ r k).2 * dtV (wyV (cyc r) s) (primW (wayZ r k)) := by
        rw [dt_flip (wyV (cyc r) k) (wyV (cyc r) s), hg, dt_flip (primW (wayZ r k)) (wyV (cyc r) s), Int.mul_neg]
      rw [e3] at t
      have t' := pos_of_mul (by rw [Int.mul_comm]; exact t) (show 0 < gcdZ (wayZ r k).1 (wayZ r k).2 by omega)
      have e4 : dtV (wyV (cyc r) s) (c * (primW (wayZ r k)).1, c * (primW (wayZ r k)).2) = c * dtV (wyV (cyc r) s) (primW (wayZ r k)) := by unfold dtV; dsimp only; grind
      rw [e4] at x
      refine Int.not_lt.1 (fun q => ?_)
      have := Int.mul_pos (show 0 < -c by omega) t'
      rw [Int.neg_mul] at this
      omega
    · have x := pos _ (h.lo k (I 0))
      have : dtV (primW (wayZ r k)) (subV (cyc p (I 0)) (cyc p (I k))) = dtV (subV (cyc p (I k)) (cyc p (I 0))) (primW (wayZ r k)) := by unfold dtV subV; grind
      omega
  obtain ⟨c, hc⟩ := Classical.axiomOfChoice hex
  exact ⟨c, hc⟩
theorem sumI_add2 (f g : Nat → Int) (n : Nat) : sumI (fun i => f i + g i) n = sumI f n + sumI g n := by
  induction n with
  | zero => rfl
  | succ n ih => rw [sumI_succ, sumI_succ, sumI_succ, ih]; omega
theorem sumI_pos {f : Nat → Int} : ∀ {n : Nat}, (∀ i, i < n → 0 ≤ f i) → 0 ≤ sumI f n := by
  intro n
  induction n with
  | zero => intro _; exact Int.le_refl _
  | succ n ih =>
    intro h
    rw [sumI_succ]
    have a := ih (fun i hi => h i (by omega))
    have b := h n (by omega)
    omega
/-- moved to begin at 0 -/
theorem pk_move {F : Nat → V2} {n : Nat} (h : F n = F 0) : sumI (fun t => dtV (subV (F t) (F 0)) (subV (F (t + 1)) (F 0))) n = sumI (fun t => dtV (F t) (F (t + 1))) n := by
  have e : sumI (fun t => dtV (subV (F t) (F 0)) (subV (F (t + 1)) (F 0))) n = sumI (fun t => dtV (F t) (F (t + 1)) + ((fun k => dtV (F k) (F 0)) (t + 1) - (fun k => dtV (F k) (F 0)) t)) n := sumI_congr (fun t _ => by
    unfold dtV subV
    dsimp only
    grind)
  rw [e, sumI_add2, sum_tele (fun k => dtV (F k) (F 0))]
  show _ + (dtV (F n) (F 0) - dtV (F 0) (F 0)) = _
  rw [h]
  omega
theorem pk_last {A B S V w w' X : Int} (hA : 0 < A) (hB : 0 < B) (hw : 1 ≤ w) (hw' : 1 ≤ w') (hV : 0 ≤ V) (hS : S = w * A + w' * B + 2 * V) (hM : (2 * (w * A)) * (2 * (w' * B)) ≤ (2 * V) * (2 * V)) (hX : X = (S - A - B).tdiv 2) : A * B ≤ X * X := by
  have a1 : A ≤ w * A := by
    have := Int.mul_le_mul_of_nonneg_right hw (Int.le_of_lt hA)
    omega
  have b1 : B ≤ w' * B := by
    have := Int.mul_le_mul_of_nonneg_right hw' (Int.le_of_lt hB)
    omega
  have m1 : A * B ≤ (w * A) * (w' * B) := Int.mul_le_mul a1 b1 (Int.le_of_lt hB) (by omega)
  have m2 : (w * A) * (w' * B) ≤ V * V := by
    have e1 : (2 * (w * A)) * (2 * (w' * B)) = 4 * ((w * A) * (w' * B)) := by grind
    have e2 : (2 * V) * (2 * V) = 4 * (V * V) := by grind
    omega
  have x1 : V ≤ X := by
    rw [hX, Int.tdiv_eq_ediv_of_nonneg (by omega)]
    omega
  have m3 : V * V ≤ X * X := Int.mul_le_mul x1 x1 hV (by omega)
  omega
theorem pk_mixed {p q : List V2} (h : SumB p q = true) : areaZ p * areaZ q ≤ mixZ p q * mixZ p q := by
  obtain ⟨I, J, hI, hJ, hk⟩ := leads_of h
  have hS : SumL p q = hullD (smL p q) := by unfold SumL; rw [h]; rfl
  obtain ⟨hp, hq, hr⟩ := sum_parts h
  have hA := (pc_pick hp).2.2.2
  have hB := (pc_pick hq).2.2.2
  unfold mixZ
  rw [hS] at hr ⊢
  clear hS h
  generalize hullD (smL p q) = r at *
  obtain ⟨w, w1, sA⟩ := pj_sum hp hr hI
  obtain ⟨w', w2, sB⟩ := pj_sum hq hr hJ
  obtain ⟨a, ha⟩ := pk_mul hr hI
  obtain ⟨b, hb⟩ := pk_mul hr hJ
  have l3 := poly_len hr
  have iN : I r.length = I 0 := by have := hI.per 0; rwa [Nat.zero_add] at this
  have jN : J r.length = J 0 := by have := hJ.per 0; rwa [Nat.zero_add] at this
  obtain ⟨e, he⟩ : ∃ e : Nat → Dir, e = fun k => ⟨primW (wayZ r k), a k, b k⟩ := ⟨_, rfl⟩
  obtain ⟨P, hPd⟩ : ∃ P : Nat → V2, P = fun k => subV (cyc p (I k)) (cyc p (I 0)) := ⟨_, rfl⟩
  obtain ⟨Q, hQd⟩ : ∃ Q : Nat → V2, Q = fun k => subV (cyc q (J k)) (cyc q (J 0)) := ⟨_, rfl⟩
  have hP : ∀ k, P (k + 1) = stP (P k) (Dir.a (e k)) (e k).u := fun k => by
    have := (ha k).2.1
    have x1 : (subV (cyc p (I (k + 1))) (cyc p (I k))).1 = a k * (primW (wayZ r k)).1 := by rw [this]
    have x2 : (subV (cyc p (I (k + 1))) (cyc p (I k))).2 = a k * (primW (wayZ r k)).2 := by rw [this]
    rw [hPd, he]
    unfold stP subV at *
    refine Prod.ext ?_ ?_ <;> dsimp only at * <;> omega
  have hQ : ∀ k, Q (k + 1) = stP (Q k) (Dir.b (e k)) (e k).u := fun k => by
    have := (hb k).2.1
    have x1 : (subV (cyc q (J (k + 1))) (cyc q (J k))).1 = b k * (primW (wayZ r k)).1 := by rw [this]
    have x2 : (subV (cyc q (J (k + 1))) (cyc q (J k))).2 = b k * (primW (wayZ r k)).2 := by rw [this]
    rw [hQd, he]
    unfold stP subV at *
    refine Prod.ext ?_ ?_ <;> dsimp only at * <;> omega
  have P0 : P 0 = (0, 0) := by rw [hPd]; unfold subV; refine Prod.ext ?_ ?_ <;> dsimp only <;> omega
  have Q0 : Q 0 = (0, 0) := by rw [hQd]; unfold subV; refine Prod.ext ?_ ?_ <;> dsimp only <;> omega
  have PN : P r.length = (0, 0) := by rw [← P0, hPd]; dsimp only; rw [iN]
  have QN : Q r.length = (0, 0) := by rw [← Q0, hQd]; dsimp only; rw [jN]
  have dP : ∀ t, Dir.a (e t) * dtV (P t) (e t).u = dtV (P t) (P (t + 1)) := fun t => by rw [hP]; unfold stP dtV; dsimp only; grind
  have dQ : ∀ t, Dir.b (e t) * dtV (Q t) (e t).u = dtV (Q t) (Q (t + 1)) := fun t => by rw [hQ]; unfold stP dtV; dsimp only; grind
  have SA : sumI (fun t => dtV (P t) (P (t + 1))) r.length = w * areaZ p := by
    rw [← sA, hPd]
    exact pk_move (F := fun t => cyc p (I t)) (by show cyc p (I r.length) = cyc p (I 0); rw [iN])
  have SB : sumI (fun t => dtV (Q t) (Q (t + 1))) r.length = w' * areaZ q := by
    rw [← sB, hQd]
    exact pk_move (F := fun t => cyc q (J t)) (by show cyc q (J r.length) = cyc q (J 0); rw [jN])
  obtain ⟨V, hV⟩ : ∃ V, V = sumI (fun t => Dir.b (e t) * dtV (P t) (e t).u) r.length := ⟨_, rfl⟩
  have hV2 : sumI (fun t => Dir.a (e t) * dtV (Q t) (e t).u) r.length = V := by
    have x : sumI (fun t => Dir.b (e t) * dtV (P t) (e t).u) r.length = sumI (fun t => Dir.a (e t) * dtV (Q t) (e t).u + ((fun k => dtV (P k) (Q k)) (t + 1) - (fun k => dtV (P k) (Q k)) t)) r.length := sumI_congr (fun t _ => by
      show _ = _ + (dtV (P (t + 1)) (Q (t + 1)) - dtV (P t) (Q t))
      rw [hP, hQ]
      unfold stP dtV
      dsimp only
      grind)
    rw [sumI_add2, sum_tele (fun k => dtV (P k) (Q k)), ← hV] at x
    rw [x]
    show _ = _ + (dtV (P r.length) (Q r.length) - dtV (P 0) (Q 0))
    rw [PN, QN, P0, Q0]
    omega
  have V0 : 0 ≤ V := by
    rw [hV]
    refine sumI_pos (fun t _ => Int.mul_nonneg ?_ ?_)
    · rw [he]; exact (hb t).1
    · rw [he, hPd]; exact (ha t).2.2
  have maa : mxD Dir.a Dir.a (lstD e 0 r.length) (0, 0) (0, 0) = 2 * (w * areaZ p) := by
    have := mx_lst hP hP r.length 0
    rw [P0] at this
    rw [this, ← SA, ← sumI_mul]
    refine sumI_congr (fun t _ => ?_)
    rw [Nat.zero_add, dP]
    omega
  have mbb : mxD Dir.b Dir.b (lstD e 0 r.length) (0, 0) (0, 0) = 2 * (w' * areaZ q) := by
    have := mx_lst hQ hQ r.length 0
    rw [Q0] at this
    rw [this, ← SB, ← sumI_mul]
    refine sumI_congr (fun t _ => ?_)
    rw [Nat.zero_add, dQ]
    omega
  have mab : mxD Dir.a Dir.b (lstD e 0 r.length) (0, 0) (0, 0) = 2 * V := by
    have := mx_lst hP hQ r.length 0
    rw [P0, Q0] at this
    rw [this]
    have x : sumI (fun t => Dir.b (e (0 + t)) * dtV (P (0 + t)) (e (0 + t)).u + Dir.a (e (0 + t)) * dtV (Q (0 + t)) (e (0 + t)).u) r.length = sumI (fun t => Dir.b (e t) * dtV (P t) (e t).u + Dir.a (e t) * dtV (Q t) (e t).u) r.length := sumI_congr (fun t _ => by rw [Nat.zero_add])
    rw [x, sumI_add2, hV2, ← hV]
    omega
  have ar : areaZ r = w * areaZ p + w' * areaZ q + 2 * V := by
    have rr : ∀ t, cyc r t = (((P t).1 + (Q t).1 + ((cyc p (I 0)).1 + (cyc q (J 0)).1)), ((P t).2 + (Q t).2 + ((cyc p (I 0)).2 + (cyc q (J 0)).2))) := fun t => by
      rw [← hk t, hPd, hQd]
      unfold adV subV
      refine Prod.ext ?_ ?_ <;> dsimp only <;> omega
    have x : areaZ r = sumI (fun t => (dtV (P t) (P (t + 1)) + dtV (Q t) (Q (t + 1))) + ((Dir.b (e t) * dtV (P t) (e t).u + Dir.a (e t) * dtV (Q t) (e t).u) + ((fun k => dtV ((cyc p (I 0)).1 + (cyc q (J 0)).1, (cyc p (I 0)).2 + (cyc q (J 0)).2) ((P k).1 + (Q k).1, (P k).2 + (Q k).2)) (t + 1) - (fun k => dtV ((cyc p (I 0)).1 + (cyc q (J 0)).1, (cyc p (I 0)).2 + (cyc q (J 0)).2) ((P k).1 + (Q k).1, (P k).2 + (Q k).2)) t))) r.length := by
      unfold areaZ
      rw [sumZ_I]
      refine sumI_congr (fun t _ => ?_)
      dsimp only
      rw [rr t, rr (t + 1), hP, hQ]
      generalize P t = A
      generalize Q t = B
      generalize Dir.a (e t) = x
      generalize Dir.b (e t) = y
      generalize (e t).u = u
      generalize cyc p (I 0) = C
      generalize cyc q (J 0) = D
      clear hP hQ dP dQ SA SB hV hV2 V0 maa mbb mab rr ha hb hk hI hJ
      obtain ⟨A1, A2⟩ := A
      obtain ⟨B1, B2⟩ := B
      obtain ⟨C1, C2⟩ := C
      obtain ⟨D1, D2⟩ := D
      obtain ⟨u1, u2⟩ := u
      unfold detV detZ stP dtV
      dsimp only
      grind
    rw [x, sumI_add2, sumI_add2, sumI_add2, sumI_add2, SA, SB, hV2, ← hV, sum_tele (fun k => dtV ((cyc p (I 0)).1 + (cyc q (J 0)).1, (cyc p (I 0)).2 + (cyc q (J 0)).2) ((P k).1 + (Q k).1, (P k).2 + (Q k).2))]
    rw [PN, QN, P0, Q0]
    omega
  have hcy : cyc ((lstD e 0 r.length).map Dir.u) = fun k => primW (wayZ r k) := funext fun k => by
    have hm := Nat.mod_lt k (show 0 < r.length by omega)
    have hl : ((lstD e 0 r.length).map Dir.u).length = r.length := by rw [List.length_map, lst_len]
    rw [← cyc_mod, hl, cyc_lt (by omega), List.getElem?_map, lst_at e r.length 0 _ hm, Nat.zero_add, he]
    show primW (wayZ r (k % r.length)) = _
    rw [wayZ_mod]
  have hm := mink r.length (lstD e 0 r.length) (lst_len ..) (by omega) (by rw [hcy, List.length_map, lst_len]; exact pk_rnd hr)
    (by have := end_lst hP r.length 0; rw [P0, Nat.zero_add, PN] at this; exact this) (by have := end_lst hQ r.length 0; rw [Q0, Nat.zero_add, QN] at this; exact this)
    (by rw [mbb]; exact Int.mul_pos (by omega) (Int.mul_pos (by omega) hB))
  rw [maa, mbb, mab] at hm
  exact pk_last hA hB (by omega) (by omega) V0 ar hm rfl
end Go.Proofs.YtgaeibibeekclaaGreatDoor

/- Bounds of areas and mixed areas. -/
namespace Go.Proofs.YtgaeibibeekclaaGreatDoor
open Go.RowKit

theorem pl_mul {a b : Int} (h1 : -100 ≤ a ∧ a ≤ 100) (h2 : -100 ≤ b ∧ b ≤ 100) : -10000 ≤ a * b ∧ a * b ≤ 10000 := by
  have x1 : 0 ≤ (100 - a) * (100 - b) := Int.mul_nonneg (by omega) (by omega)
  have x2 : 0 ≤ (100 + a) * (100 + b) := Int.mul_nonneg (by omega) (by omega)
  have x3 : 0 ≤ (100 - a) * (100 + b) := Int.mul_nonneg (by omega) (by omega)
  have x4 : 0 ≤ (100 + a) * (100 - b) := Int.mul_nonneg (by omega) (by omega)
  have e1 : (100 - a) * (100 - b) = 10000 - 100 * a - 100 * b + a * b := by grind
  have e2 : (100 + a) * (100 + b) = 10000 + 100 * a + 100 * b + a * b := by grind
  have e3 : (100 - a) * (100 + b) = 10000 - 100 * a + 100 * b - a * b := by grind
  have e4 : (100 + a) * (100 - b) = 10000 + 100 * a - 100 * b - a * b := by grind
  omega
theorem pl_area {l : List V2} (h : polyB l = true) : -600000 ≤ areaZ l ∧ areaZ l ≤ 600000 := by
  have key : ∀ k : Nat, -(20000 * (k : Int)) ≤ sumZ (fun i => detV (cyc l i) (cyc l (i + 1))) k ∧ sumZ (fun i => detV (cyc l i) (cyc l (i + 1))) k ≤ 20000 * (k : Int) := by
    intro k
    induction k with
    | zero => show -(20000 * ((0 : Nat) : Int)) ≤ (0 : Int) ∧ (0 : Int) ≤ 20000 * ((0 : Nat) : Int); omega
    | succ k ih =>
      show _ ≤ sumZ (fun i => detV (cyc l i) (cyc l (i + 1))) k + detV (cyc l k) (cyc l (k + 1)) ∧ sumZ (fun i => detV (cyc l i) (cyc l (i + 1))) k + detV (cyc l k) (cyc l (k + 1)) ≤ _
      have a := pl_mul (poly_small h k).1 (poly_small h (k + 1)).2
      have b := pl_mul (poly_small h k).2 (poly_small h (k + 1)).1
      generalize sumZ (fun i => detV (cyc l i) (cyc l (i + 1))) k = s at *
      unfold detV detZ
      rw [Int.natCast_add]
      omega
  have := key l.length
  have l3 := poly_len h
  unfold areaZ
  omega
theorem pl_mix {p q : List V2} (h : SumB p q = true) : -1800000 ≤ mixZ p q ∧ mixZ p q ≤ 1800000 := by
  obtain ⟨hp, hq, hr⟩ := sum_parts h
  have a := pl_area hp
  have b := pl_area hq
  have c := pl_area hr
  unfold mixZ
  exact tdiv_bd (m := 2) (n := 1800000) (by omega)
theorem pl_sq {a b : Int} (n : Int) (h1 : -n ≤ a ∧ a ≤ n) (h2 : -n ≤ b ∧ b ≤ n) : -(n * n) ≤ a * b ∧ a * b ≤ n * n := by
  have x1 : 0 ≤ (n - a) * (n - b) := Int.mul_nonneg (by omega) (by omega)
  have x2 : 0 ≤ (n + a) * (n + b) := Int.mul_nonneg (by omega) (by omega)
  have x3 : 0 ≤ (n - a) * (n + b) := Int.mul_nonneg (by omega) (by omega)
  have x4 : 0 ≤ (n + a) * (n - b) := Int.mul_nonneg (by omega) (by omega)
  have e1 : (n - a) * (n - b) + (n + a) * (n + b) = 2 * (n * n) + 2 * (a * b) := by grind
  have e2 : (n - a) * (n + b) + (n + a) * (n - b) = 2 * (n * n) - 2 * (a * b) := by grind
  omega
end Go.Proofs.YtgaeibibeekclaaGreatDoor

/- Hulls and polygons: the mathematics of FnPolygon, FnHull, FnPolygonHas. -/
namespace Go.Proofs.YtgaeibibeekclaaGreatDoor
open Go.RowKit

theorem pr_poly {l : List V2} (h : polyB l = true) : OfB l = true ∧ OfL l = tidyP l := by
  have h3 := poly_len h
  have e : OfB l = true := by
    unfold OfB
    rw [hull_poly h, tidyP_poly, h, Bool.and_true]
    exact decide_eq_true (by omega)
  exact ⟨e, by unfold OfL; rw [e, hull_poly h]; rfl⟩
theorem pr_corner {l : List V2} (h : polyB l = true) (i : Nat) : (polyB l && (vecB (cyc l i).1 (cyc l i).2 && hasPB l ((cyc l i).1, (cyc l i).2))) = true := by
  have s := poly_small h i
  rw [h, vec_of (by omega), show ((cyc l i).1, (cyc l i).2) = cyc l i from rfl, has_corner h i]
  rfl
theorem pr_of {l : List V2} (h : OfB l = true) : polyB (hullD l) = true ∧ OfL l = hullD l ∧ l.length ≤ 60 := by
  have h' := h
  unfold OfB at h'
  rw [Bool.and_eq_true] at h'
  exact ⟨h'.2, by unfold OfL; rw [h]; rfl, of_decide_eq_true h'.1⟩
theorem pr_all {l : List V2} (h : OfB l = true) {x : V2} (hx : x ∈ l) : (polyB (hullD l) && (vecB x.1 x.2 && hasPB (hullD l) (x.1, x.2))) = true := by
  obtain ⟨h1, h2, _⟩ := pr_of h
  have s := cnr_in (hull_small_all h1 x hx)
  rw [h1, vec_of (by omega), show (x.1, x.2) = x from rfl, hull_all (pd_two h1) hx]
  rfl
theorem pr_rev (l : List V2) : OfB l.reverse = OfB l ∧ OfL l.reverse = OfL l := by
  have e : OfB l.reverse = OfB l := by unfold OfB; rw [hull_rev, List.length_reverse]
  exact ⟨e, by unfold OfL; rw [e, hull_rev]⟩
theorem pr_sub {l : List V2} {k : Nat} (hk : k < (hullD l).length) : ∃ i, i < l.length ∧ cyc l i = cyc (hullD l) k :=
  memC (hull_sub (cyc_mem (by omega) k))
theorem pr_add {l : List V2} (h : polyB l = true) {a : V2} (ha : hasPB l a = true) : OfB (l ++ [a]) = true ∧ OfL (l ++ [a]) = tidyP l := by
  have h3 := poly_len h
  have e : OfB (l ++ [a]) = true := by
    unfold OfB
    rw [has_add h ha, tidyP_poly, h, Bool.and_true]
    exact decide_eq_true (by simp; omega)
  exact ⟨e, by unfold OfL; rw [e, has_add h ha]; rfl⟩
theorem hull_take {l : List V2} {k : Nat} (h : k < l.length) : l.reverse.take (k + 1) = l.reverse.take k ++ [cyc l (l.length - 1 - k)] := by
  have h2 : l.length - 1 - k < l.length := by omega
  rw [List.take_add_one, List.getElem?_reverse h, cyc_lt h2, List.getElem?_eq_getElem h2]
  rfl
end Go.Proofs.YtgaeibibeekclaaGreatDoor
