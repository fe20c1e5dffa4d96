import Derived.Test.YtgaeibibeekclaaGreatDoorBh
import Derived.Test.YtgaeibibeekclaaGreatDoorL3
import Derived.Test.YtgaeibibeekclaaGreatDoorK2
import Derived.Test.YtgaeibibeekclaaGreatDoorBj
import Derived.Test.YtgaeibibeekclaaGreatDoorJn
import Derived.Test.YtgaeibibeekclaaGreatDoorK1
import Derived.Test.YtgaeibibeekclaaGreatDoorO1
/- Hulls: vectors inside a polygon do not change it; a hull has all vectors: plain mathematics. -/
namespace Go.Proofs.YtgaeibibeekclaaGreatDoor

theorem cross3 (a b d : P2) : dtV a b * d.1 = dtV d b * a.1 + dtV a d * b.1 ∧ dtV a b * d.2 = dtV d b * a.2 + dtV a d * b.2 := by
  unfold dtV
  constructor <;> grind
theorem lex_term {A : Int} {a : P2} (hA : 0 ≤ A) (ha : lexV a) : 0 ≤ A * a.1 ∧ (A * a.1 = 0 → 0 ≤ A * a.2) := by
  unfold lexV at ha
  refine ⟨Int.mul_nonneg hA (by omega), fun h => ?_⟩
  rcases Int.mul_eq_zero.1 h with e | e
  · rw [e, Int.zero_mul]; omega
  · exact Int.mul_nonneg hA (by omega)
theorem lex_comb {T A B : Int} {a b d : P2} (hT : 0 < T) (hA : 0 ≤ A) (hB : 0 ≤ B) (ha : lexV a) (hb : lexV b) (h1 : T * d.1 = A * a.1 + B * b.1) (h2 : T * d.2 = A * a.2 + B * b.2) : (d.1 = 0 ∧ d.2 = 0) ∨ lexV d := by
  obtain ⟨a1, a2⟩ := lex_term hA ha
  obtain ⟨b1, b2⟩ := lex_term hB hb
  have d1 : 0 ≤ d.1 := nonneg_right (by omega) hT
  unfold lexV
  by_cases e : d.1 = 0
  · rw [e, Int.mul_zero] at h1
    have d2 : 0 ≤ d.2 := nonneg_right (by have := a2 (by omega); have := b2 (by omega); omega) hT
    omega
  · omega
theorem lex_scale {T A : Int} {x y : P2} (hT : 0 < T) (hA : 0 ≤ A) (hx : lexV x) (h1 : T * x.1 = A * y.1) (h2 : T * x.2 = A * y.2) : lexV y ∧ 0 < A := by
  have hA0 : 0 < A := by
    rcases Int.lt_or_le 0 A with q | q
    · exact q
    · exfalso
      have e : A = 0 := by omega
      rw [e, Int.zero_mul] at h1 h2
      unfold lexV at hx
      rcases hx with h | ⟨_, h⟩
      · have := Int.mul_pos hT h; omega
      · have := Int.mul_pos hT h; omega
  refine ⟨?_, hA0⟩
  have t := lex_term (Int.le_of_lt hT) hx
  unfold lexV at hx ⊢
  rcases hx with h | ⟨h0, h⟩
  · have := Int.mul_pos hT h
    left
    rw [h1] at this
    exact pos_of_mul (by rw [Int.mul_comm]; exact this) hA0
  · rw [h0, Int.mul_zero] at h1
    have e : y.1 = 0 := by
      rcases Int.mul_eq_zero.1 h1.symm with k | k
      · omega
      · exact k
    have := Int.mul_pos hT h
    rw [h2] at this
    exact .inr ⟨e, pos_of_mul (by rw [Int.mul_comm]; exact this) hA0⟩
theorem ConvS.turnw {n : Nat} {p : Nat → P2} (h : ConvS n p) (i : Nat) : 0 < dtV (wyV p i) (wyV p (i + 1)) := h.turn i
theorem ConvS.wper {n : Nat} {p : Nat → P2} (h : ConvS n p) (i : Nat) : wyV p (i + n) = wyV p i := by
  unfold wyV
  rw [h.per, show i + n + 1 = i + 1 + n by omega, h.per]
/-- what is inside a polygon is not ahead of its least corner -/
theorem ConvS.low {n : Nat} {p : Nat → P2} (h : ConvS n p) (hmin : ∀ j, j < n → p 0 = p j ∨ lexV (subV (p j) (p 0))) {q : P2} (hq : ∀ k, 0 ≤ sideZ p k q) : p 0 = q ∨ lexV (subV q (p 0)) := by
  have h3 := h.three
  have w0 : lexV (subV (p 1) (p 0)) := by
    rcases hmin 1 (by omega) with e | e
    · exact (h.ne (show 0 < n by omega) (show 1 < n by omega) (by omega) e).elim
    · exact e
  have u0 : lexV (subV (p (n - 1)) (p 0)) := by
    rcases hmin (n - 1) (by omega) with e | e
    · exact (h.ne (show 0 < n by omega) (show n - 1 < n by omega) (by omega) e).elim
    · exact e
  have T := h.inner 0 (n - 1) (by omega) (by omega)
  unfold farZ at T
  rw [Nat.zero_add, Nat.zero_add] at T
  have s0 := hq 0
  have s1 := hq (n - 1)
  have e1 : p (n - 1 + 1) = p 0 := by rw [show n - 1 + 1 = 0 + n by omega, h.per]
  unfold sideZ wyV at s0 s1
  rw [e1] at s1
  rw [Nat.zero_add] at s0
  have s1' : 0 ≤ dtV (subV q (p 0)) (subV (p (n - 1)) (p 0)) := by
    unfold dtV subV at s1 ⊢
    dsimp only at s1 ⊢
    grind
  obtain ⟨c1, c2⟩ := cross3 (subV (p 1) (p 0)) (subV (p (n - 1)) (p 0)) (subV q (p 0))
  rcases lex_comb T s1' s0 w0 u0 c1 c2 with ⟨x, y⟩ | k
  · left
    unfold subV at x y
    dsimp only at x y
    exact Prod.ext (by omega) (by omega)
  · exact .inr k
/-- the lower half of vectors that have a polygon's corners, and are all in it -/
theorem half_convG {n : Nat} {p : Nat → P2} (h : ConvS n p) {D : P2 → Prop} (hC : ∀ j, j < n → D (p j)) (hI : ∀ q, D q → ∀ k, 0 ≤ sideZ p k q) (hmin : ∀ q, D q → p 0 = q ∨ lexV (subV q (p 0))) :
    ∀ (st : List P2) (k : Nat), k < n → Stk D st → st.head? = some (p k) → st = ((List.range (k + 1)).map p).reverse := by
  have h3 := h.three
  intro st
  induction st with
  | nil => intro k _ _ hh; cases hh
  | cons b st ih =>
    intro k hk hs hh
    obtain rfl : b = p k := by simpa using hh
    cases st with
    | nil =>
      have h0 : k = 0 := by
        by_cases e : k = 0
        · exact e
        · exfalso
          rcases hs.2 (p 0) (hC 0 (by omega)) with e1 | e1
          · exact h.ne hk (by omega) e e1
          · rcases hmin (p k) (hC k hk) with e2 | e2
            · exact h.ne hk (by omega) e e2.symm
            · exact lex_asym e1 e2
      subst h0
      rfl
    | cons a st =>
      obtain ⟨_, h2, h3s, h4, h5⟩ := hs
      have hDa := h5.head
      have hk0 : k ≠ 0 := by
        rintro rfl
        rcases hmin a hDa with e2 | e2
        · rw [← e2] at h2
          unfold lexV subV at h2
          simp at h2
        · exact lex_asym h2 e2
      obtain ⟨k, rfl⟩ : ∃ q, k = q + 1 := ⟨k - 1, by omega⟩
      have s0 : 0 ≤ dtV (wyV p k) (subV a (p k)) := hI a hDa k
      have sw : subV (p (k + 1)) a = subV (wyV p k) (subV a (p k)) := by unfold wyV subV; refine Prod.ext ?_ ?_ <;> dsimp only <;> omega
      have z0 : dtV (wyV p k) (subV a (p k)) = 0 := by
        have q := h3s (p k) (hC k (by omega))
        have e : dtV (subV (p (k + 1)) a) (subV (p k) a) = -dtV (wyV p k) (subV a (p k)) := by unfold wyV dtV subV; dsimp only; grind
        omega
      have t1 := h.turnw (k + n - 1)
      rw [show k + n - 1 + 1 = k + n by omega, h.wper] at t1
      have a1 : 0 ≤ dtV (wyV p (k + n - 1)) (subV a (p k)) := by
        have q := hI a hDa (k + n - 1)
        have e : p (k + n - 1 + 1) = p k := by rw [show k + n - 1 + 1 = k + n by omega, h.per]
        unfold sideZ wyV at q
        unfold wyV
        rw [e] at q ⊢
        unfold dtV subV at q ⊢
        dsimp only at q ⊢
        grind
      obtain ⟨c1, c2⟩ := cross3 (wyV p (k + n - 1)) (wyV p k) (subV a (p k))
      have z0' : dtV (subV a (p k)) (wyV p k) = 0 := by rw [dt_flip, z0]; rfl
      rw [z0', Int.zero_mul, Int.zero_add] at c1 c2
      have t2 := h.turnw k
      have a2 : 0 ≤ dtV (subV (p (k + 1)) a) (wyV p (k + 1)) := by
        have q := hI a hDa (k + 1)
        have e : sideZ p (k + 1) a = dtV (subV (p (k + 1)) a) (wyV p (k + 1)) := by unfold sideZ dtV subV; dsimp only; grind
        omega
      obtain ⟨d1, d2⟩ := cross3 (wyV p k) (wyV p (k + 1)) (subV (p (k + 1)) a)
      have z1 : dtV (wyV p k) (subV (p (k + 1)) a) = 0 := by
        rw [sw]
        have : dtV (wyV p k) (subV (wyV p k) (subV a (p k))) = -dtV (wyV p k) (subV a (p k)) := by unfold dtV subV; dsimp only; grind
        omega
      rw [z1, Int.zero_mul, Int.add_zero] at d1 d2
      obtain ⟨lw, pA2⟩ := lex_scale t2 a2 h2 d1 d2
      have hak : a = p k := by
        by_cases hz : (subV a (p k)).1 = 0 ∧ (subV a (p k)).2 = 0
        · unfold subV at hz
          dsimp only at hz
          exact Prod.ext (by omega) (by omega)
        · exfalso
          have ld : lexV (subV a (p k)) := by
            rcases lex_comb t1 a1 (Int.le_refl 0) lw lw (d := subV a (p k)) (by rw [c1, Int.zero_mul, Int.add_zero]) (by rw [c2, Int.zero_mul, Int.add_zero]) with q | q
            · exact (hz q).elim
            · exact q
          cases st with
          | nil =>
            rcases h5.2 (p k) (hC k (by omega)) with e | e
            · rw [e] at ld
              unfold lexV subV at ld
              simp at ld
            · exact lex_asym e ld
          | cons o st =>
            have h4o := h4 o rfl
            have q := h5.2.2.1 (p k) (hC k (by omega))
            have e1 : dtV (subV a o) (subV (p k) o) = -dtV (subV a o) (subV a (p k)) := by unfold dtV subV; dsimp only; grind
            -- both are multiples of the way of the edge
            have m1 : dtV (wyV p k) (wyV p (k + 1)) * dtV (subV a o) (subV (p (k + 1)) a) = dtV (subV (p (k + 1)) a) (wyV p (k + 1)) * dtV (subV a o) (wyV p k) := by
              generalize subV a o = O at *
              generalize subV (p (k + 1)) a = E at *
              generalize wyV p k = W at *
              generalize dtV W (wyV p (k + 1)) = T at *
              generalize dtV E (wyV p (k + 1)) = A at *
              unfold dtV
              grind
            have m2 : dtV (wyV p (k + n - 1)) (wyV p k) * dtV (subV a o) (subV a (p k)) = dtV (wyV p (k + n - 1)) (subV a (p k)) * dtV (subV a o) (wyV p k) := by
              generalize subV a o = O at *
              generalize subV a (p k) = E at *
              generalize wyV p k = W at *
              generalize dtV (wyV p (k + n - 1)) W = T at *
              generalize dtV (wyV p (k + n - 1)) E = A at *
              unfold dtV
              grind
            have pw : 0 < dtV (subV a o) (wyV p k) := by
              have := Int.mul_pos t2 h4o
              rw [m1] at this
              exact pos_of_mul (by rw [Int.mul_comm]; exact this) pA2
            have pA : 0 < dtV (wyV p (k + n - 1)) (subV a (p k)) := by
              rcases Int.lt_or_le 0 (dtV (wyV p (k + n - 1)) (subV a (p k))) with r | r
              · exact r
              · exfalso
                have e : dtV (wyV p (k + n - 1)) (subV a (p k)) = 0 := by omega
                rw [e, Int.zero_mul] at c1 c2
                refine hz ⟨?_, ?_⟩
                · rcases Int.mul_eq_zero.1 c1 with k1 | k1
                  · omega
                  · exact k1
                · rcases Int.mul_eq_zero.1 c2 with k1 | k1
                  · omega
                  · exact k1
            have := Int.mul_pos pA pw
            rw [← m2] at this
            have := pos_of_mul (by rw [Int.mul_comm]; exact this) t1
            omega
      subst hak
      rw [ih k (by omega) h5 rfl]
      simp [List.range_succ]
theorem exists_max (p : Nat → P2) (n : Nat) (h0 : 0 < n) : ∃ K, K < n ∧ ∀ j, j < n → p K = p j ∨ lexV (subV (p K) (p j)) := by
  obtain ⟨K, hK, hm⟩ := exists_min (fun i => ngV (p i)) n h0
  refine ⟨K, hK, fun j hj => ?_⟩
  rcases hm j hj with e | e
  · left
    have := congrArg ngV e
    rwa [ng_ng, ng_ng] at this
  · right
    unfold lexV subV ngV at *
    dsimp only at *
    omega
theorem side_ng (p : Nat → P2) (m k : Nat) (a : P2) : sideZ (fun i => ngV (p (m + i))) k (ngV a) = sideZ p (m + k) a := by
  unfold sideZ wyV dtV subV ngV
  dsimp only
  rw [← Nat.add_assoc]
  grind
/-- the hull of vectors that have a polygon's corners, and are all in it, is the polygon, from the least corner on -/
theorem hull_convG {n : Nat} {p : Nat → P2} (h : ConvS n p) {S : List P2} (hS : Asc S) (hC : ∀ j, j < n → p j ∈ S) (hI : ∀ q, q ∈ S → ∀ k, 0 ≤ sideZ p k q) (hm0 : ∀ j, j < n → p 0 = p j ∨ lexV (subV (p j) (p 0))) :
    hullZ S = (List.range n).map p := by
  have h3 := h.three
  have h0 : p 0 ∈ S := hC 0 (by omega)
  have hmin : ∀ q, q ∈ S → p 0 = q ∨ lexV (subV q (p 0)) := fun q hq => h.low hm0 (hI q hq)
  have hne : S ≠ [] := by intro e; rw [e] at h0; cases h0
  obtain ⟨s1, t1⟩ := half_stk hS hne
  obtain ⟨m, hm, hmx⟩ := exists_max p n (by omega)
  have hN := h.neg m
  have hle : ∀ q, q ∈ S → p m = q ∨ lexV (subV (p m) q) := by
    intro q hq
    have := hN.low (fun j hj => by
      show ngV (p (m + 0)) = ngV (p (m + j)) ∨ lexV (subV (ngV (p (m + j))) (ngV (p (m + 0))))
      rw [Nat.add_zero, ← h.mod (m + j)]
      rcases hmx ((m + j) % n) (Nat.mod_lt _ (by omega)) with e | e
      · rw [← e]; exact .inl rfl
      · right
        unfold lexV subV ngV at *
        dsimp only at *
        omega) (q := ngV q) (fun k => by rw [side_ng]; exact hI q hq _)
    rcases this with e | e
    · left
      have := congrArg ngV e
      rwa [ng_ng, ng_ng, Nat.add_zero] at this
    · right
      unfold lexV subV ngV at *
      dsimp only at *
      rw [Nat.add_zero] at e
      omega
  have hmax : S.getLast? = some (p m) := by
    cases hl : S.getLast? with
    | none => rw [List.getLast?_eq_none_iff] at hl; exact (hne hl).elim
    | some q =>
      have k := asc_last hS hl (p m) (hC m hm)
      rcases k with k | k
      · rw [k]
      · rcases hle q (List.mem_of_getLast? hl) with e | e
        · rw [e]
        · exact (lex_asym k e).elim
  have hm0' : 0 < m := by
    rcases Nat.eq_zero_or_pos m with e | e
    · exfalso
      subst e
      have h1 : p 1 ∈ S := hC 1 (by omega)
      rcases hmin _ h1 with a | a
      · exact h.ne (show 0 < n by omega) (show 1 < n by omega) (by omega) a
      · rcases hle _ h1 with b | b
        · exact h.ne (show 0 < n by omega) (show 1 < n by omega) (by omega) b
        · exact lex_asym a b
    · exact e
  have e1 := half_convG h hC hI hmin _ m hm s1 (by rw [t1, hmax])
  have hS2 := asc_back hS
  have hne2 : S.reverse.map ngV ≠ [] := by simpa using hne
  obtain ⟨s2, t2⟩ := half_stk hS2 hne2
  have hC2 : ∀ j, j < n → ngV (p (m + j)) ∈ S.reverse.map ngV := fun j _ => List.mem_map.2 ⟨p (m + j), by rw [List.mem_reverse, ← h.mod (m + j)]; exact hC _ (Nat.mod_lt _ (by omega)), rfl⟩
  have hI2 : ∀ q, q ∈ S.reverse.map ngV → ∀ k, 0 ≤ sideZ (fun i => ngV (p (m + i))) k q := by
    intro q hq k
    simp only [List.mem_map, List.mem_reverse] at hq
    obtain ⟨a, ha, rfl⟩ := hq
    rw [side_ng]
    exact hI a ha _
  have hmin2 : ∀ q, q ∈ S.reverse.map ngV → ngV (p (m + 0)) = q ∨ lexV (subV q (ngV (p (m + 0)))) := by
    intro q hq
    simp only [List.mem_map, List.mem_reverse] at hq
    obtain ⟨a, ha, rfl⟩ := hq
    rw [Nat.add_zero]
    rcases hle a ha with e | e
    · rw [e]; exact .inl rfl
    · refine .inr ?_
      unfold lexV subV ngV at *
      dsimp only at *
      omega
  have hlast : (S.reverse.map ngV).getLast? = some (ngV (p (m + (n - m)))) := by
    have hh : S.head? = some (p 0) := by
      cases S with
      | nil => cases h0
      | cons a S =>
        rcases List.mem_cons.1 h0 with e | e
        · rw [e]; rfl
        · exfalso
          unfold Asc at hS
          rw [List.pairwise_cons] at hS
          have := hS.1 _ e
          rcases hmin a (by simp) with b | b
          · rw [b] at this
            unfold lexV subV at this
            simp at this
          · exact lex_asym this b
    rw [List.getLast?_map, List.getLast?_reverse, hh, show m + (n - m) = 0 + n by omega, h.per]
    rfl
  have e2 := half_convG hN hC2 hI2 hmin2 _ (n - m) (by omega) s2 (by rw [t2, hlast])
  have e3 : halfH S.reverse = (halfH (S.reverse.map ngV)).map ngV := by
    rw [half_ng, List.map_map, show (ngV ∘ ngV) = id from funext ng_ng, List.map_id]
  unfold hullZ
  rw [e3, e2, e1]
  have key : ∀ (f : Nat → P2) (k : Nat), (((List.range (k + 1)).map f).reverse).tail.reverse = (List.range k).map f := by
    intro f k
    simp [List.range_succ]
  rw [key, ← List.map_reverse, List.map_map]
  have e4 : (ngV ∘ fun i => ngV (p (m + i))) = fun i => p (m + i) := funext fun i => ng_ng _
  rw [e4, List.map_reverse, key]
  obtain ⟨k, rfl⟩ : ∃ k, n = m + k := ⟨n - m, by omega⟩
  rw [Nat.add_sub_cancel_left, List.range_add, List.map_append, List.map_map]
  rfl
/-- the hull of a list that has a polygon's corners, and is all in it -/
theorem hull_over {l S : List V2} (hc : ConvS l.length (cyc l)) (hC : ∀ j, j < l.length → cyc l j ∈ S) (hI : ∀ q, q ∈ S → ∀ k, 0 ≤ sideZ (cyc l) k q) : hullD S = tidyP l := by
  have h3 := hc.three
  have hK : leastAt l (l.length - 1) < l.length := Nat.lt_of_le_of_lt (leastAt_le _ _) (by omega)
  unfold hullD tidyP
  rw [hull_convG (hc.rot (leastAt l (l.length - 1))) (sortD_asc S) (fun j _ => ?_) (fun q hq k => ?_) (fun j _ => ?_)]
  · exact range_cyc (by omega)
  · rw [sortD_mem, ← cyc_mod]
    exact hC _ (Nat.mod_lt _ (by omega))
  · rw [sortD_mem] at hq
    have := hI q hq (leastAt l (l.length - 1) + k)
    unfold sideZ wyV at this ⊢
    exact this
  · rw [Nat.add_zero, ← cyc_mod l (leastAt l (l.length - 1) + j)]
    exact leastAt_min l _ _ (by have := Nat.mod_lt (leastAt l (l.length - 1) + j) (show 0 < l.length by omega); omega)

/-! a hull has all vectors -/
def at0 (st : List P2) (k : Nat) : P2 := st[k]?.getD (0, 0)
theorem stk_side {D : P2 → Prop} : ∀ {st : List P2}, Stk D st → ∀ k, k + 1 < st.length → ∀ p, D p → 0 ≤ dtV (subV (at0 st k) (at0 st (k + 1))) (subV p (at0 st (k + 1)))
  | [], h, _, _, _, _ => h.elim
  | [_], _, k, hk, _, _ => by simp at hk
  | b :: a :: st, h, 0, _, p, hp => h.2.2.1 p hp
  | b :: a :: st, h, k + 1, hk, p, hp => stk_side (st := a :: st) h.2.2.2.2 k (by simpa using hk) p hp
theorem at0_rev {st : List P2} {k : Nat} (h : k < st.length) : at0 st.reverse k = at0 st (st.length - 1 - k) := by
  unfold at0
  rw [List.getElem?_reverse h]
theorem hull_has {S : List P2} (hS : Asc S) (h2 : 2 ≤ S.length) {x : P2} (hx : x ∈ S) (k : Nat) (hk : k < (hullZ S).length) : 0 ≤ sideZ (cyc (hullZ S)) k x := by
  have hne : S ≠ [] := by rintro rfl; simp at h2
  obtain ⟨s1, t1⟩ := half_stk hS hne
  have hne2 : S.reverse.map ngV ≠ [] := by simpa using hne
  obtain ⟨s2, t2⟩ := half_stk (asc_back hS) hne2
  have e3 : halfH S.reverse = (halfH (S.reverse.map ngV)).map ngV := by
    rw [half_ng, List.map_map, show (ngV ∘ ngV) = id from funext ng_ng, List.map_id]
  cases hA : halfH S with
  | nil => rw [hA] at s1; exact s1.elim
  | cons a A =>
    cases hB : halfH (S.reverse.map ngV) with
    | nil => rw [hB] at s2; exact s2.elim
    | cons b B =>
      rw [hA] at s1 t1
      rw [hB] at s2 t2
      rw [hB, List.map_cons] at e3
      obtain ⟨lo, lo1, lo2, lo3⟩ := stk_last s1
      obtain ⟨up, up1, up2, up3⟩ := stk_last s2
      -- the last of one half is the first of the other
      have ea : S.getLast? = some a := t1.symm
      have eb : (S.reverse.map ngV).getLast? = some b := t2.symm
      have eup : ngV up = a := by
        obtain ⟨c, hc, rfl⟩ := List.mem_map.1 up2
        rw [ng_ng]
        rw [List.mem_reverse] at hc
        have k1 := asc_last hS ea c hc
        have hca : ngV a ∈ S.reverse.map ngV := List.mem_map.2 ⟨a, List.mem_reverse.2 (List.mem_of_getLast? ea), rfl⟩
        rcases k1 with k1 | k1
        · exact k1
        · rcases up3 _ hca with e | e
          · have := congrArg ngV e
            rwa [ng_ng, ng_ng] at this
          · exfalso
            unfold lexV subV ngV at *
            dsimp only at *
            omega
      have elo : lo = ngV b := by
        obtain ⟨c, hc, rfl⟩ := List.mem_map.1 (List.mem_of_getLast? eb)
        rw [ng_ng]
        rw [List.mem_reverse] at hc
        have k1 := lo3 c hc
        rcases k1 with k1 | k1
        · exact k1
        · have k2 := asc_last (asc_back hS) eb (ngV lo) (List.mem_map.2 ⟨lo, List.mem_reverse.2 lo2, rfl⟩)
          rcases k2 with e | e
          · have := congrArg ngV e
            rwa [ng_ng, ng_ng] at this
          · exfalso
            unfold lexV subV ngV at *
            dsimp only at *
            omega
      have eH : hullZ S = A.reverse ++ (B.map ngV).reverse := by
        unfold hullZ
        rw [hA, e3]
        rfl
      rw [eH] at hk ⊢
      rw [List.length_append, List.length_reverse, List.length_reverse, List.length_map] at hk
      -- both rows with their ends
      have gA : ∀ i, i ≤ A.length → cyc (A.reverse ++ (B.map ngV).reverse) i = at0 (a :: A) (A.length - i) ∨ (i = A.length ∧ B = []) := by
        intro i hi
        by_cases c : i < A.length
        · left
          rw [cyc_lt (by simp; omega), List.getElem?_append_left (by simpa using c), List.getElem?_reverse c]
          unfold at0
          rw [show A.length - i = (A.length - 1 - i) + 1 by omega, List.getElem?_cons_succ]
          rfl
        · by_cases hb0 : B = []
          · exact .inr ⟨by omega, hb0⟩
          · left
            have hi' : i = A.length := by omega
            subst hi'
            have hbl : 0 < B.length := List.length_pos_iff.2 hb0
            rw [cyc_lt (by simp; omega), List.getElem?_append_right (by simp), List.length_reverse, Nat.sub_self, List.getElem?_reverse (by simpa using hbl), List.getElem?_map, List.length_map]
            unfold at0
            rw [List.getElem?_cons_zero]
            have : (b :: B).getLast? = B[B.length - 1 - 0]? := by
              rw [List.getLast?_eq_getElem?, List.length_cons, Nat.add_sub_cancel, show B.length = (B.length - 1 - 0) + 1 by omega, List.getElem?_cons_succ]
              rfl
            rw [← this, up1]
            exact eup
      have gB : ∀ i, i ≤ B.length → cyc (A.reverse ++ (B.map ngV).reverse) (A.length + i) = ngV (at0 (b :: B) (B.length - i)) ∨ (i = B.length ∧ A = []) := by
        intro i hi
        by_cases c : i < B.length
        · left
          rw [cyc_lt (by simp; omega), List.getElem?_append_right (by simp), List.length_reverse, Nat.add_sub_cancel_left, List.getElem?_reverse (by simpa using c), List.getElem?_map, List.length_map]
          unfold at0
          rw [show B.length - i = (B.length - 1 - i) + 1 by omega, List.getElem?_cons_succ]
          have hq : B.length - 1 - i < B.length := by omega
          rw [List.getElem?_eq_getElem hq]
          rfl
        · by_cases ha0 : A = []
          · exact .inr ⟨by omega, ha0⟩
          · left
            have hi' : i = B.length := by omega
            subst hi'
            have hal : 0 < A.length := List.length_pos_iff.2 ha0
            have e0 : cyc (A.reverse ++ (B.map ngV).reverse) (A.length + B.length) = cyc (A.reverse ++ (B.map ngV).reverse) 0 := by
              have := cyc_add (A.reverse ++ (B.map ngV).reverse) 0
              rwa [List.length_append, List.length_reverse, List.length_reverse, List.length_map, Nat.zero_add] at this
            rw [e0, cyc_lt (by simp; omega), List.getElem?_append_left (by simpa using hal), List.getElem?_reverse hal]
            unfold at0
            rw [Nat.sub_self, List.getElem?_cons_zero]
            have : (a :: A).getLast? = A[A.length - 1 - 0]? := by
              rw [List.getLast?_eq_getElem?, List.length_cons, Nat.add_sub_cancel, show A.length = (A.length - 1 - 0) + 1 by omega, List.getElem?_cons_succ]
              rfl
            rw [← this, lo1]
            exact elo
      unfold sideZ wyV
      by_cases c : k < A.length
      · rcases gA k (by omega) with g1 | ⟨g1, _⟩
        · rcases gA (k + 1) (by omega) with g2 | ⟨g2, g3⟩
          · rw [g1, g2]
            have := stk_side s1 (A.length - (k + 1)) (by simp; omega) x hx
            rw [show A.length - (k + 1) + 1 = A.length - k by omega] at this
            exact this
          · -- only one half: the last one is followed by the first one
            exfalso
            subst g3
            have e : (b :: ([] : List P2)).getLast? = some b := rfl
            rw [e] at up1
            injection up1 with up1
            subst up1
            -- both ends are the same: then there is one vector alone
            have hall : ∀ y ∈ S, y = a := by
              intro y hy
              rcases asc_last hS ea y hy with q | q
              · exact q
              · rcases lo3 y hy with r | r
                · rw [← r, elo]; exact eup
                · rw [elo, eup] at r
                  exact (lex_asym q r).elim
            match S, hS, h2, hall with
            | y :: z :: S, hS, _, hall =>
              have h1 := (List.pairwise_cons.1 hS).1 z (by simp)
              rw [hall y (by simp), hall z (by simp)] at h1
              unfold lexV subV at h1
              simp at h1
        · omega
      · obtain ⟨i, rfl⟩ : ∃ i, k = A.length + i := ⟨k - A.length, by omega⟩
        rcases gB i (by omega) with g1 | ⟨g1, _⟩
        · rcases gB (i + 1) (by omega) with g2 | ⟨g2, g3⟩
          · rw [g1, Nat.add_assoc, g2]
            have := stk_side s2 (B.length - (i + 1)) (by simp; omega) (ngV x) (List.mem_map.2 ⟨x, List.mem_reverse.2 hx, rfl⟩)
            rw [show B.length - (i + 1) + 1 = B.length - i by omega] at this
            unfold dtV subV ngV at *
            dsimp only at *
            grind
          · exfalso
            subst g3
            have e : (a :: ([] : List P2)).getLast? = some a := rfl
            rw [e] at lo1
            injection lo1 with lo1
            have hall : ∀ y ∈ S, y = a := by
              intro y hy
              rcases asc_last hS ea y hy with q | q
              · exact q
              · rcases lo3 y hy with r | r
                · rw [← r, ← lo1]
                · rw [← lo1] at r
                  exact (lex_asym q r).elim
            match S, hS, h2, hall with
            | y :: z :: S, hS, _, hall =>
              have h1 := (List.pairwise_cons.1 hS).1 z (by simp)
              rw [hall y (by simp), hall z (by simp)] at h1
              unfold lexV subV at h1
              simp at h1
        · omega
end Go.Proofs.YtgaeibibeekclaaGreatDoor

/- Polygons: areas, edges, hulls, sums, shifts: the mathematics of the promises of chapter 6. -/
namespace Go.Proofs.YtgaeibibeekclaaGreatDoor
open Go.RowKit

theorem sumZ_I (f : Nat → Int) : ∀ n, sumZ f n = sumI f n := by
  intro n
  induction n with
  | zero => rfl
  | succ n ih => show sumZ f n + f n = sumI f n + f n; rw [ih]
theorem hullD_sameA {l m : List V2} (h : ∀ q, q ∈ l ↔ q ∈ m) : hullD l = hullD m := by
  unfold hullD
  rw [asc_ext (sortD_asc l) (sortD_asc m) (fun q => by rw [sortD_mem, sortD_mem]; exact h q)]
theorem leastK_le (l : List V2) : leastAt l (l.length - 1) ≤ l.length := Nat.le_trans (leastAt_le _ _) (by omega)
theorem area_rot {l : List V2} {K : Nat} (hK : K ≤ l.length) : areaZ (rot K l) = areaZ l := by
  unfold areaZ
  rw [sumZ_I, sumZ_I, rot_len]
  have : (fun i => detV (cyc (rot K l) i) (cyc (rot K l) (i + 1))) = fun i => (fun i => detV (cyc l i) (cyc l (i + 1))) (K + i) := funext fun i => by
    rw [cyc_rot hK, cyc_rot hK]
    rfl
  rw [this]
  exact sumI_rot (f := fun i => detV (cyc l i) (cyc l (i + 1))) (fun i => by show detV (cyc l (i + l.length)) (cyc l (i + l.length + 1)) = _; rw [cyc_add, show i + l.length + 1 = i + 1 + l.length by omega, cyc_add]) K
theorem area_tidy (l : List V2) : areaZ (tidyP l) = areaZ l := area_rot (leastK_le l)
theorem tidy_mem (l : List V2) (x : V2) : x ∈ tidyP l ↔ x ∈ l := rot_mem x
theorem tidy_tidy {l : List V2} (h : polyB l = true) : tidyP (tidyP l) = tidyP l := by
  rw [← hull_poly (by rw [tidyP_poly]; exact h : polyB (tidyP l) = true), hullD_sameA (tidy_mem l), hull_poly h]
theorem has_corner {l : List V2} (h : polyB l = true) (i : Nat) : hasPB l (cyc l i) = true := hasP_yes (fun k _ => (poly_conv h).side0 k i)
theorem has_side {l : List V2} (h0 : 0 < l.length) {a : V2} (h : hasPB l a = true) (k : Nat) : 0 ≤ sideZ (cyc l) k a := by
  have := ins_iff.1 h (k % l.length) (Nat.mod_lt _ h0)
  unfold sideZ wyV at this ⊢
  rw [cyc_mod, show cyc l (k % l.length + 1) = cyc l (k + 1) from cyc_congr l (by rw [Nat.mod_add_mod])] at this
  exact this
theorem memC {l : List V2} {x : V2} (h : x ∈ l) : ∃ i, i < l.length ∧ cyc l i = x := by
  obtain ⟨i, hi, rfl⟩ := List.mem_iff_getElem.1 h
  exact ⟨i, hi, by rw [cyc_lt hi, List.getElem?_eq_getElem hi]; rfl⟩
/-- vectors of a polygon do not change the hull -/
theorem has_add {l : List V2} (h : polyB l = true) {a : V2} (ha : hasPB l a = true) : hullD (l ++ [a]) = tidyP l := by
  have h3 := poly_len h
  refine hull_over (poly_conv h) (fun j _ => List.mem_append_left _ (cyc_mem (by omega) j)) (fun q hq k => ?_)
  rcases List.mem_append.1 hq with hq | hq
  · obtain ⟨i, _, rfl⟩ := memC hq
    exact (poly_conv h).side0 k i
  · obtain rfl := List.mem_singleton.1 hq
    exact has_side (by omega) ha k
/-- a hull has all vectors -/
theorem hull_all {l : List V2} (h2 : 2 ≤ (sortD l).length) {x : V2} (hx : x ∈ l) : hasPB (hullD l) x = true :=
  hasP_yes (fun k hk => hull_has (sortD_asc l) h2 ((sortD_mem l x).2 hx) k hk)
theorem hull_sub {l : List V2} {q : V2} (hq : q ∈ hullD l) : q ∈ l := (sortD_mem l q).1 (hull_mem (sortD_asc l) q hq)
theorem hull_rev (l : List V2) : hullD l.reverse = hullD l := hullD_sameA (fun q => by simp)

/-! multiples -/
theorem map_cyc {l : List V2} (h0 : 0 < l.length) (F : V2 → V2) (i : Nat) : cyc (l.map F) i = F (cyc l i) := cyc_map F h0 i
theorem area_map {l : List V2} (h0 : 0 < l.length) (F : V2 → V2) (c : Int) (hF : ∀ u v, detV (F u) (F v) = c * detV u v) : areaZ (l.map F) = c * areaZ l := by
  unfold areaZ
  rw [sumZ_I, sumZ_I, List.length_map, ← sumI_mul]
  refine sumI_congr (fun i _ => ?_)
  rw [map_cyc h0, map_cyc h0, hF]
theorem times_det (n : Int) (u v : V2) : detV (timesF n u) (timesF n v) = n * n * detV u v := by
  unfold detV detZ timesF
  dsimp only
  grind
theorem area_times {l : List V2} (h0 : 0 < l.length) (n : Int) : areaZ (tidyP (l.map (timesF n))) = n * n * areaZ l := by
  rw [area_tidy, area_map h0 _ _ (times_det n)]
/-! shifted ones -/
theorem way_shift {l : List V2} (h0 : 0 < l.length) (s : V2) (i : Nat) : wayZ (l.map (shiftF s)) i = wayZ l i := by
  unfold wayZ
  rw [map_cyc h0, map_cyc h0]
  unfold shiftF
  refine Prod.ext ?_ ?_ <;> dsimp only <;> omega
theorem area_shift {l : List V2} (h0 : 0 < l.length) (s : V2) : areaZ (l.map (shiftF s)) = areaZ l := by
  unfold areaZ
  rw [sumZ_I, sumZ_I, List.length_map]
  have e : sumI (fun i => detV (cyc (l.map (shiftF s)) i) (cyc (l.map (shiftF s)) (i + 1))) l.length = sumI (fun i => detV (cyc l i) (cyc l (i + 1)) + ((fun k => detV s (cyc l k)) (i + 1) - (fun k => detV s (cyc l k)) i)) l.length := by
    refine sumI_congr (fun i _ => ?_)
    rw [map_cyc h0, map_cyc h0]
    unfold shiftF detV detZ
    dsimp only
    grind
  rw [e, sumI_add, sum_tele (fun k => detV s (cyc l k))]
  have : cyc l l.length = cyc l 0 := by have := cyc_add l 0; rwa [Nat.zero_add] at this
  show _ + (detV s (cyc l l.length) - detV s (cyc l 0)) = _
  rw [this]
  omega
end Go.Proofs.YtgaeibibeekclaaGreatDoor

/- Polygons: edges, normals and numbers of vectors, of multiples and of shifted ones: the mathematics of the promises of chapter 6. -/
namespace Go.Proofs.YtgaeibibeekclaaGreatDoor
open Go.RowKit

theorem pc_gcd (n a b : Int) (hn : 0 ≤ n) : gcdZ (n * a) (n * b) = n * gcdZ a b := by
  unfold gcdZ
  rw [Int.natAbs_mul, Int.natAbs_mul, Nat.gcd_mul_left, Int.natCast_mul, Int.natAbs_of_nonneg hn]
theorem pc_edgeR {l : List V2} {K : Nat} (hK : K ≤ l.length) : edgeZ (rot K l) (rot K l).length = edgeZ l l.length := by
  unfold edgeZ
  rw [sumZ_I, sumZ_I, rot_len]
  have : (fun i => gcdZ (wayZ (rot K l) i).1 (wayZ (rot K l) i).2) = fun i => (fun i => gcdZ (wayZ l i).1 (wayZ l i).2) (K + i) := funext fun i => by rw [way_rot hK]
  rw [this]
  exact sumI_rot (f := fun i => gcdZ (wayZ l i).1 (wayZ l i).2) (fun i => by show gcdZ (wayZ l (i + l.length)).1 (wayZ l (i + l.length)).2 = _; rw [way_per]) K
theorem pc_edgeT (l : List V2) : edgeZ (tidyP l) (tidyP l).length = edgeZ l l.length := pc_edgeR (leastK_le l)
theorem pc_wayM {l : List V2} (h0 : 0 < l.length) (n : Int) (i : Nat) : wayZ (l.map (timesF n)) i = timesF n (wayZ l i) := by
  unfold wayZ
  rw [map_cyc h0, map_cyc h0]
  unfold timesF
  refine Prod.ext ?_ ?_ <;> dsimp only <;> grind
theorem pc_edgeM {l : List V2} (h0 : 0 < l.length) {n : Int} (hn : 0 ≤ n) : edgeZ (l.map (timesF n)) (l.map (timesF n)).length = n * edgeZ l l.length := by
  unfold edgeZ
  rw [sumZ_I, sumZ_I, List.length_map, ← sumI_mul]
  refine sumI_congr (fun i _ => ?_)
  rw [pc_wayM h0]
  exact pc_gcd n _ _ hn
theorem pc_edgeTM {l : List V2} (h0 : 0 < l.length) {n : Int} (hn : 0 ≤ n) : edgeZ (tidyP (l.map (timesF n))) (tidyP (l.map (timesF n))).length = n * edgeZ l l.length := by rw [pc_edgeT, pc_edgeM h0 hn]
theorem pc_edgeS {l : List V2} (h0 : 0 < l.length) (s : V2) : edgeZ (tidyP (l.map (shiftF s))) (tidyP (l.map (shiftF s))).length = edgeZ l l.length := by
  rw [pc_edgeT]
  unfold edgeZ
  rw [sumZ_I, sumZ_I, List.length_map]
  refine sumI_congr (fun i _ => ?_)
  rw [way_shift h0]
theorem pc_areaS {l : List V2} (h0 : 0 < l.length) (s : V2) : areaZ (tidyP (l.map (shiftF s))) = areaZ l := by rw [area_tidy, area_shift h0]
/-- at least as many vectors on the edge as corners -/
theorem pc_edgeL {l : List V2} (h : polyB l = true) : (l.length : Int) ≤ edgeZ l l.length := by
  have key : ∀ k : Nat, (k : Int) ≤ edgeZ l k := by
    intro k
    induction k with
    | zero => exact Int.le_refl _
    | succ k ih =>
      have := (prim_parts (way_nz' h k)).1
      show ((k + 1 : Nat) : Int) ≤ edgeZ l k + gcdZ (wayZ l k).1 (wayZ l k).2
      omega
  exact key _
theorem pc_cnt0 (l : List V2) : 0 ≤ cntZ l 1 := by
  unfold cntZ
  generalize (mxI (xsZ l) l.length - mnI (xsZ l) l.length + 1).toNat = k
  induction k with
  | zero => exact Int.le_refl _
  | succ k ih =>
    rw [sumI_succ]
    have := (col_bnd (cyc l) l.length 1 (mnI (xsZ l) l.length + k) (mnI (ysZ l) l.length) (mxI (ysZ l) l.length - mnI (ysZ l) l.length + 1).toNat).1
    omega
/-- Pick, and what follows -/
theorem pc_pick {l : List V2} (h : polyB l = true) : areaZ l = 2 * innerZ l + edgeZ l l.length - 2 ∧ 0 ≤ innerZ l ∧ (l.length : Int) ≤ edgeZ l l.length ∧ 0 < areaZ l := by
  obtain ⟨a, b⟩ := cnt_pick h
  obtain ⟨c, d⟩ := inner_cnt h
  have e := pc_cnt0 l
  have f := pc_edgeL h
  have g := poly_len h
  omega
theorem pc_twice {l : List V2} (h : polyB l = true) (h' : polyB (l.map (timesF 2)) = true) : innerZ (tidyP (l.map (timesF 2))) = 2 * areaZ l - edgeZ l l.length + 1 := by
  have h0 : 0 < l.length := by have := poly_len h; omega
  have a := area_times h0 2
  have e := pc_edgeTM h0 (n := 2) (by omega)
  have p := (pc_pick (l := tidyP (l.map (timesF 2))) (by rw [tidyP_poly]; exact h')).1
  omega
theorem pc_thrice {l : List V2} (h : polyB l = true) (h' : polyB (l.map (timesF 3)) = true) : innerZ (tidyP (l.map (timesF 3))) + edgeZ (tidyP (l.map (timesF 3))) (tidyP (l.map (timesF 3))).length = (9 * areaZ l + 3 * edgeZ l l.length).tdiv 2 + 1 := by
  have h0 : 0 < l.length := by have := poly_len h; omega
  have a := area_times h0 3
  have e := pc_edgeTM h0 (n := 3) (by omega)
  have p := (pc_pick (l := tidyP (l.map (timesF 3))) (by rw [tidyP_poly]; exact h')).1
  have : 9 * areaZ l + 3 * edgeZ l l.length = (innerZ (tidyP (l.map (timesF 3))) + edgeZ (tidyP (l.map (timesF 3))) (tidyP (l.map (timesF 3))).length - 1) * 2 := by omega
  rw [this, Int.mul_tdiv_cancel _ (by omega)]
  omega
theorem pc_count {l : List V2} (h : polyB l = true) : innerZ l + edgeZ l l.length = (areaZ l + edgeZ l l.length).tdiv 2 + 1 := by
  have p := (pc_pick h).1
  have : areaZ l + edgeZ l l.length = (innerZ l + edgeZ l l.length - 1) * 2 := by omega
  rw [this, Int.mul_tdiv_cancel _ (by omega)]
  omega
theorem pe_front (f : Nat → Int) : ∀ n, sumI f (n + 1) = f 0 + sumI (fun i => f (i + 1)) n := by
  intro n
  induction n with
  | zero => rw [sumI_succ]; show (0 : Int) + f 0 = f 0 + 0; omega
  | succ n ih =>
    rw [sumI_succ, ih, sumI_succ]
    omega
theorem pf_sum {f g : Nat → Int} : ∀ {n : Nat}, (∀ i, i < n → g i ≤ f i) → sumI g n ≤ sumI f n ∧ (sumI g n = sumI f n → ∀ i, i < n → g i = f i) := by
  intro n
  induction n with
  | zero => intro _; exact ⟨Int.le_refl _, fun _ i hi => by omega⟩
  | succ n ih =>
    intro h
    obtain ⟨a, b⟩ := ih (fun i hi => h i (by omega))
    have c := h n (by omega)
    rw [sumI_succ, sumI_succ]
    refine ⟨by omega, fun e i hi => ?_⟩
    rcases Nat.lt_or_ge i n with q | q
    · exact b (by omega) i q
    · obtain rfl : i = n := by omega
      omega
end Go.Proofs.YtgaeibibeekclaaGreatDoor

/- Polygons: normals of multiples. -/
namespace Go.Proofs.YtgaeibibeekclaaGreatDoor
open Go.RowKit

/-! normals -/
theorem pc_prim (n : Int) (hn : 0 < n) (u : V2) : primW (timesF n u) = primW u := by
  unfold primW timesF
  dsimp only
  rw [pc_gcd n _ _ (by omega), Int.mul_tdiv_mul_of_pos _ _ hn, Int.mul_tdiv_mul_of_pos _ _ hn]
theorem pc_nrmM {l : List V2} (h0 : 0 < l.length) {n : Int} (hn : 0 < n) : nrmL (l.map (timesF n)) = nrmL l := by
  unfold nrmL nrmZ
  rw [List.length_map]
  refine List.map_congr_left (fun i _ => ?_)
  rw [pc_wayM h0, pc_prim n hn]
theorem pc_nrmR {l : List V2} {K : Nat} (h0 : 0 < l.length) (hK : K ≤ l.length) : nrmL (rot K l) = rot K (nrmL l) := by
  rw [← range_cyc (l := nrmL l) (by rw [nrm_len]; exact hK), nrm_len]
  unfold nrmL
  rw [rot_len]
  refine List.map_congr_left (fun i _ => ?_)
  rw [show cyc ((List.range l.length).map (nrmZ l)) (K + i) = nrmZ l (K + i) from cyc_nrm h0 _]
  unfold nrmZ
  rw [way_rot hK]
theorem pc_normals {l : List V2} (h : polyB l = true) (hf : fanB (nrmL l) = true) : fanB (nrmL (tidyP (l.map (timesF 2)))) = true ∧ tidyL (nrmL (tidyP (l.map (timesF 2)))) = tidyL (nrmL l) := by
  have h0 : 0 < l.length := by have := poly_len h; omega
  have hK := leastK_le (l.map (timesF 2))
  have e : nrmL (tidyP (l.map (timesF 2))) = rot (leastAt (l.map (timesF 2)) ((l.map (timesF 2)).length - 1)) (nrmL l) := by
    unfold tidyP
    rw [pc_nrmR (by simpa using h0) hK, pc_nrmM h0 (by omega)]
  have hk : leastAt (l.map (timesF 2)) ((l.map (timesF 2)).length - 1) ≤ (nrmL l).length := by rw [nrm_len]; simpa using hK
  rw [e]
  exact ⟨by rw [fan_rot hk]; exact hf, tidy_rot hf hk⟩
end Go.Proofs.YtgaeibibeekclaaGreatDoor
