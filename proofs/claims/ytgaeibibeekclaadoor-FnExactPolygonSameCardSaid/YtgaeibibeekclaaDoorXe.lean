/- PolygonSame: the mathematics. -/
import Derived.Test.YtgaeibibeekclaaDoorBg
namespace Go.Proofs.YtgaeibibeekclaaDoor
open Go.RowKit

/-- the matrix that moves u to r and v to s -/
def nmA (v u r s : V2) : Int := r.1 * v.2 - s.1 * u.2
def nmB (v u r s : V2) : Int := s.1 * u.1 - r.1 * v.1
def nmC (v u r s : V2) : Int := r.2 * v.2 - s.2 * u.2
def nmD (v u r s : V2) : Int := s.2 * u.1 - r.2 * v.1
structure M4 where
  a : Int
  b : Int
  c : Int
  d : Int
def mtw (u v r s : V2) : M4 := ⟨(nmA v u r s).tdiv (detV u v), (nmB v u r s).tdiv (detV u v), (nmC v u r s).tdiv (detV u v), (nmD v u r s).tdiv (detV u v)⟩
def M4.ok (m : M4) : Bool := matB m.a m.b m.c m.d
def M4.mv (m : M4) (u : V2) : V2 := moveF m.a m.b m.c m.d u
def allMv (m : M4) (f g : Nat → V2) (n : Nat) : Bool := (List.range n).all fun k => m.mv (f k) == g k
def mvB (f g : Nat → V2) (n : Nat) : Bool := (mtw (f 0) (f 1) (g 0) (g 1)).ok && allMv (mtw (f 0) (f 1) (g 0) (g 1)) f g n
def dvB (u v r s : V2) : Bool := (nmA v u r s).tmod (detV u v) == 0 && ((nmB v u r s).tmod (detV u v) == 0 && ((nmC v u r s).tmod (detV u v) == 0 && (nmD v u r s).tmod (detV u v) == 0))
theorem allMv_iff {m : M4} {f g : Nat → V2} {n : Nat} : allMv m f g n = true ↔ ∀ k, k < n → m.mv (f k) = g k := by
  unfold allMv
  rw [List.all_eq_true]
  simp
theorem cram {u v r s : V2} {m : M4} (h0 : detV u v ≠ 0) (h1 : m.mv u = r) (h2 : m.mv v = s) : mtw u v r s = m ∧ dvB u v r s = true := by
  obtain ⟨a, b, c, d⟩ := m
  subst h1 h2
  have e1 : nmA v u (M4.mv ⟨a, b, c, d⟩ u) (M4.mv ⟨a, b, c, d⟩ v) = a * detV u v := by unfold nmA M4.mv moveF moveX detV detZ; grind
  have e2 : nmB v u (M4.mv ⟨a, b, c, d⟩ u) (M4.mv ⟨a, b, c, d⟩ v) = b * detV u v := by unfold nmB M4.mv moveF moveX detV detZ; grind
  have e3 : nmC v u (M4.mv ⟨a, b, c, d⟩ u) (M4.mv ⟨a, b, c, d⟩ v) = c * detV u v := by unfold nmC M4.mv moveF moveX detV detZ; grind
  have e4 : nmD v u (M4.mv ⟨a, b, c, d⟩ u) (M4.mv ⟨a, b, c, d⟩ v) = d * detV u v := by unfold nmD M4.mv moveF moveX detV detZ; grind
  constructor
  · unfold mtw
    rw [e1, e2, e3, e4, Int.mul_tdiv_cancel _ h0, Int.mul_tdiv_cancel _ h0, Int.mul_tdiv_cancel _ h0, Int.mul_tdiv_cancel _ h0]
  · unfold dvB
    rw [e1, e2, e3, e4, Int.mul_tmod_left, Int.mul_tmod_left, Int.mul_tmod_left, Int.mul_tmod_left]
    rfl
def MvP (f g : Nat → V2) : Prop := ∃ m : M4, m.ok = true ∧ ∀ k, m.mv (f k) = g k
theorem mvB_iff {f g : Nat → V2} {n : Nat} (hn : 2 ≤ n) (hf : ∀ k, f (k % n) = f k) (hg : ∀ k, g (k % n) = g k) (h0 : detV (f 0) (f 1) ≠ 0) : mvB f g n = true ↔ MvP f g := by
  unfold mvB
  rw [Bool.and_eq_true, allMv_iff]
  constructor
  · rintro ⟨h1, h2⟩
    refine ⟨_, h1, fun k => ?_⟩
    rw [← hf k, ← hg k]
    exact h2 _ (Nat.mod_lt _ (by omega))
  · rintro ⟨m, h1, h2⟩
    rw [(cram h0 (h2 0) (h2 1)).1]
    exact ⟨h1, fun k _ => h2 k⟩
/-- what the model asks: the quotients are whole -/
def fitF (f g : Nat → V2) (n : Nat) : Bool := dvB (f 0) (f 1) (g 0) (g 1) && mvB f g n
theorem fitF_is {f g : Nat → V2} {n : Nat} (hn : 2 ≤ n) (h0 : detV (f 0) (f 1) ≠ 0) : fitF f g n = mvB f g n := by
  unfold fitF
  cases h : mvB f g n
  · rw [Bool.and_false]
  · unfold mvB at h
    rw [Bool.and_eq_true, allMv_iff] at h
    rw [(cram h0 (h.2 0 (by omega)) (h.2 1 (by omega))).2]
    rfl
/-- ways of the model: in steps -/
def stpQ (q : List V2) (i s k : Nat) : V2 := subV (cyc q (i + (k + 1) * s)) (cyc q (i + k * s))
def fitL (p q : List V2) (i s : Nat) : Bool := fitF (wayZ p) (stpQ q i s) p.length
def leadsB (p q : List V2) : Bool := p.length == q.length && (List.range q.length).any fun i => mvB (wayZ p) (fun k => wayZ q (i + k)) p.length
def sameM (p q : List V2) : Bool := (polyB p && polyB q) && (p.length == q.length && (List.range q.length).any fun i => fitL p q i 1 || fitL p q i (q.length - 1))
def overL (p : List V2) : List V2 := tidyP (moveL 0 1 1 0 p)
def sameL (p q : List V2) : Bool := (polyB p && polyB q) && (leadsB p q || leadsB (overL p) q)
theorem step_one (q : List V2) (i k : Nat) : stpQ q i 1 k = wayZ q (i + k) := by
  unfold stpQ wayZ subV
  rw [Nat.mul_one, Nat.mul_one, Nat.add_assoc]
theorem way_congr (l : List V2) {i j : Nat} (h : i % l.length = j % l.length) : wayZ l i = wayZ l j := by
  rw [← wayZ_mod l i, ← wayZ_mod l j, h]
def swV (u : V2) : V2 := (u.2, u.1)
theorem step_back {q : List V2} (hq : 1 ≤ q.length) (i k : Nat) : stpQ q i (q.length - 1) k = ngV (wayZ q (i + (q.length - 1) * (k + 1))) := by
  unfold stpQ wayZ subV ngV
  rw [Nat.mul_comm (k + 1)]
  have e : cyc q (i + k * (q.length - 1)) = cyc q (i + (q.length - 1) * (k + 1) + 1) := by
    refine cyc_congr _ ?_
    rw [show i + (q.length - 1) * (k + 1) + 1 = i + k * (q.length - 1) + q.length by rw [Nat.mul_comm k, Nat.mul_add]; omega, Nat.add_mod_right]
  rw [e]
  refine Prod.ext ?_ ?_ <;> dsimp only <;> omega
theorem swap_is (u : V2) : moveF 0 1 1 0 u = swV u := by
  unfold moveF moveX swV
  refine Prod.ext ?_ ?_ <;> dsimp only <;> omega

/-! corners turned over are a polygon -/
theorem rnd_back {l : List V2} (h0 : 0 < l.length) (hn : ∀ i, NZ (cyc l i)) (hr : RndV l.length (cyc l)) : oneBack l = true := by
  have hK := tidyK_lt h0
  have hmin : ∀ j, ¬ ahdV (cyc l j) (cyc l (tidyK l)) := by
    intro j hj
    have a := tidy_min hn l.length (j % l.length) (Nat.mod_lt _ h0)
    rw [cyc_mod] at a
    have b := ahd_ahead hj
    unfold tidyK at b
    rw [a] at b
    cases b
  have hs := hr.sorted hmin
  generalize tidyK l = K at *
  have e : cnt (bkB l) (List.range l.length) = cnt (fun t => bkB l (K + t)) (List.range l.length) := (cnt_rot (fun i => by unfold bkB; rw [cyc_add, show i + l.length + 1 = i + 1 + l.length by omega, cyc_add]) K).symm
  unfold oneBack
  rw [e]
  have lo : ∀ m, m + 1 ≤ l.length → cnt (fun t => bkB l (K + t)) (List.range m) = 0 := by
    intro m
    induction m with
    | zero => intro _; rfl
    | succ m ih =>
      intro hm
      rw [cnt_range, ih (by omega)]
      have : bkB l (K + m) = false := ahead_asymm (ahd_ahead (hs (m + 1) m (by omega) (by omega)))
      rw [this]
      rfl
  have h2 : 2 ≤ l.length := by
    rcases Nat.lt_or_ge l.length 2 with q | q
    · have h1 : l.length = 1 := by omega
      have t := hr.turn 0
      have p := hr.per 0
      rw [h1] at p
      rw [p, dt_self] at t
      omega
    · exact q
  obtain ⟨m, hm⟩ : ∃ m, l.length = m + 1 := ⟨l.length - 1, by omega⟩
  have : bkB l (K + m) = true := by
    unfold bkB
    have a := hs m 0 (by omega) (by omega)
    rw [show K + m + 1 = K + 0 + l.length by omega, cyc_add]
    exact ahd_ahead a
  rw [hm, cnt_range, lo m (by omega), this]
  rfl
theorem dt_over (u v : V2) : dtV (ngV (swV u)) (ngV (swV v)) = dtV v u := by unfold dtV ngV swV; grind
theorem mult_ex {n : Nat} (h0 : 0 < n) (z : Nat) : ∃ y c, z + y = n * c := ⟨n * z - z, z, by have := Nat.le_mul_of_pos_left z h0; omega⟩
theorem RndV.over {n : Nat} {u u' : Nat → V2} (h : RndV n u) (h0 : 0 < n) (hp : ∀ i, u' (i + n) = u' i) (hR : ∀ x y c, x + y + 2 = n * c → u' x = ngV (swV (u y))) : RndV n u' := by
  refine ⟨hp, fun i => ?_, fun j t t' ht htt hn hle => ?_⟩
  · obtain ⟨y, c, e⟩ := mult_ex h0 (i + 1 + 2)
    rw [hR (i + 1) y c (by omega), hR i (y + 1) c (by omega), dt_over]
    exact h.turn y
  · obtain ⟨b, c, e⟩ := mult_ex h0 (j + t' + 2)
    rw [hR (j + t') b c (by omega), hR j (b + t') c (by omega), dt_over]
    rw [hR (j + t) (b + (t' - t)) c (by omega), hR j (b + t') c (by omega), dt_over] at hle
    refine Int.not_le.1 (fun q => ?_)
    have f1 := dt_flip (u b) (u (b + t'))
    have k := h.neg (b + t') (n - t') (n - t' + (t' - t)) (by omega) (by omega) (by omega) (by
      rw [show b + t' + (n - t') = b + n by omega, h.per]; omega)
    rw [show b + t' + (n - t' + (t' - t)) = b + (t' - t) + n by omega, h.per] at k
    have f2 := dt_flip (u (b + (t' - t))) (u (b + t'))
    omega
theorem over_way {p : List V2} (h0 : 2 ≤ p.length) {x y c : Nat} (h : x + y + 2 = p.length * c) : wayZ (p.map swV).reverse x = ngV (swV (wayZ p y)) := by
  have hl : (p.map swV).length = p.length := List.length_map ..
  have e0 := cyc_rev (l := p.map swV) (by omega) x 0 (by omega)
  have e1 := cyc_rev (l := p.map swV) (by omega) x 1 (by omega)
  rw [hl, cyc_map swV (by omega)] at e0 e1
  have hx := Nat.div_add_mod x p.length
  have hX := Nat.mod_lt x (show 0 < p.length by omega)
  generalize hXX : x % p.length = X at *
  generalize x / p.length = q at *
  have g1 : cyc p (p.length - 1 - X + p.length - 1) = cyc p y := by
    refine cyc_congr _ ?_
    have a : y + p.length * (q + 2) = p.length - 1 - X + p.length - 1 + p.length * c := by rw [Nat.mul_add]; omega
    rw [← Nat.add_mul_mod_self_left y p.length (q + 2), a, Nat.add_mul_mod_self_left]
  have g0 : cyc p (p.length - 1 - X + p.length - 0) = cyc p (y + 1) := by
    refine cyc_congr _ ?_
    have a : y + 1 + p.length * (q + 2) = p.length - 1 - X + p.length - 0 + p.length * c := by rw [Nat.mul_add]; omega
    rw [← Nat.add_mul_mod_self_left (y + 1) p.length (q + 2), a, Nat.add_mul_mod_self_left]
  rw [g0, Nat.add_zero] at e0
  rw [g1] at e1
  unfold wayZ
  rw [e0, e1]
  unfold swV ngV
  refine Prod.ext ?_ ?_ <;> dsimp only <;> omega
theorem over_is (p : List V2) : moveL 0 1 1 0 p = (p.map swV).reverse := by
  unfold moveL
  rw [if_neg (by unfold detM; omega)]
  rw [show moveF 0 1 1 0 = swV from funext swap_is]
theorem over_poly' {p : List V2} (h : polyB p = true) : polyB (p.map swV).reverse = true := by
  have h3 := poly_len h
  have hl : (p.map swV).reverse.length = p.length := by simp
  have hP : RndV p.length (wayZ p) := (poly_round h).rnd
  have hR : RndV p.length (wayZ (p.map swV).reverse) := hP.over (by omega) (fun i => by have := way_per (p.map swV).reverse i; rwa [hl] at this) (fun x y c e => over_way (by omega) e)
  rw [poly_is (by unfold prng; rw [hl]; simp; omega) (fun i hi => ?_) (fun i _ => ?_)]
  · have hw : (waysL (p.map swV).reverse).length = p.length := by rw [waysL_len, hl]
    have e : cyc (waysL (p.map swV).reverse) = wayZ (p.map swV).reverse := funext fun i => cyc_ways (by omega) i
    refine rnd_back (by omega) (fun i => ?_) (by rw [hw, e]; exact hR)
    rw [e]
    have := hR.turn i
    unfold NZ nzB
    unfold dtV at this
    cases hz : (!((wayZ (p.map swV).reverse i).1 == 0 && (wayZ (p.map swV).reverse i).2 == 0))
    · simp at hz
      rw [hz.1, hz.2] at this
      simp at this
    · rfl
  · rw [hl] at hi
    obtain ⟨y, c, e⟩ := mult_ex (show 0 < p.length by omega) (i + 1)
    have e0 := cyc_rev (l := p.map swV) (by rw [List.length_map]; omega) i 0 (by omega)
    rw [Nat.add_zero, cyc_map swV (by omega)] at e0
    rw [e0]
    have k := allK_at (poly_in h).2.1 (by omega) ((p.map swV).length - 1 - i % (p.map swV).length + (p.map swV).length - 0)
    unfold cnrV swV at *
    rw [Bool.and_comm]
    exact k
  · have := hR.turn i
    unfold bendB
    exact decide_eq_true this
theorem over_poly {p : List V2} (h : polyB p = true) : polyB (overL p) = true ∧ (overL p).length = p.length := by
  unfold overL
  rw [tidyP_len, tidyP_poly, over_is]
  exact ⟨over_poly' h, by simp⟩
/-! both ways round -/
theorem mv_way (m : M4) (u : V2) : m.mv (ngV u) = ngV (m.mv u) := by
  unfold M4.mv moveF moveX ngV
  refine Prod.ext ?_ ?_ <;> dsimp only <;> grind
def M4.sw (m : M4) : M4 := ⟨m.b, m.a, m.d, m.c⟩
theorem sw_mv (m : M4) (u : V2) : m.sw.mv u = m.mv (swV u) := by
  unfold M4.mv M4.sw moveF moveX swV
  refine Prod.ext ?_ ?_ <;> dsimp only <;> omega
theorem sw_sw (u : V2) : swV (swV u) = u := rfl
theorem sw_ng (u : V2) : swV (ngV u) = ngV (swV u) := rfl
theorem sw_ok (m : M4) (h : m.ok = true) : m.sw.ok = true := by
  unfold M4.ok at *
  obtain ⟨⟨a, b, c, d⟩, e⟩ := mat_in h
  unfold M4.sw matB sz4
  dsimp only
  rw [a, b, c, d]
  unfold detOk detM at *
  simp at e ⊢
  omega
/-- the ways of a polygon that is turned over lead to those of another one exactly if its ways lead to those of the other one in the opposite order -/
theorem over_fit {p q : List V2} (hp : 2 ≤ p.length) (hq : q.length = p.length) (t : Nat) :
    (∃ i, i < q.length ∧ MvP (fun k => wayZ (p.map swV).reverse (t + k)) (fun k => wayZ q (i + k))) ↔ ∃ i, i < q.length ∧ MvP (wayZ p) (stpQ q i (q.length - 1)) := by
  have hc : ∀ A B c, A = B + q.length * c → wayZ q A = wayZ q B := fun A B c e => way_congr q (by rw [e, Nat.add_mul_mod_self_left])
  constructor
  · rintro ⟨i, hi, m, hm, h⟩
    refine ⟨(i + (q.length - 1) * (t + 1)) % q.length, Nat.mod_lt _ (by omega), m.sw, sw_ok m hm, fun k => ?_⟩
    rw [step_back (by omega), sw_mv]
    have hk := h ((p.length - 1) * (t + k + 2))
    dsimp only at hk
    rw [over_way hp (x := t + (p.length - 1) * (t + k + 2)) (y := k) (c := t + k + 2) (by
      have : p.length * (t + k + 2) = (p.length - 1) * (t + k + 2) + (t + k + 2) := by rw [← Nat.succ_mul]; congr 1; omega
      omega), mv_way] at hk
    have e2 : m.mv (swV (wayZ p k)) = ngV (wayZ q (i + (p.length - 1) * (t + k + 2))) := by rw [← hk, ng_ng]
    rw [e2]
    congr 1
    rw [← hq]
    refine way_congr q ?_
    rw [Nat.mod_add_mod]
    congr 1
    rw [Nat.add_assoc i, ← Nat.mul_add]
    congr 2
    omega
  · rintro ⟨j, hj, m, hm, h⟩
    refine ⟨(j + t + 1) % q.length, Nat.mod_lt _ (by omega), m.sw, sw_ok m hm, fun k => ?_⟩
    dsimp only
    rw [sw_mv, over_way hp (x := t + k) (y := (p.length - 1) * (t + k + 2)) (c := t + k + 2) (by
      have : p.length * (t + k + 2) = (p.length - 1) * (t + k + 2) + (t + k + 2) := by rw [← Nat.succ_mul]; congr 1; omega
      omega), sw_ng, sw_sw, mv_way, h, step_back (by omega), ng_ng]
    refine way_congr q ?_
    rw [Nat.mod_add_mod]
    rw [← hq]
    obtain ⟨m', hm'⟩ : ∃ m', q.length = m' + 2 := ⟨q.length - 2, by omega⟩
    have e : j + (q.length - 1) * ((q.length - 1) * (t + k + 2) + 1) = j + t + 1 + k + q.length * (m' * (t + k + 2) + 1) := by
      rw [hm']
      grind
    rw [e, Nat.add_mul_mod_self_left]
theorem any_iff {f : Nat → Bool} {n : Nat} : (List.range n).any f = true ↔ ∃ i, i < n ∧ f i = true := by
  rw [List.any_eq_true]
  simp
theorem way_detnz {p : List V2} (h : polyB p = true) : detV (wayZ p 0) (wayZ p 1) ≠ 0 := by
  have : 0 < detV (wayZ p 0) (wayZ p 1) := (poly_round h).turn 0
  omega
theorem ways_q {q : List V2} {n : Nat} (h : q.length = n) (i : Nat) : ∀ k, wayZ q (i + k % n) = wayZ q (i + k) := fun k => way_congr q (by rw [h, Nat.add_mod_mod])
theorem leads_iff {p q : List V2} (hp : polyB p = true) (hl : p.length = q.length) : leadsB p q = true ↔ ∃ i, i < q.length ∧ MvP (wayZ p) (fun k => wayZ q (i + k)) := by
  have h3 := poly_len hp
  unfold leadsB
  rw [Bool.and_eq_true, any_iff]
  have e : ∀ i, mvB (wayZ p) (fun k => wayZ q (i + k)) p.length = true ↔ MvP (wayZ p) (fun k => wayZ q (i + k)) := fun i =>
    mvB_iff (by omega) (wayZ_mod p) (ways_q hl.symm i) (way_detnz hp)
  constructor
  · rintro ⟨_, i, hi, h⟩
    exact ⟨i, hi, (e i).1 h⟩
  · rintro ⟨i, hi, h⟩
    exact ⟨by simp [hl], i, hi, (e i).2 h⟩
theorem fit_iff {p q : List V2} (hp : polyB p = true) (hl : p.length = q.length) (i s : Nat) : fitL p q i s = true ↔ MvP (wayZ p) (stpQ q i s) := by
  have h3 := poly_len hp
  unfold fitL
  rw [fitF_is (by omega) (way_detnz hp)]
  refine mvB_iff (by omega) (wayZ_mod p) (fun k => ?_) (way_detnz hp)
  unfold stpQ
  have c : ∀ a, cyc q (i + (k % p.length + a) * s) = cyc q (i + (k + a) * s) := fun a => cyc_congr q (by
    have e : ((k % q.length + a) * s) % q.length = ((k + a) * s) % q.length := by rw [Nat.mul_mod, Nat.mod_add_mod, ← Nat.mul_mod]
    rw [hl, Nat.add_mod, e, ← Nat.add_mod])
  have c0 := c 0
  rw [Nat.add_zero, Nat.add_zero] at c0
  rw [c 1, c0]
theorem sameL_is (p q : List V2) : sameL p q = sameM p q := by
  unfold sameL sameM
  cases hpq : (polyB p && polyB q)
  · rfl
  · have hp : polyB p = true := by simp at hpq; exact hpq.1
    have h3 := poly_len hp
    obtain ⟨ho, hol⟩ := over_poly hp
    rw [Bool.true_and, Bool.true_and]
    by_cases hl : p.length = q.length
    · rw [show (p.length == q.length) = true by simp [hl], Bool.true_and]
      refine Bool.eq_iff_iff.2 ?_
      rw [Bool.or_eq_true, leads_iff hp hl, leads_iff ho (hol.trans hl), any_iff]
      have e : overL p = rot (leastAt (p.map swV).reverse ((p.map swV).reverse.length - 1)) (p.map swV).reverse := by
        unfold overL tidyP
        rw [over_is]
      have hr : (p.map swV).reverse.length = p.length := by simp
      have ht : leastAt (p.map swV).reverse ((p.map swV).reverse.length - 1) ≤ (p.map swV).reverse.length := Nat.le_trans (leastAt_le _ _) (by omega)
      have hw : wayZ (overL p) = fun k => wayZ (p.map swV).reverse (leastAt (p.map swV).reverse ((p.map swV).reverse.length - 1) + k) := funext fun k => by rw [e, way_rot ht]
      rw [hw, over_fit (by omega) hl.symm]
      have s1 : ∀ i, stpQ q i 1 = fun k => wayZ q (i + k) := fun i => funext (step_one q i)
      constructor
      · rintro (⟨i, hi, h⟩ | ⟨i, hi, h⟩)
        · exact ⟨i, hi, by rw [Bool.or_eq_true]; exact .inl ((fit_iff hp hl i 1).2 (by rw [s1]; exact h))⟩
        · exact ⟨i, hi, by rw [Bool.or_eq_true]; exact .inr ((fit_iff hp hl i _).2 h)⟩
      · rintro ⟨i, hi, h⟩
        rw [Bool.or_eq_true] at h
        rcases h with h | h
        · exact .inl ⟨i, hi, by have := (fit_iff hp hl i 1).1 h; rwa [s1] at this⟩
        · exact .inr ⟨i, hi, (fit_iff hp hl i _).1 h⟩
    · rw [show (p.length == q.length) = false by simp [hl], Bool.false_and]
      unfold leadsB
      rw [hol, show (p.length == q.length) = false by simp [hl], Bool.false_and, Bool.false_and]
      rfl
end Go.Proofs.YtgaeibibeekclaaDoor
