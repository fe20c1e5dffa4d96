import Derived.Test.YtcieihbknfeddaaDoorBe
import Derived.Test.YtcieihbknfeddaaDoorBh
import Derived.Test.YtcieihbknfeddaaDoorBj
/- Degrees and rays add up to 0: the mathematics. -/
namespace Go.Proofs.YtcieihbknfeddaaDoor
open Go.RowKit

theorem sumZ_succ (f : Nat → Int) (k : Nat) : sumZ f (k + 1) = sumZ f k + f k := rfl
theorem sumZ_head (f : Nat → Int) (m : Nat) : sumZ f (m + 1) = f 0 + sumZ (fun i => f (i + 1)) m := by
  induction m with
  | zero => simp [sumZ]
  | succ m ih =>
    rw [sumZ_succ, ih, sumZ_succ]
    omega
theorem sumZ_turn (f : Nat → Int) {n : Nat} (hn : 0 < n) : sumZ (fun i => f ((i + 1) % n)) n = sumZ f n := by
  obtain ⟨m, rfl⟩ : ∃ m, n = m + 1 := ⟨n - 1, by omega⟩
  rw [sumZ_head f m, sumZ_succ, Nat.mod_self]
  rw [sumZ_congr (g := fun i => f (i + 1)) (fun i hi => by rw [Nat.mod_eq_of_lt (by omega)])]
  omega
theorem sumZ_plus (f g : Nat → Int) (n : Nat) : sumZ (fun i => f i + g i) n = sumZ f n + sumZ g n := by
  induction n with
  | zero => rfl
  | succ n ih =>
    rw [sumZ_succ, sumZ_succ, sumZ_succ, ih]
    omega
theorem sumZ_nil {f : Nat → Int} {n : Nat} (h : ∀ i, i < n → f i = 0) : sumZ f n = 0 := by
  induction n with
  | zero => rfl
  | succ n ih =>
    rw [sumZ_succ, ih (fun i hi => h i (by omega)), h n (by omega)]
    rfl
theorem mod_back {n i : Nat} (hi : i < n) : ((i + 1) % n + n - 1) % n = i := by
  by_cases h : i + 1 = n
  · rw [h, Nat.mod_self, Nat.zero_add, show n - 1 = i by omega]
    exact Nat.mod_eq_of_lt hi
  · rw [Nat.mod_eq_of_lt (by omega : i + 1 < n), show i + 1 + n - 1 = i + n by omega, Nat.add_mod_right]
    exact Nat.mod_eq_of_lt hi
/-- a cyclic function q that is met by its neighbours -/
theorem deg_cycle {l : List V2} {d : List Int} (q : Nat → Int) (hn : 0 < l.length) (hq : ∀ i, q (i % l.length) = q i) (h3 : ∀ i, q (i + l.length - 1) + q (i + 1) = -(numZ l i) * q i) : sumZ (fun i => degZ l d i * q i) l.length = 0 := by
  have e1 : sumZ (fun i => gz d ((i + l.length - 1) % l.length) * q i) l.length = sumZ (fun i => gz d i * q (i + 1)) l.length := by
    rw [← sumZ_turn _ hn]
    exact sumZ_congr (fun i hi => by
      try dsimp only
      rw [mod_back hi, hq])
  have e2 : sumZ (fun i => gz d ((i + 1) % l.length) * q i) l.length = sumZ (fun i => gz d i * q (i + l.length - 1)) l.length := by
    rw [← sumZ_turn (fun i => gz d i * q (i + l.length - 1)) hn]
    exact sumZ_congr (fun i hi => by
      try dsimp only
      rw [← hq ((i + 1) % l.length + l.length - 1), mod_back hi])
  have e3 : sumZ (fun i => degZ l d i * q i) l.length = sumZ (fun i => gz d ((i + l.length - 1) % l.length) * q i + (gz d i * numZ l i * q i + gz d ((i + 1) % l.length) * q i)) l.length := sumZ_congr (fun i _ => by
    unfold degZ
    rw [Int.add_mul, Int.add_mul]
    omega)
  rw [e3, sumZ_plus, sumZ_plus, e1, e2, ← sumZ_plus, ← sumZ_plus]
  refine sumZ_nil (fun i _ => ?_)
  have h := h3 i
  rw [show gz d i * q (i + 1) + (gz d i * numZ l i * q i + gz d i * q (i + l.length - 1)) = gz d i * (q (i + l.length - 1) + q (i + 1) + numZ l i * q i) by grind, h]
  grind
theorem deg_rays {l : List V2} {d : List Int} (hS : Smooth l) (hn : 0 < l.length) : sumZ (fun i => degZ l d i * (cyc l i).1) l.length = 0 ∧ sumZ (fun i => degZ l d i * (cyc l i).2) l.length = 0 := by
  have h3 : ∀ i, (cyc l (i + l.length - 1)).1 + (cyc l (i + 1)).1 = -(numZ l i) * (cyc l i).1 ∧ (cyc l (i + l.length - 1)).2 + (cyc l (i + 1)).2 = -(numZ l i) * (cyc l i).2 := fun i => by
    have h1 := hS.2 (i + l.length - 1)
    rw [show i + l.length - 1 + 1 = i + l.length by omega, cyc_add] at h1
    have h := three h1 (hS.2 i)
    unfold numZ
    rw [Int.neg_neg]
    exact h
  have hc : ∀ i, cyc l (i % l.length) = cyc l i := fun i => by unfold cyc; rw [Nat.mod_mod]
  exact ⟨deg_cycle (fun i => (cyc l i).1) hn (fun i => by show _ = _; rw [hc]) (fun i => (h3 i).1), deg_cycle (fun i => (cyc l i).2) hn (fun i => by show _ = _; rw [hc]) (fun i => (h3 i).2)⟩
end Go.Proofs.YtcieihbknfeddaaDoor

/- Divisors: products, degrees, equivalence: the mathematics of the promises. -/
namespace Go.Proofs.YtcieihbknfeddaaDoor
open Go.RowKit

theorem neighbours {l : List V2} (hS : Smooth l) (i : Nat) : (cyc l (i + l.length - 1)).1 + (cyc l (i + 1)).1 = -(numZ l i) * (cyc l i).1 ∧ (cyc l (i + l.length - 1)).2 + (cyc l (i + 1)).2 = -(numZ l i) * (cyc l i).2 := by
  by_cases hn : 0 < l.length
  · have h1 := hS.2 (i + l.length - 1)
    rw [show i + l.length - 1 + 1 = i + l.length by omega, cyc_add] at h1
    have h := three h1 (hS.2 i)
    unfold numZ
    rw [Int.neg_neg]
    exact h
  · have h0 : l = [] := List.eq_nil_of_length_eq_zero (by omega)
    subst h0
    have := hS.2 0
    simp [cyc, detV, detZ] at this
    exfalso
    grind
/-- the products of a vector with all rays, as a cyclic function -/
def dotQ (l : List V2) (m : V2) (i : Nat) : Int := dotZ m.1 m.2 (cyc l i).1 (cyc l i).2
theorem dotQ_mod (l : List V2) (m : V2) (i : Nat) : dotQ l m (i % l.length) = dotQ l m i := by unfold dotQ; rw [cyc_mod]
theorem dotQ_next {l : List V2} (hS : Smooth l) (m : V2) (i : Nat) : dotQ l m (i + l.length - 1) + dotQ l m (i + 1) = -(numZ l i) * dotQ l m i := by
  obtain ⟨h1, h2⟩ := neighbours hS i
  unfold dotQ dotZ
  grind
theorem gz_triv {l : List V2} {m : V2} {i : Nat} (h : i < l.length) : gz (trivL l m) i = dotQ l m i := gz_trivL h
/-- trivial divisors have no degrees -/
theorem deg_triv {l : List V2} (hS : Smooth l) (m : V2) {i : Nat} (hi : i < l.length) : degZ l (trivL l m) i = 0 := by
  have h0 : 0 < l.length := by omega
  unfold degZ
  rw [gz_triv (Nat.mod_lt _ h0), gz_triv (Nat.mod_lt _ h0), gz_triv hi, dotQ_mod, dotQ_mod]
  have := dotQ_next hS m i
  grind
/-- products do not see trivial divisors -/
theorem prod_triv {l : List V2} (hS : Smooth l) (h0 : 0 < l.length) (m : V2) (d : List Int) : prodZ l (trivL l m) d = 0 := by
  have h := deg_cycle (l := l) (d := d) (dotQ l m) h0 (dotQ_mod l m) (dotQ_next hS m)
  unfold prodZ dotD
  rw [← h]
  refine sumZ_congr (fun i hi => ?_)
  rw [gz_triv hi, Int.mul_comm]
theorem sum_back {n : Nat} (hn : 0 < n) (a b : List Int) : sumZ (fun i => gz a i * gz b ((i + n - 1) % n)) n = sumZ (fun i => gz b i * gz a ((i + 1) % n)) n := by
  rw [← sumZ_turn (fun i => gz a i * gz b ((i + n - 1) % n)) hn]
  exact sumZ_congr (fun i hi => by
    try dsimp only
    rw [mod_back hi, Int.mul_comm])
theorem prod_parts (l : List V2) (a b : List Int) : prodZ l a b = sumZ (fun i => gz a i * gz b ((i + l.length - 1) % l.length)) l.length + (sumZ (fun i => gz a i * gz b i * numZ l i) l.length + sumZ (fun i => gz a i * gz b ((i + 1) % l.length)) l.length) := by
  rw [← sumZ_plus, ← sumZ_plus]
  unfold prodZ dotD
  exact sumZ_congr (fun i _ => by unfold degZ; grind)
theorem prod_comm {l : List V2} (h0 : 0 < l.length) (a b : List Int) : prodZ l a b = prodZ l b a := by
  rw [prod_parts l a b, prod_parts l b a, sum_back h0 a b, sum_back h0 b a]
  have e : sumZ (fun i => gz a i * gz b i * numZ l i) l.length = sumZ (fun i => gz b i * gz a i * numZ l i) l.length := sumZ_congr (fun i _ => by rw [Int.mul_comm (gz a i)])
  rw [e]
  omega
theorem sumZ_scale (f : Nat → Int) (c : Int) (n : Nat) : sumZ (fun i => c * f i) n = c * sumZ f n := by
  induction n with
  | zero => simp [sumZ]
  | succ n ih => rw [sumZ_succ, sumZ_succ, ih, Int.mul_add]
/-- a sum of divisors in the first place -/
theorem prod_sum {l : List V2} {a b c : List Int} {n : Int} (ha : a.length = l.length) : prodZ l (sumL a n b) c = prodZ l a c + n * prodZ l b c := by
  unfold prodZ dotD
  rw [← sumZ_scale, ← sumZ_plus]
  exact sumZ_congr (fun i hi => by rw [gz_sumL (by omega)]; grind)
theorem gz_times {a : List Int} {n : Int} {i : Nat} (h : i < a.length) : gz (timesL a n) i = gz a i * n := gz_timesL h
theorem deg_times {l : List V2} {a : List Int} {n : Int} {i : Nat} (ha : a.length = l.length) (hi : i < l.length) : degZ l (timesL a n) i = n * degZ l a i := by
  have h0 : 0 < l.length := by omega
  have p1 : (i + l.length - 1) % l.length < a.length := by rw [ha]; exact Nat.mod_lt _ h0
  have p2 : (i + 1) % l.length < a.length := by rw [ha]; exact Nat.mod_lt _ h0
  unfold degZ
  rw [gz_times p1, gz_times p2, gz_times (show i < a.length by omega)]
  grind
theorem prod_times {l : List V2} {a : List Int} {n : Int} (ha : a.length = l.length) (c : List Int) : prodZ l (timesL a n) c = n * prodZ l a c := by
  unfold prodZ dotD
  rw [← sumZ_scale]
  exact sumZ_congr (fun i hi => by rw [gz_times (by omega)]; grind)
theorem prod_square {l : List V2} {a : List Int} {n : Int} (ha : a.length = l.length) (h0 : 0 < l.length) : prodZ l (timesL a n) (timesL a n) = n * n * prodZ l a a := by
  rw [prod_times ha, prod_comm h0, prod_times ha]
  grind
theorem plain_len' {l : List V2} {d : List Int} (h : d.length = l.length) : (plainL l d).length = l.length := by rw [plain_len]; exact h
theorem prod_plain {l : List V2} {a b : List Int} (hS : Smooth l) (h0 : 0 < l.length) (ha : a.length = l.length) : prodZ l (plainL l a) b = prodZ l a b := by
  unfold plainL
  rw [prod_sum ha, prod_triv hS h0]
  omega
theorem sum_comm {a b : List Int} (h : a.length = b.length) : sumL a 1 b = sumL b 1 a := by
  unfold sumL
  rw [h]
  exact List.map_congr_left (fun i _ => by omega)
theorem minus_self (d : List Int) : sumL d 1 (timesL d (-1)) = List.replicate d.length 0 := by
  refine gz_ext (by simp [sumL]) (fun j hj => ?_)
  rw [sumL_len] at hj
  rw [gz_sumL hj, gz_times hj]
  have : gz (List.replicate d.length 0) j = 0 := by simp [gz, hj]
  rw [this]
  omega
/-- equivalent divisors have the same degrees -/
theorem equiv_deg {l : List V2} {a b : List Int} (hS : Smooth l) (ha : a.length = l.length) (h : trivB l (sumL a (-1) b) = true) : degsZ l a = degsZ l b := by
  unfold degsZ
  refine List.map_congr_left (fun i hi => ?_)
  have hi := List.mem_range.1 hi
  have h0 : 0 < l.length := by omega
  have e : ∀ j, j < l.length → gz (sumL a (-1) b) j = gz (trivL l (vecZ l (sumL a (-1) b))) j := by
    intro j hj
    unfold trivB sameB at h
    have := List.all_eq_true.1 h j (List.mem_range.2 hj)
    simpa using this
  have h1 : degZ l (sumL a (-1) b) i = 0 := by
    have := deg_triv hS (vecZ l (sumL a (-1) b)) hi
    unfold degZ at this ⊢
    rw [e _ (Nat.mod_lt _ h0), e _ (Nat.mod_lt _ h0), e i hi]
    exact this
  rw [deg_sum ha hi] at h1
  omega
theorem vec_dot {l : List V2} (hS : Smooth l) (d : List Int) : dotQ l (vecZ l d) 0 = gz d 0 ∧ dotQ l (vecZ l d) 1 = gz d 1 := by
  have h := hS.2 0
  unfold dotQ dotZ vecZ
  unfold detV detZ at h
  rw [Nat.zero_add] at h
  dsimp only
  constructor <;> grind
/-- a list without degrees is that of a vector -/
theorem none_triv {l : List V2} {c : List Int} (hS : Smooth l) (h : ∀ i, i < l.length → degZ l c i = 0) : ∀ k, k + 1 < l.length → gz c k = dotQ l (vecZ l c) k ∧ gz c (k + 1) = dotQ l (vecZ l c) (k + 1) := by
  intro k
  induction k with
  | zero => intro _; exact ⟨(vec_dot hS c).1.symm, (vec_dot hS c).2.symm⟩
  | succ k ih =>
    intro hk
    obtain ⟨e1, e2⟩ := ih (by omega)
    refine ⟨e2, ?_⟩
    have hd := h (k + 1) (by omega)
    have hq := dotQ_next hS (vecZ l c) (k + 1)
    rw [show k + 1 + l.length - 1 = k + l.length by omega, ← dotQ_mod l _ (k + l.length), Nat.add_mod_right, dotQ_mod] at hq
    unfold degZ at hd
    rw [show k + 1 + l.length - 1 = k + l.length by omega, Nat.add_mod_right, Nat.mod_eq_of_lt (by omega : k < l.length), Nat.mod_eq_of_lt (by omega : k + 1 + 1 < l.length), e1, e2] at hd
    grind
/-- the same degrees are equivalent -/
theorem deg_equiv {l : List V2} {a b : List Int} (hS : Smooth l) (h2 : 2 ≤ l.length) (ha : a.length = l.length) (h : degsZ l a = degsZ l b) : trivB l (sumL a (-1) b) = true := by
  have hd : ∀ i, i < l.length → degZ l (sumL a (-1) b) i = 0 := by
    intro i hi
    rw [deg_sum ha hi]
    have e : gz (degsZ l a) i = gz (degsZ l b) i := by rw [h]
    have e1 : gz (degsZ l a) i = degZ l a i := gz_tab _ hi
    have e2 : gz (degsZ l b) i = degZ l b i := gz_tab _ hi
    omega
  unfold trivB
  refine same_true (fun j hj => ?_)
  rw [gz_triv hj]
  have h3 := none_triv hS hd
  rcases Nat.eq_zero_or_pos j with rfl | hj0
  · exact (h3 0 (by omega)).1
  · have := (h3 (j - 1) (by omega)).2
    rwa [show j - 1 + 1 = j by omega] at this
end Go.Proofs.YtcieihbknfeddaaDoor

/- Convex functions on smooth fans that are 0 at two rays beside each other are nowhere negative (plain mathematics). -/
namespace Go.Proofs.YtcieihbknfeddaaDoor

theorem near_side {n : Nat} {u : Nat → P2} (h : RndV n u) (j : Nat) : (∀ k, 1 ≤ k → k < j → 0 ≤ dtV (u k) (u j)) ∨ (∀ k, j < k → k ≤ n → 0 ≤ dtV (u j) (u k)) := by
  by_cases hA : ∃ k, 1 ≤ k ∧ k < j ∧ dtV (u k) (u j) < 0
  · obtain ⟨k, h1, h2, h3⟩ := hA
    refine .inr (fun s h4 h5 => ?_)
    by_cases hs : 0 ≤ dtV (u j) (u s)
    · exact hs
    · exfalso
      have := h.neg j (s - j) (k + n - j) (by omega) (by omega) (by omega) (by rw [show j + (s - j) = s by omega]; omega)
      rw [show j + (k + n - j) = k + n by omega, h.per] at this
      have hf := dt_flip (u k) (u j)
      omega
  · refine .inl (fun k h1 h2 => ?_)
    by_cases hs : 0 ≤ dtV (u k) (u j)
    · exact hs
    · exact absurd ⟨k, h1, h2, by omega⟩ hA
def fwdV (g : Nat → Int) (u : Nat → P2) (x : P2) : Nat → Int
  | 0 => 0
  | k + 1 => fwdV g u x k + g (k + 1) * dtV (u (k + 1)) x
def bwdV (n : Nat) (g : Nat → Int) (u : Nat → P2) (x : P2) : Nat → Int
  | 0 => 0
  | k + 1 => bwdV n g u x k + g (n - k) * dtV x (u (n - k))
theorem fwd_lin (g : Nat → Int) (u : Nat → P2) {a m c : P2} {b : Int} (h : a.1 + c.1 = b * m.1 ∧ a.2 + c.2 = b * m.2) (k : Nat) : fwdV g u c k = b * fwdV g u m k - fwdV g u a k := by
  induction k with
  | zero => simp [fwdV]
  | succ k ih =>
    unfold fwdV
    rw [ih]
    have e : dtV (u (k + 1)) c = b * dtV (u (k + 1)) m - dtV (u (k + 1)) a := by
      unfold dtV
      have h1 : c.1 = b * m.1 - a.1 := by omega
      have h2 : c.2 = b * m.2 - a.2 := by omega
      rw [h1, h2]
      grind
    rw [e]
    grind
theorem bwd_lin (n : Nat) (g : Nat → Int) (u : Nat → P2) {a m c : P2} {b : Int} (h : a.1 + c.1 = b * m.1 ∧ a.2 + c.2 = b * m.2) (k : Nat) : bwdV n g u a k = b * bwdV n g u m k - bwdV n g u c k := by
  induction k with
  | zero => simp [bwdV]
  | succ k ih =>
    unfold bwdV
    rw [ih]
    have e : dtV a (u (n - k)) = b * dtV m (u (n - k)) - dtV c (u (n - k)) := by
      unfold dtV
      have h1 : a.1 = b * m.1 - c.1 := by omega
      have h2 : a.2 = b * m.2 - c.2 := by omega
      rw [h1, h2]
      grind
    rw [e]
    grind
theorem dt_same (a : P2) : dtV a a = 0 := by unfold dtV; grind
theorem fwd_is {g b f : Nat → Int} {u : Nat → P2} (hu : ∀ i, (u i).1 + (u (i + 2)).1 = b (i + 1) * (u (i + 1)).1 ∧ (u i).2 + (u (i + 2)).2 = b (i + 1) * (u (i + 1)).2) (h1 : ∀ i, dtV (u i) (u (i + 1)) = 1)
    (hf : ∀ i, f i + f (i + 2) = b (i + 1) * f (i + 1) + g (i + 1)) (f0 : f 0 = 0) (f1 : f 1 = 0) : ∀ j, f (j + 1) = fwdV g u (u (j + 1)) j ∧ f (j + 2) = fwdV g u (u (j + 2)) (j + 1) := by
  intro j
  induction j with
  | zero =>
    refine ⟨by rw [f1]; rfl, ?_⟩
    have h := hf 0
    have e := h1 1
    unfold fwdV fwdV
    rw [show (0 : Nat) + 2 = 1 + 1 from rfl] at *
    rw [show (0 : Nat) + 1 = 1 from rfl] at *
    rw [e]
    rw [f0, f1] at h
    omega
  | succ j ih =>
    obtain ⟨e1, e2⟩ := ih
    refine ⟨e2, ?_⟩
    have h := hf (j + 1)
    have hl := fwd_lin g u (hu (j + 1)) (j + 1)
    have e3 : fwdV g u (u (j + 3)) (j + 2) = fwdV g u (u (j + 3)) (j + 1) + g (j + 2) * dtV (u (j + 2)) (u (j + 3)) := rfl
    have e4 : fwdV g u (u (j + 1)) (j + 1) = fwdV g u (u (j + 1)) j + g (j + 1) * dtV (u (j + 1)) (u (j + 1)) := rfl
    rw [dt_same] at e4
    have e5 := h1 (j + 2)
    rw [show j + 1 + 2 = j + 3 by omega, show j + 1 + 1 = j + 2 by omega] at *
    rw [show j + 2 + 1 = j + 3 by omega] at e5
    rw [e3, e5, hl, e4]
    rw [← e1, ← e2]
    omega
theorem bwd_is {n : Nat} {g b f : Nat → Int} {u : Nat → P2} (hu : ∀ i, (u i).1 + (u (i + 2)).1 = b (i + 1) * (u (i + 1)).1 ∧ (u i).2 + (u (i + 2)).2 = b (i + 1) * (u (i + 1)).2) (h1 : ∀ i, dtV (u i) (u (i + 1)) = 1)
    (hf : ∀ i, f i + f (i + 2) = b (i + 1) * f (i + 1) + g (i + 1)) (f0 : f n = 0) (f1 : f (n + 1) = 0) : ∀ j, j + 1 ≤ n → f (n - j) = bwdV n g u (u (n - j)) j ∧ f (n - (j + 1)) = bwdV n g u (u (n - (j + 1))) (j + 1) := by
  intro j
  induction j with
  | zero =>
    intro hn
    refine ⟨by rw [Nat.sub_zero, f0]; rfl, ?_⟩
    obtain ⟨m, rfl⟩ : ∃ m, n = m + 1 := ⟨n - 1, by omega⟩
    have h := hf m
    have e := h1 m
    unfold bwdV bwdV
    rw [show m + 1 - (0 + 1) = m by omega, Nat.sub_zero, e]
    rw [show m + 2 = m + 1 + 1 from rfl, f0, f1] at h
    omega
  | succ j ih =>
    intro hn
    obtain ⟨e1, e2⟩ := ih (by omega)
    refine ⟨e2, ?_⟩
    obtain ⟨m, rfl⟩ : ∃ m, n = m + (j + 2) := ⟨n - (j + 2), by omega⟩
    have h := hf m
    have hl := bwd_lin (m + (j + 2)) g u (hu m) (j + 1)
    have e3 : bwdV (m + (j + 2)) g u (u m) (j + 2) = bwdV (m + (j + 2)) g u (u m) (j + 1) + g (m + (j + 2) - (j + 1)) * dtV (u m) (u (m + (j + 2) - (j + 1))) := rfl
    have e4 : bwdV (m + (j + 2)) g u (u (m + 2)) (j + 1) = bwdV (m + (j + 2)) g u (u (m + 2)) j + g (m + (j + 2) - j) * dtV (u (m + 2)) (u (m + (j + 2) - j)) := rfl
    rw [show m + (j + 2) - (j + 1) = m + 1 by omega] at e2 e3
    rw [show m + (j + 2) - j = m + 2 by omega] at e1 e4
    rw [dt_same] at e4
    rw [show m + (j + 2) - (j + 1 + 1) = m by omega, show j + 1 + 1 = j + 2 from rfl, e3, h1, hl, e4, ← e1, ← e2]
    omega
theorem fwd_up {g : Nat → Int} {u : Nat → P2} {x : P2} (hg : ∀ i, 0 ≤ g i) : ∀ k, (∀ i, 1 ≤ i → i ≤ k → 0 ≤ dtV (u i) x) → 0 ≤ fwdV g u x k := by
  intro k
  induction k with
  | zero => intro _; exact Int.le_refl _
  | succ k ih =>
    intro h
    have h1 := ih (fun i a b => h i a (by omega))
    have h2 := Int.mul_nonneg (hg (k + 1)) (h (k + 1) (by omega) (by omega))
    unfold fwdV
    omega
theorem bwd_up {n : Nat} {g : Nat → Int} {u : Nat → P2} {x : P2} (hg : ∀ i, 0 ≤ g i) : ∀ k, (∀ i, i < k → 0 ≤ dtV x (u (n - i))) → 0 ≤ bwdV n g u x k := by
  intro k
  induction k with
  | zero => intro _; exact Int.le_refl _
  | succ k ih =>
    intro h
    have h1 := ih (fun i a => h i (by omega))
    have h2 := Int.mul_nonneg (hg (n - k)) (h k (by omega))
    unfold bwdV
    omega
/-- a function that bends upwards at each ray, and is 0 at two of them, is nowhere negative -/
theorem all_up {n : Nat} {g b f : Nat → Int} {u : Nat → P2} (h : SmV n u) (hu : ∀ i, (u i).1 + (u (i + 2)).1 = b (i + 1) * (u (i + 1)).1 ∧ (u i).2 + (u (i + 2)).2 = b (i + 1) * (u (i + 1)).2)
    (hf : ∀ i, f i + f (i + 2) = b (i + 1) * f (i + 1) + g (i + 1)) (hg : ∀ i, 0 ≤ g i) (f0 : f 0 = 0) (f1 : f 1 = 0) (fn : f n = 0) (fn1 : f (n + 1) = 0) {j : Nat} (hj : j < n) : 0 ≤ f j := by
  by_cases h0 : j = 0
  · subst h0; omega
  rcases near_side h.rnd j with hk | hk
  · obtain ⟨i, rfl⟩ : ∃ i, j = i + 1 := ⟨j - 1, by omega⟩
    rw [(fwd_is hu h.one hf f0 f1 i).1]
    exact fwd_up hg i (fun k a b => hk k a (by omega))
  · have e := (bwd_is hu h.one hf fn fn1 (n - j) (by omega)).1
    rw [show n - (n - j) = j by omega] at e
    rw [e]
    exact bwd_up hg (n - j) (fun i a => hk (n - i) (by omega) (by omega))
end Go.Proofs.YtcieihbknfeddaaDoor

/- Surfaces by their numbers: plain mathematics on lists: sums of numbers, determinants of tables, rays that are all different. -/
namespace Go.Proofs.YtcieihbknfeddaaDoor

/-! 3 and the number of each ray -/
def sum3 (l : List V2) (k : Nat) : Int := sumZ (fun i => 3 + numZ l i) k
theorem sum3_succ (l : List V2) (k : Nat) : sum3 l (k + 1) = sum3 l k + (3 + numZ l k) := rfl
theorem sum3_bnd {l : List V2} (h : Smooth l) {k : Nat} (hk : k ≤ 1000) : -2000003000 ≤ sum3 l k ∧ sum3 l k ≤ 2000003000 := by
  have h1 := sumZ_bnd (f := fun i => 3 + numZ l i) (M := 2000003) (fun i => by have := num_bnd h i; constructor <;> omega) k
  unfold sum3
  omega

theorem num_bdE {l : List V2} (h : allVec l) (i : Nat) : -2000000 ≤ numZ l i ∧ numZ l i ≤ 2000000 := by
  unfold numZ detV detZ
  have h1 := szs (h (i + l.length - 1))
  have h2 := szs (h (i + 1))
  have m1 := mul_bd h1.1 h2.2
  have m2 := mul_bd h1.2 h2.1
  omega
/-! a smooth fan goes round once -/
theorem smooth_round {l : List V2} (h : smoothB l = true) : RndV l.length (cyc l) := by
  obtain ⟨hf, hs⟩ := smooth_in h
  have h3 := fan_len hf
  exact (round_of (by omega) (fun i _ => by rw [allS_at hs (by omega)]; decide) (fan_in hf).2.2).rnd
theorem dtV_self (a : V2) : dtV a a = 0 := by unfold dtV; rw [Int.mul_comm]; omega
theorem det_dt (a b : V2) : detV a b = dtV a b := rfl
theorem rnd_ne {n : Nat} {u : Nat → V2} (h : RndV n u) {j t : Nat} (h0 : 0 < t) (ht : t < n) : u j ≠ u (j + t) := by
  intro e
  by_cases h1 : t + 1 < n
  · have a := h.neg j t (t + 1) h0 (by omega) h1 (by rw [← e, dtV_self]; omega)
    have b := h.turn (j + t)
    rw [← e, show j + t + 1 = j + (t + 1) by omega] at b
    omega
  · have b := h.turn (j + t)
    rw [show j + t + 1 = j + n by omega, h.per, ← e, dtV_self] at b
    omega
theorem ray_ne {l : List V2} (h : smoothB l = true) {i j : Nat} (hi : i < l.length) (hj : j < l.length) (hne : i ≠ j) : cyc l i ≠ cyc l j := by
  have r := smooth_round h
  rcases Nat.lt_or_gt_of_ne hne with c | c
  · have := rnd_ne r (j := i) (t := j - i) (by omega) (by omega)
    rwa [show i + (j - i) = j by omega] at this
  · have := rnd_ne r (j := j) (t := i - j) (by omega) (by omega)
    rw [show j + (i - j) = i by omega] at this
    exact fun e => this e.symm

theorem gz_numsE {l : List V2} {i : Nat} (h : i < l.length) : gz (numsZ l) i = numZ l i := gz_tab _ h
/-! the table -/
/-- the product of rays i + 2 and k + 2 -/
def tabZ (l : List V2) (i k : Nat) : Int := if i = k then numZ l (i + 2) else if i + 1 = k ∨ k + 1 = i then 1 else 0
theorem tab_sym (l : List V2) (i k : Nat) : tabZ l i k = tabZ l k i := by
  unfold tabZ
  by_cases h : i = k
  · subst h; rfl
  · rw [if_neg h, if_neg (show ¬ k = i from fun e => h e.symm)]
    by_cases h2 : i + 1 = k ∨ k + 1 = i
    · rw [if_pos h2, if_pos (by omega)]
    · rw [if_neg h2, if_neg (by omega)]
theorem next_ray {l : List V2} (hS : Smooth l) (h0 : 0 < l.length) (i : Nat) : (cyc l i).1 + (cyc l (i + 2)).1 = -(numZ l (i + 1)) * (cyc l (i + 1)).1 ∧ (cyc l i).2 + (cyc l (i + 2)).2 = -(numZ l (i + 1)) * (cyc l (i + 1)).2 := by
  have e : numZ l (i + 1) = -(detV (cyc l i) (cyc l (i + 2))) := by
    unfold numZ
    rw [show cyc l (i + 1 + l.length - 1) = cyc l i from by rw [show i + 1 + l.length - 1 = i + l.length by omega]; exact cyc_add l i]
  rw [e, Int.neg_neg]
  exact three (hS.2 i) (hS.2 (i + 1))
/-- the determinant of the first j rows -/
def dtJ (l : List V2) (j : Nat) : Int := if j % 2 = 0 then detV (cyc l 1) (cyc l (j + 2)) else -(detV (cyc l 1) (cyc l (j + 2)))
def lastJ (l : List V2) : Nat → Int
  | 0 => 0
  | j + 1 => dtJ l j
theorem lastJ_succ (l : List V2) (j : Nat) : lastJ l (j + 1) = dtJ l j := rfl
theorem dtJ_zero {l : List V2} (hS : Smooth l) : dtJ l 0 = 1 := hS.2 1
theorem dtJ_succ {l : List V2} (hS : Smooth l) (h0 : 0 < l.length) (j : Nat) : dtJ l (j + 1) = numZ l (j + 2) * dtJ l j - lastJ l j := by
  have hr := next_ray hS h0 (j + 1)
  rw [show j + 1 + 2 = j + 3 by omega, show j + 1 + 1 = j + 2 by omega] at hr
  generalize ha : numZ l (j + 2) = a at hr ⊢
  have key : detV (cyc l 1) (cyc l (j + 3)) = -a * detV (cyc l 1) (cyc l (j + 2)) - detV (cyc l 1) (cyc l (j + 1)) := by
    unfold detV detZ
    grind
  cases j with
  | zero =>
    have e0 : detV (cyc l 1) (cyc l (0 + 1)) = 0 := by rw [det_dt]; exact dtV_self _
    unfold dtJ lastJ
    rw [show (0 + 1) % 2 = 1 from rfl, if_neg (by decide), if_pos rfl, show 0 + 1 + 2 = 0 + 3 from rfl, key, e0]
    grind
  | succ j =>
    rw [lastJ_succ]
    unfold dtJ
    rw [show j + 1 + 1 + 2 = j + 1 + 3 by omega, key, show j + 1 + 2 = j + 3 by omega, show j + 1 + 1 = j + 2 by omega]
    rcases Nat.mod_two_eq_zero_or_one j with h | h
    · rw [if_pos (by omega), if_neg (by omega), if_pos h]
      generalize detV (cyc l 1) (cyc l (j + 3)) = x
      generalize detV (cyc l 1) (cyc l (j + 2)) = y
      grind
    · rw [if_neg (by omega), if_pos (by omega), if_neg (by omega)]
      generalize detV (cyc l 1) (cyc l (j + 3)) = x
      generalize detV (cyc l 1) (cyc l (j + 2)) = y
      grind
theorem dtJ_bnd {l : List V2} (hS : Smooth l) (j : Nat) : -2000000 ≤ dtJ l j ∧ dtJ l j ≤ 2000000 := by
  have h1 := szs (hS.1 1)
  have h2 := szs (hS.1 (j + 2))
  have m1 := mul_bd h1.1 h2.2
  have m2 := mul_bd h1.2 h2.1
  unfold dtJ detV detZ
  split <;> omega
theorem lastJ_bnd {l : List V2} (hS : Smooth l) (j : Nat) : -2000000 ≤ lastJ l j ∧ lastJ l j ≤ 2000000 := by
  cases j with
  | zero => show (-2000000 : Int) ≤ 0 ∧ (0 : Int) ≤ 2000000; omega
  | succ j => exact dtJ_bnd hS j
theorem dtJ_term {l : List V2} (hS : Smooth l) (i j : Nat) : -4000000000000 ≤ numZ l i * dtJ l j ∧ numZ l i * dtJ l j ≤ 4000000000000 := by
  have := mul_le (num_bnd hS i) (dtJ_bnd hS j)
  omega
/-- all of them -/
theorem dtJ_all {l : List V2} (hS : Smooth l) (h3 : 3 ≤ l.length) : dtJ l (l.length - 2) = if l.length % 2 = 0 then -1 else 1 := by
  have e : detV (cyc l 1) (cyc l (l.length - 2 + 2)) = -1 := by
    rw [show l.length - 2 + 2 = 0 + l.length by omega, cyc_add]
    have := hS.2 0
    rw [show 0 + 1 = 1 from rfl] at this
    unfold detV detZ at *
    rw [Int.mul_comm (cyc l 1).1, Int.mul_comm (cyc l 1).2]
    omega
  unfold dtJ
  rw [e]
  by_cases h : l.length % 2 = 0
  · rw [if_pos (by omega), if_pos h]
  · rw [if_neg (by omega), if_neg h]; rfl

/-! ample -/
def ampN (n : Int) : Bool := decide (-1 ≤ n)
def amp8 (l : List V2) : Bool := smoothB l && (numsZ l).all ampN
theorem can_times (n : Nat) : timesL (canL n) (-1) = List.replicate n 1 := by
  refine gz_ext (by simp [timesL, canL]) (fun j hj => ?_)
  have hj' : j < n := by simpa [timesL, canL] using hj
  unfold timesL
  rw [gz_tab _ (by simpa [canL] using hj'), can_gz hj']
  simp [gz, hj']
theorem ones_gz {n k : Nat} (h : k < n) : gz (List.replicate n (1 : Int)) k = 1 := by simp [gz, h]
theorem ones_deg {l : List V2} {i : Nat} (hi : i < l.length) : degZ l (List.replicate l.length 1) i = 2 + numZ l i := by
  have h0 : 0 < l.length := by omega
  unfold degZ
  rw [ones_gz (Nat.mod_lt _ h0), ones_gz (Nat.mod_lt _ h0), ones_gz hi]
  omega
theorem amp_degs {l : List V2} : ampL (degsZ l (timesL (canL l.length) (-1))) = (numsZ l).all ampN := by
  rw [can_times]
  unfold ampL degsZ numsZ
  rw [List.all_map, List.all_map, Bool.eq_iff_iff, List.all_eq_true, List.all_eq_true]
  constructor
  · intro H i hi
    have hi' := List.mem_range.1 hi
    have := H i hi
    simp only [Function.comp, ones_deg hi', decide_eq_true_eq, ampN] at this ⊢
    omega
  · intro H i hi
    have hi' := List.mem_range.1 hi
    have := H i hi
    simp only [Function.comp, ones_deg hi', decide_eq_true_eq, ampN] at this ⊢
    omega
end Go.Proofs.YtcieihbknfeddaaDoor

/- Divisors: nef and ample ones, the canonical one, Euler numbers, plain ones: the mathematics of the promises. -/
namespace Go.Proofs.YtcieihbknfeddaaDoor
open Go.RowKit

theorem fan_smV {l : List V2} (h : smoothB l = true) : SmV l.length (cyc l) := ⟨smooth_round h, fun i => (smooth_all h).2 i, (smooth_len h).1⟩
theorem twelve_sum {l : List V2} (h : smoothB l = true) : sum3 l l.length = 12 := by
  have hS := smooth_all h
  have h3 := (smooth_len h).1
  have h12 := noether l.length _ ((fan_smV h).shift (l.length - 1))
  have e : ∀ n, sum3 l n = twV n (fun i => cyc l (l.length - 1 + i)) := by
    intro n
    induction n with
    | zero => rfl
    | succ n ih =>
      rw [sum3_succ, ih]
      unfold twV
      rw [sumI_succ]
      unfold numZ detV detZ dtV
      dsimp only
      rw [show n + l.length - 1 = l.length - 1 + n by omega, show l.length - 1 + (n + 2) = n + 1 + l.length by omega, cyc_add]
      omega
  rw [e, h12]
theorem cyc_eq {l : List V2} {i j : Nat} (h : i % l.length = j % l.length) : cyc l i = cyc l j := by rw [← cyc_mod l i, h, cyc_mod]
theorem back_mod {n : Nat} (h0 : 0 < n) (i : Nat) : (i % n + n - 1) % n = (i + n - 1) % n := by
  rw [Nat.add_sub_assoc (by omega), Nat.add_sub_assoc (by omega), Nat.mod_add_mod]
theorem numZ_mod {l : List V2} (h0 : 0 < l.length) (i : Nat) : numZ l (i % l.length) = numZ l i := by
  unfold numZ
  rw [cyc_eq (back_mod h0 i), cyc_eq (show (i % l.length + 1) % l.length = (i + 1) % l.length by rw [Nat.mod_add_mod])]
/-- how far a vector's products are above what they must be -/
def hQ (l : List V2) (d : List Int) (m : V2) (i : Nat) : Int := gz d (i % l.length) + dotQ l m i
theorem dotQ_per (l : List V2) (m : V2) (i : Nat) : dotQ l m (i + l.length) = dotQ l m i := by unfold dotQ; rw [cyc_add]
theorem hQ_per (l : List V2) (d : List Int) (m : V2) (i : Nat) : hQ l d m (i + l.length) = hQ l d m i := by unfold hQ; rw [dotQ_per, Nat.add_mod_right]
theorem hQ_mod (l : List V2) (d : List Int) (m : V2) (i : Nat) : hQ l d m (i % l.length) = hQ l d m i := by unfold hQ; rw [Nat.mod_mod, dotQ_mod]
theorem hQ_rec {l : List V2} (hS : Smooth l) (h0 : 0 < l.length) (d : List Int) (m : V2) (i : Nat) : hQ l d m i + hQ l d m (i + 2) = -(numZ l (i + 1)) * hQ l d m (i + 1) + degZ l d ((i + 1) % l.length) := by
  have h := dotQ_next hS m (i + 1)
  rw [show i + 1 + l.length - 1 = i + l.length by omega, dotQ_per, show i + 1 + 1 = i + 2 by omega] at h
  have e : degZ l d ((i + 1) % l.length) = gz d (i % l.length) + gz d ((i + 1) % l.length) * numZ l (i + 1) + gz d ((i + 2) % l.length) := by
    unfold degZ
    rw [back_mod h0, numZ_mod h0, Nat.mod_add_mod, show i + 1 + l.length - 1 = i + l.length by omega, Nat.add_mod_right]
  rw [e]
  unfold hQ
  grind
theorem turn_to {n : Nat} (h0 : 0 < n) (s i : Nat) : ∃ j, j < n ∧ (s + j) % n = i % n := by
  refine ⟨(i + (n - s % n)) % n, Nat.mod_lt _ h0, ?_⟩
  have h1 := Nat.mod_lt s h0
  have h2 := Nat.div_add_mod s n
  rw [Nat.add_mod_mod, show s + (i + (n - s % n)) = i + n + n * (s / n) by omega, Nat.add_mul_mod_self_left, Nat.add_mod_right]
theorem supp_up {l : List V2} {d : List Int} {m : V2} {s : Nat} (h : smoothB l = true) (hn : ∀ i, i < l.length → 0 ≤ degZ l d i) (h0 : hQ l d m s = 0) (h1 : hQ l d m (s + 1) = 0) (i : Nat) : 0 ≤ hQ l d m i := by
  have hS := smooth_all h
  have hl : 0 < l.length := by have := (smooth_len h).1; omega
  obtain ⟨j, hj, hm⟩ := turn_to hl s i
  have e : hQ l d m i = hQ l d m (s + j) := by rw [← hQ_mod l d m i, ← hm, hQ_mod]
  rw [e]
  exact all_up (n := l.length) (g := fun i => degZ l d ((s + i) % l.length)) (b := fun i => -(numZ l (s + i))) (f := fun i => hQ l d m (s + i)) (u := fun i => cyc l (s + i)) ((fan_smV h).shift s)
    (fun i => next_ray hS hl (s + i)) (fun i => hQ_rec hS hl d m (s + i)) (fun i => hn _ (Nat.mod_lt _ hl)) h0 h1 (by show hQ l d m (s + l.length) = 0; rw [hQ_per]; exact h0)
    (by show hQ l d m (s + (l.length + 1)) = 0; rw [show s + (l.length + 1) = s + 1 + l.length by omega, hQ_per]; exact h1) hj
theorem prod_supp {l : List V2} (hS : Smooth l) (h0 : 0 < l.length) (d : List Int) (m : V2) : prodZ l d d = sumZ (fun i => hQ l d m i * degZ l d i) l.length := by
  have h := deg_cycle (l := l) (d := d) (dotQ l m) h0 (dotQ_mod l m) (dotQ_next hS m)
  have e : sumZ (fun i => hQ l d m i * degZ l d i) l.length = sumZ (fun i => gz d i * degZ l d i + degZ l d i * dotQ l m i) l.length := sumZ_congr (fun i hi => by
    unfold hQ
    rw [Nat.mod_eq_of_lt hi]
    grind)
  rw [e, sumZ_plus, h]
  unfold prodZ dotD
  omega
theorem sumZ_up {f : Nat → Int} {n : Nat} (h : ∀ i, i < n → 0 ≤ f i) : 0 ≤ sumZ f n := by
  induction n with
  | zero => exact Int.le_refl _
  | succ n ih =>
    have h1 := ih (fun i hi => h i (by omega))
    have h2 := h n (by omega)
    rw [sumZ_succ]
    omega
theorem sumZ_ge {f : Nat → Int} {n k : Nat} (h : ∀ i, i < n → 0 ≤ f i) (hk : k < n) : f k ≤ sumZ f n := by
  induction n with
  | zero => omega
  | succ n ih =>
    rw [sumZ_succ]
    by_cases e : k = n
    · subst e
      have := sumZ_up (f := f) (n := k) (fun i hi => h i (by omega))
      omega
    · have h1 := ih (fun i hi => h i (by omega)) (by omega)
      have h2 := h n (by omega)
      omega
def ngQ (m : V2) : V2 := (-m.1, -m.2)
theorem dotQ_ng (l : List V2) (m : V2) (i : Nat) : dotQ l (ngQ m) i = -(dotQ l m i) := by unfold dotQ dotZ ngQ; grind
theorem nef_gz {l : List V2} {d : List Int} (h : nefL (degsZ l d) = true) {i : Nat} (hi : i < l.length) : 0 ≤ degZ l d i := by
  have h1 := List.all_eq_true.1 h (degZ l d i) (by unfold degsZ; exact List.mem_map.2 ⟨i, List.mem_range.2 hi, rfl⟩)
  simpa using h1
theorem nef_mk {l : List V2} {d : List Int} (h : ∀ i, i < l.length → 0 ≤ degZ l d i) : nefL (degsZ l d) = true := by
  refine List.all_eq_true.2 (fun x hx => ?_)
  obtain ⟨i, hi, rfl⟩ := List.mem_map.1 hx
  simpa using h i (List.mem_range.1 hi)
theorem amp_gz {l : List V2} {d : List Int} (h : ampL (degsZ l d) = true) {i : Nat} (hi : i < l.length) : 0 < degZ l d i := by
  have h1 := List.all_eq_true.1 h (degZ l d i) (by unfold degsZ; exact List.mem_map.2 ⟨i, List.mem_range.2 hi, rfl⟩)
  simpa using h1
theorem nefDB_in {l : List V2} {d : List Int} (h : nefDB l d = true) : divB l d = true ∧ ∀ i, i < l.length → 0 ≤ degZ l d i := by
  unfold nefDB at h
  rw [Bool.and_eq_true] at h
  exact ⟨h.1, fun i hi => nef_gz h.2 hi⟩
theorem ampDB_in {l : List V2} {d : List Int} (h : ampDB l d = true) : divB l d = true ∧ ∀ i, i < l.length → 0 < degZ l d i := by
  unfold ampDB at h
  rw [Bool.and_eq_true] at h
  exact ⟨h.1, fun i hi => amp_gz h.2 hi⟩
theorem nefDB_mk {l : List V2} {d : List Int} (hd : divB l d = true) (h : ∀ i, i < l.length → 0 ≤ degZ l d i) : nefDB l d = true := by unfold nefDB; rw [hd, nef_mk h]; rfl
theorem amp_nef {l : List V2} {d : List Int} (h : ampDB l d = true) : nefDB l d = true := nefDB_mk (ampDB_in h).1 (fun i hi => by have := (ampDB_in h).2 i hi; omega)
theorem supp_first {l : List V2} {d : List Int} (h : smoothB l = true) : hQ l d (ngQ (vecZ l d)) 0 = 0 ∧ hQ l d (ngQ (vecZ l d)) (0 + 1) = 0 := by
  have h3 := (smooth_len h).1
  have h2 := vec_dot (smooth_all h) d
  unfold hQ
  rw [dotQ_ng, dotQ_ng, Nat.mod_eq_of_lt (by omega), Nat.mod_eq_of_lt (by omega), show (0 : Nat) + 1 = 1 from rfl, h2.1, h2.2]
  omega
/-- the product of a nef divisor and itself is not negative -/
theorem nef_square {l : List V2} {d : List Int} (h : nefDB l d = true) : 0 ≤ prodZ l d d := by
  obtain ⟨hd, hn⟩ := nefDB_in h
  have hs := (div_in hd).1
  have h3 := (smooth_len hs).1
  rw [prod_supp (smooth_all hs) (by omega) d (ngQ (vecZ l d))]
  exact sumZ_up (fun i hi => Int.mul_nonneg (supp_up hs hn (supp_first hs).1 (supp_first hs).2 i) (hn i hi))
theorem amp_square {l : List V2} {d : List Int} (h : ampDB l d = true) : 0 < prodZ l d d := by
  obtain ⟨hd, hn⟩ := ampDB_in h
  have hs := (div_in hd).1
  have h3 := (smooth_len hs).1
  have hn' : ∀ i, i < l.length → 0 ≤ degZ l d i := fun i hi => by have := hn i hi; omega
  rw [prod_supp (smooth_all hs) (by omega) d (ngQ (vecZ l d))]
  have h2 := sumZ_ge (f := fun i => hQ l d (ngQ (vecZ l d)) i * degZ l d i) (fun i hi => Int.mul_nonneg (supp_up hs hn' (supp_first hs).1 (supp_first hs).2 i) (hn' i hi)) (show 2 < l.length by omega)
  have e := hQ_rec (smooth_all hs) (by omega) d (ngQ (vecZ l d)) 0
  rw [(supp_first hs).1, (supp_first hs).2, Nat.mod_eq_of_lt (by omega : 0 + 1 < l.length)] at e
  have h4 := hn 1 (by omega)
  have h5 := Int.mul_pos (show 0 < hQ l d (ngQ (vecZ l d)) 2 by rw [show (0 : Nat) + 2 = 2 from rfl, show (0 : Nat) + 1 = 1 from rfl] at e; omega) (hn 2 (by omega))
  omega
theorem div_mk {l : List V2} {d : List Int} (h : smoothB l = true) (hl : d.length = l.length) (hb : bnd 100 d) : divB l d = true := by
  unfold divB
  rw [h, hl, cfs_good (fun k _ => by have := hb k; unfold cfB; simpa using this)]
  simp
theorem tim_in {l : List V2} {a : List Int} {n : Int} (h : timDB l a n = true) : divB l a = true ∧ (-100 ≤ n ∧ n ≤ 100) ∧ divB l (timesL a n) = true := by
  unfold timDB at h
  rw [Bool.and_eq_true, Bool.and_eq_true] at h
  exact ⟨h.1, cfB_in h.2.1, h.2.2⟩
theorem addD_in {l : List V2} {a b : List Int} (h : addDB l a b = true) : divB l a = true ∧ divB l b = true ∧ divB l (sumL a 1 b) = true := by
  unfold addDB at h
  rw [Bool.and_eq_true, Bool.and_eq_true] at h
  exact h
theorem div_minus {l : List V2} {d : List Int} (h : divB l d = true) : divB l (timesL d (-1)) = true := by
  refine div_mk (div_in h).1 (by rw [timesL_len]; exact (div_in h).2.1) (fun j => ?_)
  by_cases hj : j < d.length
  · rw [gz_times hj]
    have := div_bnd h j
    omega
  · rw [gz_out (by rw [timesL_len]; omega)]
    omega
theorem tim_minus {l : List V2} {d : List Int} (h : divB l d = true) : timDB l d (-1) = true := by
  unfold timDB
  rw [h, div_minus h]
  rfl
theorem zero_gz (n j : Nat) : gz (List.replicate n (0 : Int)) j = 0 := by
  by_cases h : j < n
  · simp [gz, h]
  · rw [gz_out (by simp; omega)]
theorem div_zero {l : List V2} (h : smoothB l = true) : divB l (List.replicate l.length 0) = true := div_mk h (by simp) (fun j => by rw [zero_gz]; omega)
theorem add_minus {l : List V2} {d : List Int} (h : divB l d = true) : addDB l d (timesL d (-1)) = true := by
  unfold addDB
  rw [h, div_minus h, minus_self, (div_in h).2.1, div_zero (div_in h).1]
  rfl
theorem nef_twice {l : List V2} {d : List Int} (h : nefDB l d = true) (h2 : divB l (timesL d 2) = true) : nefDB l (timesL d 2) = true := by
  obtain ⟨hd, hn⟩ := nefDB_in h
  refine nefDB_mk h2 (fun i hi => ?_)
  rw [deg_times (div_in hd).2.1 hi]
  have := hn i hi
  omega
/-! the canonical divisor -/
theorem can_deg {l : List V2} {i : Nat} (h0 : 0 < l.length) (hi : i < l.length) : degZ l (canL l.length) i = -2 - numZ l i := by
  unfold degZ
  rw [can_gz (Nat.mod_lt _ h0), can_gz (Nat.mod_lt _ h0), can_gz hi]
  omega
theorem sumZ_less (f : Nat → Int) (n : Nat) : sumZ (fun i => f i - 1) n = sumZ f n - n := by
  induction n with
  | zero => rfl
  | succ n ih => rw [sumZ_succ, sumZ_succ, ih]; omega
theorem prod_can {l : List V2} (h : smoothB l = true) : prodZ l (canL l.length) (canL l.length) = 12 - l.length := by
  have h3 := (smooth_len h).1
  have h12 := twelve_sum h
  unfold sum3 at h12
  have e := sumZ_less (fun i => 3 + numZ l i) l.length
  rw [h12] at e
  rw [← e]
  unfold prodZ dotD
  refine sumZ_congr (fun i hi => ?_)
  rw [can_gz hi, can_deg (by omega) hi]
  omega
theorem can_div {l : List V2} (h : smoothB l = true) : divB l (canL l.length) = true := div_mk h (by simp [canL]) (fun j => by have := can_bnd l.length j; omega)
/-! Euler numbers -/
theorem prod_zero (l : List V2) (b : List Int) (n : Nat) : prodZ l (List.replicate n 0) b = 0 := by
  unfold prodZ dotD
  exact sumZ_nil (fun i _ => by rw [zero_gz]; omega)
theorem eul_zero (l : List V2) : eulZ l (List.replicate l.length 0) (-1) = 1 := by
  rw [← eul_is (-1) (by simp), prod_zero]
  rfl
theorem eul_dual {l : List V2} {d : List Int} (h0 : 0 < l.length) (hd : d.length = l.length) : eulZ l (sumL (canL l.length) 1 (timesL d (-1))) (-1) = eulZ l d (-1) := by
  have hc : (canL l.length).length = l.length := by simp [canL]
  have hx : (sumL (canL l.length) 1 (timesL d (-1))).length = l.length := by rw [sumL_len, hc]
  rw [← eul_is (-1) hx, ← eul_is (-1) hd]
  generalize hX : sumL (canL l.length) 1 (timesL d (-1)) = x at *
  have hcm := prod_comm h0 (canL l.length) d
  have px : ∀ y, prodZ l x y = prodZ l (canL l.length) y - prodZ l d y := fun y => by
    rw [← hX, prod_sum hc, prod_times hd]
    omega
  have e1 : prodZ l x (sumL x (-1) (canL l.length)) = prodZ l d d - prodZ l (canL l.length) d := by
    rw [prod_comm h0, prod_sum hx, px x, prod_comm h0 d x, px d]
    omega
  have e2 : prodZ l d (sumL d (-1) (canL l.length)) = prodZ l d d - prodZ l (canL l.length) d := by
    rw [prod_comm h0, prod_sum hd]
    omega
  rw [e1, e2]
theorem eul_genus {l : List V2} {d : List Int} (h0 : 0 < l.length) (hd : d.length = l.length) : eulZ l (timesL d (-1)) (-1) = eulZ l d 1 := by
  have hx : (timesL d (-1)).length = l.length := by rw [timesL_len, hd]
  rw [← eul_is (-1) hx, ← eul_is 1 hd]
  generalize hX : timesL d (-1) = x at *
  have hcm := prod_comm h0 (canL l.length) d
  have px : ∀ y, prodZ l x y = -(prodZ l d y) := fun y => by
    rw [← hX, prod_times hd]
    omega
  have e1 : prodZ l x (sumL x (-1) (canL l.length)) = prodZ l d d + prodZ l (canL l.length) d := by
    rw [prod_comm h0, prod_sum hx, px x, prod_comm h0 d x, px d, prod_comm h0 (canL l.length) x, px, prod_comm h0 d]
    omega
  have e2 : prodZ l d (sumL d 1 (canL l.length)) = prodZ l d d + prodZ l (canL l.length) d := by
    rw [prod_comm h0, prod_sum hd]
    omega
  rw [e1, e2]
/-! plain divisors -/
theorem plain_01 {l : List V2} {d : List Int} (hS : Smooth l) (hd : d.length = l.length) (h2 : 2 ≤ l.length) : gz (plainL l d) 0 = 0 ∧ gz (plainL l d) 1 = 0 := by
  have h := vec_dot hS d
  unfold dotQ at h
  rw [gz_plain hd (by omega), gz_plain hd (by omega), h.1, h.2]
  omega
theorem plain_same {l : List V2} {e : List Int} (hl : e.length = l.length) (h0 : gz e 0 = 0) (h1 : gz e 1 = 0) : plainL l e = e := by
  refine gz_ext (by rw [plain_len]) (fun j hj => ?_)
  rw [plain_len] at hj
  rw [gz_plain hl (by omega)]
  have : vecZ l e = (0, 0) := by unfold vecZ; rw [h0, h1]; simp
  rw [this]
  unfold dotZ
  simp
theorem plain_plain {l : List V2} {d : List Int} (hS : Smooth l) (hd : d.length = l.length) (h2 : 2 ≤ l.length) : plainL l (plainL l d) = plainL l d :=
  plain_same (by rw [plain_len]; exact hd) (plain_01 hS hd h2).1 (plain_01 hS hd h2).2
theorem pln_in {l : List V2} {d : List Int} (h : plnDB l d = true) : divB l d = true ∧ divB l (plainL l d) = true := by
  unfold plnDB at h
  rw [Bool.and_eq_true] at h
  exact h
theorem degs_plain {l : List V2} {d : List Int} (hS : Smooth l) (hd : d.length = l.length) : degsZ l d = degsZ l (plainL l d) := by
  unfold degsZ
  refine List.map_congr_left (fun i hi => ?_)
  have hi := List.mem_range.1 hi
  unfold plainL
  rw [deg_sum hd hi, deg_triv hS _ hi]
  omega
theorem eqv_mk {l : List V2} {a b : List Int} (ha : divB l a = true) (hb : divB l b = true) (h : degsZ l a = degsZ l b) : eqvDB l a b = true := by
  unfold eqvDB
  have h3 := (div_len ha).1
  rw [ha, hb, deg_equiv (div_smooth ha) (by omega) (div_in ha).2.1 h]
  rfl
theorem eqv_in {l : List V2} {a b : List Int} (h : eqvDB l a b = true) : divB l a = true ∧ divB l b = true ∧ degsZ l a = degsZ l b := by
  unfold eqvDB at h
  rw [Bool.and_eq_true, Bool.and_eq_true] at h
  exact ⟨h.1, h.2.1, equiv_deg (div_smooth h.1) (div_in h.1).2.1 h.2.2⟩
theorem pln_mk {l : List V2} {d : List Int} (h : plnDB l d = true) : plnDB l (plainL l d) = true ∧ plainL l (plainL l d) = plainL l d ∧ eqvDB l d (plainL l d) = true := by
  obtain ⟨h1, h2⟩ := pln_in h
  have hS := div_smooth h1
  have hd := (div_in h1).2.1
  have h3 := (div_len h1).1
  have e := plain_plain hS hd (by omega)
  exact ⟨by unfold plnDB; rw [e, h2]; rfl, e, eqv_mk h1 h2 (degs_plain hS hd)⟩
/-! trivial divisors -/
theorem trv_in {l : List V2} {x y : Int} (h : ofDB l x y = true) : smoothB l = true ∧ divB l (trivL l (x, y)) = true := by
  unfold ofDB at h
  rw [Bool.and_eq_true, Bool.and_eq_true] at h
  exact ⟨h.1, h.2.2⟩
theorem degs_triv {l : List V2} (hS : Smooth l) (m : V2) : degsZ l (trivL l m) = List.replicate l.length 0 := by
  refine gz_ext (by simp [degs_len]) (fun j hj => ?_)
  rw [degs_len] at hj
  have e : gz (degsZ l (trivL l m)) j = degZ l (trivL l m) j := gz_tab _ hj
  rw [e, deg_triv hS m hj, zero_gz]
theorem degs_gz {l : List V2} {d : List Int} {i : Nat} (hi : i < l.length) : gz (degsZ l d) i = degZ l d i := gz_tab _ hi
theorem add_flip {l : List V2} {a b : List Int} (h : addDB l a b = true) : addDB l b a = true ∧ sumL b 1 a = sumL a 1 b := by
  obtain ⟨h1, h2, h3⟩ := addD_in h
  have e : sumL b 1 a = sumL a 1 b := (sum_comm ((div_in h1).2.1.trans (div_in h2).2.1.symm)).symm
  exact ⟨by unfold addDB; rw [h1, h2, e, h3]; rfl, e⟩
theorem div_nil {l : List V2} (h : 2 ≤ l.length) : divB l [] = false := by
  unfold divB
  rw [decide_eq_false (show ¬ ([] : List Int).length = l.length by simp only [List.length_nil]; omega)]
  simp
theorem self_bnd {l : List V2} {d e : List Int} (hd : divB l d = true) (he : divB l e = true) : -808000808000 ≤ prodZ l d e ∧ prodZ l d e ≤ 808000808000 :=
  dot_bnd (div_bnd hd) (fun i => by have := deg_bnd (div_smooth hd) (bnd_mono (div_bnd he) (by omega)) i; omega) (div_len hd).2
end Go.Proofs.YtcieihbknfeddaaDoor
