/- Divisors: nef and ample ones, the canonical one, Euler numbers, plain ones: the mathematics of the promises. -/
import Derived.Test.YtohojjoediibhaaDoorNa
import Derived.Test.YtohojjoediibhaaDoorNb
import Derived.Test.YtohojjoediibhaaDoorEa
namespace Go.Proofs.YtohojjoediibhaaDoor
open Go.RowKit

theorem fan_smV {l : List V2} (h : smoothB l = true) : SmV l.length (cyc l) := ⟨smooth_round h, fun i => (smooth_all h).2 i, (smooth_len h).1⟩
theorem twelve_sum {l : List V2} (h : smoothB l = true) : sum3 l l.length = 12 := by
  have hS := smooth_all h
  have h3 := (smooth_len h).1
  have h12 := noether l.length _ ((fan_smV h).shift (l.length - 1))
  have e : ∀ n, sum3 l n = twV n (fun i => cyc l (l.length - 1 + i)) := by
    intro n
    induction n with
    | zero => rfl
    | succ n ih =>
      rw [sum3_succ, ih]
      unfold twV
      rw [sumI_succ]
      unfold numZ detV detZ dtV
      dsimp only
      rw [show n + l.length - 1 = l.length - 1 + n by omega, show l.length - 1 + (n + 2) = n + 1 + l.length by omega, cyc_add]
      omega
  rw [e, h12]
theorem cyc_eq {l : List V2} {i j : Nat} (h : i % l.length = j % l.length) : cyc l i = cyc l j := by rw [← cyc_mod l i, h, cyc_mod]
theorem back_mod {n : Nat} (h0 : 0 < n) (i : Nat) : (i % n + n - 1) % n = (i + n - 1) % n := by
  rw [Nat.add_sub_assoc (by omega), Nat.add_sub_assoc (by omega), Nat.mod_add_mod]
theorem numZ_mod {l : List V2} (h0 : 0 < l.length) (i : Nat) : numZ l (i % l.length) = numZ l i := by
  unfold numZ
  rw [cyc_eq (back_mod h0 i), cyc_eq (show (i % l.length + 1) % l.length = (i + 1) % l.length by rw [Nat.mod_add_mod])]
/-- how far a vector's products are above what they must be -/
def hQ (l : List V2) (d : List Int) (m : V2) (i : Nat) : Int := gz d (i % l.length) + dotQ l m i
theorem dotQ_per (l : List V2) (m : V2) (i : Nat) : dotQ l m (i + l.length) = dotQ l m i := by unfold dotQ; rw [cyc_add]
theorem hQ_per (l : List V2) (d : List Int) (m : V2) (i : Nat) : hQ l d m (i + l.length) = hQ l d m i := by unfold hQ; rw [dotQ_per, Nat.add_mod_right]
theorem hQ_mod (l : List V2) (d : List Int) (m : V2) (i : Nat) : hQ l d m (i % l.length) = hQ l d m i := by unfold hQ; rw [Nat.mod_mod, dotQ_mod]
theorem hQ_rec {l : List V2} (hS : Smooth l) (h0 : 0 < l.length) (d : List Int) (m : V2) (i : Nat) : hQ l d m i + hQ l d m (i + 2) = -(numZ l (i + 1)) * hQ l d m (i + 1) + degZ l d ((i + 1) % l.length) := by
  have h := dotQ_next hS m (i + 1)
  rw [show i + 1 + l.length - 1 = i + l.length by omega, dotQ_per, show i + 1 + 1 = i + 2 by omega] at h
  have e : degZ l d ((i + 1) % l.length) = gz d (i % l.length) + gz d ((i + 1) % l.length) * numZ l (i + 1) + gz d ((i + 2) % l.length) := by
    unfold degZ
    rw [back_mod h0, numZ_mod h0, Nat.mod_add_mod, show i + 1 + l.length - 1 = i + l.length by omega, Nat.add_mod_right]
  rw [e]
  unfold hQ
  grind
theorem turn_to {n : Nat} (h0 : 0 < n) (s i : Nat) : ∃ j, j < n ∧ (s + j) % n = i % n := by
  refine ⟨(i + (n - s % n)) % n, Nat.mod_lt _ h0, ?_⟩
  have h1 := Nat.mod_lt s h0
  have h2 := Nat.div_add_mod s n
  rw [Nat.add_mod_mod, show s + (i + (n - s % n)) = i + n + n * (s / n) by omega, Nat.add_mul_mod_self_left, Nat.add_mod_right]
theorem supp_up {l : List V2} {d : List Int} {m : V2} {s : Nat} (h : smoothB l = true) (hn : ∀ i, i < l.length → 0 ≤ degZ l d i) (h0 : hQ l d m s = 0) (h1 : hQ l d m (s + 1) = 0) (i : Nat) : 0 ≤ hQ l d m i := by
  have hS := smooth_all h
  have hl : 0 < l.length := by have := (smooth_len h).1; omega
  obtain ⟨j, hj, hm⟩ := turn_to hl s i
  have e : hQ l d m i = hQ l d m (s + j) := by rw [← hQ_mod l d m i, ← hm, hQ_mod]
  rw [e]
  exact all_up (n := l.length) (g := fun i => degZ l d ((s + i) % l.length)) (b := fun i => -(numZ l (s + i))) (f := fun i => hQ l d m (s + i)) (u := fun i => cyc l (s + i)) ((fan_smV h).shift s)
    (fun i => next_ray hS hl (s + i)) (fun i => hQ_rec hS hl d m (s + i)) (fun i => hn _ (Nat.mod_lt _ hl)) h0 h1 (by show hQ l d m (s + l.length) = 0; rw [hQ_per]; exact h0)
    (by show hQ l d m (s + (l.length + 1)) = 0; rw [show s + (l.length + 1) = s + 1 + l.length by omega, hQ_per]; exact h1) hj
theorem prod_supp {l : List V2} (hS : Smooth l) (h0 : 0 < l.length) (d : List Int) (m : V2) : prodZ l d d = sumZ (fun i => hQ l d m i * degZ l d i) l.length := by
  have h := deg_cycle (l := l) (d := d) (dotQ l m) h0 (dotQ_mod l m) (dotQ_next hS m)
  have e : sumZ (fun i => hQ l d m i * degZ l d i) l.length = sumZ (fun i => gz d i * degZ l d i + degZ l d i * dotQ l m i) l.length := sumZ_congr (fun i hi => by
    unfold hQ
    rw [Nat.mod_eq_of_lt hi]
    grind)
  rw [e, sumZ_plus, h]
  unfold prodZ dotD
  omega
theorem sumZ_up {f : Nat → Int} {n : Nat} (h : ∀ i, i < n → 0 ≤ f i) : 0 ≤ sumZ f n := by
  induction n with
  | zero => exact Int.le_refl _
  | succ n ih =>
    have h1 := ih (fun i hi => h i (by omega))
    have h2 := h n (by omega)
    rw [sumZ_succ]
    omega
theorem sumZ_ge {f : Nat → Int} {n k : Nat} (h : ∀ i, i < n → 0 ≤ f i) (hk : k < n) : f k ≤ sumZ f n := by
  induction n with
  | zero => omega
  | succ n ih =>
    rw [sumZ_succ]
    by_cases e : k = n
    · subst e
      have := sumZ_up (f := f) (n := k) (fun i hi => h i (by omega))
      omega
    · have h1 := ih (fun i hi => h i (by omega)) (by omega)
      have h2 := h n (by omega)
      omega
def ngQ (m : V2) : V2 := (-m.1, -m.2)
theorem dotQ_ng (l : List V2) (m : V2) (i : Nat) : dotQ l (ngQ m) i = -(dotQ l m i) := by unfold dotQ dotZ ngQ; grind
theorem nef_gz {l : List V2} {d : List Int} (h : nefL (degsZ l d) = true) {i : Nat} (hi : i < l.length) : 0 ≤ degZ l d i := by
  have h1 := List.all_eq_true.1 h (degZ l d i) (by unfold degsZ; exact List.mem_map.2 ⟨i, List.mem_range.2 hi, rfl⟩)
  simpa using h1
theorem nef_mk {l : List V2} {d : List Int} (h : ∀ i, i < l.length → 0 ≤ degZ l d i) : nefL (degsZ l d) = true := by
  refine List.all_eq_true.2 (fun x hx => ?_)
  obtain ⟨i, hi, rfl⟩ := List.mem_map.1 hx
  simpa using h i (List.mem_range.1 hi)
theorem amp_gz {l : List V2} {d : List Int} (h : ampL (degsZ l d) = true) {i : Nat} (hi : i < l.length) : 0 < degZ l d i := by
  have h1 := List.all_eq_true.1 h (degZ l d i) (by unfold degsZ; exact List.mem_map.2 ⟨i, List.mem_range.2 hi, rfl⟩)
  simpa using h1
theorem nefDB_in {l : List V2} {d : List Int} (h : nefDB l d = true) : divB l d = true ∧ ∀ i, i < l.length → 0 ≤ degZ l d i := by
  unfold nefDB at h
  rw [Bool.and_eq_true] at h
  exact ⟨h.1, fun i hi => nef_gz h.2 hi⟩
theorem ampDB_in {l : List V2} {d : List Int} (h : ampDB l d = true) : divB l d = true ∧ ∀ i, i < l.length → 0 < degZ l d i := by
  unfold ampDB at h
  rw [Bool.and_eq_true] at h
  exact ⟨h.1, fun i hi => amp_gz h.2 hi⟩
theorem nefDB_mk {l : List V2} {d : List Int} (hd : divB l d = true) (h : ∀ i, i < l.length → 0 ≤ degZ l d i) : nefDB l d = true := by unfold nefDB; rw [hd, nef_mk h]; rfl
theorem amp_nef {l : List V2} {d : List Int} (h : ampDB l d = true) : nefDB l d = true := nefDB_mk (ampDB_in h).1 (fun i hi => by have := (ampDB_in h).2 i hi; omega)
theorem supp_first {l : List V2} {d : List Int} (h : smoothB l = true) : hQ l d (ngQ (vecZ l d)) 0 = 0 ∧ hQ l d (ngQ (vecZ l d)) (0 + 1) = 0 := by
  have h3 := (smooth_len h).1
  have h2 := vec_dot (smooth_all h) d
  unfold hQ
  rw [dotQ_ng, dotQ_ng, Nat.mod_eq_of_lt (by omega), Nat.mod_eq_of_lt (by omega), show (0 : Nat) + 1 = 1 from rfl, h2.1, h2.2]
  omega
/-- the product of a nef divisor and itself is not negative -/
theorem nef_square {l : List V2} {d : List Int} (h : nefDB l d = true) : 0 ≤ prodZ l d d := by
  obtain ⟨hd, hn⟩ := nefDB_in h
  have hs := (div_in hd).1
  have h3 := (smooth_len hs).1
  rw [prod_supp (smooth_all hs) (by omega) d (ngQ (vecZ l d))]
  exact sumZ_up (fun i hi => Int.mul_nonneg (supp_up hs hn (supp_first hs).1 (supp_first hs).2 i) (hn i hi))
theorem amp_square {l : List V2} {d : List Int} (h : ampDB l d = true) : 0 < prodZ l d d := by
  obtain ⟨hd, hn⟩ := ampDB_in h
  have hs := (div_in hd).1
  have h3 := (smooth_len hs).1
  have hn' : ∀ i, i < l.length → 0 ≤ degZ l d i := fun i hi => by have := hn i hi; omega
  rw [prod_supp (smooth_all hs) (by omega) d (ngQ (vecZ l d))]
  have h2 := sumZ_ge (f := fun i => hQ l d (ngQ (vecZ l d)) i * degZ l d i) (fun i hi => Int.mul_nonneg (supp_up hs hn' (supp_first hs).1 (supp_first hs).2 i) (hn' i hi)) (show 2 < l.length by omega)
  have e := hQ_rec (smooth_all hs) (by omega) d (ngQ (vecZ l d)) 0
  rw [(supp_first hs).1, (supp_first hs).2, Nat.mod_eq_of_lt (by omega : 0 + 1 < l.length)] at e
  have h4 := hn 1 (by omega)
  have h5 := Int.mul_pos (show 0 < hQ l d (ngQ (vecZ l d)) 2 by rw [show (0 : Nat) + 2 = 2 from rfl, show (0 : Nat) + 1 = 1 from rfl] at e; omega) (hn 2 (by omega))
  omega
theorem div_mk {l : List V2} {d : List Int} (h : smoothB l = true) (hl : d.length = l.length) (hb : bnd 100 d) : divB l d = true := by
  unfold divB
  rw [h, hl, cfs_good (fun k _ => by have := hb k; unfold cfB; simpa using this)]
  simp
theorem tim_in {l : List V2} {a : List Int} {n : Int} (h : timDB l a n = true) : divB l a = true ∧ (-100 ≤ n ∧ n ≤ 100) ∧ divB l (timesL a n) = true := by
  unfold timDB at h
  rw [Bool.and_eq_true, Bool.and_eq_true] at h
  exact ⟨h.1, cfB_in h.2.1, h.2.2⟩
theorem addD_in {l : List V2} {a b : List Int} (h : addDB l a b = true) : divB l a = true ∧ divB l b = true ∧ divB l (sumL a 1 b) = true := by
  unfold addDB at h
  rw [Bool.and_eq_true, Bool.and_eq_true] at h
  exact h
theorem div_minus {l : List V2} {d : List Int} (h : divB l d = true) : divB l (timesL d (-1)) = true := by
  refine div_mk (div_in h).1 (by rw [timesL_len]; exact (div_in h).2.1) (fun j => ?_)
  by_cases hj : j < d.length
  · rw [gz_times hj]
    have := div_bnd h j
    omega
  · rw [gz_out (by rw [timesL_len]; omega)]
    omega
theorem tim_minus {l : List V2} {d : List Int} (h : divB l d = true) : timDB l d (-1) = true := by
  unfold timDB
  rw [h, div_minus h]
  rfl
theorem zero_gz (n j : Nat) : gz (List.replicate n (0 : Int)) j = 0 := by
  by_cases h : j < n
  · simp [gz, h]
  · rw [gz_out (by simp; omega)]
theorem div_zero {l : List V2} (h : smoothB l = true) : divB l (List.replicate l.length 0) = true := div_mk h (by simp) (fun j => by rw [zero_gz]; omega)
theorem add_minus {l : List V2} {d : List Int} (h : divB l d = true) : addDB l d (timesL d (-1)) = true := by
  unfold addDB
  rw [h, div_minus h, minus_self, (div_in h).2.1, div_zero (div_in h).1]
  rfl
theorem nef_twice {l : List V2} {d : List Int} (h : nefDB l d = true) (h2 : divB l (timesL d 2) = true) : nefDB l (timesL d 2) = true := by
  obtain ⟨hd, hn⟩ := nefDB_in h
  refine nefDB_mk h2 (fun i hi => ?_)
  rw [deg_times (div_in hd).2.1 hi]
  have := hn i hi
  omega
/-! the canonical divisor -/
theorem can_deg {l : List V2} {i : Nat} (h0 : 0 < l.length) (hi : i < l.length) : degZ l (canL l.length) i = -2 - numZ l i := by
  unfold degZ
  rw [can_gz (Nat.mod_lt _ h0), can_gz (Nat.mod_lt _ h0), can_gz hi]
  omega
theorem sumZ_less (f : Nat → Int) (n : Nat) : sumZ (fun i => f i - 1) n = sumZ f n - n := by
  induction n with
  | zero => rfl
  | succ n ih => rw [sumZ_succ, sumZ_succ, ih]; omega
theorem prod_can {l : List V2} (h : smoothB l = true) : prodZ l (canL l.length) (canL l.length) = 12 - l.length := by
  have h3 := (smooth_len h).1
  have h12 := twelve_sum h
  unfold sum3 at h12
  have e := sumZ_less (fun i => 3 + numZ l i) l.length
  rw [h12] at e
  rw [← e]
  unfold prodZ dotD
  refine sumZ_congr (fun i hi => ?_)
  rw [can_gz hi, can_deg (by omega) hi]
  omega
theorem can_div {l : List V2} (h : smoothB l = true) : divB l (canL l.length) = true := div_mk h (by simp [canL]) (fun j => by have := can_bnd l.length j; omega)
/-! Euler numbers -/
theorem prod_zero (l : List V2) (b : List Int) (n : Nat) : prodZ l (List.replicate n 0) b = 0 := by
  unfold prodZ dotD
  exact sumZ_nil (fun i _ => by rw [zero_gz]; omega)
theorem eul_zero (l : List V2) : eulZ l (List.replicate l.length 0) (-1) = 1 := by
  rw [← eul_is (-1) (by simp), prod_zero]
  rfl
theorem eul_dual {l : List V2} {d : List Int} (h0 : 0 < l.length) (hd : d.length = l.length) : eulZ l (sumL (canL l.length) 1 (timesL d (-1))) (-1) = eulZ l d (-1) := by
  have hc : (canL l.length).length = l.length := by simp [canL]
  have hx : (sumL (canL l.length) 1 (timesL d (-1))).length = l.length := by rw [sumL_len, hc]
  rw [← eul_is (-1) hx, ← eul_is (-1) hd]
  generalize hX : sumL (canL l.length) 1 (timesL d (-1)) = x at *
  have hcm := prod_comm h0 (canL l.length) d
  have px : ∀ y, prodZ l x y = prodZ l (canL l.length) y - prodZ l d y := fun y => by
    rw [← hX, prod_sum hc, prod_times hd]
    omega
  have e1 : prodZ l x (sumL x (-1) (canL l.length)) = prodZ l d d - prodZ l (canL l.length) d := by
    rw [prod_comm h0, prod_sum hx, px x, prod_comm h0 d x, px d]
    omega
  have e2 : prodZ l d (sumL d (-1) (canL l.length)) = prodZ l d d - prodZ l (canL l.length) d := by
    rw [prod_comm h0, prod_sum hd]
    omega
  rw [e1, e2]
theorem eul_genus {l : List V2} {d : List Int} (h0 : 0 < l.length) (hd : d.length = l.length) : eulZ l (timesL d (-1)) (-1) = eulZ l d 1 := by
  have hx : (timesL d (-1)).length = l.length := by rw [timesL_len, hd]
  rw [← eul_is (-1) hx, ← eul_is 1 hd]
  generalize hX : timesL d (-1) = x at *
  have hcm := prod_comm h0 (canL l.length) d
  have px : ∀ y, prodZ l x y = -(prodZ l d y) := fun y => by
    rw [← hX, prod_times hd]
    omega
  have e1 : prodZ l x (sumL x (-1) (canL l.length)) = prodZ l d d + prodZ l (canL l.length) d := by
    rw [prod_comm h0, prod_sum hx, px x, prod_comm h0 d x, px d, prod_comm h0 (canL l.length) x, px, prod_comm h0 d]
    omega
  have e2 : prodZ l d (sumL d 1 (canL l.length)) = prodZ l d d + prodZ l (canL l.length) d := by
    rw [prod_comm h0, prod_sum hd]
    omega
  rw [e1, e2]
/-! plain divisors -/
theorem plain_01 {l : List V2} {d : List Int} (hS : Smooth l) (hd : d.length = l.length) (h2 : 2 ≤ l.length) : gz (plainL l d) 0 = 0 ∧ gz (plainL l d) 1 = 0 := by
  have h := vec_dot hS d
  unfold dotQ at h
  rw [gz_plain hd (by omega), gz_plain hd (by omega), h.1, h.2]
  omega
theorem plain_same {l : List V2} {e : List Int} (hl : e.length = l.length) (h0 : gz e 0 = 0) (h1 : gz e 1 = 0) : plainL l e = e := by
  refine gz_ext (by rw [plain_len]) (fun j hj => ?_)
  rw [plain_len] at hj
  rw [gz_plain hl (by omega)]
  have : vecZ l e = (0, 0) := by unfold vecZ; rw [h0, h1]; simp
  rw [this]
  unfold dotZ
  simp
theorem plain_plain {l : List V2} {d : List Int} (hS : Smooth l) (hd : d.length = l.length) (h2 : 2 ≤ l.length) : plainL l (plainL l d) = plainL l d :=
  plain_same (by rw [plain_len]; exact hd) (plain_01 hS hd h2).1 (plain_01 hS hd h2).2
theorem pln_in {l : List V2} {d : List Int} (h : plnDB l d = true) : divB l d = true ∧ divB l (plainL l d) = true := by
  unfold plnDB at h
  rw [Bool.and_eq_true] at h
  exact h
theorem degs_plain {l : List V2} {d : List Int} (hS : Smooth l) (hd : d.length = l.length) : degsZ l d = degsZ l (plainL l d) := by
  unfold degsZ
  refine List.map_congr_left (fun i hi => ?_)
  have hi := List.mem_range.1 hi
  unfold plainL
  rw [deg_sum hd hi, deg_triv hS _ hi]
  omega
theorem eqv_mk {l : List V2} {a b : List Int} (ha : divB l a = true) (hb : divB l b = true) (h : degsZ l a = degsZ l b) : eqvDB l a b = true := by
  unfold eqvDB
  have h3 := (div_len ha).1
  rw [ha, hb, deg_equiv (div_smooth ha) (by omega) (div_in ha).2.1 h]
  rfl
theorem eqv_in {l : List V2} {a b : List Int} (h : eqvDB l a b = true) : divB l a = true ∧ divB l b = true ∧ degsZ l a = degsZ l b := by
  unfold eqvDB at h
  rw [Bool.and_eq_true, Bool.and_eq_true] at h
  exact ⟨h.1, h.2.1, equiv_deg (div_smooth h.1) (div_in h.1).2.1 h.2.2⟩
theorem pln_mk {l : List V2} {d : List Int} (h : plnDB l d = true) : plnDB l (plainL l d) = true ∧ plainL l (plainL l d) = plainL l d ∧ eqvDB l d (plainL l d) = true := by
  obtain ⟨h1, h2⟩ := pln_in h
  have hS := div_smooth h1
  have hd := (div_in h1).2.1
  have h3 := (div_len h1).1
  have e := plain_plain hS hd (by omega)
  exact ⟨by unfold plnDB; rw [e, h2]; rfl, e, eqv_mk h1 h2 (degs_plain hS hd)⟩
/-! trivial divisors -/
theorem trv_in {l : List V2} {x y : Int} (h : ofDB l x y = true) : smoothB l = true ∧ divB l (trivL l (x, y)) = true := by
  unfold ofDB at h
  rw [Bool.and_eq_true, Bool.and_eq_true] at h
  exact ⟨h.1, h.2.2⟩
theorem degs_triv {l : List V2} (hS : Smooth l) (m : V2) : degsZ l (trivL l m) = List.replicate l.length 0 := by
  refine gz_ext (by simp [degs_len]) (fun j hj => ?_)
  rw [degs_len] at hj
  have e : gz (degsZ l (trivL l m)) j = degZ l (trivL l m) j := gz_tab _ hj
  rw [e, deg_triv hS m hj, zero_gz]
theorem degs_gz {l : List V2} {d : List Int} {i : Nat} (hi : i < l.length) : gz (degsZ l d) i = degZ l d i := gz_tab _ hi
theorem add_flip {l : List V2} {a b : List Int} (h : addDB l a b = true) : addDB l b a = true ∧ sumL b 1 a = sumL a 1 b := by
  obtain ⟨h1, h2, h3⟩ := addD_in h
  have e : sumL b 1 a = sumL a 1 b := (sum_comm ((div_in h1).2.1.trans (div_in h2).2.1.symm)).symm
  exact ⟨by unfold addDB; rw [h1, h2, e, h3]; rfl, e⟩
theorem div_nil {l : List V2} (h : 2 ≤ l.length) : divB l [] = false := by
  unfold divB
  rw [decide_eq_false (show ¬ ([] : List Int).length = l.length by simp only [List.length_nil]; omega)]
  simp
theorem self_bnd {l : List V2} {d e : List Int} (hd : divB l d = true) (he : divB l e = true) : -808000808000 ≤ prodZ l d e ∧ prodZ l d e ≤ 808000808000 :=
  dot_bnd (div_bnd hd) (fun i => by have := deg_bnd (div_smooth hd) (bnd_mono (div_bnd he) (by omega)) i; omega) (div_len hd).2
end Go.Proofs.YtohojjoediibhaaDoor
