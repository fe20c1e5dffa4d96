import Derived.Test.YtcieihbknfeddabDoorB6
import Derived.Test.YtcieihbknfeddabDoorB8
import Derived.Test.YtcieihbknfeddabDoorB3
import Derived.Deep.QuietTactic
import Derived.BigQuiet
import Derived.Test.YtcieihbknfeddabDoorB9
import Derived.Test.YtcieihbknfeddabDoorB7
import Derived.BigRegion
/- Divisors: the mathematics. -/
namespace Go.Proofs.YtcieihbknfeddabDoor
open Go.RowKit

theorem mul_le {a b A B : Int} (ha : -A ≤ a ∧ a ≤ A) (hb : -B ≤ b ∧ b ≤ B) : -(A * B) ≤ a * b ∧ a * b ≤ A * B := by
  have h : (a * b).natAbs ≤ (A * B).natAbs := by
    rw [Int.natAbs_mul, Int.natAbs_mul]
    exact Nat.mul_le_mul (by omega) (by omega)
  have h2 : 0 ≤ A * B := Int.mul_nonneg (by omega) (by omega)
  omega

/-! lists of numbers -/
def gz (d : List Int) (j : Nat) : Int := d[j]?.getD 0
theorem gz_out {d : List Int} {j : Nat} (h : d.length ≤ j) : gz d j = 0 := by simp [gz, h]
theorem gz_mem {d : List Int} {j : Nat} (h : j < d.length) : gz d j ∈ d := by
  unfold gz
  rw [List.getElem?_eq_getElem h]
  exact List.getElem_mem _
theorem gz_tab {n k : Nat} (f : Nat → Int) (h : k < n) : gz ((List.range n).map f) k = f k := by simp [gz, h]
theorem tab_snoc (f : Nat → Int) (k : Nat) : (List.range (k + 1)).map f = (List.range k).map f ++ [f k] := by simp [List.range_succ]
theorem tab_len (f : Nat → Int) (n : Nat) : ((List.range n).map f).length = n := by simp
theorem gz_ext {a b : List Int} (hl : a.length = b.length) (h : ∀ j, j < a.length → gz a j = gz b j) : a = b := by
  refine List.ext_getElem hl (fun i h1 h2 => ?_)
  have := h i h1
  unfold gz at this
  rwa [List.getElem?_eq_getElem h1, List.getElem?_eq_getElem h2] at this
theorem tab_gz (d : List Int) : (List.range d.length).map (gz d) = d := by
  refine gz_ext (by simp) (fun j hj => ?_)
  rw [tab_len] at hj
  rw [gz_tab _ hj]
/-- all numbers are at most M in size -/
def bnd (M : Int) (d : List Int) : Prop := ∀ j, -M ≤ gz d j ∧ gz d j ≤ M

/-! coefficients -/
def cfB (n : Int) : Bool := decide (-100 ≤ n) && decide (n ≤ 100)
theorem cfB_in {n : Int} (h : cfB n = true) : -100 ≤ n ∧ n ≤ 100 := by simpa [cfB] using h
theorem cfB_out {n : Int} (h : cfB n = false) : n < -100 ∨ 100 < n := by
  simp [cfB] at h
  omega
def cfsB (d : List Int) : Bool := d.all cfB
theorem cfs_bad {d : List Int} {k : Nat} (hk : k < d.length) (h : cfB (gz d k) = false) : cfsB d = false := by
  unfold cfsB
  rw [List.all_eq_false]
  exact ⟨_, gz_mem hk, by rw [h]; decide⟩
theorem cfs_good {d : List Int} (h : ∀ k, k < d.length → cfB (gz d k) = true) : cfsB d = true := by
  unfold cfsB
  rw [List.all_eq_true]
  intro x hx
  obtain ⟨i, hi, rfl⟩ := List.mem_iff_getElem.1 hx
  have := h i hi
  unfold gz at this
  rwa [List.getElem?_eq_getElem hi] at this
theorem cfs_bnd {d : List Int} (h : cfsB d = true) : bnd 100 d := by
  intro j
  by_cases hj : j < d.length
  · exact cfB_in (List.all_eq_true.1 h _ (gz_mem hj))
  · rw [gz_out (by omega)]
    omega
theorem bnd_mono {M M' : Int} {d : List Int} (h : bnd M d) (hM : M ≤ M') : bnd M' d := fun j => by have := h j; omega
def divB (l : List V2) (d : List Int) : Bool := smoothB l && (decide (d.length = l.length) && cfsB d)
theorem div_in {l : List V2} {d : List Int} (h : divB l d = true) : smoothB l = true ∧ d.length = l.length ∧ cfsB d = true := by simpa [divB] using h
theorem div_bnd {l : List V2} {d : List Int} (h : divB l d = true) : bnd 100 d := cfs_bnd (div_in h).2.2
theorem smooth_len {l : List V2} (h : smoothB l = true) : 3 ≤ l.length ∧ l.length ≤ 20 := fan_len (smooth_in h).1
theorem num_bnd {l : List V2} (h : Smooth l) (i : Nat) : -2000000 ≤ numZ l i ∧ numZ l i ≤ 2000000 := by
  unfold numZ detV detZ
  have h1 := szs (h.1 (i + l.length - 1))
  have h2 := szs (h.1 (i + 1))
  have m1 := mul_bd h1.1 h2.2
  have m2 := mul_bd h1.2 h2.1
  omega

/-! sums, multiples -/
def sumL (a : List Int) (n : Int) (b : List Int) : List Int := (List.range a.length).map (fun i => gz a i + n * gz b i)
theorem sumL_len (a : List Int) (n : Int) (b : List Int) : (sumL a n b).length = a.length := by simp [sumL]
theorem gz_sumL {a b : List Int} {n : Int} {k : Nat} (h : k < a.length) : gz (sumL a n b) k = gz a k + n * gz b k := gz_tab _ h
def timesL (a : List Int) (n : Int) : List Int := (List.range a.length).map (fun i => gz a i * n)
theorem timesL_len (a : List Int) (n : Int) : (timesL a n).length = a.length := by simp [timesL]
theorem gz_timesL {a : List Int} {n : Int} {k : Nat} (h : k < a.length) : gz (timesL a n) k = gz a k * n := gz_tab _ h
theorem times_is (a : List Int) (n : Int) : sumL (List.replicate a.length 0) n a = timesL a n := by
  unfold sumL timesL
  rw [List.length_replicate]
  refine List.map_congr_left (fun i hi => ?_)
  have hi := List.mem_range.1 hi
  simp [gz, hi, Int.mul_comm]
theorem minus_is {a b : List Int} (h : a.length = b.length) : sumL a 1 (timesL b (-1)) = sumL a (-1) b := by
  unfold sumL
  refine List.map_congr_left (fun i hi => ?_)
  have hi := List.mem_range.1 hi
  rw [gz_timesL (by omega)]
  omega
theorem sumL_bnd {a b : List Int} {n A B C : Int} (ha : bnd A a) (hb : ∀ j, -B ≤ n * gz b j ∧ n * gz b j ≤ B) (hC : A + B ≤ C) (hC0 : 0 ≤ C) : bnd C (sumL a n b) := by
  intro j
  by_cases hj : j < a.length
  · rw [gz_sumL hj]
    have := ha j
    have := hb j
    omega
  · rw [gz_out (by rw [sumL_len]; omega)]
    omega

/-! degrees, products -/
def degZ (l : List V2) (d : List Int) (i : Nat) : Int := gz d ((i + l.length - 1) % l.length) + gz d i * numZ l i + gz d ((i + 1) % l.length)
def degsZ (l : List V2) (d : List Int) : List Int := (List.range l.length).map (degZ l d)
theorem degs_len (l : List V2) (d : List Int) : (degsZ l d).length = l.length := by simp [degsZ]
theorem deg_bnd {l : List V2} {d : List Int} (hS : Smooth l) (hd : bnd 101 d) (i : Nat) : -202000202 ≤ degZ l d i ∧ degZ l d i ≤ 202000202 := by
  unfold degZ
  have h1 := hd ((i + l.length - 1) % l.length)
  have h2 := hd ((i + 1) % l.length)
  have h3 := mul_le (hd i) (num_bnd hS i)
  omega
theorem deg_mul_bnd {l : List V2} {d : List Int} (hS : Smooth l) (hd : bnd 101 d) (i : Nat) : -202000000 ≤ gz d i * numZ l i ∧ gz d i * numZ l i ≤ 202000000 := by
  have h3 := mul_le (hd i) (num_bnd hS i)
  omega
theorem deg_sum {l : List V2} {a b : List Int} {n : Int} {i : Nat} (ha : a.length = l.length) (hi : i < l.length) : degZ l (sumL a n b) i = degZ l a i + n * degZ l b i := by
  have h0 : 0 < l.length := by omega
  unfold degZ
  have p1 : (i + l.length - 1) % l.length < a.length := by rw [ha]; exact Nat.mod_lt _ h0
  have p2 : (i + 1) % l.length < a.length := by rw [ha]; exact Nat.mod_lt _ h0
  rw [gz_sumL (b := b) (n := n) p1, gz_sumL (b := b) (n := n) p2, gz_sumL (b := b) (n := n) (show i < a.length by omega), Int.add_mul, Int.mul_assoc, Int.mul_add, Int.mul_add]
  omega
def sumZ (f : Nat → Int) : Nat → Int
  | 0 => 0
  | k + 1 => sumZ f k + f k
theorem sumZ_congr {f g : Nat → Int} {n : Nat} (h : ∀ i, i < n → f i = g i) : sumZ f n = sumZ g n := by
  induction n with
  | zero => rfl
  | succ n ih =>
    unfold sumZ
    rw [ih (fun i hi => h i (by omega)), h n (by omega)]
theorem sumZ_bnd {f : Nat → Int} {M : Int} (h : ∀ i, -M ≤ f i ∧ f i ≤ M) (k : Nat) : -((k : Int) * M) ≤ sumZ f k ∧ sumZ f k ≤ (k : Int) * M := by
  induction k with
  | zero => simp [sumZ]
  | succ k ih =>
    have := h k
    unfold sumZ
    rw [show ((k + 1 : Nat) : Int) * M = (k : Int) * M + M by rw [Int.natCast_add, Int.add_mul]; simp]
    omega
theorem sumZ_20 {f : Nat → Int} (h : ∀ i, -40400040400 ≤ f i ∧ f i ≤ 40400040400) {k : Nat} (hk : k ≤ 20) : -808000808000 ≤ sumZ f k ∧ sumZ f k ≤ 808000808000 := by
  have h1 := sumZ_bnd h k
  omega
/-- the product of coefficients with a function of the rays -/
def dotD (d : List Int) (q : Nat → Int) (n : Nat) : Int := sumZ (fun i => gz d i * q i) n
def prodZ (l : List V2) (a b : List Int) : Int := dotD a (degZ l b) l.length
theorem dot_term {d : List Int} {q : Nat → Int} (hd : bnd 100 d) (hq : ∀ i, -404000404 ≤ q i ∧ q i ≤ 404000404) (i : Nat) : -40400040400 ≤ gz d i * q i ∧ gz d i * q i ≤ 40400040400 := by
  have := mul_le (hd i) (hq i)
  omega
theorem dot_bnd {d : List Int} {q : Nat → Int} (hd : bnd 100 d) (hq : ∀ i, -404000404 ≤ q i ∧ q i ≤ 404000404) {k : Nat} (hk : k ≤ 20) : -808000808000 ≤ dotD d q k ∧ dotD d q k ≤ 808000808000 :=
  sumZ_20 (dot_term hd hq) hk
theorem dot_succ (d : List Int) (q : Nat → Int) (k : Nat) : dotD d q (k + 1) = dotD d q k + gz d k * q k := rfl
theorem dot_congr {d : List Int} {q r : Nat → Int} {n : Nat} (h : ∀ i, i < n → q i = r i) : dotD d q n = dotD d r n := sumZ_congr (fun i hi => by rw [h i hi])
def canL (n : Nat) : List Int := List.replicate n (-1)
theorem can_gz {n k : Nat} (h : k < n) : gz (canL n) k = -1 := by simp [gz, canL, h]
theorem can_bnd (n : Nat) : bnd 1 (canL n) := by
  intro j
  by_cases hj : j < n
  · rw [can_gz hj]; omega
  · rw [gz_out (by simp [canL]; omega)]; omega
/-- 1 and half of the product with the sum of the divisor and a multiple of the canonical one -/
def eulZ (l : List V2) (d : List Int) (s : Int) : Int := 1 + (dotD d (fun i => degZ l d i + s * degZ l (canL l.length) i) l.length).tdiv 2
theorem eul_is {l : List V2} {d : List Int} (s : Int) (hd : d.length = l.length) : 1 + (prodZ l d (sumL d s (canL l.length))).tdiv 2 = eulZ l d s := by
  unfold eulZ prodZ
  rw [dot_congr (fun i hi => deg_sum hd hi)]

/-! divisors of vectors -/
def trivL (l : List V2) (m : V2) : List Int := (List.range l.length).map (fun i => dotZ m.1 m.2 (cyc l i).1 (cyc l i).2)
theorem trivL_len (l : List V2) (m : V2) : (trivL l m).length = l.length := by simp [trivL]
theorem gz_trivL {l : List V2} {m : V2} {k : Nat} (h : k < l.length) : gz (trivL l m) k = dotZ m.1 m.2 (cyc l k).1 (cyc l k).2 := gz_tab _ h
theorem dot_flip (a b c d : Int) : dotZ a b c d = dotZ c d a b := by unfold dotZ; rw [Int.mul_comm a, Int.mul_comm b]
/-- the vector whose products with the first two rays are the first two numbers -/
def vecZ (l : List V2) (d : List Int) : V2 := (gz d 0 * (cyc l 1).2 - gz d 1 * (cyc l 0).2, gz d 1 * (cyc l 0).1 - gz d 0 * (cyc l 1).1)
theorem vec_bnd {l : List V2} {d : List Int} (hv : allVec l) (hd : bnd 200 d) : (-400000 ≤ (vecZ l d).1 ∧ (vecZ l d).1 ≤ 400000) ∧ -400000 ≤ (vecZ l d).2 ∧ (vecZ l d).2 ≤ 400000 := by
  unfold vecZ
  have h0 := szs (hv 0)
  have h1 := szs (hv 1)
  have m1 := mul_le (hd 0) h1.2
  have m2 := mul_le (hd 1) h0.2
  have m3 := mul_le (hd 1) h0.1
  have m4 := mul_le (hd 0) h1.1
  dsimp only
  omega
theorem dot_big {a b c d : Int} (h1 : (-400000 ≤ a ∧ a ≤ 400000) ∧ -400000 ≤ b ∧ b ≤ 400000) (h2 : vecB c d = true) : (-400000000 ≤ a * c ∧ a * c ≤ 400000000) ∧ -400000000 ≤ b * d ∧ b * d ≤ 400000000 := by
  obtain ⟨h3, h4⟩ := szs h2
  have m1 := mul_le h1.1 h3
  have m2 := mul_le h1.2 h4
  omega
theorem triv_bnd {l : List V2} {m : V2} (hv : allVec l) (h : (-400000 ≤ m.1 ∧ m.1 ≤ 400000) ∧ -400000 ≤ m.2 ∧ m.2 ≤ 400000) : bnd 800000000 (trivL l m) := by
  intro j
  by_cases hj : j < l.length
  · rw [gz_trivL hj]
    have := dot_big h (hv j)
    unfold dotZ
    omega
  · rw [gz_out (by rw [trivL_len]; omega)]
    omega
def plainL (l : List V2) (d : List Int) : List Int := sumL d (-1) (trivL l (vecZ l d))
theorem plain_len (l : List V2) (d : List Int) : (plainL l d).length = d.length := sumL_len _ _ _
theorem gz_plain {l : List V2} {d : List Int} {k : Nat} (hd : d.length = l.length) (h : k < l.length) : gz (plainL l d) k = gz d k - dotZ (vecZ l d).1 (vecZ l d).2 (cyc l k).1 (cyc l k).2 := by
  unfold plainL
  rw [gz_sumL (by omega), gz_trivL h]
  omega
/-- the numbers of two functions are the same below n -/
def sameB (n : Nat) (X Y : Nat → Int) : Bool := (List.range n).all (fun j => X j == Y j)
theorem same_true {n : Nat} {X Y : Nat → Int} (h : ∀ j, j < n → X j = Y j) : sameB n X Y = true := List.all_eq_true.2 (fun j hj => by simpa using h j (List.mem_range.1 hj))
theorem same_false {n k : Nat} {X Y : Nat → Int} (hk : k < n) (h : X k ≠ Y k) : sameB n X Y = false := by
  unfold sameB
  rw [List.all_eq_false]
  exact ⟨k, List.mem_range.2 hk, by simpa using h⟩
theorem same_iff {n : Nat} {X Y X' Y' : Nat → Int} (h : ∀ j, j < n → (X j = Y j ↔ X' j = Y' j)) : sameB n X Y = sameB n X' Y' := by
  rw [Bool.eq_iff_iff]
  unfold sameB
  rw [List.all_eq_true, List.all_eq_true]
  constructor
  · intro H j hj
    have := H j hj
    simp only [beq_iff_eq] at this ⊢
    exact (h j (List.mem_range.1 hj)).1 this
  · intro H j hj
    have := H j hj
    simp only [beq_iff_eq] at this ⊢
    exact (h j (List.mem_range.1 hj)).2 this
def trivB (l : List V2) (d : List Int) : Bool := sameB l.length (gz d) (gz (trivL l (vecZ l d)))
theorem equiv_is {l : List V2} {a b : List Int} (h2 : 2 ≤ l.length) (ha : a.length = l.length) (hb : b.length = l.length) : sameB l.length (gz (plainL l a)) (gz (plainL l b)) = trivB l (sumL a (-1) b) := by
  unfold trivB
  refine same_iff (fun j hj => ?_)
  rw [gz_plain ha hj, gz_plain hb hj, gz_sumL (by omega), gz_trivL hj]
  have e0 : gz (sumL a (-1) b) 0 = gz a 0 + -1 * gz b 0 := gz_sumL (by omega)
  have e1 : gz (sumL a (-1) b) 1 = gz a 1 + -1 * gz b 1 := gz_sumL (by omega)
  unfold vecZ dotZ
  dsimp only
  rw [e0, e1]
  constructor <;> intro h <;> grind
end Go.Proofs.YtcieihbknfeddabDoor

/- Divisors: coefficients checked; the program. -/
namespace Go.Proofs.YtcieihbknfeddabDoor
open Go.RowKit

theorem ReadsInts.open {w : World} {v : Value} {d : List Int} (h : ReadsInts w v d) (h0 : 0 < d.length) : ∃ bb off c, v = .slice (some ⟨bb, off, none⟩) d.length c ∧ d.length ≤ 1152921504606846976 ∧ bb < w.heap.size ∧
    ∀ wr, Below w.heap.size w wr → ∀ j, j < d.length → wr.cell? ⟨bb, off + j, none⟩ = some (.int .i64 (gz d j)) := by
  obtain ⟨a, c, rfl, hm, hcell⟩ := h
  obtain ⟨bb, off, rfl, hb, hcs⟩ := hcell h0
  exact ⟨bb, off, c, rfl, hm, hb, fun wr hw j hj => (hw.cell (p := ⟨bb, off + j, none⟩) hb).trans (hcs j hj)⟩
theorem ReadsInts.len {w : World} {v : Value} {d : List Int} (h : ReadsInts w v d) : ∃ a c, v = .slice a d.length c ∧ d.length ≤ 1152921504606846976 := by
  obtain ⟨a, c, rfl, hm, _⟩ := h
  exact ⟨a, c, rfl, hm⟩

set_option maxHeartbeats 400000 in
theorem inCoef_any (n : Int) (w : World) :
    Calls Tryd.prog 69 #[.int .i64 n] w fun e w' => e = .returned (.bool (cfB n)) ∧ w' = w := by
  unfold cfB
  go_enter Tryd.func69, Tryd.ntmps69
  go_wp2
  all_goals go_returns
  all_goals (refine ⟨ret_bool ?_, rfl⟩; rw [Bool.eq_iff_iff]; simp; try omega)
set_option maxHeartbeats 4000000 in
theorem everyCoef_any (v : Value) (d : List Int) (w : World) (h : ReadsInts w v d) :
    Calls Tryd.prog 105 #[v, .func (.func 69) #[] #[]] w fun e w' => e = .returned (.bool (cfsB d)) ∧ w' = w := by
  obtain ⟨a, c, rfl, hm, hc⟩ := h
  have HC := Lib.hid hc
  have HB := Lib.hid (fun k hk h => cfs_bad (d := d) (k := k) hk h)
  have HG := Lib.hid (fun h => cfs_good (d := d) h)
  obtain ⟨n, hn⟩ : ∃ n, n = d.length := ⟨_, rfl⟩
  have HN := Lib.hid hn
  rw [← hn] at hm ⊢
  clear hc hn
  go_enter Tryd.func105, Tryd.ntmps105
  go_wp2
  go_loop [9] (fun s => ∃ k : Nat, s = .int .i64 k ∧ k ≤ n ∧ Hid (∀ j, j < k → cfB (gz d j) = true)) (fun s => n - (intOf s).toNat)
  case atStart => exact ⟨0, rfl, Nat.zero_le _, fun j hj => absurd hj (Nat.not_lt_zero _)⟩
  case round =>
    obtain ⟨k, rfl, hk, HR⟩ := hrel
    by_cases hlt : k < n
    · have hkl : k < d.length := by have := HN.out; omega
      obtain ⟨bb, off, rfl, hb, hcell⟩ := HC.out (by omega)
      have c1 : w.cell? ⟨bb, off + k, none⟩ = some (.int .i64 (gz d k)) := hcell k hkl
      have j1 : (0 : Int) ≤ (k : Int) := by omega
      have j2 : (k : Int) < (n : Int) := by omega
      have HI := Lib.hid (fun w' => inCoef_any (gz d k) w')
      cases hz : cfB (gz d k)
      · have HB2 := Lib.hid (HB.out k hkl hz)
        rw [hz] at HI
        clear hz hcell HR
        generalize gz d k = z at c1 HI
        go_wp2_with fail
        refine Calls.mono (HI.out _) ?_
        rintro e w1 ⟨rfl, rfl⟩
        go_wp2
        go_returns
        exact ⟨by rw [HB2.out]; rfl, rfl⟩
      · have HR2 : Hid (∀ j, j < k + 1 → cfB (gz d j) = true) := fun j hj => by
          by_cases e : j = k
          · subst e; exact hz
          · exact HR.out j (by omega)
        rw [hz] at HI
        clear hz hcell HR
        generalize gz d k = z at c1 HI
        go_wp2_with fail
        refine Calls.mono (HI.out _) ?_
        rintro e w1 ⟨rfl, rfl⟩
        go_wp2
        go_round
        case rel => exact ⟨k + 1, by go_num, by omega, HR2⟩
        case measure => simp [intOf]; omega
    · have hkn : k = n := by omega
      subst hkn
      have HA := Lib.hid (HG.out (fun j hj => HR.out j (by have := HN.out; omega)))
      clear HR HC
      go_wp2
      go_returns
      exact ⟨by rw [HA.out]; rfl, rfl⟩

/-! a divisor in memory: a fan, and coefficients -/
/-- a list of numbers fits a fan -/
def fitB (n : Nat) (d : List Int) : Bool := decide (d.length = n) && cfsB d
def divErr : Ending := .returned (.iface 101 (.agg #[.string ⟨#[100, 105, 118, 105, 115, 111, 114]⟩]))
theorem divErr_none : IsNone divErr := ⟨_, rfl⟩
set_option maxHeartbeats 4000000 in
theorem divCheck_any (g n : Nat) (v : Value) (d : List Int) (w : World) (c1 : w.cell? ⟨g, 1, none⟩ = some (.int .i64 n)) (h : ReadsInts w v d) (hn : n ≤ 1000) :
    Calls Tryd.prog 181 #[.agg #[.pointer (some ⟨g, 0, none⟩), v]] w fun e w' => CheckEnd (fitB n d) e ∧ Below w.heap.size w w' := by
  have q1 : g < w.heap.size := World.block_lt_of_cell? w _ c1
  have HE := Lib.hid divErr_none
  unfold divErr at HE
  have h' := h
  obtain ⟨a, c, rfl, hm⟩ := h'.len
  have HV := Lib.hid (fun w' (hb : Below w.heap.size w w') => everyCoef_any _ d w' (h.below hb))
  by_cases hd : d.length = n
  · have hf : fitB n d = cfsB d := by simp [fitB, hd]
    rw [hf]
    subst hd
    generalize cfsB d = b at HV
    have j1 : ((d.length : Int) == (d.length : Int)) = true := by simp
    have j2 : ((d.length : Int) != (d.length : Int)) = false := by simp
    have e2 := hf
    clear hf e2
    generalize d.length = n at *
    clear h hm
    cases b
    · go_enter Tryd.func181, Tryd.ntmps181
      go_wp2_with fail
      go_quiet ((go_at_call 105; refine Calls.quiet_of_same (HV.out _ (by first | (go_grown; done) | exact below_drewN (by go_grown) _))))
      go_wp2
      refine bodyPost_ret (by simp [results, Tryd.results181, go_sem, *]; try rfl) rfl ?_
      exact ⟨HE.out, below_drewN (by go_grown) _⟩
    · go_enter Tryd.func181, Tryd.ntmps181
      go_wp2_with fail
      go_quiet ((go_at_call 105; refine Calls.quiet_of_same (HV.out _ (by first | (go_grown; done) | exact below_drewN (by go_grown) _))))
      go_wp2
      refine bodyPost_ret (by simp [results, Tryd.results181, go_sem, *]; try rfl) rfl ?_
      exact ⟨rfl, below_drewN (by go_grown) _⟩
  · have hf : fitB n d = false := by simp [fitB, hd]
    rw [hf]
    have j1 : ¬ (d.length : Int) = (n : Int) := by omega
    have j2 : ((d.length : Int) == (n : Int)) = false := by simpa using j1
    have j3 : ((d.length : Int) != (n : Int)) = true := by simp [bne, j2]
    generalize d.length = m at *
    clear h hd hf HV hm
    go_enter Tryd.func181, Tryd.ntmps181
    go_wp2_with fail
    go_quiet (fail)
    go_wp2
    refine bodyPost_ret (by simp [results, Tryd.results181, go_sem, *]; try rfl) rfl ?_
    exact ⟨HE.out, below_drewN (by go_grown) _⟩
end Go.Proofs.YtcieihbknfeddabDoor

/- Divisors: degrees: the program's function values. -/
namespace Go.Proofs.YtcieihbknfeddabDoor
open Go.RowKit

theorem aheadD (k n : Nat) (hn : 0 < n) : Int.tmod ((k : Int) + (n : Int) - 1) (n : Int) = (((k + n - 1) % n : Nat) : Int) := by
  rw [show ((k : Int) + (n : Int) - 1) = ((k + n - 1 : Nat) : Int) by omega, Int.ofNat_tmod]
theorem behindD (k n : Nat) : Int.tmod ((k : Int) + 1) (n : Int) = (((k + 1) % n : Nat) : Int) := by
  rw [show ((k : Int) + 1) = ((k + 1 : Nat) : Int) by simp, Int.ofNat_tmod]
/-- the two boxes that a degree is bound to: a divisor, and the numbers of its fan -/
def DegBox (w : World) (B1 B2 : Nat) (l : List V2) (d : List Int) : Prop :=
  ∃ g u v, w.cell? ⟨B1, 0, none⟩ = some (.pointer (some ⟨g, 0, none⟩)) ∧ w.cell? ⟨B1, 1, none⟩ = some u ∧ w.cell? ⟨B2, 0, none⟩ = some v ∧ w.cell? ⟨g, 1, none⟩ = some (.int .i64 (l.length : Int)) ∧ ReadsInts w u d ∧ ReadsInts w v (numsZ l)
theorem DegBox.below {w w' : World} {B1 B2 : Nat} {l : List V2} {d : List Int} (h : DegBox w B1 B2 l d) (hb : Below w.heap.size w w') : DegBox w' B1 B2 l d := by
  obtain ⟨g, u, v, c0, c1, c2, c3, hu, hv⟩ := h
  exact ⟨g, u, v, (hb.cell (p := ⟨B1, 0, none⟩) (cell_lt c0)).trans c0, (hb.cell (p := ⟨B1, 1, none⟩) (cell_lt c1)).trans c1, (hb.cell (p := ⟨B2, 0, none⟩) (cell_lt c2)).trans c2, (hb.cell (p := ⟨g, 1, none⟩) (cell_lt c3)).trans c3, hu.below hb, hv.below hb⟩
theorem gz_nums {l : List V2} {i : Nat} (h : i < l.length) : gz (numsZ l) i = numZ l i := gz_tab _ h
set_option maxHeartbeats 16000000 in
theorem degree1_any (B1 B2 : Nat) (l : List V2) (d : List Int) (i : Nat) (w : World) (h : DegBox w B1 B2 l d) (hi : i < l.length) (hd : d.length = l.length) (hS : Smooth l) (hb : bnd 101 d) (hm : l.length ≤ 1000) :
    Calls Tryd.prog 103 #[.int .i64 (i : Int), .pointer (some ⟨B1, 0, none⟩), .pointer (some ⟨B2, 0, none⟩)] w fun e w' => e = .returned (.int .i64 (degZ l d i)) ∧ Below w.heap.size w w' := by
  have hn0 : 0 < l.length := by omega
  obtain ⟨g, u, v, c0, c1, c2, c3, hu, hv⟩ := h
  obtain ⟨bb, off, cc, rfl, _, hbb, hcs⟩ := hu.open (by omega)
  obtain ⟨bv, ov, cv, rfl, _, hbv, hvs⟩ := hv.open (by rw [nums_len]; omega)
  have hp1 : (i + l.length - 1) % l.length < l.length := Nat.mod_lt _ hn0
  have hp2 : (i + 1) % l.length < l.length := Nat.mod_lt _ hn0
  have e0 := hcs w (Below.refl _ _) _ (show (i + l.length - 1) % l.length < d.length by omega)
  have e1 := hcs w (Below.refl _ _) i (by omega)
  have e2 := hcs w (Below.refl _ _) _ (show (i + 1) % l.length < d.length by omega)
  have e3 := hvs w (Below.refl _ _) i (by rw [nums_len]; omega)
  rw [gz_nums hi] at e3
  have t1 := aheadD i l.length hn0
  have t2 := behindD i l.length
  have b0 := hb ((i + l.length - 1) % l.length)
  have b1 := hb i
  have b2 := hb ((i + 1) % l.length)
  have bm := deg_mul_bnd hS hb i
  rw [nums_len] at *
  rw [hd] at c1
  unfold degZ
  clear hcs hvs hu hv hS hb
  have i1 : (0 : Int) ≤ (((i + l.length - 1) % l.length : Nat) : Int) := by omega
  have i2 : (((i + l.length - 1) % l.length : Nat) : Int) < (l.length : Int) := by omega
  have i3 : (0 : Int) ≤ (((i + 1) % l.length : Nat) : Int) := by omega
  have i4 : (((i + 1) % l.length : Nat) : Int) < (l.length : Int) := by omega
  generalize gz d ((i + l.length - 1) % l.length) = x0 at *
  generalize gz d ((i + 1) % l.length) = x2 at *
  generalize gz d i = x1 at *
  generalize numZ l i = z at *
  generalize (i + l.length - 1) % l.length = p at *
  generalize (i + 1) % l.length = q at *
  generalize l.length = n at *
  have i5 : (0 : Int) ≤ (i : Int) := by omega
  have i6 : (i : Int) < (n : Int) := by omega
  have j1 : ¬ (n : Int) = 0 := by omega
  have j2 : ((n : Int) == 0) = false := by simpa using j1
  have q1 : IntKind.i64.wrap ((i : Int) + (n : Int)) = (i : Int) + (n : Int) := by rw [IntKind.wrap_i64]; omega
  have q2 : IntKind.i64.wrap ((i : Int) + (n : Int) - 1) = (i : Int) + (n : Int) - 1 := by rw [IntKind.wrap_i64]; omega
  have q3 : IntKind.i64.wrap ((i : Int) + 1) = (i : Int) + 1 := by rw [IntKind.wrap_i64]; omega
  have q4 : IntKind.i64.wrap (x1 * z) = x1 * z := by rw [IntKind.wrap_i64]; omega
  have q5 : IntKind.i64.wrap (x0 + x1 * z) = x0 + x1 * z := by rw [IntKind.wrap_i64]; omega
  have q6 : IntKind.i64.wrap (x0 + x1 * z + x2) = x0 + x1 * z + x2 := by rw [IntKind.wrap_i64]; omega
  have s1 := cell_lt c0
  have s2 := cell_lt c2
  have s3 := cell_lt c3
  clear hp1 hp2 hi hd hm
  go_enter Tryd.func103, Tryd.ntmps103
  go_wp2_with fail
  go_quiet (fail)
  go_wp2_with fail
  go_quiet (fail)
  go_wp2
  go_returns
  exact ⟨rfl, below_drewN (below_drewN (Below.refl _ _) _) _⟩
set_option maxHeartbeats 4000000 in
theorem degree_any (base g : Nat) (ns : List Node) (u : Value) (d : List Int) (w : World) (hF : FanAt w base g ns) (hs : ns.length ≤ 1000) (hv : allVec (rays ns)) (hu : ReadsInts w u d) :
    Calls Tryd.prog 73 #[.agg #[.pointer (some ⟨g, 0, none⟩), u]] w fun e w' => ∃ B1 B2, e = .returned (.func (.func 103) #[] #[.pointer (some ⟨B1, 0, none⟩), .pointer (some ⟨B2, 0, none⟩)]) ∧ DegBox w' B1 B2 (rays ns) d ∧ Below w.heap.size w w' := by
  have HN := Lib.hid (fun w' (hb : Below w.heap.size w w') => callsIn_wide.1 (numbers_in 3 (by omega) base g ns w' (hF.below hb) hs hv))
  have c3 := hF.head.c1
  have hlt := cell_lt c3
  rw [← rays_len] at c3
  have HU := Lib.hid hu
  have C3 := Lib.hid c3
  have hlm : (numsZ (rays ns)).length ≤ 1000 := by rw [nums_len, rays_len]; exact hs
  generalize rays ns = l at *
  clear hF hs hv hu c3
  go_enter Tryd.func73, Tryd.ntmps73
  go_wp2_with fail
  refine Calls.mono (HN.out _ (by go_grown)) ?_
  rintro e w1 ⟨v2, rfl, hI, hb1⟩
  have hA : Below w.heap.size w w1 := belowTo (by go_grown) hb1
  have c0 : w1.cell? ⟨w.heap.size, 0, none⟩ = some (.pointer (some ⟨g, 0, none⟩)) := (hb1.cell (p := ⟨w.heap.size, 0, none⟩) (by simp)).trans (by simp)
  have c1 : w1.cell? ⟨w.heap.size, 1, none⟩ = some u := (hb1.cell (p := ⟨w.heap.size, 1, none⟩) (by simp)).trans (by simp)
  have HA := Lib.hid hA
  obtain ⟨a2, k2, rfl, _⟩ := (hI.reads (show (numsZ l).length ≤ 1152921504606846976 by omega)).len
  have R1 := hI.reads (show (numsZ l).length ≤ 1152921504606846976 by omega)
  obtain ⟨m2, hm2⟩ : ∃ m2, m2 = (numsZ l).length := ⟨_, rfl⟩
  rw [← hm2] at R1 ⊢
  have HR1 := Lib.hid R1
  clear hI hb1 HN hm2 R1 hlm
  go_wp2
  go_returns
  have hB2 : Below w1.heap.size w1 (w1.alloc (.cells #[.slice a2 m2 k2] 23)) := by go_grown
  refine ⟨w.heap.size, w1.heap.size, rfl, ⟨g, u, .slice a2 m2 k2, (hB2.cell (p := ⟨w.heap.size, 0, none⟩) (cell_lt c0)).trans c0, (hB2.cell (p := ⟨w.heap.size, 1, none⟩) (cell_lt c1)).trans c1, by simp, ?_, (HU.out.below HA.out).below hB2, HR1.out.below hB2⟩, belowTo HA.out hB2⟩
  have := (HA.out.cell (p := ⟨g, 1, none⟩) hlt).trans C3.out
  exact (hB2.cell (p := ⟨g, 1, none⟩) (cell_lt this)).trans this
end Go.Proofs.YtcieihbknfeddabDoor

/- Divisors: degrees in a list; products; the program. -/
namespace Go.Proofs.YtcieihbknfeddabDoor
open Go.RowKit

theorem degs_snoc (l : List V2) (d : List Int) (k : Nat) : (List.range (k + 1)).map (degZ l d) = (List.range k).map (degZ l d) ++ [degZ l d k] := tab_snoc _ _
set_option maxHeartbeats 8000000 in
theorem degrees_any (base g : Nat) (ns : List Node) (u : Value) (d : List Int) (w : World) (hF : FanAt w base g ns) (hs : ns.length ≤ 1000) (hS : Smooth (rays ns)) (hu : ReadsInts w u d) (hd : d.length = ns.length) (hb : bnd 101 d) :
    Calls Tryd.prog 75 #[.agg #[.pointer (some ⟨g, 0, none⟩), u]] w (GivesInts w (degsZ (rays ns) d)) := by
  obtain ⟨i0, hi, hz0, hz1, hz2⟩ := info_parts infoInt
  have HD := Lib.hid (fun w' (hb' : Below w.heap.size w w') => degree_any base g ns u d w' (hF.below hb') hs hS.1 (hu.below hb'))
  have H1 := Lib.hid (fun B1 B2 i w' (h : DegBox w' B1 B2 (rays ns) d) (hi : i < (rays ns).length) => degree1_any B1 B2 (rays ns) d i w' h hi (by rw [rays_len]; exact hd) hS hb (by rw [rays_len]; exact hs))
  have c3 := hF.head.c1
  have hlt := cell_lt c3
  have hp := hF.ring.pos
  have HM := Lib.hid (degs_snoc (rays ns) d)
  have HZ : Hid (degsZ (rays ns) d = (List.range (rays ns).length).map (degZ (rays ns) d)) := rfl
  rw [← rays_len] at c3 hs hp
  have C3 := Lib.hid c3
  generalize rays ns = l at *
  obtain ⟨n, hn⟩ : ∃ n, n = l.length := ⟨_, rfl⟩
  have HN := Lib.hid hn
  rw [← hn] at H1 C3 hs hp HZ
  clear hF hS hu hd hb c3 hn
  go_enter Tryd.func75, Tryd.ntmps75
  go_wp2_with fail
  refine Calls.mono (HD.out _ (by go_grown)) ?_
  rintro e w1 ⟨B1, B2, rfl, hX, hb1⟩
  have hA : Below w.heap.size w w1 := belowTo (by go_grown) hb1
  have c0 : w1.cell? ⟨w.heap.size, 0, none⟩ = some (.pointer (some ⟨g, 0, none⟩)) := (hb1.cell (p := ⟨w.heap.size, 0, none⟩) (by simp)).trans (by simp)
  have c1 : w1.cell? ⟨g, 1, none⟩ = some (.int .i64 (n : Int)) := (hA.cell (p := ⟨g, 1, none⟩) hlt).trans C3.out
  have HX := Lib.hid hX
  have hws := hA.size
  clear hX hb1 HD
  go_wp2
  go_loopw [4, 13] (fun s4 s13 wr => ∃ k : Nat, k ≤ n ∧ s13 = .int .i64 k ∧ Hid (Ints wr w1.heap.size s4 ((List.range k).map (degZ l d))) ∧ Below w1.heap.size w1 wr) (fun _ s13 _ => n - (intOf s13).toNat)
  case atStart => exact ⟨0, Nat.zero_le _, rfl, Ints.nil _ _, Below.refl _ _⟩
  case round =>
    obtain ⟨k, hk, rfl, HI, hB⟩ := hrel
    have i1 : (0 : Int) ≤ (k : Int) := by omega
    by_cases hlt2 : k < n
    · have i2 : (k : Int) < (n : Int) := by omega
      have HK := Lib.hid (H1.out B1 B2 k wr (HX.out.below hB) (by have := HN.out; omega))
      have HMk := Lib.hid (HM.out k)
      have hkl : ((List.range k).map (degZ l d)).length = k := by simp
      generalize degZ l d k = z at *
      go_wp2_with fail
      refine Calls.mono HK.out ?_
      rintro e w2 ⟨rfl, hb2⟩
      have hB1 := belowTo hB hb2
      have hown := HI.out.below hb2
      unfold Ints at hown
      rw [hkl] at hown
      have hbs := hB1.size
      clear hb2
      go_wp2_with (at_builtin; refine wpList_append_own_at _ rfl _ _ 23 rfl w1.heap.size 3 i0 (.int .i64 0) 1 8 Tryd.underlying23 hi hz0 hz1 hz2 rfl (by decide) _ _ _ rfl (hown.alloc _) ⟨w2.heap.size, 0, none⟩ 1 1 [.int .i64 z] rfl rfl ?c1 ?c2 ?c3 ?c4 ?c5 ?_)
      case c1 =>
        intro j u hj
        match j, hj with
        | 0, hj => simp at hj; subst hj; simp [Addr.add]
      case c2 => intro u hu; simp at hu; subst hu; rfl
      case c3 => unfold maxLen; omega
      case c4 => omega
      case c5 => simp; omega
      intro v' w3 hown' hgrow _ _
      have hB2 : Below w1.heap.size w1 w3 := (hB1.alloc hbs _).grown hgrow (by simp; omega) (fun k hk => (hown.lt k hk).1)
      have HV := Lib.hid (Ints.snoc (l := (List.range k).map (degZ l d)) hkl.symm hown')
      rw [← HMk.out] at HV
      clear hown' hgrow hown hB1 HI
      go_wp2
      go_roundw
      case rel => exact ⟨k + 1, by omega, by go_num, HV, hB2⟩
      case measure => simp [intOf]; omega
    · obtain rfl : k = n := by omega
      have i2 : ¬ (k : Int) < (k : Int) := by omega
      have hB2 := hA.trans (hB.mono hws)
      go_wp2
      go_returns
      exact ⟨_, rfl, by rw [HZ.out]; exact HI.out.lower hws, hB2⟩
set_option maxHeartbeats 8000000 in
theorem product_degree (B1 B2 : Nat) (gp u : Value) (d : List Int) (q : Nat → Int) (w : World) (hu : ReadsInts w u d) (hd : d.length ≤ 20) (hb : bnd 100 d) (hq : ∀ i, -404000404 ≤ q i ∧ q i ≤ 404000404)
    (HQ : Hid (∀ i, i < d.length → ∀ w', Below w.heap.size w w' → Calls Tryd.prog 103 #[.int .i64 (i : Int), .pointer (some ⟨B1, 0, none⟩), .pointer (some ⟨B2, 0, none⟩)] w' fun e w'' => e = .returned (.int .i64 (q i)) ∧ Below w'.heap.size w' w'')) :
    Calls Tryd.prog 72 #[.agg #[gp, u], .func (.func 103) #[] #[.pointer (some ⟨B1, 0, none⟩), .pointer (some ⟨B2, 0, none⟩)]] w fun e w' => e = .returned (.int .i64 (dotD d q d.length)) ∧ Below w.heap.size w w' := by
  obtain ⟨a, c, rfl, hm, hc⟩ := hu
  have HC := Lib.hid hc
  have HS := Lib.hid (fun k => dot_succ d q k)
  have HBd := Lib.hid (fun k (hk : k ≤ 20) => dot_bnd hb hq hk)
  have HT := Lib.hid (fun i => dot_term hb hq i)
  obtain ⟨n, hn⟩ : ∃ n, n = d.length := ⟨_, rfl⟩
  have HN := Lib.hid hn
  rw [← hn] at hm hd ⊢
  clear hc hn hb hq
  have h00 : dotD d q 0 = 0 := rfl
  have H00 := Lib.hid h00
  clear h00
  go_enter Tryd.func72, Tryd.ntmps72
  go_wp2
  go_loopw [5, 11] (fun s5 s11 wr => ∃ k : Nat, k ≤ n ∧ s5 = .int .i64 (dotD d q k) ∧ s11 = .int .i64 k ∧ Below w.heap.size w wr) (fun _ s11 _ => n - (intOf s11).toNat)
  case atStart => exact ⟨0, Nat.zero_le _, by rw [H00.out], rfl, by go_grown⟩
  case round =>
    obtain ⟨k, hk, rfl, rfl, hB⟩ := hrel
    have i1 : (0 : Int) ≤ (k : Int) := by omega
    by_cases hlt : k < n
    · have hkl : k < d.length := by have := HN.out; omega
      obtain ⟨bb, off, rfl, hbb, hcell⟩ := HC.out (by omega)
      have c1 : wr.cell? ⟨bb, off + k, none⟩ = some (.int .i64 (gz d k)) := (hB.cell (p := ⟨bb, off + k, none⟩) hbb).trans (hcell k hkl)
      have i2 : (k : Int) < (n : Int) := by omega
      have HK := Lib.hid (HQ.out k hkl wr hB)
      have b1 := HBd.out k (by omega)
      have b2 := HT.out k
      have HSk := Lib.hid (HS.out k)
      generalize dotD d q k = x at *
      generalize gz d k = z at *
      generalize q k = t at *
      have q1 : IntKind.i64.wrap (z * t) = z * t := by rw [IntKind.wrap_i64]; omega
      have q2 : IntKind.i64.wrap (x + z * t) = x + z * t := by rw [IntKind.wrap_i64]; omega
      clear hcell
      go_wp2_with fail
      refine Calls.mono HK.out ?_
      rintro e w2 ⟨rfl, hb2⟩
      have hB2 := belowTo hB hb2
      clear hb2 c1 hB HK
      go_wp2
      go_roundw
      case rel => exact ⟨k + 1, by omega, by rw [HSk.out], by go_num, hB2⟩
      case measure => simp [intOf]; omega
    · obtain rfl : k = n := by omega
      have i2 : ¬ (k : Int) < (k : Int) := by omega
      go_wp2
      go_returns
      exact ⟨rfl, hB⟩
set_option maxHeartbeats 8000000 in
theorem product_minus (B1 B2 : Nat) (gp u : Value) (d : List Int) (q : Nat → Int) (w : World) (hu : ReadsInts w u d) (hd : d.length ≤ 20) (hb : bnd 100 d) (hq : ∀ i, -404000404 ≤ q i ∧ q i ≤ 404000404)
    (HQ : Hid (∀ i, i < d.length → ∀ w', Below w.heap.size w w' → Calls Tryd.prog 137 #[.int .i64 (i : Int), .pointer (some ⟨B1, 0, none⟩), .pointer (some ⟨B2, 0, none⟩)] w' fun e w'' => e = .returned (.int .i64 (q i)) ∧ Below w'.heap.size w' w'')) :
    Calls Tryd.prog 72 #[.agg #[gp, u], .func (.func 137) #[] #[.pointer (some ⟨B1, 0, none⟩), .pointer (some ⟨B2, 0, none⟩)]] w fun e w' => e = .returned (.int .i64 (dotD d q d.length)) ∧ Below w.heap.size w w' := by
  obtain ⟨a, c, rfl, hm, hc⟩ := hu
  have HC := Lib.hid hc
  have HS := Lib.hid (fun k => dot_succ d q k)
  have HBd := Lib.hid (fun k (hk : k ≤ 20) => dot_bnd hb hq hk)
  have HT := Lib.hid (fun i => dot_term hb hq i)
  obtain ⟨n, hn⟩ : ∃ n, n = d.length := ⟨_, rfl⟩
  have HN := Lib.hid hn
  rw [← hn] at hm hd ⊢
  clear hc hn hb hq
  have h00 : dotD d q 0 = 0 := rfl
  have H00 := Lib.hid h00
  clear h00
  go_enter Tryd.func72, Tryd.ntmps72
  go_wp2
  go_loopw [5, 11] (fun s5 s11 wr => ∃ k : Nat, k ≤ n ∧ s5 = .int .i64 (dotD d q k) ∧ s11 = .int .i64 k ∧ Below w.heap.size w wr) (fun _ s11 _ => n - (intOf s11).toNat)
  case atStart => exact ⟨0, Nat.zero_le _, by rw [H00.out], rfl, by go_grown⟩
  case round =>
    obtain ⟨k, hk, rfl, rfl, hB⟩ := hrel
    have i1 : (0 : Int) ≤ (k : Int) := by omega
    by_cases hlt : k < n
    · have hkl : k < d.length := by have := HN.out; omega
      obtain ⟨bb, off, rfl, hbb, hcell⟩ := HC.out (by omega)
      have c1 : wr.cell? ⟨bb, off + k, none⟩ = some (.int .i64 (gz d k)) := (hB.cell (p := ⟨bb, off + k, none⟩) hbb).trans (hcell k hkl)
      have i2 : (k : Int) < (n : Int) := by omega
      have HK := Lib.hid (HQ.out k hkl wr hB)
      have b1 := HBd.out k (by omega)
      have b2 := HT.out k
      have HSk := Lib.hid (HS.out k)
      generalize dotD d q k = x at *
      generalize gz d k = z at *
      generalize q k = t at *
      have q1 : IntKind.i64.wrap (z * t) = z * t := by rw [IntKind.wrap_i64]; omega
      have q2 : IntKind.i64.wrap (x + z * t) = x + z * t := by rw [IntKind.wrap_i64]; omega
      clear hcell
      go_wp2_with fail
      refine Calls.mono HK.out ?_
      rintro e w2 ⟨rfl, hb2⟩
      have hB2 := belowTo hB hb2
      clear hb2 c1 hB HK
      go_wp2
      go_roundw
      case rel => exact ⟨k + 1, by omega, by rw [HSk.out], by go_num, hB2⟩
      case measure => simp [intOf]; omega
    · obtain rfl : k = n := by omega
      have i2 : ¬ (k : Int) < (k : Int) := by omega
      go_wp2
      go_returns
      exact ⟨rfl, hB⟩
set_option maxHeartbeats 8000000 in
theorem product_plus (B1 B2 : Nat) (gp u : Value) (d : List Int) (q : Nat → Int) (w : World) (hu : ReadsInts w u d) (hd : d.length ≤ 20) (hb : bnd 100 d) (hq : ∀ i, -404000404 ≤ q i ∧ q i ≤ 404000404)
    (HQ : Hid (∀ i, i < d.length → ∀ w', Below w.heap.size w w' → Calls Tryd.prog 138 #[.int .i64 (i : Int), .pointer (some ⟨B1, 0, none⟩), .pointer (some ⟨B2, 0, none⟩)] w' fun e w'' => e = .returned (.int .i64 (q i)) ∧ Below w'.heap.size w' w'')) :
    Calls Tryd.prog 72 #[.agg #[gp, u], .func (.func 138) #[] #[.pointer (some ⟨B1, 0, none⟩), .pointer (some ⟨B2, 0, none⟩)]] w fun e w' => e = .returned (.int .i64 (dotD d q d.length)) ∧ Below w.heap.size w w' := by
  obtain ⟨a, c, rfl, hm, hc⟩ := hu
  have HC := Lib.hid hc
  have HS := Lib.hid (fun k => dot_succ d q k)
  have HBd := Lib.hid (fun k (hk : k ≤ 20) => dot_bnd hb hq hk)
  have HT := Lib.hid (fun i => dot_term hb hq i)
  obtain ⟨n, hn⟩ : ∃ n, n = d.length := ⟨_, rfl⟩
  have HN := Lib.hid hn
  rw [← hn] at hm hd ⊢
  clear hc hn hb hq
  have h00 : dotD d q 0 = 0 := rfl
  have H00 := Lib.hid h00
  clear h00
  go_enter Tryd.func72, Tryd.ntmps72
  go_wp2
  go_loopw [5, 11] (fun s5 s11 wr => ∃ k : Nat, k ≤ n ∧ s5 = .int .i64 (dotD d q k) ∧ s11 = .int .i64 k ∧ Below w.heap.size w wr) (fun _ s11 _ => n - (intOf s11).toNat)
  case atStart => exact ⟨0, Nat.zero_le _, by rw [H00.out], rfl, by go_grown⟩
  case round =>
    obtain ⟨k, hk, rfl, rfl, hB⟩ := hrel
    have i1 : (0 : Int) ≤ (k : Int) := by omega
    by_cases hlt : k < n
    · have hkl : k < d.length := by have := HN.out; omega
      obtain ⟨bb, off, rfl, hbb, hcell⟩ := HC.out (by omega)
      have c1 : wr.cell? ⟨bb, off + k, none⟩ = some (.int .i64 (gz d k)) := (hB.cell (p := ⟨bb, off + k, none⟩) hbb).trans (hcell k hkl)
      have i2 : (k : Int) < (n : Int) := by omega
      have HK := Lib.hid (HQ.out k hkl wr hB)
      have b1 := HBd.out k (by omega)
      have b2 := HT.out k
      have HSk := Lib.hid (HS.out k)
      generalize dotD d q k = x at *
      generalize gz d k = z at *
      generalize q k = t at *
      have q1 : IntKind.i64.wrap (z * t) = z * t := by rw [IntKind.wrap_i64]; omega
      have q2 : IntKind.i64.wrap (x + z * t) = x + z * t := by rw [IntKind.wrap_i64]; omega
      clear hcell
      go_wp2_with fail
      refine Calls.mono HK.out ?_
      rintro e w2 ⟨rfl, hb2⟩
      have hB2 := belowTo hB hb2
      clear hb2 c1 hB HK
      go_wp2
      go_roundw
      case rel => exact ⟨k + 1, by omega, by rw [HSk.out], by go_num, hB2⟩
      case measure => simp [intOf]; omega
    · obtain rfl : k = n := by omega
      have i2 : ¬ (k : Int) < (k : Int) := by omega
      go_wp2
      go_returns
      exact ⟨rfl, hB⟩
end Go.Proofs.YtcieihbknfeddabDoor

/- Divisors: made, told; the program. -/
namespace Go.Proofs.YtcieihbknfeddabDoor
open Go.RowKit

/-- what 'made' hands back of a divisor -/
def mkDiv (b : Bool) (g : Nat) (v : Value) : Value := .agg #[.pointer (if b then some ⟨g, 0, none⟩ else none), if b then v else .slice none 0 0]
set_option maxHeartbeats 4000000 in
theorem madeDiv_any (g n : Nat) (v : Value) (d : List Int) (w : World) (hg : EtOk w) (c1 : w.cell? ⟨g, 1, none⟩ = some (.int .i64 n)) (h : ReadsInts w v d) (hn : n ≤ 1000) :
    Calls Tryd.prog 92 #[.agg #[.pointer (some ⟨g, 0, none⟩), v]] w fun e w' => e = .returned (.tuple #[mkDiv (fitB n d) g v, .bool (fitB n d)]) ∧ Below w.heap.size w w' := by
  have q1 := World.block_lt_of_cell? w _ c1
  have HC := Lib.hid (fun w' (hb : Below w.heap.size w w') => divCheck_any g n v d w' ((hb.cell (p := ⟨g, 1, none⟩) q1).trans c1) (h.below hb) hn)
  obtain ⟨a, c, rfl, _⟩ := h.len
  clear h c1 q1
  generalize fitB n d = b at HC
  cases b
  · go_enter Tryd.func92, Tryd.ntmps92
    go_wp2_with fail
    refine Calls.mono (HC.out _ (by go_grown)) ?_
    rintro e w1 ⟨he, hb1⟩
    obtain ⟨s, rfl⟩ : IsNone e := he
    obtain ⟨hc1, hf1⟩ := bcell hb1; have hz1 := bsize hb1
    go_wp2_with fail
    refine Calls.mono (none_hit s _ (hg.below (belowTo (by go_grown) hb1))) ?_
    rintro e w2 ⟨rfl, hb2⟩
    replace hb1 := belowTo hb1 hb2; clear hb2 hc1 hf1 hz1; obtain ⟨hc1, hf1⟩ := bcell hb1; have hz1 := bsize hb1
    go_wp2
    have hB := belowTo (a := w) (by go_grown) hb1; have hS := hB.size; (refine bodyPost_ret (by simp [results, Tryd.results92, go_sem, bcs hb1]; try rfl) rfl ?_); clear hb1
    exact ⟨rfl, by go_grown⟩
  · go_enter Tryd.func92, Tryd.ntmps92
    go_wp2_with fail
    refine Calls.mono (HC.out _ (by go_grown)) ?_
    rintro e w1 ⟨he, hb1⟩
    obtain rfl : e = .returned .nilIface := he
    obtain ⟨hc1, hf1⟩ := bcell hb1; have hz1 := bsize hb1
    go_wp2_with fail
    refine Calls.mono (none_nil _) ?_
    rintro e w2 ⟨rfl, hb2⟩
    replace hb1 := belowTo hb1 hb2; clear hb2 hc1 hf1 hz1; obtain ⟨hc1, hf1⟩ := bcell hb1; have hz1 := bsize hb1
    go_wp2
    have hB := belowTo (a := w) (by go_grown) hb1; have hS := hB.size; (refine bodyPost_ret (by simp [results, Tryd.results92, go_sem, bcs hb1]; try rfl) rfl ?_); clear hb1
    exact ⟨rfl, by go_grown⟩
set_option maxHeartbeats 4000000 in
theorem told_any (g n : Nat) (v : Value) (d : List Int) (w : World) (hg : EtOk w) (c1 : w.cell? ⟨g, 1, none⟩ = some (.int .i64 n)) (h : ReadsInts w v d) (hn : n ≤ 1000) :
    Calls Tryd.prog 65 #[.agg #[.pointer (some ⟨g, 0, none⟩), v]] w fun e w' => e = .returned (.tuple #[if fitB n d then v else .slice none 0 0, .bool (fitB n d)]) ∧ Below w.heap.size w w' := by
  have q1 := World.block_lt_of_cell? w _ c1
  have HM := Lib.hid (fun w' (hb : Below w.heap.size w w') => madeDiv_any g n v d w' (hg.below hb) ((hb.cell (p := ⟨g, 1, none⟩) q1).trans c1) (h.below hb) hn)
  obtain ⟨a, c, rfl, _⟩ := h.len
  clear h c1 q1 hg
  generalize fitB n d = b at HM
  unfold mkDiv at HM
  cases b
  all_goals
    simp only [if_true, Bool.false_eq_true, if_false] at HM
    go_enter Tryd.func65, Tryd.ntmps65
    go_wp2_with fail
    refine Calls.mono (HM.out _ (by go_grown)) ?_
    rintro e w1 ⟨rfl, hb1⟩
    have hB : Below w.heap.size w w1 := belowTo (by go_grown) hb1
    have hs := hB.size
    clear hb1
    go_wp2
    go_returns
    exact ⟨rfl, by go_grown⟩
theorem FanAt.far {W : World} {base g k o : Nat} {ns : List Node} (h : FanAt W base g ns) (hk : k < base) (u : Value) : FanAt (W.setCell ⟨k, o, none⟩ u) base g ns :=
  ⟨h.ring.same (fun p hp => Below.heap_setCell W ⟨k, o, none⟩ u p.1 (by have := h.low p hp; show p.1 ≠ k; omega)), (Below.heap_setCell W ⟨k, o, none⟩ u g (by have := h.lowg; show g ≠ k; omega)).trans h.head, h.apart, h.low, h.lowg⟩
/-- a divisor with the rays l and the numbers that v holds, if it is one -/
def DivEnd (b : Bool) (l : List V2) (v : Value) (w : World) (e : Ending) (w' : World) : Prop :=
  ((b = true ∧ ∃ g ns, e = .returned (.tuple #[.agg #[.pointer (some ⟨g, 0, none⟩), v], .bool true]) ∧ FanAt w' w.heap.size g ns ∧ rays ns = l) ∨ (b = false ∧ e = .returned (.tuple #[.agg #[.pointer none, .slice none 0 0], .bool false]))) ∧ Below w.heap.size w w'
set_option maxHeartbeats 4000000 in
theorem divisorOf_any (v u : Value) (l : List V2) (d : List Int) (w : World) (hl : ReadsVecs w v l) (hd : ReadsInts w u d) (hg : EtOk w) :
    Calls Tryd.prog 56 #[v, u] w (DivEnd (divB l d) l u w) := by
  have HO := Lib.hid (fun w' (hb : Below w.heap.size w w') => smoothFanOf_any v l w' (hl.below hb) (hg.below hb))
  have HS := Lib.hid (fun (ns : List Node) h hn => fan_small (l := l) (ns := ns) (smooth_in h).1 hn)
  have HM := Lib.hid (fun g ns w' (hb : Below w.heap.size w w') (hF : Fan0 w' g (cyc ns 0).1 (ns : List Node).length) hs => madeDiv_any g ns.length u d w' (hg.below hb) hF.c1 (hd.below hb) hs)
  have HD : Hid (∀ n, n = l.length → smoothB l = true → divB l d = fitB n d) := fun n hn h => by simp [divB, fitB, h, hn]
  have HF : Hid (smoothB l = false → divB l d = false) := fun h => by simp [divB, h]
  obtain ⟨a, c, rfl, _⟩ := hd.len
  clear hl hd
  generalize hb : smoothB l = b at *
  cases b
  · rw [HF.out (by simp)]
    clear HD HF HM HS hb
    go_enter Tryd.func56, Tryd.ntmps56
    go_wp2_with fail
    refine Calls.mono (HO.out _ (by go_grown)) ?_
    rintro e w1 ⟨⟨h, _⟩ | ⟨_, rfl⟩, hb1⟩
    · cases h
    have hB : Below w.heap.size w w1 := belowTo (by go_grown) hb1
    obtain ⟨hc1, hf1⟩ := bcell hb1; have hz1 := bsize hb1
    go_wp2
    refine bodyPost_ret (by simp [results, Tryd.results56, go_sem, *]; try rfl) rfl ?_
    exact ⟨.inr ⟨rfl, rfl⟩, by go_grown⟩
  · clear HF hb
    have HH := Lib.hid (rfl : l = l)
    go_enter Tryd.func56, Tryd.ntmps56
    go_wp2_with fail
    refine Calls.mono (HO.out _ (by go_grown)) ?_
    rintro e w1 ⟨⟨_, g, ns, rfl, hF, hn⟩ | ⟨h, _⟩, hb1⟩
    · obtain ⟨hs, hnl⟩ := HS.out ns (by simp) hn
      have hB : Below w.heap.size w w1 := belowTo (by go_grown) hb1
      have HX := Lib.hid (HM.out g ns w1 hB hF.head hs)
      have HDn := Lib.hid (HD.out ns.length hnl (by simp))
      have HFn := Lib.hid (fun w2 (hb : Below w1.heap.size w1 w2) => (hF.below hb).lower (base' := w.heap.size + 1) (by simp))
      have HN := Lib.hid hn
      generalize fitB ns.length d = k at HX HDn
      unfold mkDiv at HX
      clear HD HM HO HS hF hn hnl hs
      obtain ⟨hc1, hf1⟩ := bcell hb1; have hz1 := bsize hb1
      cases k
      · simp only [Bool.false_eq_true, if_false] at HX
        go_wp2_with fail
        refine Calls.mono HX.out ?_
        rintro e w2 ⟨rfl, hb2⟩
        have hB2 := belowTo hB hb2
        replace hb1 := belowTo hb1 hb2; clear hb2 hc1 hf1 hz1; obtain ⟨hc1, hf1⟩ := bcell hb1; have hz1 := bsize hb1
        go_wp2
        refine bodyPost_ret (by simp [results, Tryd.results56, go_sem, *]; try rfl) rfl ?_
        exact ⟨.inr ⟨HDn.out, rfl⟩, by go_grown⟩
      · simp only [if_true] at HX
        go_wp2_with fail
        refine Calls.mono HX.out ?_
        rintro e w2 ⟨rfl, hb2⟩
        have hB2 := belowTo hB hb2
        have HF2 := Lib.hid (HFn.out w2 hb2)
        replace hb1 := belowTo hb1 hb2; clear hb2 hc1 hf1 hz1; obtain ⟨hc1, hf1⟩ := bcell hb1; have hz1 := bsize hb1
        go_wp2
        refine bodyPost_ret (by simp [results, Tryd.results56, go_sem, *]; try rfl) rfl ?_
        exact ⟨.inl ⟨HDn.out, g, ns, rfl, FanAt.lower (base := w.heap.size + 1) (by first | exact HF2.out | exact HF2.out.far (Nat.lt_succ_self _) _ | exact (HF2.out.far (Nat.lt_succ_self _) _).far (Nat.lt_succ_self _) _) (by omega), HN.out⟩, by go_grown⟩
    · cases h
end Go.Proofs.YtcieihbknfeddabDoor

/- Divisors: what the functions say, in plain words. -/
namespace Go.Proofs.YtcieihbknfeddabDoor
open Go.RowKit

def addDB (l : List V2) (a b : List Int) : Bool := divB l a && (divB l b && divB l (sumL a 1 b))
def timDB (l : List V2) (a : List Int) (n : Int) : Bool := divB l a && (cfB n && divB l (timesL a n))
def ofDB (l : List V2) (x y : Int) : Bool := smoothB l && (vecB x y && divB l (trivL l (x, y)))
def plnDB (l : List V2) (d : List Int) : Bool := divB l d && divB l (plainL l d)
def nefL (d : List Int) : Bool := d.all (fun n => decide (0 ≤ n))
def ampL (d : List Int) : Bool := d.all (fun n => decide (0 < n))
def nefDB (l : List V2) (d : List Int) : Bool := divB l d && nefL (degsZ l d)
def ampDB (l : List V2) (d : List Int) : Bool := divB l d && ampL (degsZ l d)
def eqvDB (l : List V2) (a b : List Int) : Bool := divB l a && (divB l b && trivB l (sumL a (-1) b))
theorem of_len {l : List V2} {x y : Int} (h : ofDB l x y = true) : l.length ≤ 20 := by
  unfold ofDB at h
  rw [Bool.and_eq_true] at h
  exact (smooth_len h.1).2
theorem div_len {l : List V2} {d : List Int} (h : divB l d = true) : 3 ≤ l.length ∧ l.length ≤ 20 := smooth_len (div_in h).1
theorem div_smooth {l : List V2} {d : List Int} (h : divB l d = true) : Smooth l := smooth_all (div_in h).1
theorem div_fit {l : List V2} {a d : List Int} (h : divB l a = true) : divB l d = (decide (d.length = l.length) && cfsB d) := by
  unfold divB
  rw [(div_in h).1]
  rfl
theorem smooth_fit {l : List V2} {d : List Int} (h : smoothB l = true) : divB l d = (decide (d.length = l.length) && cfsB d) := by
  unfold divB
  rw [h]
  rfl
theorem bnd_big {M : Int} {d : List Int} (h : bnd M d) (hM : M ≤ 1000000000) : bnd 1000000000 d := bnd_mono h hM
end Go.Proofs.YtcieihbknfeddabDoor

/- Divisors: the program's functions that make no divisor. -/
namespace Go.Proofs.YtcieihbknfeddabDoor
open Go.RowKit

set_option maxHeartbeats 4000000 in
theorem divisorIn_any (v : Value) (l : List V2) (u : Value) (d : List Int) (w : World) (hl : ReadsVecs w v l) (hd : ReadsInts w u d) (hg : EtOk w) :
    Calls Tryd.prog 21 #[v, u] w fun e w' => e = .returned (.bool (divB l d)) ∧ Below w.heap.size w w' := by
  have HO := Lib.hid (divisorOf_any v u l d w hl hd hg)
  obtain ⟨a, c, rfl, _⟩ := hd.len
  clear hl hd
  generalize divB l d = b at *
  go_enter Tryd.func21, Tryd.ntmps21
  go_wp2_with fail
  refine Calls.mono HO.out ?_
  rintro e w1 ⟨⟨rfl, g, ns, rfl, hF, hn⟩ | ⟨rfl, rfl⟩, hb1⟩
  · have hs1 := hb1.size
    clear hF hn
    go_wp2
    go_returns
    exact ⟨rfl, by go_grown⟩
  · have hs1 := hb1.size
    go_wp2
    go_returns
    exact ⟨rfl, by go_grown⟩
set_option maxHeartbeats 4000000 in
theorem divisorDegrees_any (v : Value) (l : List V2) (u : Value) (d : List Int) (w : World) (hl : ReadsVecs w v l) (hd : ReadsInts w u d) (hg : EtOk w) :
    Calls Tryd.prog 37 #[v, u] w (GivesIntsOk w (gV (divB l d) (degsZ l d)) (divB l d)) := by
  have HO := Lib.hid (divisorOf_any v u l d w hl hd hg)
  have HD := Lib.hid (fun base g (ns : List Node) w' (hF : FanAt w' base g ns) (hn : rays ns = l) (hb : Below w.heap.size w w') (h : divB l d = true) => by
    have h1 := degrees_any base g ns u d w' hF (by have := div_len h; rw [← hn, rays_len] at this; omega) (by rw [hn]; exact div_smooth h) (hd.below hb) (by rw [← rays_len, hn]; exact (div_in h).2.1) (bnd_mono (div_bnd h) (by omega))
    rw [hn] at h1
    exact h1)
  obtain ⟨a, c, rfl, _⟩ := hd.len
  clear hl hd
  generalize hb : divB l d = b at *
  go_enter Tryd.func37, Tryd.ntmps37
  go_wp2_with fail
  refine Calls.mono HO.out ?_
  rintro e w1 ⟨⟨rfl, g, ns, rfl, hF, hn⟩ | ⟨rfl, rfl⟩, hb1⟩
  · have hF2 := Lib.hid (fun w2 (h : Below w1.heap.size w1 w2) => hF.below h)
    have HD2 := Lib.hid (fun w2 (h : Below w1.heap.size w1 w2) => HD.out w.heap.size g ns w2 (hF2.out w2 h) hn (belowTo hb1 h) (by simp))
    have hs1 := hb1.size
    clear hF hn hF2 HD hb
    go_wp2_with fail
    refine Calls.mono (HD2.out _ (by go_grown)) ?_
    rintro e w2 ⟨v2, rfl, hI, hb2⟩
    have HI := Lib.hid (hI.lower (base' := w.heap.size) (by simp; omega))
    have hB : Below w.heap.size w w2 := belowTo (by go_grown) hb2
    clear hI hb2
    go_wp2
    go_returns
    exact ⟨_, rfl, HI.out, hB⟩
  · have hs1 := hb1.size
    clear hb HD
    go_wp2
    go_returns
    exact ⟨_, rfl, Ints.nil _ _, by go_grown⟩
def DivsEnd (b : Bool) (l : List V2) (u1 u2 : Value) (w : World) (e : Ending) (w' : World) : Prop :=
  ((b = true ∧ ∃ g ns, e = .returned (.tuple #[.agg #[.pointer (some ⟨g, 0, none⟩), u1], .agg #[.pointer (some ⟨g, 0, none⟩), u2], .bool true]) ∧ FanAt w' w.heap.size g ns ∧ rays ns = l) ∨
    (b = false ∧ ∃ p a n c, e = .returned (.tuple #[.agg #[.pointer p, .slice a n c], .agg #[.pointer none, .slice none 0 0], .bool false]))) ∧ Below w.heap.size w w'
theorem FanAt.far2 {W : World} {base g k o o' : Nat} {ns : List Node} (h : FanAt W base g ns) (hk : k < base) (u u' : Value) : FanAt ((W.setCell ⟨k, o, none⟩ u).setCell ⟨k, o', none⟩ u') base g ns := (h.far hk u).far hk u'
set_option maxHeartbeats 16000000 in
theorem divisorsOf_any (v u1 u2 : Value) (l : List V2) (a b : List Int) (w : World) (hl : ReadsVecs w v l) (h1 : ReadsInts w u1 a) (h2 : ReadsInts w u2 b) (hg : EtOk w) :
    Calls Tryd.prog 67 #[v, u1, u2] w (DivsEnd (divB l a && divB l b) l u1 u2 w) := by
  have HO := Lib.hid (fun w' (hb : Below w.heap.size w w') => divisorOf_any v u1 l a w' (hl.below hb) (h1.below hb) (hg.below hb))
  have HM := Lib.hid (fun g (ns : List Node) w' (hb : Below w.heap.size w w') (c1 : (w' : World).cell? ⟨g, 1, none⟩ = some (.int .i64 ns.length)) (hs : ns.length ≤ 1000) => madeDiv_any g ns.length u2 b w' (hg.below hb) c1 (h2.below hb) hs)
  have HD : Hid (∀ n, n = l.length → divB l a = true → divB l b = fitB n b) := fun n hn h => by rw [div_fit h, hn]; rfl
  have HLn : Hid (divB l a = true → l.length ≤ 20) := fun h => (div_len h).2
  obtain ⟨p1, q1, rfl, _⟩ := h1.len
  obtain ⟨p2, q2, rfl, _⟩ := h2.len
  clear hl h1 h2
  cases ha : divB l a
  · rw [ha] at HO
    clear HD HM HLn ha
    go_enter Tryd.func67, Tryd.ntmps67
    go_wp2_with fail
    refine Calls.mono (HO.out _ (by go_grown)) ?_
    rintro e w1 ⟨⟨h, _⟩ | ⟨_, rfl⟩, hb1⟩
    · cases h
    have hB : Below w.heap.size w w1 := belowTo (by go_grown) hb1
    have hw1 := hb1.size
    simp only [World.size_alloc] at hw1
    have r0 : w1.cell? ⟨w.heap.size, 0, none⟩ = some (.pointer none) := (hb1.cell (p := ⟨w.heap.size, 0, none⟩) (by simp; omega)).trans (by first | (go_cell; done) | (go_simp; done) | (simp; done))
    have r1 : w1.cell? ⟨w.heap.size, 1, none⟩ = some (.slice none 0 0) := (hb1.cell (p := ⟨w.heap.size, 1, none⟩) (by simp; omega)).trans (by first | (go_cell; done) | (go_simp; done) | (simp; done))
    have r2 : w1.cell? ⟨w.heap.size + 1, 0, none⟩ = some (.pointer none) := (hb1.cell (p := ⟨w.heap.size + 1, 0, none⟩) (by simp)).trans (by first | (go_cell; done) | (go_simp; done) | (simp; done))
    have r3 : w1.cell? ⟨w.heap.size + 1, 1, none⟩ = some (.slice none 0 0) := (hb1.cell (p := ⟨w.heap.size + 1, 1, none⟩) (by simp)).trans (by first | (go_cell; done) | (go_simp; done) | (simp; done))
    have f0 : ∀ o, w1.frozen? ⟨w.heap.size, o, none⟩ = false := fun o => (hb1.frozen (p := ⟨w.heap.size, o, none⟩) (by simp; omega)).trans (by first | (go_cell; done) | (go_simp; done) | (simp; done))
    have f1 : ∀ o, w1.frozen? ⟨w.heap.size + 1, o, none⟩ = false := fun o => (hb1.frozen (p := ⟨w.heap.size + 1, o, none⟩) (by simp)).trans (by first | (go_cell; done) | (go_simp; done) | (simp; done))
    have u0 := cell_lt r0
    have u1 := cell_lt r2
    clear hb1
    go_wp2
    refine bodyPost_ret (by simp [results, Tryd.results67, go_sem, *]; try rfl) rfl ?_
    exact ⟨.inr ⟨rfl, none, none, 0, 0, rfl⟩, by go_grown⟩
  · rw [ha] at HO
    go_enter Tryd.func67, Tryd.ntmps67
    go_wp2_with fail
    refine Calls.mono (HO.out _ (by go_grown)) ?_
    rintro e w1 ⟨⟨_, g, ns, rfl, hF, hn⟩ | ⟨h, _⟩, hb1⟩
    case inr => cases h
    have hB : Below w.heap.size w w1 := belowTo (by go_grown) hb1
    have hnl : ns.length = l.length := by rw [← hn, rays_len]
    have HDn := Lib.hid (HD.out ns.length hnl ha)
    have hs : ns.length ≤ 1000 := by have := HLn.out ha; omega
    have HM2 := Lib.hid (fun w2 (h : Below w1.heap.size w1 w2) => HM.out g ns w2 (belowTo hB h) ((h.cell (p := ⟨g, 1, none⟩) hF.head.lt).trans hF.head.c1) hs)
    have hz : ((w.alloc (.cells #[.pointer none, .slice none 0 0] 60)).alloc (.cells #[.pointer none, .slice none 0 0] 60)).heap.size = w.heap.size + 2 := by simp
    have HF := Lib.hid (fun w2 (h : Below w1.heap.size w1 w2) => (hF.below h).lower (base' := w.heap.size + 2) (by rw [hz]; exact Nat.le_refl _))
    have HN := Lib.hid hn
    clear hF hn hnl hs HM HD HLn HO ha hz
    generalize fitB ns.length b = k at HM2 HDn
    unfold mkDiv at HM2
    have hw1 := hb1.size
    simp only [World.size_alloc] at hw1
    have r0 : w1.cell? ⟨w.heap.size, 0, none⟩ = some (.pointer none) := (hb1.cell (p := ⟨w.heap.size, 0, none⟩) (by simp; omega)).trans (by first | (go_cell; done) | (go_simp; done) | (simp; done))
    have r1 : w1.cell? ⟨w.heap.size, 1, none⟩ = some (.slice none 0 0) := (hb1.cell (p := ⟨w.heap.size, 1, none⟩) (by simp; omega)).trans (by first | (go_cell; done) | (go_simp; done) | (simp; done))
    have r2 : w1.cell? ⟨w.heap.size + 1, 0, none⟩ = some (.pointer none) := (hb1.cell (p := ⟨w.heap.size + 1, 0, none⟩) (by simp)).trans (by first | (go_cell; done) | (go_simp; done) | (simp; done))
    have r3 : w1.cell? ⟨w.heap.size + 1, 1, none⟩ = some (.slice none 0 0) := (hb1.cell (p := ⟨w.heap.size + 1, 1, none⟩) (by simp)).trans (by first | (go_cell; done) | (go_simp; done) | (simp; done))
    have f0 : ∀ o, w1.frozen? ⟨w.heap.size, o, none⟩ = false := fun o => (hb1.frozen (p := ⟨w.heap.size, o, none⟩) (by simp; omega)).trans (by first | (go_cell; done) | (go_simp; done) | (simp; done))
    have f1 : ∀ o, w1.frozen? ⟨w.heap.size + 1, o, none⟩ = false := fun o => (hb1.frozen (p := ⟨w.heap.size + 1, o, none⟩) (by simp)).trans (by first | (go_cell; done) | (go_simp; done) | (simp; done))
    clear hb1
    cases k
    all_goals
      simp only [Bool.false_eq_true, if_false, if_true] at HM2
      go_wp2_with fail
      refine Calls.mono (HM2.out _ (by go_grown)) ?_
      rintro e w2 ⟨rfl, hb2⟩
      have hA2 : Below w1.heap.size w1 w2 := belowTo (by go_grown) hb2
      have d0 : w2.cell? ⟨w1.heap.size, 0, none⟩ = some (.pointer (some ⟨g, 0, none⟩)) := (hb2.cell (p := ⟨w1.heap.size, 0, none⟩) (by simp)).trans (by first | (go_cell; done) | (go_simp; done) | (simp; done))
      have d1 : w2.cell? ⟨w1.heap.size, 1, none⟩ = some (.slice p1 a.length q1) := (hb2.cell (p := ⟨w1.heap.size, 1, none⟩) (by simp)).trans (by first | (go_cell; done) | (go_simp; done) | (simp; done))
      have s0 := cell_lt d0
      have t0 := (hA2.cell (p := ⟨w.heap.size, 0, none⟩) (cell_lt r0)).trans r0
      have t1 := (hA2.cell (p := ⟨w.heap.size, 1, none⟩) (cell_lt r1)).trans r1
      have t2 := (hA2.cell (p := ⟨w.heap.size + 1, 0, none⟩) (cell_lt r2)).trans r2
      have t3 := (hA2.cell (p := ⟨w.heap.size + 1, 1, none⟩) (cell_lt r3)).trans r3
      have g0 := fun o => (hA2.frozen (p := ⟨w.heap.size, o, none⟩) (cell_lt r0)).trans (f0 o)
      have g1 := fun o => (hA2.frozen (p := ⟨w.heap.size + 1, o, none⟩) (cell_lt r2)).trans (f1 o)
      have hs2 := hA2.size
      have u0 := cell_lt t0
      have u1 := cell_lt t2
      have hB2 := belowTo hB hA2
      have HF2 := Lib.hid (fun w3 (h : Below w2.heap.size w2 w3) => HF.out w3 (belowTo hA2 h))
      clear hb2 r0 r1 r2 r3 f0 f1 hA2 HM2
      go_wp2_with fail
      go_region
      all_goals go_wp2
    · refine bodyPost_ret (by simp [results, Tryd.results67, go_sem, *]; try rfl) rfl ?_
      exact ⟨.inr ⟨by rw [HDn.out]; rfl, _, _, _, _, rfl⟩, by go_grown⟩
    · refine bodyPost_ret (by simp [results, Tryd.results67, go_sem, *]; try rfl) rfl ?_
      refine ⟨.inl ⟨by rw [HDn.out]; rfl, g, ns, rfl, ?_, HN.out⟩, by go_grown⟩
      refine FanAt.lower (base := w.heap.size + 2) ?_ (by omega)
      have F1 := HF2.out w2 (Below.refl _ _)
      have F2 := FanAt.far2 (k := w.heap.size) (o := 0) (o' := 1) F1 (by omega) (.pointer (some ⟨g, 0, none⟩)) (.slice p1 a.length q1)
      have F3 := FanAt.far2 (k := w.heap.size + 1) (o := 0) (o' := 1) F2 (by omega) (.pointer (some ⟨g, 0, none⟩)) (.slice p2 b.length q2)
      exact F3.below (by go_grown)
set_option maxHeartbeats 8000000 in
theorem divisorProduct_any (v : Value) (l : List V2) (u1 : Value) (a : List Int) (u2 : Value) (b : List Int) (w : World) (hl : ReadsVecs w v l) (h1 : ReadsInts w u1 a) (h2 : ReadsInts w u2 b) (hg : EtOk w) :
    Calls Tryd.prog 35 #[v, u1, u2] w fun e w' => e = .returned (.tuple #[.int .i64 (gate (divB l a && divB l b) (prodZ l a b)), .bool (divB l a && divB l b)]) ∧ Below w.heap.size w w' := by
  have HO := Lib.hid (divisorsOf_any v u1 u2 l a b w hl h1 h2 hg)
  have HDg := Lib.hid (fun base g (ns : List Node) w' (hF : FanAt w' base g ns) (hb : Below w.heap.size w w') (hs : ns.length ≤ 1000) (hv : allVec (rays ns)) => degree_any base g ns u2 b w' hF hs hv (h2.below hb))
  have H1 := Lib.hid (fun B1 B2 i w' (h : DegBox w' B1 B2 l b) (hi : i < l.length) (hk : (divB l a && divB l b) = true) => by
    rw [Bool.and_eq_true] at hk
    exact degree1_any B1 B2 l b i w' h hi (div_in hk.2).2.1 (div_smooth hk.2) (bnd_mono (div_bnd hk.2) (by omega)) (by have := div_len hk.2; omega))
  have HPr := Lib.hid (fun B1 B2 gp w' (hb : Below w.heap.size w w') (hk : (divB l a && divB l b) = true) HQ => product_degree B1 B2 gp u1 a (degZ l b) w' (h1.below hb) (by rw [Bool.and_eq_true] at hk; have := div_len hk.1; have := (div_in hk.1).2.1; omega) (by rw [Bool.and_eq_true] at hk; exact div_bnd hk.1) (fun i => by rw [Bool.and_eq_true] at hk; have := deg_bnd (div_smooth hk.2) (bnd_mono (div_bnd hk.2) (by omega)) i; omega) HQ)
  have HP : Hid ((divB l a && divB l b) = true → dotD a (degZ l b) a.length = prodZ l a b ∧ a.length = l.length ∧ l.length ≤ 20 ∧ allVec l) := fun hk => by
    rw [Bool.and_eq_true] at hk
    have e := (div_in hk.1).2.1
    exact ⟨by rw [e]; rfl, e, (div_len hk.1).2, (div_smooth hk.1).1⟩
  obtain ⟨p1, q1, rfl, _⟩ := h1.len
  obtain ⟨p2, q2, rfl, _⟩ := h2.len
  clear hl h1 h2
  generalize hk : (divB l a && divB l b) = k at *
  go_enter Tryd.func35, Tryd.ntmps35
  go_wp2_with fail
  refine Calls.mono HO.out ?_
  rintro e w1 ⟨⟨rfl, g, ns, rfl, hF, hn⟩ | ⟨rfl, p, a', n', c', rfl⟩, hb1⟩
  · obtain ⟨e1, e2, e3, e4⟩ := HP.out (by simp)
    have hs : ns.length ≤ 1000 := by rw [← rays_len, hn]; omega
    have hv : allVec (rays ns) := by rw [hn]; exact e4
    have HD2 := Lib.hid (fun w2 (h : Below w1.heap.size w1 w2) => HDg.out w.heap.size g ns w2 (hF.below h) (belowTo hb1 h) hs hv)
    rw [hn] at HD2
    have HP2 := Lib.hid (fun B1 B2 gp w' (h : Below w.heap.size w w') (hX : DegBox w' B1 B2 l b) => HPr.out B1 B2 gp w' h (by simp) (fun i hi w2 h2 => H1.out B1 B2 i w2 (hX.below h2) (by omega) (by simp)))
    rw [e1] at HP2
    have hs1 := hb1.size
    clear HP HDg H1 HPr hF hn hs hv hk e1 e2 e3 e4
    go_wp2
    have hA : Below w1.heap.size w1 ((w1.alloc (.cells #[.pointer (some ⟨g, 0, none⟩), .slice p1 a.length q1] 60)).alloc (.cells #[.pointer (some ⟨g, 0, none⟩), .slice p2 b.length q2] 60)) := by go_grown
    have x0 : ((w1.alloc (.cells #[.pointer (some ⟨g, 0, none⟩), .slice p1 a.length q1] 60)).alloc (.cells #[.pointer (some ⟨g, 0, none⟩), .slice p2 b.length q2] 60)).cell? ⟨w1.heap.size, 0, none⟩ = some (.pointer (some ⟨g, 0, none⟩)) := by first | (go_cell; done) | (go_simp; done) | (simp; done)
    have x1 : ((w1.alloc (.cells #[.pointer (some ⟨g, 0, none⟩), .slice p1 a.length q1] 60)).alloc (.cells #[.pointer (some ⟨g, 0, none⟩), .slice p2 b.length q2] 60)).cell? ⟨w1.heap.size, 1, none⟩ = some (.slice p1 a.length q1) := by first | (go_cell; done) | (go_simp; done) | (simp; done)
    have y0 : ((w1.alloc (.cells #[.pointer (some ⟨g, 0, none⟩), .slice p1 a.length q1] 60)).alloc (.cells #[.pointer (some ⟨g, 0, none⟩), .slice p2 b.length q2] 60)).cell? ⟨w1.heap.size + 1, 0, none⟩ = some (.pointer (some ⟨g, 0, none⟩)) := by first | (go_cell; done) | (go_simp; done) | (simp; done)
    have y1 : ((w1.alloc (.cells #[.pointer (some ⟨g, 0, none⟩), .slice p1 a.length q1] 60)).alloc (.cells #[.pointer (some ⟨g, 0, none⟩), .slice p2 b.length q2] 60)).cell? ⟨w1.heap.size + 1, 1, none⟩ = some (.slice p2 b.length q2) := by first | (go_cell; done) | (go_simp; done) | (simp; done)
    generalize ((w1.alloc (.cells #[.pointer (some ⟨g, 0, none⟩), .slice p1 a.length q1] 60)).alloc (.cells #[.pointer (some ⟨g, 0, none⟩), .slice p2 b.length q2] 60)) = W2 at *
    have hB2 := belowTo hb1 hA
    have s0 := cell_lt x0
    refine wp_region_any (by kernel_rfl) ?_
    try (change wpAny _ _ _ _ _ _ _ (World.drew _))
    refine wpAny_ready (rs := [0, 1]) (by kernel_rfl) (by simp) (AllReady.cons rfl (fun K hK => ?_) (AllReady.cons rfl (fun K hK => ?_) (AllReady.nil)))
    focus
      go_simp
      refine hK _ _ ?_
      clear hK K
      refine wpAny_ready (rs := [1]) (by kernel_rfl) (by simp) (AllReady.cons rfl (fun K hK => ?_) (AllReady.nil))
      go_simp
      refine hK _ _ ?_
      clear hK K
      refine wpAny_ready (rs := [2]) (by kernel_rfl) (by simp) (AllReady.cons rfl (fun K hK => ?_) (AllReady.nil))
      go_simp
      (refine Calls.mono (HD2.out _ (by go_grown)) ?_; rintro e w2 ⟨B1, B2, rfl, hX, hbX⟩; replace hbX := undrew hbX; replace x0 := (hbX.cell (p := ⟨w1.heap.size, 0, none⟩) s0).trans x0; replace x1 := (hbX.cell (p := ⟨w1.heap.size, 1, none⟩) s0).trans x1; replace hB2 := belowTo hB2 hbX; clear hbX y0 y1)
      refine hK _ _ ?_
      clear hK K
      refine wpAny_ready (rs := [3]) (by kernel_rfl) (by simp) (AllReady.cons rfl (fun K hK => ?_) (AllReady.nil))
      go_simp
      (refine Calls.mono (HP2.out _ _ _ _ hB2 hX) ?_; rintro e w3 ⟨rfl, hb3⟩; replace hB2 := belowTo hB2 hb3; clear hb3)
      refine hK _ _ ?_
      clear hK K
      refine wpAny_seq 4 rfl (by kernel_rfl) ?_
      simp only [List.drop_succ_cons, List.drop_zero]
    rotate_left 1
    focus
      go_simp
      refine hK _ _ ?_
      clear hK K
      refine wpAny_ready (rs := [0, 2]) (by kernel_rfl) (by simp) (AllReady.cons rfl (fun K hK => ?_) (AllReady.cons rfl (fun K hK => ?_) (AllReady.nil)))
      focus
        go_simp
        refine hK _ _ ?_
        clear hK K
        refine wpAny_ready (rs := [2]) (by kernel_rfl) (by simp) (AllReady.cons rfl (fun K hK => ?_) (AllReady.nil))
        go_simp
        (refine Calls.mono (HD2.out _ (by go_grown)) ?_; rintro e w2 ⟨B1, B2, rfl, hX, hbX⟩; replace hbX := undrew hbX; replace x0 := (hbX.cell (p := ⟨w1.heap.size, 0, none⟩) s0).trans x0; replace x1 := (hbX.cell (p := ⟨w1.heap.size, 1, none⟩) s0).trans x1; replace hB2 := belowTo hB2 hbX; clear hbX y0 y1)
        refine hK _ _ ?_
        clear hK K
        refine wpAny_ready (rs := [3]) (by kernel_rfl) (by simp) (AllReady.cons rfl (fun K hK => ?_) (AllReady.nil))
        go_simp
        (refine Calls.mono (HP2.out _ _ _ _ hB2 hX) ?_; rintro e w3 ⟨rfl, hb3⟩; replace hB2 := belowTo hB2 hb3; clear hb3)
        refine hK _ _ ?_
        clear hK K
        refine wpAny_seq 4 rfl (by kernel_rfl) ?_
        simp only [List.drop_succ_cons, List.drop_zero]
      rotate_left 1
      focus
        go_simp
        (refine Calls.mono (HD2.out _ (by go_grown)) ?_; rintro e w2 ⟨B1, B2, rfl, hX, hbX⟩; replace hbX := undrew hbX; replace x0 := (hbX.cell (p := ⟨w1.heap.size, 0, none⟩) s0).trans x0; replace x1 := (hbX.cell (p := ⟨w1.heap.size, 1, none⟩) s0).trans x1; replace hB2 := belowTo hB2 hbX; clear hbX y0 y1)
        refine hK _ _ ?_
        clear hK K
        refine wpAny_ready (rs := [0]) (by kernel_rfl) (by simp) (AllReady.cons rfl (fun K hK => ?_) (AllReady.nil))
        go_simp
        refine hK _ _ ?_
        clear hK K
        refine wpAny_ready (rs := [3]) (by kernel_rfl) (by simp) (AllReady.cons rfl (fun K hK => ?_) (AllReady.nil))
        go_simp
        (refine Calls.mono (HP2.out _ _ _ _ hB2 hX) ?_; rintro e w3 ⟨rfl, hb3⟩; replace hB2 := belowTo hB2 hb3; clear hb3)
        refine hK _ _ ?_
        clear hK K
        refine wpAny_seq 4 rfl (by kernel_rfl) ?_
        simp only [List.drop_succ_cons, List.drop_zero]
    all_goals
      clear x0 x1
      go_wp2
      go_returns
      exact ⟨rfl, hB2⟩
  · have hs1 := hb1.size
    clear hk HP HDg H1 HPr
    go_wp2
    go_returns
    exact ⟨rfl, by go_grown⟩
end Go.Proofs.YtcieihbknfeddabDoor
