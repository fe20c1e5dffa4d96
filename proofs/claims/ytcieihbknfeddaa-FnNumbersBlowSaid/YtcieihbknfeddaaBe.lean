import Derived.Test.YtcieihbknfeddaaB6
import Derived.Test.YtcieihbknfeddaaB8
import Derived.Test.YtcieihbknfeddaaB3
import Derived.Deep.QuietTactic
import Derived.BigQuiet
import Derived.Test.YtcieihbknfeddaaB9
import Derived.Test.YtcieihbknfeddaaB7
import Derived.BigRegion
/- Divisors: the mathematics. -/
namespace Go.Proofs.Ytcieihbknfeddaa
open Go.RowKit

theorem mul_le {a b A B : Int} (ha : -A ≤ a ∧ a ≤ A) (hb : -B ≤ b ∧ b ≤ B) : -(A * B) ≤ a * b ∧ a * b ≤ A * B := by
  have h : (a * b).natAbs ≤ (A * B).natAbs := by
    rw [Int.natAbs_mul, Int.natAbs_mul]
    exact Nat.mul_le_mul (by omega) (by omega)
  have h2 : 0 ≤ A * B := Int.mul_nonneg (by omega) (by omega)
  omega

/-! lists of numbers -/
def gz (d : List Int) (j : Nat) : Int := d[j]?.getD 0
theorem gz_out {d : List Int} {j : Nat} (h : d.length ≤ j) : gz d j = 0 := by simp [gz, h]
theorem gz_mem {d : List Int} {j : Nat} (h : j < d.length) : gz d j ∈ d := by
  unfold gz
  rw [List.getElem?_eq_getElem h]
  exact List.getElem_mem _
theorem gz_tab {n k : Nat} (f : Nat → Int) (h : k < n) : gz ((List.range n).map f) k = f k := by simp [gz, h]
theorem tab_snoc (f : Nat → Int) (k : Nat) : (List.range (k + 1)).map f = (List.range k).map f ++ [f k] := by simp [List.range_succ]
theorem tab_len (f : Nat → Int) (n : Nat) : ((List.range n).map f).length = n := by simp
theorem gz_ext {a b : List Int} (hl : a.length = b.length) (h : ∀ j, j < a.length → gz a j = gz b j) : a = b := by
  refine List.ext_getElem hl (fun i h1 h2 => ?_)
  have := h i h1
  unfold gz at this
  rwa [List.getElem?_eq_getElem h1, List.getElem?_eq_getElem h2] at this
theorem tab_gz (d : List Int) : (List.range d.length).map (gz d) = d := by
  refine gz_ext (by simp) (fun j hj => ?_)
  rw [tab_len] at hj
  rw [gz_tab _ hj]
/-- all numbers are at most M in size -/
def bnd (M : Int) (d : List Int) : Prop := ∀ j, -M ≤ gz d j ∧ gz d j ≤ M

/-! coefficients -/
def cfB (n : Int) : Bool := decide (-100 ≤ n) && decide (n ≤ 100)
theorem cfB_in {n : Int} (h : cfB n = true) : -100 ≤ n ∧ n ≤ 100 := by simpa [cfB] using h
theorem cfB_out {n : Int} (h : cfB n = false) : n < -100 ∨ 100 < n := by
  simp [cfB] at h
  omega
def cfsB (d : List Int) : Bool := d.all cfB
theorem cfs_bad {d : List Int} {k : Nat} (hk : k < d.length) (h : cfB (gz d k) = false) : cfsB d = false := by
  unfold cfsB
  rw [List.all_eq_false]
  exact ⟨_, gz_mem hk, by rw [h]; decide⟩
theorem cfs_good {d : List Int} (h : ∀ k, k < d.length → cfB (gz d k) = true) : cfsB d = true := by
  unfold cfsB
  rw [List.all_eq_true]
  intro x hx
  obtain ⟨i, hi, rfl⟩ := List.mem_iff_getElem.1 hx
  have := h i hi
  unfold gz at this
  rwa [List.getElem?_eq_getElem hi] at this
theorem cfs_bnd {d : List Int} (h : cfsB d = true) : bnd 100 d := by
  intro j
  by_cases hj : j < d.length
  · exact cfB_in (List.all_eq_true.1 h _ (gz_mem hj))
  · rw [gz_out (by omega)]
    omega
theorem bnd_mono {M M' : Int} {d : List Int} (h : bnd M d) (hM : M ≤ M') : bnd M' d := fun j => by have := h j; omega
def divB (l : List V2) (d : List Int) : Bool := smoothB l && (decide (d.length = l.length) && cfsB d)
theorem div_in {l : List V2} {d : List Int} (h : divB l d = true) : smoothB l = true ∧ d.length = l.length ∧ cfsB d = true := by simpa [divB] using h
theorem div_bnd {l : List V2} {d : List Int} (h : divB l d = true) : bnd 100 d := cfs_bnd (div_in h).2.2
theorem smooth_len {l : List V2} (h : smoothB l = true) : 3 ≤ l.length ∧ l.length ≤ 20 := fan_len (smooth_in h).1
theorem num_bnd {l : List V2} (h : Smooth l) (i : Nat) : -2000000 ≤ numZ l i ∧ numZ l i ≤ 2000000 := by
  unfold numZ detV detZ
  have h1 := szs (h.1 (i + l.length - 1))
  have h2 := szs (h.1 (i + 1))
  have m1 := mul_bd h1.1 h2.2
  have m2 := mul_bd h1.2 h2.1
  omega

/-! sums, multiples -/
def sumL (a : List Int) (n : Int) (b : List Int) : List Int := (List.range a.length).map (fun i => gz a i + n * gz b i)
theorem sumL_len (a : List Int) (n : Int) (b : List Int) : (sumL a n b).length = a.length := by simp [sumL]
theorem gz_sumL {a b : List Int} {n : Int} {k : Nat} (h : k < a.length) : gz (sumL a n b) k = gz a k + n * gz b k := gz_tab _ h
def timesL (a : List Int) (n : Int) : List Int := (List.range a.length).map (fun i => gz a i * n)
theorem timesL_len (a : List Int) (n : Int) : (timesL a n).length = a.length := by simp [timesL]
theorem gz_timesL {a : List Int} {n : Int} {k : Nat} (h : k < a.length) : gz (timesL a n) k = gz a k * n := gz_tab _ h
theorem times_is (a : List Int) (n : Int) : sumL (List.replicate a.length 0) n a = timesL a n := by
  unfold sumL timesL
  rw [List.length_replicate]
  refine List.map_congr_left (fun i hi => ?_)
  have hi := List.mem_range.1 hi
  simp [gz, hi, Int.mul_comm]
theorem minus_is {a b : List Int} (h : a.length = b.length) : sumL a 1 (timesL b (-1)) = sumL a (-1) b := by
  unfold sumL
  refine List.map_congr_left (fun i hi => ?_)
  have hi := List.mem_range.1 hi
  rw [gz_timesL (by omega)]
  omega
theorem sumL_bnd {a b : List Int} {n A B C : Int} (ha : bnd A a) (hb : ∀ j, -B ≤ n * gz b j ∧ n * gz b j ≤ B) (hC : A + B ≤ C) (hC0 : 0 ≤ C) : bnd C (sumL a n b) := by
  intro j
  by_cases hj : j < a.length
  · rw [gz_sumL hj]
    have := ha j
    have := hb j
    omega
  · rw [gz_out (by rw [sumL_len]; omega)]
    omega

/-! degrees, products -/
def degZ (l : List V2) (d : List Int) (i : Nat) : Int := gz d ((i + l.length - 1) % l.length) + gz d i * numZ l i + gz d ((i + 1) % l.length)
def degsZ (l : List V2) (d : List Int) : List Int := (List.range l.length).map (degZ l d)
theorem degs_len (l : List V2) (d : List Int) : (degsZ l d).length = l.length := by simp [degsZ]
theorem deg_bnd {l : List V2} {d : List Int} (hS : Smooth l) (hd : bnd 101 d) (i : Nat) : -202000202 ≤ degZ l d i ∧ degZ l d i ≤ 202000202 := by
  unfold degZ
  have h1 := hd ((i + l.length - 1) % l.length)
  have h2 := hd ((i + 1) % l.length)
  have h3 := mul_le (hd i) (num_bnd hS i)
  omega
theorem deg_mul_bnd {l : List V2} {d : List Int} (hS : Smooth l) (hd : bnd 101 d) (i : Nat) : -202000000 ≤ gz d i * numZ l i ∧ gz d i * numZ l i ≤ 202000000 := by
  have h3 := mul_le (hd i) (num_bnd hS i)
  omega
theorem deg_sum {l : List V2} {a b : List Int} {n : Int} {i : Nat} (ha : a.length = l.length) (hi : i < l.length) : degZ l (sumL a n b) i = degZ l a i + n * degZ l b i := by
  have h0 : 0 < l.length := by omega
  unfold degZ
  have p1 : (i + l.length - 1) % l.length < a.length := by rw [ha]; exact Nat.mod_lt _ h0
  have p2 : (i + 1) % l.length < a.length := by rw [ha]; exact Nat.mod_lt _ h0
  rw [gz_sumL (b := b) (n := n) p1, gz_sumL (b := b) (n := n) p2, gz_sumL (b := b) (n := n) (show i < a.length by omega), Int.add_mul, Int.mul_assoc, Int.mul_add, Int.mul_add]
  omega
def sumZ (f : Nat → Int) : Nat → Int
  | 0 => 0
  | k + 1 => sumZ f k + f k
theorem sumZ_congr {f g : Nat → Int} {n : Nat} (h : ∀ i, i < n → f i = g i) : sumZ f n = sumZ g n := by
  induction n with
  | zero => rfl
  | succ n ih =>
    unfold sumZ
    rw [ih (fun i hi => h i (by omega)), h n (by omega)]
theorem sumZ_bnd {f : Nat → Int} {M : Int} (h : ∀ i, -M ≤ f i ∧ f i ≤ M) (k : Nat) : -((k : Int) * M) ≤ sumZ f k ∧ sumZ f k ≤ (k : Int) * M := by
  induction k with
  | zero => simp [sumZ]
  | succ k ih =>
    have := h k
    unfold sumZ
    rw [show ((k + 1 : Nat) : Int) * M = (k : Int) * M + M by rw [Int.natCast_add, Int.add_mul]; simp]
    omega
theorem sumZ_20 {f : Nat → Int} (h : ∀ i, -40400040400 ≤ f i ∧ f i ≤ 40400040400) {k : Nat} (hk : k ≤ 20) : -808000808000 ≤ sumZ f k ∧ sumZ f k ≤ 808000808000 := by
  have h1 := sumZ_bnd h k
  omega
/-- the product of coefficients with a function of the rays -/
def dotD (d : List Int) (q : Nat → Int) (n : Nat) : Int := sumZ (fun i => gz d i * q i) n
def prodZ (l : List V2) (a b : List Int) : Int := dotD a (degZ l b) l.length
theorem dot_term {d : List Int} {q : Nat → Int} (hd : bnd 100 d) (hq : ∀ i, -404000404 ≤ q i ∧ q i ≤ 404000404) (i : Nat) : -40400040400 ≤ gz d i * q i ∧ gz d i * q i ≤ 40400040400 := by
  have := mul_le (hd i) (hq i)
  omega
theorem dot_bnd {d : List Int} {q : Nat → Int} (hd : bnd 100 d) (hq : ∀ i, -404000404 ≤ q i ∧ q i ≤ 404000404) {k : Nat} (hk : k ≤ 20) : -808000808000 ≤ dotD d q k ∧ dotD d q k ≤ 808000808000 :=
  sumZ_20 (dot_term hd hq) hk
theorem dot_succ (d : List Int) (q : Nat → Int) (k : Nat) : dotD d q (k + 1) = dotD d q k + gz d k * q k := rfl
theorem dot_congr {d : List Int} {q r : Nat → Int} {n : Nat} (h : ∀ i, i < n → q i = r i) : dotD d q n = dotD d r n := sumZ_congr (fun i hi => by rw [h i hi])
def canL (n : Nat) : List Int := List.replicate n (-1)
theorem can_gz {n k : Nat} (h : k < n) : gz (canL n) k = -1 := by simp [gz, canL, h]
theorem can_bnd (n : Nat) : bnd 1 (canL n) := by
  intro j
  by_cases hj : j < n
  · rw [can_gz hj]; omega
  · rw [gz_out (by simp [canL]; omega)]; omega
/-- 1 and half of the product with the sum of the divisor and a multiple of the canonical one -/
def eulZ (l : List V2) (d : List Int) (s : Int) : Int := 1 + (dotD d (fun i => degZ l d i + s * degZ l (canL l.length) i) l.length).tdiv 2
theorem eul_is {l : List V2} {d : List Int} (s : Int) (hd : d.length = l.length) : 1 + (prodZ l d (sumL d s (canL l.length))).tdiv 2 = eulZ l d s := by
  unfold eulZ prodZ
  rw [dot_congr (fun i hi => deg_sum hd hi)]

/-! divisors of vectors -/
def trivL (l : List V2) (m : V2) : List Int := (List.range l.length).map (fun i => dotZ m.1 m.2 (cyc l i).1 (cyc l i).2)
theorem trivL_len (l : List V2) (m : V2) : (trivL l m).length = l.length := by simp [trivL]
theorem gz_trivL {l : List V2} {m : V2} {k : Nat} (h : k < l.length) : gz (trivL l m) k = dotZ m.1 m.2 (cyc l k).1 (cyc l k).2 := gz_tab _ h
theorem dot_flip (a b c d : Int) : dotZ a b c d = dotZ c d a b := by unfold dotZ; rw [Int.mul_comm a, Int.mul_comm b]
/-- the vector whose products with the first two rays are the first two numbers -/
def vecZ (l : List V2) (d : List Int) : V2 := (gz d 0 * (cyc l 1).2 - gz d 1 * (cyc l 0).2, gz d 1 * (cyc l 0).1 - gz d 0 * (cyc l 1).1)
theorem vec_bnd {l : List V2} {d : List Int} (hv : allVec l) (hd : bnd 200 d) : (-400000 ≤ (vecZ l d).1 ∧ (vecZ l d).1 ≤ 400000) ∧ -400000 ≤ (vecZ l d).2 ∧ (vecZ l d).2 ≤ 400000 := by
  unfold vecZ
  have h0 := szs (hv 0)
  have h1 := szs (hv 1)
  have m1 := mul_le (hd 0) h1.2
  have m2 := mul_le (hd 1) h0.2
  have m3 := mul_le (hd 1) h0.1
  have m4 := mul_le (hd 0) h1.1
  dsimp only
  omega
theorem dot_big {a b c d : Int} (h1 : (-400000 ≤ a ∧ a ≤ 400000) ∧ -400000 ≤ b ∧ b ≤ 400000) (h2 : vecB c d = true) : (-400000000 ≤ a * c ∧ a * c ≤ 400000000) ∧ -400000000 ≤ b * d ∧ b * d ≤ 400000000 := by
  obtain ⟨h3, h4⟩ := szs h2
  have m1 := mul_le h1.1 h3
  have m2 := mul_le h1.2 h4
  omega
theorem triv_bnd {l : List V2} {m : V2} (hv : allVec l) (h : (-400000 ≤ m.1 ∧ m.1 ≤ 400000) ∧ -400000 ≤ m.2 ∧ m.2 ≤ 400000) : bnd 800000000 (trivL l m) := by
  intro j
  by_cases hj : j < l.length
  · rw [gz_trivL hj]
    have := dot_big h (hv j)
    unfold dotZ
    omega
  · rw [gz_out (by rw [trivL_len]; omega)]
    omega
def plainL (l : List V2) (d : List Int) : List Int := sumL d (-1) (trivL l (vecZ l d))
theorem plain_len (l : List V2) (d : List Int) : (plainL l d).length = d.length := sumL_len _ _ _
theorem gz_plain {l : List V2} {d : List Int} {k : Nat} (hd : d.length = l.length) (h : k < l.length) : gz (plainL l d) k = gz d k - dotZ (vecZ l d).1 (vecZ l d).2 (cyc l k).1 (cyc l k).2 := by
  unfold plainL
  rw [gz_sumL (by omega), gz_trivL h]
  omega
/-- the numbers of two functions are the same below n -/
def sameB (n : Nat) (X Y : Nat → Int) : Bool := (List.range n).all (fun j => X j == Y j)
theorem same_true {n : Nat} {X Y : Nat → Int} (h : ∀ j, j < n → X j = Y j) : sameB n X Y = true := List.all_eq_true.2 (fun j hj => by simpa using h j (List.mem_range.1 hj))
theorem same_false {n k : Nat} {X Y : Nat → Int} (hk : k < n) (h : X k ≠ Y k) : sameB n X Y = false := by
  unfold sameB
  rw [List.all_eq_false]
  exact ⟨k, List.mem_range.2 hk, by simpa using h⟩
theorem same_iff {n : Nat} {X Y X' Y' : Nat → Int} (h : ∀ j, j < n → (X j = Y j ↔ X' j = Y' j)) : sameB n X Y = sameB n X' Y' := by
  rw [Bool.eq_iff_iff]
  unfold sameB
  rw [List.all_eq_true, List.all_eq_true]
  constructor
  · intro H j hj
    have := H j hj
    simp only [beq_iff_eq] at this ⊢
    exact (h j (List.mem_range.1 hj)).1 this
  · intro H j hj
    have := H j hj
    simp only [beq_iff_eq] at this ⊢
    exact (h j (List.mem_range.1 hj)).2 this
def trivB (l : List V2) (d : List Int) : Bool := sameB l.length (gz d) (gz (trivL l (vecZ l d)))
theorem equiv_is {l : List V2} {a b : List Int} (h2 : 2 ≤ l.length) (ha : a.length = l.length) (hb : b.length = l.length) : sameB l.length (gz (plainL l a)) (gz (plainL l b)) = trivB l (sumL a (-1) b) := by
  unfold trivB
  refine same_iff (fun j hj => ?_)
  rw [gz_plain ha hj, gz_plain hb hj, gz_sumL (by omega), gz_trivL hj]
  have e0 : gz (sumL a (-1) b) 0 = gz a 0 + -1 * gz b 0 := gz_sumL (by omega)
  have e1 : gz (sumL a (-1) b) 1 = gz a 1 + -1 * gz b 1 := gz_sumL (by omega)
  unfold vecZ dotZ
  dsimp only
  rw [e0, e1]
  constructor <;> intro h <;> grind
end Go.Proofs.Ytcieihbknfeddaa

/- Divisors: coefficients checked; the program. -/
namespace Go.Proofs.Ytcieihbknfeddaa
open Go.RowKit

theorem ReadsInts.open {w : World} {v : Value} {d : List Int} (h : ReadsInts w v d) (h0 : 0 < d.length) : ∃ bb off c, v = .slice (some ⟨bb, off, none⟩) d.length c ∧ d.length ≤ 1152921504606846976 ∧ bb < w.heap.size ∧
    ∀ wr, Below w.heap.size w wr → ∀ j, j < d.length → wr.cell? ⟨bb, off + j, none⟩ = some (.int .i64 (gz d j)) := by
  obtain ⟨a, c, rfl, hm, hcell⟩ := h
  obtain ⟨bb, off, rfl, hb, hcs⟩ := hcell h0
  exact ⟨bb, off, c, rfl, hm, hb, fun wr hw j hj => (hw.cell (p := ⟨bb, off + j, none⟩) hb).trans (hcs j hj)⟩
theorem ReadsInts.len {w : World} {v : Value} {d : List Int} (h : ReadsInts w v d) : ∃ a c, v = .slice a d.length c ∧ d.length ≤ 1152921504606846976 := by
  obtain ⟨a, c, rfl, hm, _⟩ := h
  exact ⟨a, c, rfl, hm⟩

/-! a divisor in memory: a fan, and coefficients -/
/-- a list of numbers fits a fan -/
def fitB (n : Nat) (d : List Int) : Bool := decide (d.length = n) && cfsB d
end Go.Proofs.Ytcieihbknfeddaa

/- Divisors: degrees: the program's function values. -/
namespace Go.Proofs.Ytcieihbknfeddaa
open Go.RowKit

theorem aheadD (k n : Nat) (hn : 0 < n) : Int.tmod ((k : Int) + (n : Int) - 1) (n : Int) = (((k + n - 1) % n : Nat) : Int) := by
  rw [show ((k : Int) + (n : Int) - 1) = ((k + n - 1 : Nat) : Int) by omega, Int.ofNat_tmod]
theorem behindD (k n : Nat) : Int.tmod ((k : Int) + 1) (n : Int) = (((k + 1) % n : Nat) : Int) := by
  rw [show ((k : Int) + 1) = ((k + 1 : Nat) : Int) by simp, Int.ofNat_tmod]
/-- the two boxes that a degree is bound to: a divisor, and the numbers of its fan -/
def DegBox (w : World) (B1 B2 : Nat) (l : List V2) (d : List Int) : Prop :=
  ∃ g u v, w.cell? ⟨B1, 0, none⟩ = some (.pointer (some ⟨g, 0, none⟩)) ∧ w.cell? ⟨B1, 1, none⟩ = some u ∧ w.cell? ⟨B2, 0, none⟩ = some v ∧ w.cell? ⟨g, 1, none⟩ = some (.int .i64 (l.length : Int)) ∧ ReadsInts w u d ∧ ReadsInts w v (numsZ l)
theorem DegBox.below {w w' : World} {B1 B2 : Nat} {l : List V2} {d : List Int} (h : DegBox w B1 B2 l d) (hb : Below w.heap.size w w') : DegBox w' B1 B2 l d := by
  obtain ⟨g, u, v, c0, c1, c2, c3, hu, hv⟩ := h
  exact ⟨g, u, v, (hb.cell (p := ⟨B1, 0, none⟩) (cell_lt c0)).trans c0, (hb.cell (p := ⟨B1, 1, none⟩) (cell_lt c1)).trans c1, (hb.cell (p := ⟨B2, 0, none⟩) (cell_lt c2)).trans c2, (hb.cell (p := ⟨g, 1, none⟩) (cell_lt c3)).trans c3, hu.below hb, hv.below hb⟩
theorem gz_nums {l : List V2} {i : Nat} (h : i < l.length) : gz (numsZ l) i = numZ l i := gz_tab _ h
end Go.Proofs.Ytcieihbknfeddaa

/- Divisors: degrees in a list; products; the program. -/
namespace Go.Proofs.Ytcieihbknfeddaa
open Go.RowKit

theorem degs_snoc (l : List V2) (d : List Int) (k : Nat) : (List.range (k + 1)).map (degZ l d) = (List.range k).map (degZ l d) ++ [degZ l d k] := tab_snoc _ _
end Go.Proofs.Ytcieihbknfeddaa

/- Divisors: made, told; the program. -/
namespace Go.Proofs.Ytcieihbknfeddaa
open Go.RowKit

/-- what 'made' hands back of a divisor -/
def mkDiv (b : Bool) (g : Nat) (v : Value) : Value := .agg #[.pointer (if b then some ⟨g, 0, none⟩ else none), if b then v else .slice none 0 0]
end Go.Proofs.Ytcieihbknfeddaa

/- Divisors: what the functions say, in plain words. -/
namespace Go.Proofs.Ytcieihbknfeddaa
open Go.RowKit

def addDB (l : List V2) (a b : List Int) : Bool := divB l a && (divB l b && divB l (sumL a 1 b))
def timDB (l : List V2) (a : List Int) (n : Int) : Bool := divB l a && (cfB n && divB l (timesL a n))
def ofDB (l : List V2) (x y : Int) : Bool := smoothB l && (vecB x y && divB l (trivL l (x, y)))
def plnDB (l : List V2) (d : List Int) : Bool := divB l d && divB l (plainL l d)
def nefL (d : List Int) : Bool := d.all (fun n => decide (0 ≤ n))
def ampL (d : List Int) : Bool := d.all (fun n => decide (0 < n))
def nefDB (l : List V2) (d : List Int) : Bool := divB l d && nefL (degsZ l d)
def ampDB (l : List V2) (d : List Int) : Bool := divB l d && ampL (degsZ l d)
def eqvDB (l : List V2) (a b : List Int) : Bool := divB l a && (divB l b && trivB l (sumL a (-1) b))
theorem of_len {l : List V2} {x y : Int} (h : ofDB l x y = true) : l.length ≤ 20 := by
  unfold ofDB at h
  rw [Bool.and_eq_true] at h
  exact (smooth_len h.1).2
theorem div_len {l : List V2} {d : List Int} (h : divB l d = true) : 3 ≤ l.length ∧ l.length ≤ 20 := smooth_len (div_in h).1
theorem div_smooth {l : List V2} {d : List Int} (h : divB l d = true) : Smooth l := smooth_all (div_in h).1
theorem div_fit {l : List V2} {a d : List Int} (h : divB l a = true) : divB l d = (decide (d.length = l.length) && cfsB d) := by
  unfold divB
  rw [(div_in h).1]
  rfl
theorem smooth_fit {l : List V2} {d : List Int} (h : smoothB l = true) : divB l d = (decide (d.length = l.length) && cfsB d) := by
  unfold divB
  rw [h]
  rfl
theorem bnd_big {M : Int} {d : List Int} (h : bnd M d) (hM : M ≤ 1000000000) : bnd 1000000000 d := bnd_mono h hM
end Go.Proofs.Ytcieihbknfeddaa

/- Divisors: the program's functions that make no divisor. -/
namespace Go.Proofs.Ytcieihbknfeddaa
open Go.RowKit

end Go.Proofs.Ytcieihbknfeddaa
