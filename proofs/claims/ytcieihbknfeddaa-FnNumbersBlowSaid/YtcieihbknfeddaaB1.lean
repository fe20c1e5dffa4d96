import Derived.Test.YtcieihbknfeddaaAs
import Derived.WalkSpells
import Derived.WalkLawsBesides
import Derived.Deep.QuietTactic
import Derived.BigQuiet
import Derived.Lib.Hide
/- Small words of ours: what a call keeps (Below) as the walk uses it; the one package-level variable that errors.As reads. -/
namespace Go.Proofs.Ytcieihbknfeddaa
open Go.RowKit

theorem bcell {W w1 : World} (hb : Below W.heap.size W w1) : (∀ b o, b < W.heap.size → w1.cell? ⟨b, o, none⟩ = W.cell? ⟨b, o, none⟩) ∧ (∀ b o, b < W.heap.size → w1.frozen? ⟨b, o, none⟩ = W.frozen? ⟨b, o, none⟩) :=
  ⟨fun b o h => hb.cell (p := ⟨b, o, none⟩) h, fun b o h => hb.frozen (p := ⟨b, o, none⟩) h⟩

theorem bsize {W w1 : World} (hb : Below W.heap.size W w1) : ∀ n, n < W.heap.size → n < w1.heap.size := fun _ h => Nat.lt_of_lt_of_le h hb.size

theorem bcs {W w1 : World} (hb : Below W.heap.size W w1) : (∀ b o, b < W.heap.size → w1.cell? ⟨b, o, none⟩ = W.cell? ⟨b, o, none⟩) ∧ (∀ n, n < W.heap.size → n < w1.heap.size) := ⟨(bcell hb).1, bsize hb⟩

theorem belowTo {a W w1 : World} (h : Below a.heap.size a W) (k : Below W.heap.size W w1) : Below a.heap.size a w1 := h.trans (k.mono h.size)

/-! numbers -/
def szB (a : Int) : Bool := decide (-1000 ≤ a) && decide (a ≤ 1000)
def vecB (x y : Int) : Bool := szB x && szB y
theorem szB_true {a : Int} (h : szB a = true) : -1000 ≤ a ∧ a ≤ 1000 := by simpa [szB] using h
theorem szB_false {a : Int} (h : szB a = false) : a < -1000 ∨ 1000 < a := by
  unfold szB at h
  by_cases h1 : -1000 ≤ a <;> by_cases h2 : a ≤ 1000 <;> simp [h1, h2] at h <;> omega
theorem szB_mk {a : Int} (h1 : -1000 ≤ a) (h2 : a ≤ 1000) : szB a = true := by simp [szB, h1, h2]
theorem szB_lo {a : Int} (h1 : a < -1000) : szB a = false := by simp [szB]; omega
theorem szB_hi {a : Int} (h1 : 1000 < a) : szB a = false := by simp [szB]; omega
theorem vecB_true {x y : Int} (h : vecB x y = true) : szB x = true ∧ szB y = true := by simpa [vecB] using h
theorem vecB_false {x y : Int} (h : vecB x y = false) : szB x = false ∨ (szB x = true ∧ szB y = false) := by
  unfold vecB at h
  cases hx : szB x <;> simp [hx] at h ⊢
  exact h
theorem ret_bool {a b : Bool} (h : a = b) : Ending.returned (.bool a) = .returned (.bool b) := by rw [h]
end Go.Proofs.Ytcieihbknfeddaa

/- Plain mathematics on whole numbers for chapter 1: no walk. -/
namespace Go.Proofs.Ytcieihbknfeddaa
open Go.RowKit

/-- x where b holds, else 0 -/
def gate (b : Bool) (x : Int) : Int := if b then x else 0
theorem gate_true (x : Int) : gate true x = x := rfl
theorem gate_false (x : Int) : gate false x = 0 := rfl
theorem gate_bd {b : Bool} {x lo hi : Int} (h : b = true → lo ≤ x ∧ x ≤ hi) (h0 : lo ≤ 0) (h1 : 0 ≤ hi) : lo ≤ gate b x ∧ gate b x ≤ hi := by
  cases b
  · exact ⟨h0, h1⟩
  · exact h rfl

theorem mul_bd {a b : Int} (ha : -1000 ≤ a ∧ a ≤ 1000) (hb : -1000 ≤ b ∧ b ≤ 1000) : -1000000 ≤ a * b ∧ a * b ≤ 1000000 := by
  have h : (a * b).natAbs ≤ 1000000 := by
    rw [Int.natAbs_mul]
    have := Nat.mul_le_mul (show a.natAbs ≤ 1000 by omega) (show b.natAbs ≤ 1000 by omega)
    omega
  omega
theorem szs {x y : Int} (h : vecB x y = true) : (-1000 ≤ x ∧ x ≤ 1000) ∧ (-1000 ≤ y ∧ y ≤ 1000) :=
  ⟨szB_true (vecB_true h).1, szB_true (vecB_true h).2⟩

def detZ (x1 y1 x2 y2 : Int) : Int := x1 * y2 - y1 * x2
def dotZ (x1 y1 x2 y2 : Int) : Int := x1 * x2 + y1 * y2
def addOk (x1 y1 x2 y2 : Int) : Bool := vecB x1 y1 && vecB x2 y2 && vecB (x1 + x2) (y1 + y2)
def timesOk (x y n : Int) : Bool := vecB x y && szB n && vecB (x * n) (y * n)
def twoOk (x1 y1 x2 y2 : Int) : Bool := vecB x1 y1 && vecB x2 y2
end Go.Proofs.Ytcieihbknfeddaa

/- The greatest common divisor, in plain numbers. -/
namespace Go.Proofs.Ytcieihbknfeddaa
open Go.RowKit
def gcdZ (a b : Int) : Int := (Nat.gcd a.natAbs b.natAbs : Nat)
theorem gcdZ_step (x y : Int) : gcdZ y (x.tmod y) = gcdZ x y := by
  unfold gcdZ
  rw [Int.natAbs_tmod, Nat.gcd_comm x.natAbs y.natAbs]
  conv => rhs; rw [Nat.gcd_rec]
  rw [Nat.gcd_comm]
theorem gcdZ_zero (x : Int) : gcdZ x 0 = max x (-x) := by
  unfold gcdZ
  simp
  omega
theorem gcdZ_nonneg (x y : Int) : 0 ≤ gcdZ x y := by unfold gcdZ; omega
theorem gcdZ_pos {x y : Int} (h : ¬ (x = 0 ∧ y = 0)) : 1 ≤ gcdZ x y := by
  unfold gcdZ
  have : 0 < Nat.gcd x.natAbs y.natAbs := by
    rcases Nat.eq_zero_or_pos x.natAbs with hx | hx
    · rcases Nat.eq_zero_or_pos y.natAbs with hy | hy
      · exact absurd ⟨by omega, by omega⟩ h
      · exact Nat.gcd_pos_of_pos_right _ hy
    · exact Nat.gcd_pos_of_pos_left _ hx
  omega
theorem gcdZ_le {x y : Int} {n : Int} (hx : -n ≤ x ∧ x ≤ n) (hy : -n ≤ y ∧ y ≤ n) : gcdZ x y ≤ n := by
  unfold gcdZ
  rcases Nat.eq_zero_or_pos x.natAbs with h0 | h0
  · rw [h0, Nat.gcd_zero_left]; omega
  · have := Nat.le_of_dvd h0 (Nat.gcd_dvd_left x.natAbs y.natAbs); omega
theorem gcdZ_abs (x y : Int) : gcdZ (max x (-x)) (max y (-y)) = gcdZ x y := by
  unfold gcdZ
  rw [show (max x (-x)).natAbs = x.natAbs by omega, show (max y (-y)).natAbs = y.natAbs by omega]
theorem tmod_bd {x y n : Int} (hx : -n ≤ x ∧ x ≤ n) : -n ≤ x.tmod y ∧ x.tmod y ≤ n := by
  have h : (x.tmod y).natAbs ≤ x.natAbs := by
    rw [Int.natAbs_tmod]
    exact Nat.mod_le x.natAbs y.natAbs
  omega
theorem tmod_lt {x y : Int} (hy : y ≠ 0) : (x.tmod y).natAbs < y.natAbs := by
  rw [Int.natAbs_tmod]
  exact Nat.mod_lt _ (by omega)
theorem tdiv_bd {x n m : Int} (hx : -n ≤ x ∧ x ≤ n) : -n ≤ x.tdiv m ∧ x.tdiv m ≤ n := by
  have h : (x.tdiv m).natAbs ≤ x.natAbs := by
    rw [Int.natAbs_tdiv]
    exact Nat.div_le_self x.natAbs m.natAbs
  omega
def nzB (x y : Int) : Bool := !(x == 0 && y == 0)
def primOk (x y : Int) : Bool := vecB x y && nzB x y
theorem nz_ne {x y : Int} (h : x ≠ 0) : nzB x y = true := by simp [nzB, h]
theorem nz_ne2 {y : Int} (h : y ≠ 0) : nzB 0 y = true := by simp [nzB, h]
end Go.Proofs.Ytcieihbknfeddaa

/- Plain mathematics of matrices. -/
namespace Go.Proofs.Ytcieihbknfeddaa
open Go.RowKit

def detM (a b c d : Int) : Int := a * d - b * c
def detOk (d : Int) : Bool := d == 1 || d == -1
def sz4 (a b c d : Int) : Bool := szB a && (szB b && (szB c && szB d))
def matB (a b c d : Int) : Bool := sz4 a b c d && detOk (detM a b c d)
theorem det_in {d : Int} (h : detOk d = true) : ((d == 1) = true ∧ (d != 1) = false) ∨ ((d == 1) = false ∧ (d != 1) = true ∧ (d == -1) = true ∧ (d != -1) = false) := by
  by_cases h1 : d = 1
  · subst h1; exact .inl ⟨rfl, rfl⟩
  · have h2 : d = -1 := by simpa [detOk, h1] using h
    subst h2
    exact .inr ⟨rfl, rfl, rfl, rfl⟩
theorem det_out {d : Int} (h : detOk d = false) : (d == 1) = false ∧ (d != 1) = true ∧ (d == -1) = false ∧ (d != -1) = true := by
  have h' : ¬ d = 1 ∧ ¬ d = -1 := by simpa [detOk] using h
  simp [h'.1, h'.2, bne]
theorem sz4_in {a b c d : Int} (h : sz4 a b c d = true) : szB a = true ∧ szB b = true ∧ szB c = true ∧ szB d = true := by simpa [sz4] using h
theorem sz4_out {a b c d : Int} (h : sz4 a b c d = false) : szB a = false ∨ (szB a = true ∧ szB b = false) ∨ (szB a = true ∧ szB b = true ∧ szB c = false) ∨ (szB a = true ∧ szB b = true ∧ szB c = true ∧ szB d = false) := by
  cases ha : szB a <;> cases hb : szB b <;> cases hc : szB c <;> cases hd : szB d <;> simp [sz4, ha, hb, hc, hd] at h ⊢
theorem mat_in {a b c d : Int} (h : matB a b c d = true) : (szB a = true ∧ szB b = true ∧ szB c = true ∧ szB d = true) ∧ detOk (detM a b c d) = true := by
  have h' : sz4 a b c d = true ∧ detOk (detM a b c d) = true := by simpa [matB] using h
  exact ⟨sz4_in h'.1, h'.2⟩
theorem mat_out {a b c d : Int} (h : matB a b c d = false) : sz4 a b c d = false ∨ ((szB a = true ∧ szB b = true ∧ szB c = true ∧ szB d = true) ∧ detOk (detM a b c d) = false) := by
  cases hs : sz4 a b c d
  · exact .inl rfl
  · exact .inr ⟨sz4_in hs, by simpa [matB, hs] using h⟩
theorem det_bd {a b c d : Int} (ha : szB a = true) (hb : szB b = true) (hc : szB c = true) (hd : szB d = true) : (-1000000 ≤ a * d ∧ a * d ≤ 1000000) ∧ (-1000000 ≤ b * c ∧ b * c ≤ 1000000) :=
  ⟨mul_bd (szB_true ha) (szB_true hd), mul_bd (szB_true hb) (szB_true hc)⟩
theorem one_bd {d : Int} (h : detOk d = true) : -1 ≤ d ∧ d ≤ 1 := by
  rcases det_in h with ⟨h1, _⟩ | ⟨_, _, h1, _⟩ <;> simp at h1 <;> omega
theorem one_mul_bd {d x : Int} (h : detOk d = true) (hx : szB x = true) : -1000 ≤ d * x ∧ d * x ≤ 1000 := by
  have hx' := szB_true hx
  rcases det_in h with ⟨h1, _⟩ | ⟨_, _, h1, _⟩ <;> simp at h1 <;> subst h1 <;> omega
/-- where a matrix moves a vector -/
def moveX (a b x y : Int) : Int := a * x + b * y
def mvOk (a b c d x y : Int) : Bool := matB a b c d && vecB x y
def moveOk (a b c d x y : Int) : Bool := matB a b c d && (vecB x y && vecB (moveX a b x y) (moveX c d x y))
def mmOk (a b c d e f g h : Int) : Bool := matB a b c d && matB e f g h
def mtOk (a b c d e f g h : Int) : Bool := matB a b c d && (matB e f g h && matB (moveX a b e g) (moveX a b f h) (moveX c d e g) (moveX c d f h))
end Go.Proofs.Ytcieihbknfeddaa

/- Plain mathematics of fractions: no walk. -/
namespace Go.Proofs.Ytcieihbknfeddaa
open Go.RowKit
/-- n over q, rounded up -/
def upZ (n q : Int) : Int := (n + q - 1) / q
theorem up_ge {n q : Int} (hq : 0 < q) : n ≤ upZ n q * q := by
  have h := Int.lt_ediv_add_one_mul_self (n + q - 1) hq
  rw [Int.add_mul] at h
  unfold upZ
  omega
theorem up_lt {n q : Int} (hq : 0 < q) : upZ n q * q < n + q := by
  have h := Int.ediv_mul_le (n + q - 1) (b := q) (by omega)
  unfold upZ
  omega
theorem up_is {n q b r : Int} (h : n = b * q - r) (h0 : 0 ≤ r) (hr : r < q) : upZ n q = b := by
  have hq : 0 < q := by omega
  have h1 := up_ge (n := n) hq
  have h2 := up_lt (n := n) hq
  generalize upZ n q = u at h1 h2
  have h3 : 0 ≤ (u - b) * q + r := by rw [Int.sub_mul]; omega
  have h4 : (u - b) * q + r < q := by rw [Int.sub_mul]; omega
  apply Int.le_antisymm
  · by_cases hc : u ≤ b
    · exact hc
    · have : 1 * q ≤ (u - b) * q := Int.mul_le_mul_of_nonneg_right (by omega) (by omega)
      omega
  · by_cases hc : b ≤ u
    · exact hc
    · have : (u - b) * q ≤ (-1) * q := Int.mul_le_mul_of_nonneg_right (by omega) (by omega)
      omega
theorem up_two {n q : Int} (hq : 0 < q) (h : q < n) : 2 ≤ upZ n q := by
  have h1 := up_ge (n := n) hq
  by_cases hc : 2 ≤ upZ n q
  · exact hc
  · have : upZ n q * q ≤ 1 * q := Int.mul_le_mul_of_nonneg_right (by omega) (by omega)
    omega

/-- the fraction of n and q -/
def fracZ (n q : Int) : List Int := if _h : 0 < q then upZ n q :: fracZ q (upZ n q * q - n) else []
termination_by q.toNat
decreasing_by
  have := up_lt (n := n) _h
  omega
theorem frac_zero (n : Int) {q : Int} (h : ¬ 0 < q) : fracZ n q = [] := by rw [fracZ, dif_neg h]
theorem frac_pos (n : Int) {q : Int} (h : 0 < q) : fracZ n q = upZ n q :: fracZ q (upZ n q * q - n) := by rw [fracZ, dif_pos h]

/-- what of a pair is left after a step -/
theorem frac_ind {P : Int → Int → Prop} (h0 : ∀ n q, ¬ 0 < q → P n q) (h1 : ∀ n q, 0 < q → P q (upZ n q * q - n) → P n q) : ∀ n q, P n q := by
  have key : ∀ k : Nat, ∀ n q : Int, q.toNat ≤ k → P n q := by
    intro k
    induction k with
    | zero => intro n q h; exact h0 n q (by omega)
    | succ k ih =>
      intro n q h
      by_cases hq : 0 < q
      · refine h1 n q hq (ih _ _ ?_)
        have := up_lt (n := n) hq
        omega
      · exact h0 n q hq
  exact fun n q => key _ n q (Nat.le_refl _)
theorem frac_len (n q : Int) : (fracZ n q).length ≤ q.toNat := by
  induction n, q using frac_ind with
  | h0 n q h => rw [frac_zero n h]; simp
  | h1 n q h ih =>
    rw [frac_pos n h]
    have := up_lt (n := n) h
    simp only [List.length_cons]
    omega
theorem frac_two : ∀ n q : Int, q < n → ∀ b ∈ fracZ n q, 2 ≤ b := by
  intro n q
  induction n, q using frac_ind with
  | h0 n q h => intro _ b hb; rw [frac_zero n h] at hb; cases hb
  | h1 n q h ih =>
    intro hn b hb
    rw [frac_pos n h] at hb
    rcases List.mem_cons.1 hb with rfl | hb
    · exact up_two h hn
    · exact ih (by have := up_lt (n := n) h; omega) b hb
/-- the first number is at most n -/
theorem up_le {n q : Int} (hq : 0 < q) (hn : 0 < n) : upZ n q ≤ n := by
  have h2 := up_lt (n := n) hq
  by_cases hc : upZ n q ≤ n
  · exact hc
  · have h3 : (n + 1) * q ≤ upZ n q * q := Int.mul_le_mul_of_nonneg_right (by omega) (by omega)
    have h4 : n * 1 ≤ n * q := Int.mul_le_mul_of_nonneg_left (by omega) (by omega)
    rw [Int.add_mul] at h3
    omega

/-- the two numbers of which a list is the fraction -/
def contN : List Int → Int
  | [] => 1
  | b :: l => match l with
    | [] => b
    | c :: t => b * contN (c :: t) - contN t
def contQ : List Int → Int
  | [] => 0
  | _ :: l => contN l
theorem contN_cons (b : Int) (l : List Int) : contN (b :: l) = b * contN l - contQ l := by
  cases l with
  | nil => simp [contN, contQ]
  | cons c t => rw [contN]; rfl
def twoUp (l : List Int) : Prop := ∀ b ∈ l, 2 ≤ b
theorem cont_lt : ∀ {l : List Int}, twoUp l → 0 ≤ contQ l ∧ contQ l < contN l := by
  intro l
  induction l with
  | nil => intro _; exact ⟨by simp [contQ], by simp [contQ, contN]⟩
  | cons b l ih =>
    intro h
    obtain ⟨h1, h2⟩ := ih (fun c hc => h c (List.mem_cons_of_mem _ hc))
    have hb := h b (List.mem_cons_self ..)
    rw [contN_cons]
    show 0 ≤ contN l ∧ contN l < _
    have : 2 * contN l ≤ b * contN l := Int.mul_le_mul_of_nonneg_right hb (by omega)
    exact ⟨by omega, by omega⟩
theorem cont_pos {l : List Int} (h : twoUp l) : 1 ≤ contN l := by have := cont_lt h; omega
theorem twoUp_tail {b : Int} {l : List Int} (h : twoUp (b :: l)) : twoUp l := fun c hc => h c (List.mem_cons_of_mem _ hc)
theorem frac_cont : ∀ {l : List Int}, twoUp l → fracZ (contN l) (contQ l) = l := by
  intro l
  induction l with
  | nil => intro _; exact frac_zero _ (by simp [contQ])
  | cons b l ih =>
    intro h
    have h' := twoUp_tail h
    obtain ⟨h1, h2⟩ := cont_lt h'
    have hq : contQ (b :: l) = contN l := rfl
    have hu : upZ (contN (b :: l)) (contQ (b :: l)) = b := by
      rw [hq]
      exact up_is (contN_cons b l) h1 h2
    rw [frac_pos _ (by rw [hq]; omega), hu, hq, contN_cons]
    rw [show b * contN l - (b * contN l - contQ l) = contQ l by omega, ih h']

theorem gcdZ_eq (a b : Int) : gcdZ a b = (Int.gcd a b : Nat) := rfl
theorem gcd_next (n q b : Int) : gcdZ q (b * q - n) = gcdZ n q := by
  rw [gcdZ_eq, gcdZ_eq]
  congr 1
  rw [Int.gcd_comm n q]
  apply Nat.dvd_antisymm
  · apply Int.dvd_gcd
    · exact Int.gcd_dvd_left ..
    · have h1 := Int.gcd_dvd_left (a := q) (b := b * q - n)
      have h2 := Int.gcd_dvd_right (a := q) (b := b * q - n)
      have := Int.dvd_sub (Int.dvd_trans h1 (Int.dvd_mul_left b q)) h2
      rwa [show b * q - (b * q - n) = n by omega] at this
  · apply Int.dvd_gcd
    · exact Int.gcd_dvd_left ..
    · exact Int.dvd_sub (Int.dvd_trans (Int.gcd_dvd_left ..) (Int.dvd_mul_left b q)) (Int.gcd_dvd_right ..)
theorem cont_frac : ∀ n q : Int, 0 ≤ q → q < n → gcdZ n q = 1 → contN (fracZ n q) = n ∧ contQ (fracZ n q) = q := by
  intro n q
  induction n, q using frac_ind with
  | h0 n q h =>
    intro h0 h1 h2
    have : q = 0 := by omega
    subst this
    rw [frac_zero n h]
    have : n = 1 := by unfold gcdZ at h2; simp at h2; omega
    exact ⟨this.symm, rfl⟩
  | h1 n q h ih =>
    intro h0 h1 h2
    have a1 := up_ge (n := n) h
    have a2 := up_lt (n := n) h
    obtain ⟨e1, e2⟩ := ih (by omega) (by omega) (by rw [gcd_next]; exact h2)
    rw [frac_pos n h, contN_cons, e1, e2]
    exact ⟨by omega, e1⟩
theorem cont_gcd (l : List Int) : gcdZ (contN l) (contQ l) = 1 := by
  induction l with
  | nil => rfl
  | cons b l ih =>
    show gcdZ (contN (b :: l)) (contN l) = 1
    rw [← ih, ← gcd_next (contN l) (contQ l) 0]
    rw [contN_cons]
    rw [gcdZ_eq, gcdZ_eq, Int.gcd_comm (contQ l)]
    congr 1
    rw [Int.gcd_comm (b * contN l - contQ l)]
    rw [show (0 * contQ l - contN l) = -contN l by omega, Int.neg_gcd]
    have := gcd_next (contQ l) (contN l) b
    rw [gcdZ_eq, gcdZ_eq] at this
    have h2 : ((Int.gcd (contN l) (b * contN l - contQ l) : Nat) : Int) = (Int.gcd (contQ l) (contN l) : Nat) := this
    rw [Int.gcd_comm (contN l) (contQ l)]
    omega

/-! the list turned over -/
/- (n, x, q, y) : the matrix is n, -x, q, -y -/
def quad : List Int → Int × Int × Int × Int
  | [] => (1, 0, 0, -1)
  | b :: l => (b * (quad l).1 - (quad l).2.2.1, b * (quad l).2.1 - (quad l).2.2.2, (quad l).1, (quad l).2.1)
theorem quad_n (l : List Int) : (quad l).1 = contN l ∧ (quad l).2.2.1 = contQ l := by
  induction l with
  | nil => exact ⟨rfl, rfl⟩
  | cons b l ih =>
    obtain ⟨h1, h2⟩ := ih
    refine ⟨?_, ?_⟩
    · show b * (quad l).1 - (quad l).2.2.1 = _
      rw [h1, h2, contN_cons]
    · exact h1
theorem quad_snoc (l : List Int) (b : Int) : quad (l ++ [b]) = (b * (quad l).1 - (quad l).2.1, (quad l).1, b * (quad l).2.2.1 - (quad l).2.2.2, (quad l).2.2.1) := by
  induction l with
  | nil => simp [quad]
  | cons c l ih =>
    have e : quad (c :: (l ++ [b])) = (c * (quad (l ++ [b])).1 - (quad (l ++ [b])).2.2.1, c * (quad (l ++ [b])).2.1 - (quad (l ++ [b])).2.2.2, (quad (l ++ [b])).1, (quad (l ++ [b])).2.1) := rfl
    rw [List.cons_append, e, ih]
    generalize hq : quad l = z
    obtain ⟨n, x, q, y⟩ := z
    have e2 : quad (c :: l) = (c * n - q, c * x - y, n, x) := by show (_, _, _, _) = _; rw [hq]
    rw [e2]
    simp only [Prod.mk.injEq, and_true]
    simp only [Int.mul_sub]
    rw [Int.mul_left_comm c b n]
    omega
theorem quad_rev (l : List Int) : quad l.reverse = ((quad l).1, (quad l).2.2.1, (quad l).2.1, (quad l).2.2.2) := by
  induction l with
  | nil => rfl
  | cons b l ih =>
    rw [List.reverse_cons, quad_snoc, ih]
    rfl
theorem quad_det (l : List Int) : (quad l).2.2.1 * (quad l).2.1 - (quad l).1 * (quad l).2.2.2 = 1 := by
  induction l with
  | nil => rfl
  | cons b l ih =>
    generalize hq : quad l = z at ih
    obtain ⟨n, x, q, y⟩ := z
    have e2 : quad (b :: l) = (b * n - q, b * x - y, n, x) := by show (_, _, _, _) = _; rw [hq]
    rw [e2]
    simp only at ih ⊢
    rw [Int.mul_sub, Int.sub_mul, Int.mul_left_comm n b x, Int.mul_assoc b n x]
    omega
theorem cont_rev (l : List Int) : contN l.reverse = contN l ∧ ∃ y, contQ l * contQ l.reverse - 1 = contN l * y := by
  have h := quad_rev l
  have h1 := quad_n l
  have h2 := quad_n l.reverse
  have hd := quad_det l
  rw [h] at h2
  refine ⟨by rw [← h2.1, ← h1.1], (quad l).2.2.2, ?_⟩
  rw [← h2.2, ← h1.1, ← h1.2]
  show (quad l).2.2.1 * (quad l).2.1 - 1 = _
  omega
theorem cont_app_le : ∀ (m l : List Int), twoUp (m ++ l) → contN l ≤ contN (m ++ l) := by
  intro m l
  induction m with
  | nil => intro _; exact Int.le_refl _
  | cons b m ih =>
    intro h
    have h' : twoUp (m ++ l) := twoUp_tail h
    obtain ⟨h1, h2⟩ := cont_lt h'
    have hb := h b (List.mem_cons_self ..)
    have : 2 * contN (m ++ l) ≤ b * contN (m ++ l) := Int.mul_le_mul_of_nonneg_right hb (by omega)
    rw [List.cons_append, contN_cons]
    have := ih h'
    omega

/-! both fractions -/
theorem dual_two {l : List Int} (h : twoUp l) : fracZ (contN (2 :: l)) (contN (2 :: l) - contQ (2 :: l)) = (upZ (contN l) (contN l - contQ l) + 1) :: (fracZ (contN l) (contN l - contQ l)).tail := by
  obtain ⟨h1, h2⟩ := cont_lt h
  rw [contN_cons, show contQ (2 :: l) = contN l from rfl, show 2 * contN l - contQ l - contN l = contN l - contQ l by omega]
  generalize contN l = n at *
  generalize contQ l = q at *
  have hq : 0 < n - q := by omega
  have a1 := up_ge (n := n) hq
  have a2 := up_lt (n := n) hq
  have e : upZ (2 * n - q) (n - q) = upZ n (n - q) + 1 := by
    refine up_is (r := upZ n (n - q) * (n - q) - n) ?_ (by omega) (by omega)
    rw [Int.add_mul]
    omega
  rw [frac_pos _ hq, frac_pos n hq, e, List.tail_cons]
  congr 2
  rw [Int.add_mul]
  omega
theorem dual_up {b : Int} {l : List Int} (hb : 2 ≤ b) (h : twoUp l) : fracZ (contN ((b + 1) :: l)) (contN ((b + 1) :: l) - contQ ((b + 1) :: l)) = 2 :: fracZ (contN (b :: l)) (contN (b :: l) - contQ (b :: l)) := by
  obtain ⟨h1, h2⟩ := cont_lt h
  rw [contN_cons, contN_cons, show contQ (b :: l) = contN l from rfl, show contQ ((b + 1) :: l) = contN l from rfl, Int.add_mul]
  generalize contN l = n at *
  generalize contQ l = q at *
  have : 2 * n ≤ b * n := Int.mul_le_mul_of_nonneg_right hb (by omega)
  have hm : 0 < b * n - q := by omega
  rw [show b * n + 1 * n - q - n = b * n - q by omega]
  have e : upZ (b * n + 1 * n - q) (b * n - q) = 2 := up_is (r := b * n - q - n) (by omega) (by omega) (by omega)
  rw [frac_pos _ hm, e]
  congr 2
  omega
/-- the sum of how much the numbers are above 1 -/
def sumP : List Int → Int
  | [] => 0
  | b :: l => (b - 1) + sumP l
def dualL (l : List Int) : List Int := fracZ (contN l) (contN l - contQ l)
theorem dual_cons {l : List Int} (h : twoUp l) : ∃ c t, dualL l = c :: t ∧ c = upZ (contN l) (contN l - contQ l) := by
  obtain ⟨h1, h2⟩ := cont_lt h
  exact ⟨_, _, frac_pos _ (by omega), rfl⟩
theorem dual_sum : ∀ {l : List Int}, twoUp l → sumP (dualL l) = sumP l ∧ sumP l = l.length + (dualL l).length - 1 := by
  intro l
  induction l with
  | nil =>
    intro _
    have e : dualL [] = [1] := by
      show fracZ 1 (1 - 0) = [1]
      rw [frac_pos _ (by omega)]
      have : upZ 1 (1 - 0) = 1 := by decide
      rw [this, frac_zero _ (by omega)]
    rw [e]; decide
  | cons b l ih =>
    intro h
    have h' := twoUp_tail h
    obtain ⟨i1, i2⟩ := ih h'
    have hb := h b (List.mem_cons_self ..)
    have key : ∀ k : Nat, sumP (dualL ((2 + k : Int) :: l)) = sumP ((2 + k : Int) :: l) ∧ sumP ((2 + k : Int) :: l) = ((2 + k : Int) :: l).length + (dualL ((2 + k : Int) :: l)).length - 1 := by
      intro k
      induction k with
      | zero =>
        obtain ⟨c, t, e, hc⟩ := dual_cons h'
        have e2 : dualL ((2 + (0 : Nat) : Int) :: l) = (c + 1) :: t := by
          show fracZ (contN (2 :: l)) (contN (2 :: l) - contQ (2 :: l)) = _
          rw [dual_two h', ← hc, show fracZ (contN l) (contN l - contQ l) = c :: t from e]
          rfl
        rw [e] at i1 i2
        rw [e2]
        simp only [sumP, List.length_cons] at i1 i2 ⊢
        omega
      | succ k ihk =>
        obtain ⟨j1, j2⟩ := ihk
        have e2 : dualL ((2 + (k + 1 : Nat) : Int) :: l) = 2 :: dualL ((2 + k : Int) :: l) := by
          rw [show (2 + (k + 1 : Nat) : Int) = (2 + k : Int) + 1 by omega]
          exact dual_up (by omega) h'
        rw [e2]
        simp only [sumP, List.length_cons] at j1 j2 ⊢
        omega
    have := key (b - 2).toNat
    rwa [show (2 + ((b - 2).toNat : Int)) = b by omega] at this
theorem dual_cont {l : List Int} (h : twoUp l) (hl : l ≠ []) : contN (dualL l) = contN l ∧ contQ (dualL l) = contN l - contQ l := by
  obtain ⟨h1, h2⟩ := cont_lt h
  have hq : 0 < contQ l := by
    cases l with
    | nil => exact absurd rfl hl
    | cons b t => have := cont_pos (twoUp_tail h); exact this
  refine cont_frac _ _ (by omega) (by omega) ?_
  rw [← cont_gcd l, gcdZ_eq, gcdZ_eq]
  congr 1
  rw [Int.gcd_comm]
  have e := gcd_next (contQ l) (contN l) 1
  rw [gcdZ_eq, gcdZ_eq, Int.one_mul] at e
  have e2 : ((Int.gcd (contN l) (contN l - contQ l) : Nat) : Int) = (Int.gcd (contQ l) (contN l) : Nat) := e
  rw [Int.gcd_comm (contN l) (contQ l), Int.gcd_comm]
  omega
theorem dual_dual {l : List Int} (h : twoUp l) (hl : l ≠ []) : dualL (dualL l) = l := by
  obtain ⟨e1, e2⟩ := dual_cont h hl
  show fracZ (contN (dualL l)) (contN (dualL l) - contQ (dualL l)) = l
  rw [e1, e2, show contN l - (contN l - contQ l) = contQ l by omega]
  exact frac_cont h
end Go.Proofs.Ytcieihbknfeddaa

/- Plain mathematics of cones: no walk. -/
namespace Go.Proofs.Ytcieihbknfeddaa
open Go.RowKit
/-- a vector whose product with a primitive one is 1 -/
def partZ (x y : Int) : Int × Int := if _h : y = 0 then (x, 0) else ((partZ y (x.tmod y)).2, (partZ y (x.tmod y)).1 - x.tdiv y * (partZ y (x.tmod y)).2)
termination_by y.natAbs
decreasing_by exact tmod_lt _h
theorem part_zero (x : Int) : partZ x 0 = (x, 0) := by rw [partZ, dif_pos rfl]
theorem part_step (x : Int) {y : Int} (h : y ≠ 0) : partZ x y = ((partZ y (x.tmod y)).2, (partZ y (x.tmod y)).1 - x.tdiv y * (partZ y (x.tmod y)).2) := by rw [partZ, dif_neg h]
theorem part_ind {P : Int → Int → Prop} (h0 : ∀ x, P x 0) (h1 : ∀ x y, y ≠ 0 → P y (x.tmod y) → P x y) : ∀ x y, P x y := by
  have key : ∀ k : Nat, ∀ x y : Int, y.natAbs ≤ k → P x y := by
    intro k
    induction k with
    | zero => intro x y h; have : y = 0 := by omega
              subst this; exact h0 x
    | succ k ih =>
      intro x y h
      by_cases hy : y = 0
      · subst hy; exact h0 x
      · refine h1 x y hy (ih _ _ ?_)
        have := tmod_lt (x := x) hy
        omega
  exact fun x y => key _ x y (Nat.le_refl _)
theorem part_one : ∀ x y : Int, gcdZ x y = 1 → (partZ x y).1 * x + (partZ x y).2 * y = 1 := by
  intro x y
  induction x, y using part_ind with
  | h0 x =>
    intro h
    rw [part_zero]
    have : x = 1 ∨ x = -1 := by unfold gcdZ at h; simp at h; omega
    rcases this with rfl | rfl <;> rfl
  | h1 x y hy ih =>
    intro h
    rw [← gcdZ_step] at h
    have := ih h
    rw [part_step x hy]
    generalize partZ y (x.tmod y) = m at *
    obtain ⟨a, b⟩ := m
    simp only at this ⊢
    have e := Int.mul_tdiv_add_tmod x y
    rw [Int.sub_mul, Int.mul_assoc, Int.mul_left_comm, ]
    have e2 : x.tmod y = x - y * x.tdiv y := by omega
    rw [e2, Int.mul_sub] at this
    have e3 : b * (y * x.tdiv y) = x.tdiv y * (b * y) := by rw [← Int.mul_assoc, Int.mul_comm]
    have e4 : b * (x.tdiv y * y) = x.tdiv y * (b * y) := by rw [Int.mul_left_comm]
    omega
theorem part_bd : ∀ x y : Int, gcdZ x y = 1 → (partZ x y).1.natAbs ≤ max y.natAbs 1 ∧ (partZ x y).2.natAbs ≤ max x.natAbs 1 := by
  intro x y
  induction x, y using part_ind with
  | h0 x =>
    intro h
    rw [part_zero]
    have : x = 1 ∨ x = -1 := by unfold gcdZ at h; simp at h; omega
    rcases this with rfl | rfl <;> decide
  | h1 x y hy ih =>
    intro h
    rw [← gcdZ_step] at h
    obtain ⟨b1, b2⟩ := ih h
    rw [part_step x hy]
    by_cases hm : x.tmod y = 0
    · rw [hm] at h ⊢
      rw [part_zero]
      have : y = 1 ∨ y = -1 := by unfold gcdZ at h; simp at h; omega
      refine ⟨by simp, ?_⟩
      simp only [Int.mul_zero, Int.sub_zero]
      omega
    · generalize partZ y (x.tmod y) = m at *
      obtain ⟨a, b⟩ := m
      simp only at b1 b2 ⊢
      refine ⟨by omega, ?_⟩
      have e : x.natAbs = y.natAbs * (x.tdiv y).natAbs + (x.tmod y).natAbs := by
        rw [Int.natAbs_tdiv, Int.natAbs_tmod]
        exact (Nat.div_add_mod ..).symm
      have h3 : (x.tdiv y * b).natAbs ≤ y.natAbs * (x.tdiv y).natAbs := by
        rw [Int.natAbs_mul, Nat.mul_comm]
        exact Nat.mul_le_mul_right _ (by omega)
      omega
theorem part_sz {x y : Int} (h : gcdZ x y = 1) (hx : -1000 ≤ x ∧ x ≤ 1000) (hy : -1000 ≤ y ∧ y ≤ 1000) : (-1000 ≤ (partZ x y).1 ∧ (partZ x y).1 ≤ 1000) ∧ (-1000 ≤ (partZ x y).2 ∧ (partZ x y).2 ≤ 1000) := by
  obtain ⟨h1, h2⟩ := part_bd x y h
  omega

/-- the kind of a cone -/
def kindZ (ux uy vx vy : Int) : Int := (-((partZ ux uy).1 * vx + (partZ ux uy).2 * vy)) % (ux * vy - uy * vx)
theorem kind_rng {ux uy vx vy : Int} (hn : 0 < ux * vy - uy * vx) : 0 ≤ kindZ ux uy vx vy ∧ kindZ ux uy vx vy < ux * vy - uy * vx :=
  ⟨Int.emod_nonneg _ (by omega), Int.emod_lt_of_pos _ hn⟩
theorem kind_fits {ux uy vx vy : Int} (h : gcdZ ux uy = 1) : (ux * vy - uy * vx) ∣ kindZ ux uy vx vy * ux + vx ∧ (ux * vy - uy * vx) ∣ kindZ ux uy vx vy * uy + vy := by
  have h1 := part_one ux uy h
  unfold kindZ
  generalize partZ ux uy = m at *
  obtain ⟨mx, my⟩ := m
  simp only at h1 ⊢
  obtain ⟨k, hk⟩ : ∃ k, (-(mx * vx + my * vy)) % (ux * vy - uy * vx) = -(mx * vx + my * vy) - (ux * vy - uy * vx) * k := ⟨_, Int.emod_def _ _⟩
  rw [hk]
  generalize hn : ux * vy - uy * vx = n
  constructor
  · refine ⟨-my - k * ux, ?_⟩
    have e : (-(mx * vx + my * vy)) * ux + vx = -(my * n) := by
      rw [← hn]
      grind
    have e2 : n * (-my - k * ux) = -(my * n) - n * k * ux := by rw [Int.mul_sub, Int.mul_neg, Int.mul_comm n my, Int.mul_assoc]
    rw [Int.sub_mul, e2]
    omega
  · refine ⟨mx - k * uy, ?_⟩
    have e : (-(mx * vx + my * vy)) * uy + vy = mx * n := by
      rw [← hn]
      grind
    have e2 : n * (mx - k * uy) = mx * n - n * k * uy := by rw [Int.mul_sub, Int.mul_comm n mx, Int.mul_assoc]
    rw [Int.sub_mul, e2]
    omega
theorem kind_only {ux uy vx vy q : Int} (h : gcdZ ux uy = 1) (h0 : 0 ≤ q) (h1 : q < ux * vy - uy * vx) (dx : (ux * vy - uy * vx) ∣ q * ux + vx) (dy : (ux * vy - uy * vx) ∣ q * uy + vy) : q = kindZ ux uy vx vy := by
  have hp := part_one ux uy h
  have hn : 0 < ux * vy - uy * vx := by omega
  obtain ⟨r0, r1⟩ := kind_rng hn
  obtain ⟨ex, ey⟩ := kind_fits (vx := vx) (vy := vy) h
  generalize kindZ ux uy vx vy = k at *
  generalize ux * vy - uy * vx = n at *
  generalize partZ ux uy = m at hp
  obtain ⟨mx, my⟩ := m
  simp only at hp
  have d1 : n ∣ (q * ux + vx) - (k * ux + vx) := Int.dvd_sub dx ex
  have d2 : n ∣ (q * uy + vy) - (k * uy + vy) := Int.dvd_sub dy ey
  have d3 : n ∣ q - k := by
    have := Int.dvd_add (Int.dvd_trans d1 (Int.dvd_mul_left mx _)) (Int.dvd_trans d2 (Int.dvd_mul_left my _))
    rwa [show mx * (q * ux + vx - (k * ux + vx)) + my * (q * uy + vy - (k * uy + vy)) = q - k by grind] at this
  obtain ⟨t, ht⟩ := d3
  have : t = 0 := by
    by_cases h2 : 1 ≤ t
    · have : n * 1 ≤ n * t := Int.mul_le_mul_of_nonneg_left h2 (by omega)
      omega
    · by_cases h3 : t ≤ -1
      · have : n * t ≤ n * (-1) := Int.mul_le_mul_of_nonneg_left h3 (by omega)
        omega
      · omega
  subst this
  omega
theorem kind_gcd {ux uy vx vy : Int} (h : gcdZ ux uy = 1) (h2 : gcdZ vx vy = 1) : gcdZ (ux * vy - uy * vx) (kindZ ux uy vx vy) = 1 := by
  obtain ⟨⟨a, ha⟩, ⟨b, hb⟩⟩ := kind_fits (vx := vx) (vy := vy) h
  generalize ux * vy - uy * vx = n at *
  generalize kindZ ux uy vx vy = k at *
  have e : gcdZ n k = (Int.gcd n k : Nat) := rfl
  rw [e]
  have d1 := Int.gcd_dvd_left n k
  have d2 := Int.gcd_dvd_right n k
  generalize Int.gcd n k = g at *
  have dx : (g : Int) ∣ vx := by
    have := Int.dvd_sub (Int.dvd_trans d1 (Int.dvd_mul_right n a)) (Int.dvd_trans d2 (Int.dvd_mul_right k ux))
    rwa [show n * a - k * ux = vx by omega] at this
  have dy : (g : Int) ∣ vy := by
    have := Int.dvd_sub (Int.dvd_trans d1 (Int.dvd_mul_right n b)) (Int.dvd_trans d2 (Int.dvd_mul_right k uy))
    rwa [show n * b - k * uy = vy by omega] at this
  have h3 := Int.dvd_gcd dx dy
  have e2 : gcdZ vx vy = (Int.gcd vx vy : Nat) := rfl
  rw [e2] at h2
  have : Int.gcd vx vy = 1 := by omega
  rw [this] at h3
  have := Nat.dvd_one.1 h3
  omega

/-! the whole base -/
/-- the rest of the base: what comes with last and next, by the numbers of the fraction -/
def baseZ : List Int → Int → Int → Int → Int → List (Int × Int)
  | [], _, _, nx, ny => [(nx, ny)]
  | b :: l, lx, ly, nx, ny => (nx, ny) :: baseZ l nx ny (nx * b - lx) (ny * b - ly)
/-- where the walk along the base stands -/
def atBase (vx vy n q lx ly nx ny : Int) : Prop := n * nx = q * lx + vx ∧ n * ny = q * ly + vy
theorem at_next {vx vy n q lx ly nx ny b : Int} (h : atBase vx vy n q lx ly nx ny) : atBase vx vy q (b * q - n) nx ny (nx * b - lx) (ny * b - ly) := by
  obtain ⟨h1, h2⟩ := h
  exact ⟨by grind, by grind⟩
theorem at_end {vx vy lx ly nx ny : Int} (h : atBase vx vy 1 0 lx ly nx ny) : nx = vx ∧ ny = vy := by
  obtain ⟨h1, h2⟩ := h
  omega
theorem at_one {n q l v x : Int} (h : n * x = q * l + v) (hq : 0 ≤ q) (hn : q < n) (hl : -1000 ≤ l ∧ l ≤ 1000) (hv : -1000 ≤ v ∧ v ≤ 1000) : -1000 ≤ x ∧ x ≤ 1000 := by
  have a1 : q * l ≤ q * 1000 := Int.mul_le_mul_of_nonneg_left hl.2 hq
  have a2 : q * (-1000) ≤ q * l := Int.mul_le_mul_of_nonneg_left hl.1 hq
  constructor
  · by_cases hc : -1000 ≤ x
    · exact hc
    · have : n * x ≤ n * (-1001) := Int.mul_le_mul_of_nonneg_left (by omega) (by omega)
      omega
  · by_cases hc : x ≤ 1000
    · exact hc
    · have : n * 1001 ≤ n * x := Int.mul_le_mul_of_nonneg_left (by omega) (by omega)
      omega
theorem at_bd {vx vy n q lx ly nx ny : Int} (h : atBase vx vy n q lx ly nx ny) (hq : 0 ≤ q) (hn : q < n) (hx : -1000 ≤ lx ∧ lx ≤ 1000) (hy : -1000 ≤ ly ∧ ly ≤ 1000) (vxb : -1000 ≤ vx ∧ vx ≤ 1000) (vyb : -1000 ≤ vy ∧ vy ≤ 1000) :
    (-1000 ≤ nx ∧ nx ≤ 1000) ∧ (-1000 ≤ ny ∧ ny ≤ 1000) := ⟨at_one h.1 hq hn hx vxb, at_one h.2 hq hn hy vyb⟩
end Go.Proofs.Ytcieihbknfeddaa

/- Plain mathematics of cones: what a cone is. -/
namespace Go.Proofs.Ytcieihbknfeddaa
open Go.RowKit

def oneB (x y : Int) : Bool := gcdZ x y == 1
def primB (x y : Int) : Bool := vecB x y && oneB x y
def posB (a b c d : Int) : Bool := decide (0 < detZ a b c d)
def coneB (a b c d : Int) : Bool := primB a b && (primB c d && posB a b c d)
theorem oneB_true {x y : Int} (h : oneB x y = true) : gcdZ x y = 1 := by simpa [oneB] using h
theorem posB_true {a b c d : Int} (h : posB a b c d = true) : 0 < detZ a b c d := by simpa [posB] using h
theorem posB_false {a b c d : Int} (h : posB a b c d = false) : detZ a b c d ≤ 0 := by simpa [posB] using h
theorem prim_in {x y : Int} (h : primB x y = true) : vecB x y = true ∧ oneB x y = true := by simpa [primB] using h
theorem prim_out {x y : Int} (h : primB x y = false) : vecB x y = false ∨ (vecB x y = true ∧ oneB x y = false) := by
  cases hv : vecB x y
  · exact .inl rfl
  · exact .inr ⟨rfl, by simpa [primB, hv] using h⟩
theorem cone_in {a b c d : Int} (h : coneB a b c d = true) : vecB a b = true ∧ oneB a b = true ∧ vecB c d = true ∧ oneB c d = true ∧ posB a b c d = true := by
  have h' : primB a b = true ∧ primB c d = true ∧ posB a b c d = true := by simpa [coneB] using h
  obtain ⟨h1, h2, h3⟩ := h'
  obtain ⟨h4, h5⟩ := prim_in h1
  obtain ⟨h6, h7⟩ := prim_in h2
  exact ⟨h4, h5, h6, h7, h3⟩
/-- the ways on which a pair of vectors is no cone, as the program asks them -/
theorem cone_out {a b c d : Int} (h : coneB a b c d = false) : twoOk a b c d = false ∨ (vecB a b = true ∧ vecB c d = true ∧ (oneB a b = false ∨ (oneB a b = true ∧ oneB c d = false) ∨ (oneB a b = true ∧ oneB c d = true ∧ posB a b c d = false))) := by
  cases h1 : vecB a b
  · exact .inl (by simp [twoOk, h1])
  · cases h2 : vecB c d
    · exact .inl (by simp [twoOk, h2])
    · refine .inr ⟨rfl, rfl, ?_⟩
      cases h3 : oneB a b <;> cases h4 : oneB c d <;> simp [coneB, primB, h1, h2, h3, h4] at h ⊢
      exact h
/-- and as the model asks them -/
theorem cone_out2 {a b c d : Int} (h : coneB a b c d = false) : primB a b = false ∨ (primB a b = true ∧ primB c d = false) ∨ (primB a b = true ∧ primB c d = true ∧ posB a b c d = false) := by
  cases h1 : primB a b <;> cases h2 : primB c d <;> simp [coneB, h1, h2] at h ⊢
  exact h
theorem det_sz {a b c d : Int} (h1 : vecB a b = true) (h2 : vecB c d = true) : -2000000 ≤ detZ a b c d ∧ detZ a b c d ≤ 2000000 := by
  obtain ⟨a1, b1⟩ := szs h1
  obtain ⟨a2, b2⟩ := szs h2
  have := mul_bd a1 b2
  have := mul_bd b1 a2
  unfold detZ
  omega
theorem dot_sz {a b c d : Int} (h1 : vecB a b = true) (h2 : vecB c d = true) : -2000000 ≤ dotZ a b c d ∧ dotZ a b c d ≤ 2000000 := by
  obtain ⟨a1, b1⟩ := szs h1
  obtain ⟨a2, b2⟩ := szs h2
  have := mul_bd a1 a2
  have := mul_bd b1 b2
  unfold dotZ
  omega
/-- whether a vector is in a cone -/
def inB (a b c d x y : Int) : Bool := decide (0 ≤ detZ x y c d) && decide (0 ≤ detZ a b x y)
def cvOk (a b c d x y : Int) : Bool := coneB a b c d && vecB x y
def hasOk (a b c d x y : Int) : Bool := cvOk a b c d x y && inB a b c d x y
def cmOk (a b c d e f g h : Int) : Bool := coneB a b c d && matB e f g h

/-! the rest -/
theorem rest_is {a n : Int} (h : 0 < n) : (a.tmod n + n).tmod n = a % n := by
  have h1 : -n < a.tmod n := by
    have := Int.tmod_lt_of_pos (-a) h
    rw [Int.neg_tmod] at this
    omega
  rw [Int.tmod_eq_emod_of_nonneg (by omega), Int.add_emod_right]
  have := Int.mul_tdiv_add_tmod a n
  conv => rhs; rw [← this]
  rw [Int.add_comm, Int.add_mul_emod_self_left]
theorem tmod_bds {a n : Int} (h : 0 < n) : -n < a.tmod n ∧ a.tmod n < n := by
  constructor
  · have := Int.tmod_lt_of_pos (-a) h
    rw [Int.neg_tmod] at this
    omega
  · exact Int.tmod_lt_of_pos a h
theorem tmod_zero {a n : Int} : (a.tmod n == 0) = true ↔ n ∣ a := by
  rw [beq_iff_eq]
  exact ⟨Int.dvd_of_tmod_eq_zero, fun h => Int.tmod_eq_zero_of_dvd h⟩
def kindC (a b c d : Int) : Int := kindZ a b c d
theorem kindC_rng {a b c d : Int} (h : coneB a b c d = true) : 0 ≤ kindC a b c d ∧ kindC a b c d < detZ a b c d := by
  obtain ⟨_, _, _, _, hp⟩ := cone_in h
  exact kind_rng (posB_true hp)
theorem kindC_is {a b c d : Int} : (-(dotZ (partZ a b).1 (partZ a b).2 c d)) % detZ a b c d = kindC a b c d := rfl
/-- what the model asks of a number holds of the kind alone -/
def kindAsk (a b c d q : Int) : Bool := ((q * a + c).tmod (detZ a b c d) == 0) && ((q * b + d).tmod (detZ a b c d) == 0)
theorem kindAsk_is {a b c d q : Int} (h : coneB a b c d = true) (h0 : 0 ≤ q) (h1 : q < detZ a b c d) : kindAsk a b c d q = (q == kindC a b c d) := by
  obtain ⟨_, o1, _, _, hp⟩ := cone_in h
  rw [Bool.eq_iff_iff]
  simp only [kindAsk, Bool.and_eq_true, tmod_zero]
  rw [beq_iff_eq]
  constructor
  · rintro ⟨h2, h3⟩
    exact kind_only (oneB_true o1) h0 h1 h2 h3
  · rintro rfl
    exact kind_fits (oneB_true o1)
/-- the fraction of a cone -/
def fracC (a b c d : Int) : List Int := fracZ (detZ a b c d) (kindC a b c d)
/-! moved cones -/
def negM (e f g h : Int) : Bool := decide (detM e f g h < 0)
def pick2 (k : Bool) (x y : Int) : Int := if k then x else y
def cmA (a b c d e f g h : Int) : Int := pick2 (negM e f g h) (moveX e f c d) (moveX e f a b)
def cmB (a b c d e f g h : Int) : Int := pick2 (negM e f g h) (moveX g h c d) (moveX g h a b)
def cmC (a b c d e f g h : Int) : Int := pick2 (negM e f g h) (moveX e f a b) (moveX e f c d)
def cmD (a b c d e f g h : Int) : Int := pick2 (negM e f g h) (moveX g h a b) (moveX g h c d)
def cmvOk (a b c d e f g h : Int) : Bool := cmOk a b c d e f g h && coneB (cmA a b c d e f g h) (cmB a b c d e f g h) (cmC a b c d e f g h) (cmD a b c d e f g h)
theorem cm_in {a b c d e f g h : Int} (k : cmOk a b c d e f g h = true) : coneB a b c d = true ∧ matB e f g h = true := by simpa [cmOk] using k
end Go.Proofs.Ytcieihbknfeddaa
