import Derived.Test.YtgaeibibeekclabGreatDoorProg
import Derived.Test.YtgaeibibeekclabGreatDoorS00
import Derived.WalkKit
import Derived.LaidEql
import Derived.Stop.Asserts
import Derived.RowKitTokens
import Derived.Handy
import Derived.WalkSpells
import Derived.WalkLawsBesides
import Derived.Deep.QuietTactic
import Derived.BigQuiet
import Derived.Lib.Hide
namespace Go.Proofs.YtgaeibibeekclabGreatDoor
open Go.RowKit
theorem bcell {W w1 : World} (hb : Below W.heap.size W w1) : (∀ b o, b < W.heap.size → w1.cell? ⟨b, o, none⟩ = W.cell? ⟨b, o, none⟩) ∧ (∀ b o, b < W.heap.size → w1.frozen? ⟨b, o, none⟩ = W.frozen? ⟨b, o, none⟩) :=
  ⟨fun b o h => hb.cell (p := ⟨b, o, none⟩) h, fun b o h => hb.frozen (p := ⟨b, o, none⟩) h⟩
theorem bsize {W w1 : World} (hb : Below W.heap.size W w1) : ∀ n, n < W.heap.size → n < w1.heap.size := fun _ h => Nat.lt_of_lt_of_le h hb.size
theorem bcs {W w1 : World} (hb : Below W.heap.size W w1) : (∀ b o, b < W.heap.size → w1.cell? ⟨b, o, none⟩ = W.cell? ⟨b, o, none⟩) ∧ (∀ n, n < W.heap.size → n < w1.heap.size) := ⟨(bcell hb).1, bsize hb⟩
/-- The variable errors.errorType holds what the program's text laid. -/
def EtOk (w : World) : Prop := w.cell? ⟨0, 0, none⟩ = some (.iface 142 (.agg #[.pointer (some ⟨1, 49, none⟩)]))
theorem EtOk.pos {w : World} (h : EtOk w) : 0 < w.heap.size := by
  rcases Nat.eq_zero_or_pos w.heap.size with h0 | h1
  · unfold EtOk at h; simp [World.cell?, h0] at h
  · exact h1
theorem EtOk.below {w w' : World} (h : EtOk w) (hb : Below w.heap.size w w') : EtOk w' := by
  unfold EtOk at *; rw [hb.cell (p := ⟨0, 0, none⟩) (EtOk.pos h)]; exact h
theorem belowTo {a W w1 : World} (h : Below a.heap.size a W) (k : Below W.heap.size W w1) : Below a.heap.size a w1 := h.trans (k.mono h.size)
theorem none_nil (w : World) : Calls Tryz.prog 35 #[.nilIface] w fun e w' => e = .returned (.bool false) ∧ Below w.heap.size w w' := isNone_nil w
theorem none_hit (s : ByteArray) (w : World) (hg : EtOk w) : Calls Tryz.prog 35 #[.iface 81 (.agg #[.string s])] w fun e w' => e = .returned (.bool true) ∧ Below w.heap.size w w' := isNone_hit s w hg
def szB (a : Int) : Bool := decide (-1000 ≤ a) && decide (a ≤ 1000)
def vecB (x y : Int) : Bool := szB x && szB y
theorem szB_true {a : Int} (h : szB a = true) : -1000 ≤ a ∧ a ≤ 1000 := by simpa [szB] using h
theorem vecB_true {x y : Int} (h : vecB x y = true) : szB x = true ∧ szB y = true := by simpa [vecB] using h
theorem vecB_false {x y : Int} (h : vecB x y = false) : szB x = false ∨ (szB x = true ∧ szB y = false) := by
  unfold vecB at h
  cases hx : szB x <;> simp [hx] at h ⊢
  exact h
theorem ret_bool {a b : Bool} (h : a = b) : Ending.returned (.bool a) = .returned (.bool b) := by rw [h]
end Go.Proofs.YtgaeibibeekclabGreatDoor
namespace Go.Proofs.YtgaeibibeekclabGreatDoor
open Go.RowKit
/-- x where b holds, else 0 -/
def gate (b : Bool) (x : Int) : Int := if b then x else 0
theorem mul_bd {a b : Int} (ha : -1000 ≤ a ∧ a ≤ 1000) (hb : -1000 ≤ b ∧ b ≤ 1000) : -1000000 ≤ a * b ∧ a * b ≤ 1000000 := by
  have h : (a * b).natAbs ≤ 1000000 := by
    rw [Int.natAbs_mul]
    have := Nat.mul_le_mul (show a.natAbs ≤ 1000 by omega) (show b.natAbs ≤ 1000 by omega)
    omega
  omega
theorem szs {x y : Int} (h : vecB x y = true) : (-1000 ≤ x ∧ x ≤ 1000) ∧ (-1000 ≤ y ∧ y ≤ 1000) :=
  ⟨szB_true (vecB_true h).1, szB_true (vecB_true h).2⟩
def detZ (x1 y1 x2 y2 : Int) : Int := x1 * y2 - y1 * x2
def dotZ (x1 y1 x2 y2 : Int) : Int := x1 * x2 + y1 * y2
end Go.Proofs.YtgaeibibeekclabGreatDoor
namespace Go.Proofs.YtgaeibibeekclabGreatDoor
open Go.RowKit
def gcdZ (a b : Int) : Int := (Nat.gcd a.natAbs b.natAbs : Nat)
theorem gcdZ_step (x y : Int) : gcdZ y (x.tmod y) = gcdZ x y := by
  unfold gcdZ
  rw [Int.natAbs_tmod, Nat.gcd_comm x.natAbs y.natAbs]
  conv => rhs; rw [Nat.gcd_rec]
  rw [Nat.gcd_comm]
theorem gcdZ_zero (x : Int) : gcdZ x 0 = max x (-x) := by
  unfold gcdZ
  simp
  omega
theorem gcdZ_nonneg (x y : Int) : 0 ≤ gcdZ x y := by unfold gcdZ; omega
theorem gcdZ_pos {x y : Int} (h : ¬ (x = 0 ∧ y = 0)) : 1 ≤ gcdZ x y := by
  unfold gcdZ
  have : 0 < Nat.gcd x.natAbs y.natAbs := by
    rcases Nat.eq_zero_or_pos x.natAbs with hx | hx
    · rcases Nat.eq_zero_or_pos y.natAbs with hy | hy
      · exact absurd ⟨by omega, by omega⟩ h
      · exact Nat.gcd_pos_of_pos_right _ hy
    · exact Nat.gcd_pos_of_pos_left _ hx
  omega
theorem gcdZ_le {x y : Int} {n : Int} (hx : -n ≤ x ∧ x ≤ n) (hy : -n ≤ y ∧ y ≤ n) : gcdZ x y ≤ n := by
  unfold gcdZ
  rcases Nat.eq_zero_or_pos x.natAbs with h0 | h0
  · rw [h0, Nat.gcd_zero_left]; omega
  · have := Nat.le_of_dvd h0 (Nat.gcd_dvd_left x.natAbs y.natAbs); omega
theorem tmod_bd {x y n : Int} (hx : -n ≤ x ∧ x ≤ n) : -n ≤ x.tmod y ∧ x.tmod y ≤ n := by
  have h : (x.tmod y).natAbs ≤ x.natAbs := by
    rw [Int.natAbs_tmod]
    exact Nat.mod_le x.natAbs y.natAbs
  omega
theorem tmod_lt {x y : Int} (hy : y ≠ 0) : (x.tmod y).natAbs < y.natAbs := by
  rw [Int.natAbs_tmod]
  exact Nat.mod_lt _ (by omega)
theorem tdiv_bd {x n m : Int} (hx : -n ≤ x ∧ x ≤ n) : -n ≤ x.tdiv m ∧ x.tdiv m ≤ n := by
  have h : (x.tdiv m).natAbs ≤ x.natAbs := by
    rw [Int.natAbs_tdiv]
    exact Nat.div_le_self x.natAbs m.natAbs
  omega
def nzB (x y : Int) : Bool := !(x == 0 && y == 0)
theorem nz_ne {x y : Int} (h : x ≠ 0) : nzB x y = true := by simp [nzB, h]
end Go.Proofs.YtgaeibibeekclabGreatDoor
namespace Go.Proofs.YtgaeibibeekclabGreatDoor
open Go.RowKit
def oneB (x y : Int) : Bool := gcdZ x y == 1
def primB (x y : Int) : Bool := vecB x y && oneB x y
def posB (a b c d : Int) : Bool := decide (0 < detZ a b c d)
def coneB (a b c d : Int) : Bool := primB a b && (primB c d && posB a b c d)
theorem oneB_true {x y : Int} (h : oneB x y = true) : gcdZ x y = 1 := by simpa [oneB] using h
theorem posB_true {a b c d : Int} (h : posB a b c d = true) : 0 < detZ a b c d := by simpa [posB] using h
theorem prim_in {x y : Int} (h : primB x y = true) : vecB x y = true ∧ oneB x y = true := by simpa [primB] using h
theorem cone_in {a b c d : Int} (h : coneB a b c d = true) : vecB a b = true ∧ oneB a b = true ∧ vecB c d = true ∧ oneB c d = true ∧ posB a b c d = true := by
  have h' : primB a b = true ∧ primB c d = true ∧ posB a b c d = true := by simpa [coneB] using h
  obtain ⟨h1, h2, h3⟩ := h'
  obtain ⟨h4, h5⟩ := prim_in h1
  obtain ⟨h6, h7⟩ := prim_in h2
  exact ⟨h4, h5, h6, h7, h3⟩
/-- whether a vector is in a cone -/
def inB (a b c d x y : Int) : Bool := decide (0 ≤ detZ x y c d) && decide (0 ≤ detZ a b x y)
end Go.Proofs.YtgaeibibeekclabGreatDoor
