import Derived.Test.YtcieihbknfeddaaBc
import Derived.Test.YtcieihbknfeddaaB2
import Derived.Deep.RegionHeld3
import Derived.Laws.StructEq
import Derived.Test.YtcieihbknfeddaaB5
import Derived.Test.YtcieihbknfeddaaB1
/- The draws of chapter 1: matrices. -/
namespace Go.Proofs.Ytcieihbknfeddaa
open Go.RowKit

/-- Some matrix of four numbers; nothing below block B has turned. -/
def DrewMat (w : World) (B : Nat) (e : Ending) (w' : World) : Prop := ∃ a b c d : Int, e = .returned (.agg #[.int .i64 (a), .int .i64 (b), .int .i64 (c), .int .i64 (d)]) ∧ Below B w w'
/-- how great the numbers may be behind k rounds -/
def threes : Nat → Int
  | 0 => 1
  | 1 => 3
  | 2 => 9
  | _ => 27
theorem threes_succ {k : Nat} (h : k < 3) : threes (k + 1) = 3 * threes k ∧ 1 ≤ threes k ∧ threes k ≤ 9 := by
  match k, h with
  | 0, _ => decide
  | 1, _ => decide
  | 2, _ => decide
theorem threes_le (k : Nat) : 1 ≤ threes k ∧ threes k ≤ 27 := by
  match k with
  | 0 => decide
  | 1 => decide
  | 2 => decide
  | k + 3 => exact ⟨by show (1 : Int) ≤ 27; decide, by show (27 : Int) ≤ 27; decide⟩
theorem mul_two {k c M : Int} (hk : -2 ≤ k ∧ k ≤ 2) (hc : -M ≤ c ∧ c ≤ M) : -(2 * M) ≤ k * c ∧ k * c ≤ 2 * M := by
  obtain h | h | h | h | h : k = -2 ∨ k = -1 ∨ k = 0 ∨ k = 1 ∨ k = 2 := by omega
  all_goals (subst h; omega)
def MatAt (W : World) (g : Nat) (a b c d : Int) : Prop := (W.cell? ⟨g, 0, none⟩ = some (.int .i64 a) ∧ W.cell? ⟨g, 1, none⟩ = some (.int .i64 b) ∧ W.cell? ⟨g, 2, none⟩ = some (.int .i64 c) ∧ W.cell? ⟨g, 3, none⟩ = some (.int .i64 d)) ∧ (W.frozen? ⟨g, 0, none⟩ = false ∧ W.frozen? ⟨g, 1, none⟩ = false ∧ W.frozen? ⟨g, 2, none⟩ = false ∧ W.frozen? ⟨g, 3, none⟩ = false)
theorem MatAt.kept {W W' : World} {g : Nat} {a b c d : Int} (h : MatAt W g a b c d) (k : ∀ o, W'.cell? ⟨g, o, none⟩ = W.cell? ⟨g, o, none⟩) (f : ∀ o, W'.frozen? ⟨g, o, none⟩ = W.frozen? ⟨g, o, none⟩) : MatAt W' g a b c d := by
  unfold MatAt
  simp only [k, f]
  exact h
theorem MatAt.put {W : World} {g : Nat} {a b c d : Int} (h : MatAt W g a b c d) (x y z u : Int) :
    MatAt ((((W.setCell ⟨g, 0, none⟩ (.int .i64 x)).setCell ⟨g, 1, none⟩ (.int .i64 y)).setCell ⟨g, 2, none⟩ (.int .i64 z)).setCell ⟨g, 3, none⟩ (.int .i64 u)) g x y z u := by
  obtain ⟨⟨h0, h1, h2, h3⟩, f0, f1, f2, f3⟩ := h
  refine ⟨⟨?_, ?_, ?_, ?_⟩, by simp [*], by simp [*], by simp [*], by simp [*]⟩
  · rw [World.cell?_setCell_other _ _ _ _ (by simp), World.cell?_setCell_other _ _ _ _ (by simp), World.cell?_setCell_other _ _ _ _ (by simp)]
    exact World.cell?_setCell_same _ _ _ h0
  · rw [World.cell?_setCell_other _ _ _ _ (by simp), World.cell?_setCell_other _ _ _ _ (by simp)]
    refine World.cell?_setCell_same (u := .int .i64 b) _ _ _ ?_
    rw [World.cell?_setCell_other _ _ _ _ (by simp)]; exact h1
  · rw [World.cell?_setCell_other _ _ _ _ (by simp)]
    refine World.cell?_setCell_same (u := .int .i64 c) _ _ _ ?_
    rw [World.cell?_setCell_other _ _ _ _ (by simp), World.cell?_setCell_other _ _ _ _ (by simp)]; exact h2
  · refine World.cell?_setCell_same (u := .int .i64 d) _ _ _ ?_
    rw [World.cell?_setCell_other _ _ _ _ (by simp), World.cell?_setCell_other _ _ _ _ (by simp), World.cell?_setCell_other _ _ _ _ (by simp)]; exact h3
theorem MatAt.other {W : World} {g g' : Nat} {a b c d : Int} (h : MatAt W g a b c d) (hne : g' ≠ g) (x y z u : Int) :
    MatAt ((((W.setCell ⟨g', 0, none⟩ (.int .i64 x)).setCell ⟨g', 1, none⟩ (.int .i64 y)).setCell ⟨g', 2, none⟩ (.int .i64 z)).setCell ⟨g', 3, none⟩ (.int .i64 u)) g a b c d := by
  refine h.kept (fun o => ?_) (fun o => by simp)
  rw [World.cell?_setCell_far _ _ _ _ hne, World.cell?_setCell_far _ _ _ _ hne, World.cell?_setCell_far _ _ _ _ hne, World.cell?_setCell_far _ _ _ _ hne]
theorem Reads.put {W : World} {B g : Nat} {a : Option Addr} {len cap : Nat} {p : Int} (h : Reads W B a len cap p) (hg : B < g) (x y z u : Int) :
    Reads ((((W.setCell ⟨g, 0, none⟩ (.int .i64 x)).setCell ⟨g, 1, none⟩ (.int .i64 y)).setCell ⟨g, 2, none⟩ (.int .i64 z)).setCell ⟨g, 3, none⟩ (.int .i64 u)) B a len cap p :=
  h.below (((((Below.refl (B + 1) W).setCell (p := ⟨g, 0, none⟩) hg _).setCell (p := ⟨g, 1, none⟩) hg _).setCell (p := ⟨g, 2, none⟩) hg _).setCell (p := ⟨g, 3, none⟩) hg _)
theorem below_put {w W : World} {B g : Nat} (h : Below B w W) (hg : B ≤ g) (x y z u : Int) :
    Below B w ((((W.setCell ⟨g, 0, none⟩ (.int .i64 x)).setCell ⟨g, 1, none⟩ (.int .i64 y)).setCell ⟨g, 2, none⟩ (.int .i64 z)).setCell ⟨g, 3, none⟩ (.int .i64 u)) :=
  (((h.setCell (p := ⟨g, 0, none⟩) hg _).setCell (p := ⟨g, 1, none⟩) hg _).setCell (p := ⟨g, 2, none⟩) hg _).setCell (p := ⟨g, 3, none⟩) hg _

def OneMat (w : World) (e : Ending) (w' : World) : Prop := ∃ a b c d : Int, e = .returned (.agg #[.int .i64 (a), .int .i64 (b), .int .i64 (c), .int .i64 (d)]) ∧ Below w.heap.size w w'
end Go.Proofs.Ytcieihbknfeddaa

namespace Go.Proofs.Ytcieihbknfeddaa
open Go.RowKit

/-! eqMat at one matrix twice -/
/-! checkAll over two matrices -/
/-! MatTurned -/
end Go.Proofs.Ytcieihbknfeddaa

namespace Go.Proofs.Ytcieihbknfeddaa
open Go.RowKit

end Go.Proofs.Ytcieihbknfeddaa

/- The draws of the promises of chapter 1. -/
namespace Go.Proofs.Ytcieihbknfeddaa
open Go.RowKit

theorem giv {f : FuncId} {args : Array Value} {w : World} {v v' : Value} (h : Calls Try.prog f args w fun e w' => e = .returned v ∧ Below w.heap.size w w') (e : v = v') : Calls Try.prog f args w fun e w' => e = .returned v' ∧ Below w.heap.size w w' := by
  subst e
  exact h
def OneVec (w : World) (e : Ending) (w' : World) : Prop := ∃ x y : Int, e = .returned (.agg #[.int .i64 (x), .int .i64 (y)]) ∧ Below w.heap.size w w'
theorem times_neg {x y : Int} (k : vecB x y = true) : timesOk x y (-1) = true := by
  obtain ⟨⟨_, _⟩, ⟨_, _⟩⟩ := szs k
  have e1 : szB (x * -1) = true := szB_mk (by omega) (by omega)
  have e2 : szB (y * -1) = true := szB_mk (by omega) (by omega)
  unfold timesOk
  rw [k]
  unfold vecB
  rw [e1, e2]
  rfl
theorem vec_mk {x y : Int} (h1 : -1000 ≤ x ∧ x ≤ 1000) (h2 : -1000 ≤ y ∧ y ≤ 1000) : vecB x y = true := by
  unfold vecB
  rw [szB_mk h1.1 h1.2, szB_mk h2.1 h2.2]
  rfl
theorem two_in {x1 y1 x2 y2 : Int} (h : twoOk x1 y1 x2 y2 = true) : vecB x1 y1 = true ∧ vecB x2 y2 = true := by simpa [twoOk] using h
theorem two_mk {x1 y1 x2 y2 : Int} (h1 : vecB x1 y1 = true) (h2 : vecB x2 y2 = true) : twoOk x1 y1 x2 y2 = true := by
  unfold twoOk
  rw [h1, h2]
  rfl
theorem add_in {x1 y1 x2 y2 : Int} (h : addOk x1 y1 x2 y2 = true) : vecB x1 y1 = true ∧ vecB x2 y2 = true ∧ vecB (x1 + x2) (y1 + y2) = true := by
  unfold addOk at h
  simp only [Bool.and_eq_true] at h
  exact ⟨h.1.1, h.1.2, h.2⟩
theorem add_mk {x1 y1 x2 y2 : Int} (h1 : vecB x1 y1 = true) (h2 : vecB x2 y2 = true) (h3 : vecB (x1 + x2) (y1 + y2) = true) : addOk x1 y1 x2 y2 = true := by
  unfold addOk
  rw [h1, h2, h3]
  rfl
theorem turn_in {x y : Int} (h : vecB x y = true) : vecB (-y) x = true := by
  obtain ⟨⟨_, _⟩, ⟨_, _⟩⟩ := szs h
  exact vec_mk ⟨by omega, by omega⟩ ⟨by omega, by omega⟩
theorem det_bd2 {x1 y1 x2 y2 : Int} (h1 : vecB x1 y1 = true) (h2 : vecB x2 y2 = true) : -2000000 ≤ detZ x1 y1 x2 y2 ∧ detZ x1 y1 x2 y2 ≤ 2000000 := by
  obtain ⟨a1, a2⟩ := szs h1
  obtain ⟨a3, a4⟩ := szs h2
  have m1 := mul_bd a1 a4
  have m2 := mul_bd a2 a3
  unfold detZ
  omega
theorem dot_bd2 {x1 y1 x2 y2 : Int} (h1 : vecB x1 y1 = true) (h2 : vecB x2 y2 = true) : -2000000 ≤ dotZ x1 y1 x2 y2 ∧ dotZ x1 y1 x2 y2 ≤ 2000000 := by
  obtain ⟨a1, a2⟩ := szs h1
  obtain ⟨a3, a4⟩ := szs h2
  have m1 := mul_bd a1 a3
  have m2 := mul_bd a2 a4
  unfold dotZ
  omega
end Go.Proofs.Ytcieihbknfeddaa

/- The promises of chapter 2: the mathematics. -/
namespace Go.Proofs.Ytcieihbknfeddaa
open Go.RowKit

theorem gcdZ_comm (a b : Int) : gcdZ a b = gcdZ b a := by
  unfold gcdZ
  rw [Nat.gcd_comm]
theorem gcdZ_neg (a b : Int) : gcdZ a (-b) = gcdZ a b := by
  unfold gcdZ
  rw [Int.natAbs_neg]
theorem dual_det (a b c d : Int) : detZ d (-c) (-b) a = detZ a b c d := by
  unfold detZ
  grind
theorem dual_in {a b c d : Int} (h : coneB a b c d = true) : coneB d (-c) (-b) a = true := by
  obtain ⟨v1, o1, v2, o2, hp⟩ := cone_in h
  obtain ⟨⟨_, _⟩, ⟨_, _⟩⟩ := szs v1
  obtain ⟨⟨_, _⟩, ⟨_, _⟩⟩ := szs v2
  have e1 : vecB d (-c) = true := vec_mk ⟨by omega, by omega⟩ ⟨by omega, by omega⟩
  have e2 : vecB (-b) a = true := vec_mk ⟨by omega, by omega⟩ ⟨by omega, by omega⟩
  have g1 : oneB d (-c) = true := by
    unfold oneB
    rw [gcdZ_neg, gcdZ_comm]
    exact o2
  have g2 : oneB (-b) a = true := by
    unfold oneB
    rw [gcdZ_comm, gcdZ_neg]
    exact o1
  have p : posB d (-c) (-b) a = true := by
    unfold posB
    rw [dual_det]
    exact hp
  unfold coneB primB
  rw [e1, e2, g1, g2, p]
  rfl
theorem swap_det (a b c d : Int) : detZ d c b a = detZ a b c d := by
  unfold detZ
  grind
theorem swap_in {a b c d : Int} (h : coneB a b c d = true) : coneB d c b a = true := by
  obtain ⟨v1, o1, v2, o2, hp⟩ := cone_in h
  obtain ⟨s1, s2⟩ := szs v1
  obtain ⟨s3, s4⟩ := szs v2
  have g1 : oneB d c = true := by
    unfold oneB
    rw [gcdZ_comm]
    exact o2
  have g2 : oneB b a = true := by
    unfold oneB
    rw [gcdZ_comm]
    exact o1
  have p : posB d c b a = true := by
    unfold posB
    rw [swap_det]
    exact hp
  unfold coneB primB
  rw [vec_mk s4 s3, vec_mk s2 s1, g1, g2, p]
  rfl
theorem swap_move (a b c d : Int) : cmA a b c d 0 1 1 0 = d ∧ cmB a b c d 0 1 1 0 = c ∧ cmC a b c d 0 1 1 0 = b ∧ cmD a b c d 0 1 1 0 = a := by
  have e : negM 0 1 1 0 = true := rfl
  unfold cmA cmB cmC cmD
  rw [e]
  unfold pick2 moveX
  simp
theorem swap_ok {a b c d : Int} (h : coneB a b c d = true) : cmvOk a b c d 0 1 1 0 = true := by
  obtain ⟨e1, e2, e3, e4⟩ := swap_move a b c d
  unfold cmvOk cmOk
  rw [e1, e2, e3, e4, h, swap_in h]
  rfl
theorem dvd_one {n m a b : Int} (h : gcdZ a b = 1) (h1 : n ∣ m * a) (h2 : n ∣ m * b) : n ∣ m := by
  have h3 : ((n.natAbs : Nat)) ∣ Nat.gcd (m * a).natAbs (m * b).natAbs := Nat.dvd_gcd (Int.natAbs_dvd_natAbs.2 h1) (Int.natAbs_dvd_natAbs.2 h2)
  rw [Int.natAbs_mul, Int.natAbs_mul, Nat.gcd_mul_left] at h3
  have h4 : Nat.gcd a.natAbs b.natAbs = 1 := by
    unfold gcdZ at h
    omega
  rw [h4, Nat.mul_one] at h3
  exact Int.natAbs_dvd_natAbs.1 h3
/-- the kinds from both sides are inverse -/
theorem kind_inv {a b c d : Int} (h : coneB a b c d = true) : detZ a b c d ∣ 1 - kindC a b c d * kindC d c b a := by
  obtain ⟨e1, e2⟩ := base_at h
  obtain ⟨e3, e4⟩ := base_at (swap_in h)
  rw [swap_det] at e3 e4
  obtain ⟨_, o1, _, _, _⟩ := cone_in h
  generalize kindC a b c d = q at *
  generalize kindC d c b a = k at *
  generalize baseX a b c d = x1 at *
  generalize baseY a b c d = y1 at *
  generalize baseX d c b a = x2 at *
  generalize baseY d c b a = y2 at *
  generalize detZ a b c d = n at *
  refine dvd_one (oneB_true o1) ⟨y2 - k * x1, ?_⟩ ⟨x2 - k * y1, ?_⟩
  · grind
  · grind
theorem kind_one {a b c d : Int} (h : coneB a b c d = true) (h1 : 1 < detZ a b c d) : (kindC a b c d * kindC d c b a).tmod (detZ a b c d) = 1 := by
  obtain ⟨m, hm⟩ := kind_inv h
  have r1 := kindC_rng h
  have r2 := kindC_rng (swap_in h)
  have h0 : 0 ≤ kindC a b c d * kindC d c b a := Int.mul_nonneg r1.1 r2.1
  rw [Int.tmod_eq_emod_of_nonneg h0]
  have e : kindC a b c d * kindC d c b a = 1 + detZ a b c d * (-m) := by
    rw [Int.mul_neg]
    omega
  rw [e, Int.add_mul_emod_self_left]
  exact Int.emod_eq_of_lt (by omega) h1
theorem has_of {a b c d x y : Int} (h : coneB a b c d = true) (hv : vecB x y = true) (h1 : 0 ≤ detZ x y c d) (h2 : 0 ≤ detZ a b x y) : hasOk a b c d x y = true := by
  unfold hasOk cvOk inB
  rw [h, hv]
  simp [h1, h2]
theorem hasOk_in {a b c d x y : Int} (k : hasOk a b c d x y = true) : coneB a b c d = true ∧ vecB x y = true ∧ 0 ≤ detZ x y c d ∧ 0 ≤ detZ a b x y := by
  unfold hasOk cvOk inB at k
  simp only [Bool.and_eq_true, decide_eq_true_eq] at k
  exact ⟨k.1.1, k.1.2, k.2.1, k.2.2⟩
theorem det_nn (x y : Int) : detZ x y x y = 0 := by
  unfold detZ
  grind
theorem has_u {a b c d : Int} (h : coneB a b c d = true) : hasOk a b c d a b = true := by
  obtain ⟨v1, o1, v2, o2, hp⟩ := cone_in h
  have := posB_true hp
  exact has_of h v1 (by omega) (by rw [det_nn]; omega)
theorem has_v {a b c d : Int} (h : coneB a b c d = true) : hasOk a b c d c d = true := by
  obtain ⟨v1, o1, v2, o2, hp⟩ := cone_in h
  have := posB_true hp
  exact has_of h v2 (by rw [det_nn]; omega) (by omega)
theorem has_s {a b c d : Int} (h : coneB a b c d = true) (hv : vecB (a + c) (b + d) = true) : hasOk a b c d (a + c) (b + d) = true := by
  obtain ⟨v1, o1, v2, o2, hp⟩ := cone_in h
  have := posB_true hp
  refine has_of h hv ?_ ?_
  · rw [show detZ (a + c) (b + d) c d = detZ a b c d by unfold detZ; grind]
    omega
  · rw [show detZ a b (a + c) (b + d) = detZ a b c d by unfold detZ; grind]
    omega
theorem parts_eq (a b c d x y : Int) : detZ x y c d * a + detZ a b x y * c = detZ a b c d * x ∧ detZ x y c d * b + detZ a b x y * d = detZ a b c d * y := by
  unfold detZ
  constructor <;> grind
theorem mul_bd3 {a b : Int} (ha : -2000000 ≤ a ∧ a ≤ 2000000) (hb : -1000 ≤ b ∧ b ≤ 1000) : -2000000000 ≤ a * b ∧ a * b ≤ 2000000000 := by
  have h1 : (a * b).natAbs ≤ 2000000 * 1000 := by
    rw [Int.natAbs_mul]
    exact Nat.mul_le_mul (by omega) (by omega)
  omega
end Go.Proofs.Ytcieihbknfeddaa

/- Whole bases: what the promise says of them: the mathematics; lists of vectors compared. -/
namespace Go.Proofs.Ytcieihbknfeddaa
open Go.RowKit

def at2 (L : List (Int × Int)) (j : Nat) : Int × Int := (L[j]?).getD (0, 0)
theorem at2_succ (p : Int × Int) (L : List (Int × Int)) (j : Nat) : at2 (p :: L) (j + 1) = at2 L j := by simp [at2]
theorem at2_zero (p : Int × Int) (L : List (Int × Int)) : at2 (p :: L) 0 = p := by simp [at2]
theorem baseZ_head (l : List Int) (lx ly nx ny : Int) : at2 (baseZ l lx ly nx ny) 0 = (nx, ny) := by cases l <;> rfl
def hasV (a b c d : Int) (p : Int × Int) : Prop := hasOk a b c d p.1 p.2 = true
theorem base_chain {a b c d : Int} (h : coneB a b c d = true) : ∀ (l : List Int) (done : List (Int × Int)) (lx ly nx ny : Int), BaseAt a b c d l done lx ly nx ny →
    detZ lx ly nx ny = 1 → 0 ≤ detZ lx ly c d → 0 ≤ detZ a b lx ly → detZ a b lx ly ≤ detZ a b nx ny → ∀ i,
    (i < l.length + 1 → detZ (at2 ((lx, ly) :: baseZ l lx ly nx ny) i).1 (at2 ((lx, ly) :: baseZ l lx ly nx ny) i).2 (at2 ((lx, ly) :: baseZ l lx ly nx ny) (i + 1)).1 (at2 ((lx, ly) :: baseZ l lx ly nx ny) (i + 1)).2 = 1) ∧
    (i < l.length + 2 → hasV a b c d (at2 ((lx, ly) :: baseZ l lx ly nx ny) i)) ∧
    (i < l.length → (at2 ((lx, ly) :: baseZ l lx ly nx ny) i).1 + (at2 ((lx, ly) :: baseZ l lx ly nx ny) (i + 2)).1 = l[i]?.getD 0 * (at2 ((lx, ly) :: baseZ l lx ly nx ny) (i + 1)).1 ∧
      (at2 ((lx, ly) :: baseZ l lx ly nx ny) i).2 + (at2 ((lx, ly) :: baseZ l lx ly nx ny) (i + 2)).2 = l[i]?.getD 0 * (at2 ((lx, ly) :: baseZ l lx ly nx ny) (i + 1)).2) := by
  intro l
  induction l with
  | nil =>
    intro done lx ly nx ny hb h1 h2 h3 h4 i
    obtain ⟨_, rfl, rfl⟩ := baseAt_end hb
    obtain ⟨n, q, _, _, _, _, _, _, _, b1, b2, _, _⟩ := hb
    have hv : hasOk a b nx ny lx ly = true := has_of h (vec_mk b1 b2) h2 h3
    refine ⟨fun hi => ?_, fun hi => ?_, fun hi => absurd hi (by simp)⟩
    · obtain rfl : i = 0 := by simpa using hi
      exact h1
    · match i, hi with
      | 0, _ => exact hv
      | 1, _ => exact has_v h
      | i + 2, hi =>
        simp only [List.length_nil] at hi
        omega
  | cons z t ih =>
    intro done lx ly nx ny hb h1 h2 h3 h4 i
    have hb' := (baseAt_next h hb).1
    obtain ⟨n, q, hl, _, ⟨a1, a2⟩, q0, qn, _, _, b1, b2, b3, b4⟩ := hb
    have hz : 2 ≤ z := frac_two n q qn z (by rw [← hl]; simp)
    have hv : hasOk a b c d lx ly = true := has_of h (vec_mk b1 b2) h2 h3
    have e1 : detZ nx ny (nx * z - lx) (ny * z - ly) = 1 := by
      rw [← h1]
      unfold detZ
      grind
    have e2 : 0 ≤ detZ nx ny c d := by
      have e : n * detZ nx ny c d = q * detZ lx ly c d := by
        have : n * detZ nx ny c d = (n * nx) * d - (n * ny) * c := by unfold detZ; grind
        rw [this, a1, a2]
        unfold detZ
        grind
      have hp : 0 ≤ n * detZ nx ny c d := by rw [e]; exact Int.mul_nonneg q0 h2
      by_cases hd : 0 ≤ detZ nx ny c d
      · exact hd
      · have := Int.mul_neg_of_pos_of_neg (show 0 < n by omega) (show detZ nx ny c d < 0 by omega)
        omega
    have e3 : 0 ≤ detZ a b nx ny := by omega
    have e4 : detZ a b nx ny ≤ detZ a b (nx * z - lx) (ny * z - ly) := by
      have e : detZ a b (nx * z - lx) (ny * z - ly) = z * detZ a b nx ny - detZ a b lx ly := by unfold detZ; grind
      have := Int.mul_le_mul_of_nonneg_right hz e3
      omega
    have hI := ih _ _ _ _ _ hb' e1 e2 e3 e4
    have es : baseZ (z :: t) lx ly nx ny = (nx, ny) :: baseZ t nx ny (nx * z - lx) (ny * z - ly) := rfl
    rw [es]
    cases i with
    | zero =>
      refine ⟨fun _ => ?_, fun _ => ?_, fun _ => ?_⟩
      · rw [at2_zero, at2_succ, at2_zero]
        exact h1
      · rw [at2_zero]
        exact hv
      · rw [at2_zero, at2_succ, at2_succ, baseZ_head, at2_succ, at2_zero]
        simp only [List.getElem?_cons_zero, Option.getD_some]
        constructor <;> grind
    | succ i =>
      obtain ⟨i1, i2, i3⟩ := hI i
      have key : ∀ j, at2 ((lx, ly) :: (nx, ny) :: baseZ t nx ny (nx * z - lx) (ny * z - ly)) (j + 1) = at2 ((nx, ny) :: baseZ t nx ny (nx * z - lx) (ny * z - ly)) j := fun j => at2_succ _ _ _
      rw [show i + 1 + 2 = (i + 2) + 1 from rfl, key i, key (i + 1), key (i + 2)]
      refine ⟨fun hi => i1 (by simpa using hi), fun hi => i2 (by simp at hi; omega), fun hi => ?_⟩
      have := i3 (by simpa using hi)
      simpa using this
theorem base_all {a b c d : Int} (h : coneB a b c d = true) (i : Nat) :
    (i < (fracC a b c d).length + 1 → detZ (at2 (baseL a b c d) i).1 (at2 (baseL a b c d) i).2 (at2 (baseL a b c d) (i + 1)).1 (at2 (baseL a b c d) (i + 1)).2 = 1) ∧
    (i < (fracC a b c d).length + 2 → hasV a b c d (at2 (baseL a b c d) i)) ∧
    (i < (fracC a b c d).length → (at2 (baseL a b c d) i).1 + (at2 (baseL a b c d) (i + 2)).1 = (fracC a b c d)[i]?.getD 0 * (at2 (baseL a b c d) (i + 1)).1 ∧
      (at2 (baseL a b c d) i).2 + (at2 (baseL a b c d) (i + 2)).2 = (fracC a b c d)[i]?.getD 0 * (at2 (baseL a b c d) (i + 1)).2) := by
  obtain ⟨_, _, _, _, hp⟩ := cone_in h
  have hn := posB_true hp
  obtain ⟨e1, e2⟩ := base_at h
  have e3 : detZ a b (baseX a b c d) (baseY a b c d) = 1 := by
    refine Int.eq_of_mul_eq_mul_left (show detZ a b c d ≠ 0 by omega) ?_
    have : detZ a b c d * detZ a b (baseX a b c d) (baseY a b c d) = a * (detZ a b c d * baseY a b c d) - b * (detZ a b c d * baseX a b c d) := by
      generalize detZ a b c d = n
      unfold detZ
      grind
    rw [this, e1, e2]
    unfold detZ
    grind
  exact base_chain h _ _ _ _ _ _ (baseAt_start h) e3 (by omega) (by rw [det_nn]; omega) (by rw [det_nn, e3]; omega) i
theorem base_last {a b c d : Int} (h : coneB a b c d = true) : at2 (baseL a b c d) ((fracC a b c d).length + 1) = (c, d) := by
  have key : ∀ (l : List Int) (done : List (Int × Int)) (lx ly nx ny : Int), BaseAt a b c d l done lx ly nx ny → at2 ((lx, ly) :: baseZ l lx ly nx ny) (l.length + 1) = (c, d) := by
    intro l
    induction l with
    | nil =>
      intro done lx ly nx ny hb
      obtain ⟨_, rfl, rfl⟩ := baseAt_end hb
      rfl
    | cons z t ih =>
      intro done lx ly nx ny hb
      have := ih _ _ _ _ _ (baseAt_next h hb).1
      rw [at2_succ]
      exact this
  exact key _ _ _ _ _ _ (baseAt_start h)
theorem base_count (a b c d : Int) : (baseL a b c d).length = (fracC a b c d).length + 2 := by
  unfold baseL
  rw [List.length_cons, baseZ_len]
theorem flat_at (l : List (Int × Int)) (j : Nat) (h : j < l.length) : (flat l)[j * 2]?.getD 0 = (at2 l j).1 ∧ (flat l)[j * 2 + 1]?.getD 0 = (at2 l j).2 := by
  induction l generalizing j with
  | nil => simp at h
  | cons p l ih =>
    cases j with
    | zero => simp [flat, at2]
    | succ j =>
      have := ih j (by simpa using h)
      rw [at2_succ]
      simpa [flat, Nat.add_mul, Nat.succ_mul] using this
theorem Vecs.form2 {w : World} {base : Nat} {v : Value} {L : List (Int × Int)} (h : Vecs w base v L) (h0 : 0 < L.length) : ∃ go c, v = .slice (some ⟨go, 0, none⟩) L.length c ∧ base ≤ go ∧ go < w.heap.size ∧ L.length ≤ c := by
  rcases VRow.form h with ⟨h1, _⟩ | ⟨_, g, c, h1, h2, h3, h4⟩
  · omega
  · exact ⟨g, c, h1, h2, h3, h4⟩
theorem Vecs.cells2 {w : World} {base g c : Nat} {l : List (Int × Int)} (h : Vecs w base (.slice (some ⟨g, 0, none⟩) l.length c) l) : ∀ j, j < l.length → w.cell? ⟨g, j * 2, none⟩ = some (.int .i64 (at2 l j).1) ∧ w.cell? ⟨g, j * 2 + 1, none⟩ = some (.int .i64 (at2 l j).2) := by
  intro j hj
  obtain ⟨e1, e2⟩ := flat_at l j hj
  rw [← e1, ← e2]
  exact ⟨VRow.cell h (j * 2) (by omega), VRow.cell h (j * 2 + 1) (by omega)⟩
theorem run_neSame (x y : Int) (w : World) : (binOp .neq 51 (.agg #[.int .i64 (x), .int .i64 (y)]) (.agg #[.int .i64 (x), .int .i64 (y)])).run Try.prog w = .ok (.bool false) w := by
  have hS : Try.prog.underlying 51 = some (.struct (Try.prog.fieldsOf 51)) := by kernel_rfl
  have hp : Try.prog.stoodInHeld 51 = false := by kernel_rfl
  have u3 := Try.underlying3
  have a3 := Try.isAgg3
  have z3 := Try.sizeOf3
  rw [run_neq_struct, show (10000 : Nat) = 9999 + 1 from rfl, run_equalIn_agg w 9999 51 _ _ hS hp]
  simp only [Program.fieldsOf, Try.underlying51]
  go_simp
end Go.Proofs.Ytcieihbknfeddaa

/- The draws of chapter 2: primitive vectors, cones. -/
namespace Go.Proofs.Ytcieihbknfeddaa
open Go.RowKit

theorem Kept.mono {n0 n1 B : Nat} {w w' : World} (h : Kept n1 B w w') (hn : n0 ≤ n1) : Kept n0 B w w' :=
  ⟨fun b o h1 h2 => h.1 b o (Nat.lt_of_lt_of_le h1 hn) h2, h.2⟩
def DrewPrim (w : World) (B : Nat) (a : Option Addr) (len cap : Nat) (p : Int) (e : Ending) (w' : World) : Prop :=
  ∃ x y p' : Int, e = .returned (.agg #[.int .i64 (x), .int .i64 (y)]) ∧ (-6 ≤ x ∧ x ≤ 6) ∧ (-6 ≤ y ∧ y ≤ 6) ∧ p ≤ p' ∧ p' ≤ p + 10 ∧ Reads w' B a len cap p' ∧ Below B w w' ∧ Kept w.heap.size B w w'
theorem six_vec {x y : Int} (h1 : -6 ≤ x ∧ x ≤ 6) (h2 : -6 ≤ y ∧ y ≤ 6) : vecB x y = true := by
  unfold vecB
  rw [szB_mk (by omega) (by omega), szB_mk (by omega) (by omega)]
  rfl
def DrewCone (w : World) (B : Nat) (a : Option Addr) (len cap : Nat) (p : Int) (e : Ending) (w' : World) : Prop :=
  ∃ x y z u p' : Int, e = .returned (.agg #[.int .i64 (x), .int .i64 (y), .int .i64 (z), .int .i64 (u)]) ∧ (-6 ≤ x ∧ x ≤ 6) ∧ (-6 ≤ y ∧ y ≤ 6) ∧ (-6 ≤ z ∧ z ≤ 6) ∧ (-6 ≤ u ∧ u ≤ 6) ∧ p' ≤ p + 30 ∧ Reads w' B a len cap p' ∧ Below B w w' ∧ Kept w.heap.size B w w'
end Go.Proofs.Ytcieihbknfeddaa
