import Derived.Test.YtcieihbknfeddaaB3
import Derived.Test.YtcieihbknfeddaaB4
import Derived.Maps.AppendAt
/- Slices of vectors: marked, held: for whatever slice the call owns; the mathematics of whole bases. -/
namespace Go.Proofs.Ytcieihbknfeddaa
open Go.RowKit

theorem infoVec : (Try.prog.info? 51).map (fun i => (i.zero, i.size, i.bytes)) = some (some (.agg #[.int .i64 (0), .int .i64 (0)]), 2, 16) := by kernel_rfl
theorem VRow.as {w : World} {b g c n : Nat} {l : List Int} (h : w.ownsRow b 51 2 (.slice (some ⟨g, 0, none⟩) n c) n (intsV l)) : VRow w b (.slice (some ⟨g, 0, none⟩) n c) n l := h
def VMarkedV (w : World) (b : Nat) (v : Value) (n : Nat) (e : Ending) (w' : World) : Prop := e = .returned (.int .i64 ((1 + n * 2 : Nat) : Int)) ∧ VRow w' b v n (marks 1 (n * 2)) ∧ w.grownBy w' v.ownBlock
/-! whole bases -/
/-- the second vector of the base -/
def baseX (a b c d : Int) : Int := (kindC a b c d * a + c) / detZ a b c d
def baseY (a b c d : Int) : Int := (kindC a b c d * b + d) / detZ a b c d
def baseL (a b c d : Int) : List (Int × Int) := (a, b) :: baseZ (fracC a b c d) a b (baseX a b c d) (baseY a b c d)
theorem base_at {a b c d : Int} (h : coneB a b c d = true) : atBase c d (detZ a b c d) (kindC a b c d) a b (baseX a b c d) (baseY a b c d) := by
  obtain ⟨_, o1, _, _, hp⟩ := cone_in h
  obtain ⟨⟨x, hx⟩, y, hy⟩ := kind_fits (vx := c) (vy := d) (oneB_true o1)
  have hn : detZ a b c d ≠ 0 := by have := posB_true hp; omega
  have ex : kindC a b c d * a + c = detZ a b c d * x := hx
  have ey : kindC a b c d * b + d = detZ a b c d * y := hy
  unfold atBase baseX baseY
  rw [ex, ey, Int.mul_ediv_cancel_left _ hn, Int.mul_ediv_cancel_left _ hn]
  exact ⟨rfl, rfl⟩
theorem base_tdiv {a b c d : Int} (h : coneB a b c d = true) : (kindC a b c d * a + c).tdiv (detZ a b c d) = baseX a b c d ∧ (kindC a b c d * b + d).tdiv (detZ a b c d) = baseY a b c d := by
  obtain ⟨_, o1, _, _, hp⟩ := cone_in h
  obtain ⟨hx, hy⟩ := kind_fits (vx := c) (vy := d) (oneB_true o1)
  exact ⟨Int.tdiv_eq_ediv_of_dvd hx, Int.tdiv_eq_ediv_of_dvd hy⟩
theorem base_one {a b c d : Int} (h : coneB a b c d = true) (h1 : detZ a b c d = 1) : baseL a b c d = [(a, b), (c, d)] := by
  have hk := kindC_rng h
  have h0 : kindC a b c d = 0 := by omega
  have e0 : fracC a b c d = [] := frac_zero _ (by omega)
  obtain ⟨e1, e2⟩ := base_at h
  rw [h1, h0] at e1 e2
  unfold baseL
  rw [e0]
  show [(a, b), (baseX a b c d, baseY a b c d)] = _
  rw [show baseX a b c d = c by omega, show baseY a b c d = d by omega]
/-- where the walk along the base stands: n and q are the numbers that are left, l the fraction of them, done what has come -/
def BaseAt (a b c d : Int) (l : List Int) (done : List (Int × Int)) (lx ly nx ny : Int) : Prop :=
  ∃ n q : Int, l = fracZ n q ∧ baseL a b c d = done ++ baseZ l lx ly nx ny ∧ atBase c d n q lx ly nx ny ∧ 0 ≤ q ∧ q < n ∧ n ≤ 2000000 ∧ gcdZ n q = 1 ∧ (-1000 ≤ lx ∧ lx ≤ 1000) ∧ (-1000 ≤ ly ∧ ly ≤ 1000) ∧ (-1000 ≤ nx ∧ nx ≤ 1000) ∧ (-1000 ≤ ny ∧ ny ≤ 1000)
theorem baseAt_start {a b c d : Int} (h : coneB a b c d = true) : BaseAt a b c d (fracC a b c d) [(a, b)] a b (baseX a b c d) (baseY a b c d) := by
  obtain ⟨h1, o1, h2, o2, hp⟩ := cone_in h
  have hk := kindC_rng h
  have hn := det_sz h1 h2
  obtain ⟨xa, xb⟩ := szs h1
  obtain ⟨xc, xd⟩ := szs h2
  obtain ⟨bx, by'⟩ := at_bd (base_at h) hk.1 hk.2 xa xb xc xd
  exact ⟨_, _, rfl, rfl, base_at h, hk.1, hk.2, hn.2, kind_gcd (oneB_true o1) (oneB_true o2), xa, xb, bx, by'⟩
theorem baseAt_next {a b c d : Int} (h : coneB a b c d = true) {z : Int} {l : List Int} {done : List (Int × Int)} {lx ly nx ny : Int} (hb : BaseAt a b c d (z :: l) done lx ly nx ny) :
    BaseAt a b c d l (done ++ [(nx, ny)]) nx ny (nx * z - lx) (ny * z - ly) ∧ (-2000000000 ≤ nx * z ∧ nx * z ≤ 2000000000) ∧ (-2000000000 ≤ ny * z ∧ ny * z ≤ 2000000000) ∧ (0 ≤ z ∧ z ≤ 2000000) := by
  obtain ⟨n, q, e, e2, hat, q0, q1, hn, hg, bx, b2, b3, b4⟩ := hb
  obtain ⟨h1, _, h2, _, _⟩ := cone_in h
  obtain ⟨xc, xd⟩ := szs h2
  have hq : 0 < q := by
    by_cases hq : 0 < q
    · exact hq
    · rw [frac_zero n hq] at e; cases e
  rw [frac_pos n hq] at e
  obtain ⟨rfl, rfl⟩ := List.cons.inj e
  have u1 := up_ge (n := n) hq
  have u2 := up_lt (n := n) hq
  have u3 := up_le (n := n) hq (by omega)
  have u4 := up_two hq q1
  have hat2 := at_next (b := upZ n q) hat
  obtain ⟨c1, c2⟩ := at_bd hat2 (by omega) (by omega) b3 b4 xc xd
  have m1 := mul_bd2 (q := upZ n q) (a := nx) ⟨by omega, by omega⟩ b3
  have m2 := mul_bd2 (q := upZ n q) (a := ny) ⟨by omega, by omega⟩ b4
  rw [Int.mul_comm] at m1 m2
  refine ⟨⟨q, upZ n q * q - n, rfl, ?_, hat2, by omega, by omega, by omega, by rw [gcd_next]; exact hg, b3, b4, c1, c2⟩, m1, m2, by omega, by omega⟩
  rw [e2, List.append_assoc]
  rfl
theorem baseAt_end {a b c d : Int} {done : List (Int × Int)} {lx ly nx ny : Int} (hb : BaseAt a b c d [] done lx ly nx ny) : baseL a b c d = done ++ [(c, d)] ∧ nx = c ∧ ny = d := by
  obtain ⟨n, q, e, e2, hat, q0, q1, hn, hg, _⟩ := hb
  have hq : ¬ 0 < q := by
    intro hq
    rw [frac_pos n hq] at e; cases e
  have q00 : q = 0 := by omega
  subst q00
  have hn1 : n = 1 := by
    rw [gcdZ_zero] at hg
    omega
  subst hn1
  obtain ⟨rfl, rfl⟩ := at_end hat
  exact ⟨e2, rfl, rfl⟩
theorem baseZ_len (l : List Int) : ∀ lx ly nx ny, (baseZ l lx ly nx ny).length = l.length + 1 := by
  induction l with
  | nil => intros; rfl
  | cons b l ih => intro lx ly nx ny; simp [baseZ, ih]
theorem baseL_len {a b c d : Int} (h : coneB a b c d = true) : (baseL a b c d).length ≤ 2000002 := by
  have := fracC_len h
  unfold baseL
  rw [List.length_cons, baseZ_len]
  omega
end Go.Proofs.Ytcieihbknfeddaa

/- The whole base: the model's side. -/
namespace Go.Proofs.Ytcieihbknfeddaa
open Go.RowKit

theorem Vecs.one (w : World) (x y : Int) : Vecs (w.alloc (.cells #[.int .i64 x, .int .i64 y] 51)) w.heap.size (.slice (some ⟨w.heap.size, 0, none⟩) 1 1) [(x, y)] :=
  ⟨rfl, .inr ⟨w.heap.size, 1, #[.int .i64 x, .int .i64 y], rfl, Nat.le_refl _, heap_alloc_new w _, Nat.le_refl _, by decide, rfl, rfl⟩⟩
theorem Vecs.snoc {w : World} {base n : Nat} {v : Value} {l : List (Int × Int)} {x y : Int} (hn : n = l.length) (h : w.ownsRow base 51 2 v (n + 1) (intsV (flat l) ++ [.int .i64 x, .int .i64 y])) : Vecs w base v (l ++ [(x, y)]) := by
  unfold Vecs VRow
  rw [flat_app, List.length_append, ← hn]
  have : intsV (flat l ++ flat [(x, y)]) = intsV (flat l) ++ [.int .i64 x, .int .i64 y] := by simp [intsV, flat]
  rw [this]
  exact h
end Go.Proofs.Ytcieihbknfeddaa
