import Derived.Test.YtcieihbknfeddaaDoorB3
import Derived.Test.YtcieihbknfeddaaDoorB4
import Derived.Maps.AppendAt
/- Slices of vectors: marked, held: for whatever slice the call owns; the mathematics of whole bases. -/
namespace Go.Proofs.YtcieihbknfeddaaDoor
open Go.RowKit

theorem infoVec : (Tryd.prog.info? 26).map (fun i => (i.zero, i.size, i.bytes)) = some (some (.agg #[.int .i64 (0), .int .i64 (0)]), 2, 16) := by kernel_rfl
theorem VRow.as {w : World} {b g c n : Nat} {l : List Int} (h : w.ownsRow b 26 2 (.slice (some ⟨g, 0, none⟩) n c) n (intsV l)) : VRow w b (.slice (some ⟨g, 0, none⟩) n c) n l := h
def VMarkedV (w : World) (b : Nat) (v : Value) (n : Nat) (e : Ending) (w' : World) : Prop := e = .returned (.int .i64 ((1 + n * 2 : Nat) : Int)) ∧ VRow w' b v n (marks 1 (n * 2)) ∧ w.grownBy w' v.ownBlock
theorem markVecS_own (v : Value) (b : Nat) (l : List (Int × Int)) (w : World) (I : Vecs w b v l) (hm : l.length ≤ 576460752303423488) :
    Calls Tryd.prog 31 #[v, .int .i64 1] w (VMarkedV w b v l.length) := by
  have h1 : (1 : Int) = ((1 : Nat) : Int) := rfl
  rw [h1]
  unfold Vecs at I
  have hf := flat_len l
  generalize flat l = f at *
  generalize l.length = n at *
  rcases I.form with ⟨rfl, rfl, a, c, rfl⟩ | ⟨hp, g, c, rfl, _, _, _⟩
  · refine Calls.mono (markVecS_nil a c 1 w) ?_
    rintro e w' ⟨rfl, rfl⟩
    exact ⟨rfl, I, World.grownBy.refl _ _⟩
  · refine Calls.mono (markVecS_row g c b 1 n f w (by omega) I (by omega) hm) ?_
    rintro e w' ⟨rfl, h2, h3⟩
    exact ⟨rfl, h2, h3⟩
theorem heldVecS_own (v : Value) (b n : Nat) (w : World) (I : VRow w b v n (marks 1 (n * 2))) (hm : n ≤ 576460752303423488) :
    Calls Tryd.prog 32 #[v, .int .i64 1] w fun e w' => e = .returned (.int .i64 ((1 + n * 2 : Nat) : Int)) ∧ w = w' := by
  have h1 : (1 : Int) = ((1 : Nat) : Int) := rfl
  rw [h1]
  rcases I.form with ⟨rfl, _, a, c, rfl⟩ | ⟨hp, g, c, rfl, _, _, _⟩
  · exact heldVecS_nil a c 1 w
  · exact heldVecS_row g c b 1 n w I (by omega) hm

/-! whole bases -/
/-- the second vector of the base -/
def baseX (a b c d : Int) : Int := (kindC a b c d * a + c) / detZ a b c d
def baseY (a b c d : Int) : Int := (kindC a b c d * b + d) / detZ a b c d
def baseL (a b c d : Int) : List (Int × Int) := (a, b) :: baseZ (fracC a b c d) a b (baseX a b c d) (baseY a b c d)
theorem base_at {a b c d : Int} (h : coneB a b c d = true) : atBase c d (detZ a b c d) (kindC a b c d) a b (baseX a b c d) (baseY a b c d) := by
  obtain ⟨_, o1, _, _, hp⟩ := cone_in h
  obtain ⟨⟨x, hx⟩, y, hy⟩ := kind_fits (vx := c) (vy := d) (oneB_true o1)
  have hn : detZ a b c d ≠ 0 := by have := posB_true hp; omega
  have ex : kindC a b c d * a + c = detZ a b c d * x := hx
  have ey : kindC a b c d * b + d = detZ a b c d * y := hy
  unfold atBase baseX baseY
  rw [ex, ey, Int.mul_ediv_cancel_left _ hn, Int.mul_ediv_cancel_left _ hn]
  exact ⟨rfl, rfl⟩
theorem base_tdiv {a b c d : Int} (h : coneB a b c d = true) : (kindC a b c d * a + c).tdiv (detZ a b c d) = baseX a b c d ∧ (kindC a b c d * b + d).tdiv (detZ a b c d) = baseY a b c d := by
  obtain ⟨_, o1, _, _, hp⟩ := cone_in h
  obtain ⟨hx, hy⟩ := kind_fits (vx := c) (vy := d) (oneB_true o1)
  exact ⟨Int.tdiv_eq_ediv_of_dvd hx, Int.tdiv_eq_ediv_of_dvd hy⟩
theorem base_one {a b c d : Int} (h : coneB a b c d = true) (h1 : detZ a b c d = 1) : baseL a b c d = [(a, b), (c, d)] := by
  have hk := kindC_rng h
  have h0 : kindC a b c d = 0 := by omega
  have e0 : fracC a b c d = [] := frac_zero _ (by omega)
  obtain ⟨e1, e2⟩ := base_at h
  rw [h1, h0] at e1 e2
  unfold baseL
  rw [e0]
  show [(a, b), (baseX a b c d, baseY a b c d)] = _
  rw [show baseX a b c d = c by omega, show baseY a b c d = d by omega]
/-- where the walk along the base stands: n and q are the numbers that are left, l the fraction of them, done what has come -/
def BaseAt (a b c d : Int) (l : List Int) (done : List (Int × Int)) (lx ly nx ny : Int) : Prop :=
  ∃ n q : Int, l = fracZ n q ∧ baseL a b c d = done ++ baseZ l lx ly nx ny ∧ atBase c d n q lx ly nx ny ∧ 0 ≤ q ∧ q < n ∧ n ≤ 2000000 ∧ gcdZ n q = 1 ∧ (-1000 ≤ lx ∧ lx ≤ 1000) ∧ (-1000 ≤ ly ∧ ly ≤ 1000) ∧ (-1000 ≤ nx ∧ nx ≤ 1000) ∧ (-1000 ≤ ny ∧ ny ≤ 1000)
theorem baseAt_start {a b c d : Int} (h : coneB a b c d = true) : BaseAt a b c d (fracC a b c d) [(a, b)] a b (baseX a b c d) (baseY a b c d) := by
  obtain ⟨h1, o1, h2, o2, hp⟩ := cone_in h
  have hk := kindC_rng h
  have hn := det_sz h1 h2
  obtain ⟨xa, xb⟩ := szs h1
  obtain ⟨xc, xd⟩ := szs h2
  obtain ⟨bx, by'⟩ := at_bd (base_at h) hk.1 hk.2 xa xb xc xd
  exact ⟨_, _, rfl, rfl, base_at h, hk.1, hk.2, hn.2, kind_gcd (oneB_true o1) (oneB_true o2), xa, xb, bx, by'⟩
theorem baseAt_next {a b c d : Int} (h : coneB a b c d = true) {z : Int} {l : List Int} {done : List (Int × Int)} {lx ly nx ny : Int} (hb : BaseAt a b c d (z :: l) done lx ly nx ny) :
    BaseAt a b c d l (done ++ [(nx, ny)]) nx ny (nx * z - lx) (ny * z - ly) ∧ (-2000000000 ≤ nx * z ∧ nx * z ≤ 2000000000) ∧ (-2000000000 ≤ ny * z ∧ ny * z ≤ 2000000000) ∧ (0 ≤ z ∧ z ≤ 2000000) := by
  obtain ⟨n, q, e, e2, hat, q0, q1, hn, hg, bx, b2, b3, b4⟩ := hb
  obtain ⟨h1, _, h2, _, _⟩ := cone_in h
  obtain ⟨xc, xd⟩ := szs h2
  have hq : 0 < q := by
    by_cases hq : 0 < q
    · exact hq
    · rw [frac_zero n hq] at e; cases e
  rw [frac_pos n hq] at e
  obtain ⟨rfl, rfl⟩ := List.cons.inj e
  have u1 := up_ge (n := n) hq
  have u2 := up_lt (n := n) hq
  have u3 := up_le (n := n) hq (by omega)
  have u4 := up_two hq q1
  have hat2 := at_next (b := upZ n q) hat
  obtain ⟨c1, c2⟩ := at_bd hat2 (by omega) (by omega) b3 b4 xc xd
  have m1 := mul_bd2 (q := upZ n q) (a := nx) ⟨by omega, by omega⟩ b3
  have m2 := mul_bd2 (q := upZ n q) (a := ny) ⟨by omega, by omega⟩ b4
  rw [Int.mul_comm] at m1 m2
  refine ⟨⟨q, upZ n q * q - n, rfl, ?_, hat2, by omega, by omega, by omega, by rw [gcd_next]; exact hg, b3, b4, c1, c2⟩, m1, m2, by omega, by omega⟩
  rw [e2, List.append_assoc]
  rfl
theorem baseAt_end {a b c d : Int} {done : List (Int × Int)} {lx ly nx ny : Int} (hb : BaseAt a b c d [] done lx ly nx ny) : baseL a b c d = done ++ [(c, d)] ∧ nx = c ∧ ny = d := by
  obtain ⟨n, q, e, e2, hat, q0, q1, hn, hg, _⟩ := hb
  have hq : ¬ 0 < q := by
    intro hq
    rw [frac_pos n hq] at e; cases e
  have q00 : q = 0 := by omega
  subst q00
  have hn1 : n = 1 := by
    rw [gcdZ_zero] at hg
    omega
  subst hn1
  obtain ⟨rfl, rfl⟩ := at_end hat
  exact ⟨e2, rfl, rfl⟩
theorem baseZ_len (l : List Int) : ∀ lx ly nx ny, (baseZ l lx ly nx ny).length = l.length + 1 := by
  induction l with
  | nil => intros; rfl
  | cons b l ih => intro lx ly nx ny; simp [baseZ, ih]
theorem baseL_len {a b c d : Int} (h : coneB a b c d = true) : (baseL a b c d).length ≤ 2000002 := by
  have := fracC_len h
  unfold baseL
  rw [List.length_cons, baseZ_len]
  omega
end Go.Proofs.YtcieihbknfeddaaDoor

/- The whole base: the model's side. -/
namespace Go.Proofs.YtcieihbknfeddaaDoor
open Go.RowKit

theorem Vecs.one (w : World) (x y : Int) : Vecs (w.alloc (.cells #[.int .i64 x, .int .i64 y] 26)) w.heap.size (.slice (some ⟨w.heap.size, 0, none⟩) 1 1) [(x, y)] :=
  ⟨rfl, .inr ⟨w.heap.size, 1, #[.int .i64 x, .int .i64 y], rfl, Nat.le_refl _, heap_alloc_new w _, Nat.le_refl _, by decide, rfl, rfl⟩⟩
theorem Vecs.snoc {w : World} {base n : Nat} {v : Value} {l : List (Int × Int)} {x y : Int} (hn : n = l.length) (h : w.ownsRow base 26 2 v (n + 1) (intsV (flat l) ++ [.int .i64 x, .int .i64 y])) : Vecs w base v (l ++ [(x, y)]) := by
  unfold Vecs VRow
  rw [flat_app, List.length_append, ← hn]
  have : intsV (flat l ++ flat [(x, y)]) = intsV (flat l) ++ [.int .i64 x, .int .i64 y] := by simp [intsV, flat]
  rw [this]
  exact h
set_option maxHeartbeats 4000000 in
theorem l2Base_one (a b c d : Int) (w : World) (h : coneB a b c d = true) (hd : detZ a b c d = 1) :
    Calls Tryd.prog 108 #[.agg #[.int .i64 (a), .int .i64 (b), .int .i64 (c), .int .i64 (d)]] w (GivesVecs w (baseL a b c d)) := by
  obtain ⟨h1, _, h2, _, _⟩ := cone_in h
  have HB := Lib.hid (base_one h hd)
  have hdb : (detZ a b c d == 1) = true := by simpa using hd
  have HO := Lib.hid (fun w' => Vecs.one w' a b)
  clear hd h
  go_enter Tryd.func108, Tryd.ntmps108
  (go_wp2_with fail; go_call (l1Det_any a b c d _ h1 h2) as e w1 ⟨rfl, hb1⟩); obtain ⟨hc1, hf1⟩ := bcell hb1; have hz1 := bsize hb1
  have hA : Below w.heap.size w w1 := belowTo (by go_grown) hb1
  have p0 : w1.cell? ⟨w.heap.size, 0, none⟩ = some (.int .i64 (a)) := (hb1.cell (p := ⟨w.heap.size, 0, none⟩) (by first | assumption | (go_size; done) | (simp; omega) | (simp only [World.size_alloc]; omega))).trans (by first | assumption | (go_cell; done) | (go_simp; done) | simp [*]); have pf0 : w1.frozen? ⟨w.heap.size, 0, none⟩ = false := (hb1.frozen (p := ⟨w.heap.size, 0, none⟩) (by first | assumption | (go_size; done) | (simp; omega) | (simp only [World.size_alloc]; omega))).trans (by first | assumption | (go_cell; done) | (go_simp; done) | simp [*]); have p1 : w1.cell? ⟨w.heap.size, 1, none⟩ = some (.int .i64 (b)) := (hb1.cell (p := ⟨w.heap.size, 1, none⟩) (by first | assumption | (go_size; done) | (simp; omega) | (simp only [World.size_alloc]; omega))).trans (by first | assumption | (go_cell; done) | (go_simp; done) | simp [*]); have pf1 : w1.frozen? ⟨w.heap.size, 1, none⟩ = false := (hb1.frozen (p := ⟨w.heap.size, 1, none⟩) (by first | assumption | (go_size; done) | (simp; omega) | (simp only [World.size_alloc]; omega))).trans (by first | assumption | (go_cell; done) | (go_simp; done) | simp [*]); have p2 : w1.cell? ⟨w.heap.size, 2, none⟩ = some (.int .i64 (c)) := (hb1.cell (p := ⟨w.heap.size, 2, none⟩) (by first | assumption | (go_size; done) | (simp; omega) | (simp only [World.size_alloc]; omega))).trans (by first | assumption | (go_cell; done) | (go_simp; done) | simp [*]); have pf2 : w1.frozen? ⟨w.heap.size, 2, none⟩ = false := (hb1.frozen (p := ⟨w.heap.size, 2, none⟩) (by first | assumption | (go_size; done) | (simp; omega) | (simp only [World.size_alloc]; omega))).trans (by first | assumption | (go_cell; done) | (go_simp; done) | simp [*]); have p3 : w1.cell? ⟨w.heap.size, 3, none⟩ = some (.int .i64 (d)) := (hb1.cell (p := ⟨w.heap.size, 3, none⟩) (by first | assumption | (go_size; done) | (simp; omega) | (simp only [World.size_alloc]; omega))).trans (by first | assumption | (go_cell; done) | (go_simp; done) | simp [*]); have pf3 : w1.frozen? ⟨w.heap.size, 3, none⟩ = false := (hb1.frozen (p := ⟨w.heap.size, 3, none⟩) (by first | assumption | (go_size; done) | (simp; omega) | (simp only [World.size_alloc]; omega))).trans (by first | assumption | (go_cell; done) | (go_simp; done) | simp [*])
  have hl : w.heap.size < w1.heap.size := hz1 _ (by simp)
  clear hc1 hf1 hz1 hb1
  obtain ⟨i0, hi, hz0, hz1, hz2⟩ := info_parts infoVec
  have hown := HO.out w1
  have hown2 : (w1.alloc (.cells #[.int .i64 a, .int .i64 b] 26)).ownsRow w1.heap.size 26 2 (.slice (some ⟨w1.heap.size, 0, none⟩) 1 1) 1 (intsV (flat [(a, b)])) := hown
  have HW := Lib.hid hown2
  clear hown hown2
  go_wp2_with (at_builtin; refine wpList_append_own_at _ rfl _ _ 39 rfl w1.heap.size 26 i0 (.agg #[.int .i64 (0), .int .i64 (0)]) 2 16 Tryd.underlying39 hi hz0 hz1 hz2 rfl (by decide) _ 1 _ rfl (HW.out.alloc _) ⟨w1.heap.size + 1, 0, none⟩ 1 1 [.int .i64 c, .int .i64 d] rfl rfl ?c1 ?c2 ?c3 ?c4 ?c5 ?_)
  case c1 =>
    intro j u hj
    match j, hj with
    | 0, hj => simp at hj; subst hj; simp [Addr.add]
    | 1, hj => simp at hj; subst hj; simp [Addr.add]
  case c2 => intro u hu; simp at hu; rcases hu with rfl | rfl <;> rfl
  case c3 => decide
  case c4 => decide
  case c5 => simp; omega
  intro v' w2 hown' hgrow _ _
  have hB : Below w.heap.size w w2 := (((hA.alloc hA.size _).alloc (by have := hA.size; simp; omega) _).grown hgrow (by have := hA.size; simp; omega) (fun k hk => by have := hA.size; simp [Value.ownBlock] at hk; omega))
  have HV := Lib.hid ((Vecs.snoc (l := [(a, b)]) rfl hown').lower hA.size)
  clear hown' hgrow HW
  go_wp2
  go_returns
  refine ⟨_, rfl, ?_, hB⟩
  rw [HB.out]
  exact HV.out
end Go.Proofs.YtcieihbknfeddaaDoor
