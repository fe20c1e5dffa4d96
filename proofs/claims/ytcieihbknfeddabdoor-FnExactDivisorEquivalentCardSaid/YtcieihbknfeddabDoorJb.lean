/- The vector whose products with a ray and the next one are the coefficients: the program. -/
import Derived.Test.YtcieihbknfeddabDoorBe
import Derived.Test.YtcieihbknfeddabDoorCc
import Derived.Test.YtcieihbknfeddabDoorB7
import Derived.Test.YtcieihbknfeddabDoorB9
namespace Go.Proofs.YtcieihbknfeddabDoor
open Go.RowKit

/-- the vector whose products with ray i and the next one are the coefficients there -/
def vecAt (l : List V2) (d : List Int) (i : Nat) : V2 := (gz d i * (cyc l (i + 1)).2 - gz d ((i + 1) % l.length) * (cyc l i).2, gz d ((i + 1) % l.length) * (cyc l i).1 - gz d i * (cyc l (i + 1)).1)
theorem vecAt_zero {l : List V2} (h : 2 ≤ l.length) (d : List Int) : vecAt l d 0 = vecZ l d := by
  unfold vecAt vecZ
  rw [Nat.zero_add, Nat.mod_eq_of_lt (show 1 < l.length by omega)]
theorem vecAt_bnd {l : List V2} {d : List Int} (hv : allVec l) (hd : bnd 200 d) (i : Nat) : (-400000 ≤ (vecAt l d i).1 ∧ (vecAt l d i).1 ≤ 400000) ∧ -400000 ≤ (vecAt l d i).2 ∧ (vecAt l d i).2 ≤ 400000 := by
  unfold vecAt
  have h1 := szs (hv i)
  have h2 := szs (hv (i + 1))
  have m1 := mul_le (hd i) h2.2
  have m2 := mul_le (hd ((i + 1) % l.length)) h1.2
  have m3 := mul_le (hd ((i + 1) % l.length)) h1.1
  have m4 := mul_le (hd i) h2.1
  dsimp only
  omega
set_option maxHeartbeats 1000000 in
theorem timesB_any (x y n : Int) (w : World) (h1 : vecB x y = true) (h2 : -200 ≤ n ∧ n ≤ 200) :
    Calls Tryd.prog 134 #[.agg #[.int .i64 (x), .int .i64 (y)], .int .i64 n] w fun e w' => e = .returned (.agg #[.int .i64 (x * n), .int .i64 (y * n)]) ∧ Below w.heap.size w w' := by
  obtain ⟨hx, hy⟩ := szs h1
  have m1 := mul_le hx h2
  have m2 := mul_le hy h2
  obtain ⟨_, _⟩ := m1
  obtain ⟨_, _⟩ := m2
  clear h1 h2 hx hy
  go_enter Tryd.func134, Tryd.ntmps134
  go_wp2
  go_returns
  exact ⟨rfl, by go_grown⟩
set_option maxHeartbeats 1000000 in
theorem plusB_any (x1 y1 x2 y2 : Int) (w : World) (h1 : (-200000 ≤ x1 ∧ x1 ≤ 200000) ∧ -200000 ≤ y1 ∧ y1 ≤ 200000) (h2 : (-200000 ≤ x2 ∧ x2 ≤ 200000) ∧ -200000 ≤ y2 ∧ y2 ≤ 200000) :
    Calls Tryd.prog 135 #[.agg #[.int .i64 (x1), .int .i64 (y1)], .agg #[.int .i64 (x2), .int .i64 (y2)]] w fun e w' => e = .returned (.agg #[.int .i64 (x1 + x2), .int .i64 (y1 + y2)]) ∧ Below w.heap.size w w' := by
  obtain ⟨⟨_, _⟩, _, _⟩ := h1
  obtain ⟨⟨_, _⟩, _, _⟩ := h2
  go_enter Tryd.func135, Tryd.ntmps135
  go_wp2
  go_returns
  exact ⟨rfl, by go_grown⟩
set_option maxRecDepth 100000 in
set_option maxHeartbeats 32000000 in
theorem vectorAt_any (base g : Nat) (ns : List Node) (u : Value) (d : List Int) (i : Nat) (w : World) (hF : FanAt w base g ns) (hm : ns.length ≤ 1000) (hv : allVec (rays ns)) (hu : ReadsInts w u d) (hl : d.length = ns.length) (hi : i < ns.length) (hb : bnd 200 d) :
    Calls Tryd.prog 111 #[.agg #[.pointer (some ⟨g, 0, none⟩), u], .int .i64 (i : Int)] w fun e w' => e = .returned (.agg #[.int .i64 ((vecAt (rays ns) d i).1), .int .i64 ((vecAt (rays ns) d i).2)]) ∧ Below w.heap.size w w' := by
  have HAt := Lib.hid (fun w' (hb : Below w.heap.size w w') => at_in base g ns i w' (hF.below hb) hm hi)
  have HC := Lib.hid (fun w' (hb : Below w.heap.size w w') => linkCone_any ns i w' (hF.below hb).ring)
  have hp := hF.ring.pos
  have c1 := hF.head.c1
  have hlt := cell_lt c1
  obtain ⟨bb, off, c, rfl, _, hbb, hcs⟩ := hu.open (by omega)
  have hq : (i + 1) % (rays ns).length < d.length := by rw [rays_len, hl]; exact Nat.mod_lt _ hp
  have e0 := hcs w (Below.refl _ _) i (by omega)
  have e1 := hcs w (Below.refl _ _) _ hq
  have bx := hb i
  have hy0 := hb ((i + 1) % (rays ns).length)
  have v0 := hv i
  have v1 := hv (i + 1)
  rw [rays_cyc hp] at v0 v1
  have E1 : (vecAt (rays ns) d i).1 = (cyc ns (i + 1)).2.2 * gz d i + -(cyc ns i).2.2 * gz d ((i + 1) % (rays ns).length) := by
    unfold vecAt
    rw [rays_cyc hp, rays_cyc hp]
    dsimp only
    rw [Int.mul_comm (gz d i), Int.mul_comm (gz d ((i + 1) % (rays ns).length)), Int.neg_mul]
    omega
  have E2 : (vecAt (rays ns) d i).2 = -(cyc ns (i + 1)).2.1 * gz d i + (cyc ns i).2.1 * gz d ((i + 1) % (rays ns).length) := by
    unfold vecAt
    rw [rays_cyc hp, rays_cyc hp]
    dsimp only
    rw [Int.mul_comm (gz d i), Int.mul_comm (gz d ((i + 1) % (rays ns).length)), Int.neg_mul]
    omega
  rw [E1, E2]
  have t2 := behindD i ns.length
  simp only [rays_len] at *
  clear hF hv hu hb hcs E1 E2
  generalize (cyc ns i).1 = q0 at *
  generalize (cyc ns i).2 = p0 at *
  generalize (cyc ns (i + 1)).2 = p1 at *
  obtain ⟨a, b⟩ := p0
  obtain ⟨a', b'⟩ := p1
  dsimp only at HC v0 v1 ⊢
  have HD := Lib.hid (fun w' => dual_any a b a' b' w' v0 v1)
  have vU : vecB b' (-a') = true := by
    obtain ⟨h1, h2⟩ := szs v1
    simp [vecB, szB_mk h2.1 h2.2, szB_mk (show -1000 ≤ -a' by omega) (show -a' ≤ 1000 by omega)]
  have vV : vecB (-b) a = true := by
    obtain ⟨h1, h2⟩ := szs v0
    simp [vecB, szB_mk h1.1 h1.2, szB_mk (show -1000 ≤ -b by omega) (show -b ≤ 1000 by omega)]
  generalize ns.length = n at *
  subst hl
  generalize gz d i = x at *
  generalize gz d ((i + 1) % d.length) = y at *
  generalize (i + 1) % d.length = q at *
  generalize d.length = n at *
  have pU : (-200000 ≤ b' * x ∧ b' * x ≤ 200000) ∧ -200000 ≤ -a' * x ∧ -a' * x ≤ 200000 := by
    obtain ⟨h1, h2⟩ := szs vU
    have m1 := mul_le h1 bx
    have m2 := mul_le h2 bx
    omega
  have pV : (-200000 ≤ -b * y ∧ -b * y ≤ 200000) ∧ -200000 ≤ a * y ∧ a * y ≤ 200000 := by
    obtain ⟨h1, h2⟩ := szs vV
    have m1 := mul_le h1 hy0
    have m2 := mul_le h2 hy0
    omega
  generalize -a' = na at *
  generalize -b = nb at *
  have HBX := Lib.hid bx
  have HBY := Lib.hid hy0
  have HPU := Lib.hid pU
  have HPV := Lib.hid pV
  have i1 : (0 : Int) ≤ (i : Int) := by omega
  have i2 : (i : Int) < (n : Int) := by omega
  have i3 : (0 : Int) ≤ (q : Int) := by omega
  have i4 : (q : Int) < (n : Int) := by omega
  have j1 : ¬ (n : Int) = 0 := by omega
  have j2 : ((n : Int) == 0) = false := by simpa using j1
  have j3 : ¬ n = 0 := by omega
  have q3 : IntKind.i64.wrap ((i : Int) + 1) = (i : Int) + 1 := by rw [IntKind.wrap_i64]; omega
  clear v0 v1 bx hy0 pU pV
  go_enter Tryd.func111, Tryd.ntmps111
  go_wp2_with fail
  refine Calls.mono (HAt.out _ (by go_grown)) ?_
  rintro e w1 ⟨rfl, rfl⟩
  go_wp2_with fail
  refine Calls.mono (HC.out _ (by go_grown)) ?_
  rintro e w1 ⟨rfl, hb1⟩
  have hA : Below w.heap.size w w1 := belowTo (by go_grown) hb1
  have hw1 := hb1.size
  simp only [World.size_alloc] at hw1
  have d0 : w1.cell? ⟨w.heap.size, 0, none⟩ = some (.pointer (some ⟨g, 0, none⟩)) := (hb1.cell (p := ⟨w.heap.size, 0, none⟩) (by simp; omega)).trans (by first | (go_cell; done) | (go_simp; done) | (simp; done))
  have d1 : w1.cell? ⟨w.heap.size, 1, none⟩ = some (.slice (some ⟨bb, off, none⟩) n c) := (hb1.cell (p := ⟨w.heap.size, 1, none⟩) (by simp; omega)).trans (by first | (go_cell; done) | (go_simp; done) | (simp; done))
  have r0 : w1.cell? ⟨w.heap.size + 1, 0, none⟩ = some (.int .i64 0) := (hb1.cell (p := ⟨w.heap.size + 1, 0, none⟩) (by simp)).trans (by first | (go_cell; done) | (go_simp; done) | (simp; done))
  have r1 : w1.cell? ⟨w.heap.size + 1, 1, none⟩ = some (.int .i64 0) := (hb1.cell (p := ⟨w.heap.size + 1, 1, none⟩) (by simp)).trans (by first | (go_cell; done) | (go_simp; done) | (simp; done))
  have f0 : w1.frozen? ⟨w.heap.size + 1, 0, none⟩ = false := (hb1.frozen (p := ⟨w.heap.size + 1, 0, none⟩) (by simp)).trans (by first | (go_cell; done) | (go_simp; done) | (simp; done))
  have f1 : w1.frozen? ⟨w.heap.size + 1, 1, none⟩ = false := (hb1.frozen (p := ⟨w.heap.size + 1, 1, none⟩) (by simp)).trans (by first | (go_cell; done) | (go_simp; done) | (simp; done))
  clear hb1 HC HAt
  go_wp2_with fail
  refine Calls.mono (HD.out _) ?_
  rintro e w2 ⟨rfl, hb2⟩
  have hA2 := belowTo hA hb2
  replace d0 := (hb2.cell (p := ⟨w.heap.size, 0, none⟩) (cell_lt d0)).trans d0
  replace d1 := (hb2.cell (p := ⟨w.heap.size, 1, none⟩) (cell_lt d1)).trans d1
  replace f0 := (hb2.frozen (p := ⟨w.heap.size + 1, 0, none⟩) (cell_lt r0)).trans f0
  replace f1 := (hb2.frozen (p := ⟨w.heap.size + 1, 1, none⟩) (cell_lt r0)).trans f1
  replace r0 := (hb2.cell (p := ⟨w.heap.size + 1, 0, none⟩) (cell_lt r0)).trans r0
  replace r1 := (hb2.cell (p := ⟨w.heap.size + 1, 1, none⟩) (cell_lt r1)).trans r1
  replace e0 := (hA2.cell (p := ⟨bb, off + i, none⟩) hbb).trans e0
  replace e1 := (hA2.cell (p := ⟨bb, off + q, none⟩) hbb).trans e1
  replace c1 := (hA2.cell (p := ⟨g, 1, none⟩) hlt).trans c1
  have l0 := cell_lt d1
  have l1 := cell_lt r0
  have l2 := cell_lt e0
  have l3 := cell_lt c1
  clear hb2 hA HD
  go_wp2_with fail
  have hA3 : Below w.heap.size w (w2.alloc (.cells #[.int .i64 b', .int .i64 na, .int .i64 nb, .int .i64 a] 116)) := by go_grown
  have g0 : (w2.alloc (.cells #[.int .i64 b', .int .i64 na, .int .i64 nb, .int .i64 a] 116)).cell? ⟨w2.heap.size, 0, none⟩ = some (.int .i64 b') := by simp
  have g1 : (w2.alloc (.cells #[.int .i64 b', .int .i64 na, .int .i64 nb, .int .i64 a] 116)).cell? ⟨w2.heap.size, 1, none⟩ = some (.int .i64 na) := by simp
  have g2 : (w2.alloc (.cells #[.int .i64 b', .int .i64 na, .int .i64 nb, .int .i64 a] 116)).cell? ⟨w2.heap.size, 2, none⟩ = some (.int .i64 nb) := by simp
  have g3 : (w2.alloc (.cells #[.int .i64 b', .int .i64 na, .int .i64 nb, .int .i64 a] 116)).cell? ⟨w2.heap.size, 3, none⟩ = some (.int .i64 a) := by simp
  have hal : Below w2.heap.size w2 (w2.alloc (.cells #[.int .i64 b', .int .i64 na, .int .i64 nb, .int .i64 a] 116)) := by go_grown
  replace d0 := (hal.cell (p := ⟨w.heap.size, 0, none⟩) l0).trans d0
  replace d1 := (hal.cell (p := ⟨w.heap.size, 1, none⟩) l0).trans d1
  replace r0 := (hal.cell (p := ⟨w.heap.size + 1, 0, none⟩) l1).trans r0
  replace r1 := (hal.cell (p := ⟨w.heap.size + 1, 1, none⟩) l1).trans r1
  replace f0 := (hal.frozen (p := ⟨w.heap.size + 1, 0, none⟩) l1).trans f0
  replace f1 := (hal.frozen (p := ⟨w.heap.size + 1, 1, none⟩) l1).trans f1
  replace e0 := (hal.cell (p := ⟨bb, off + i, none⟩) l2).trans e0
  replace e1 := (hal.cell (p := ⟨bb, off + q, none⟩) l2).trans e1
  replace c1 := (hal.cell (p := ⟨g, 1, none⟩) l3).trans c1
  obtain ⟨B3, hB3⟩ : ∃ B3, B3 = w2.heap.size := ⟨_, rfl⟩
  rw [← hB3] at g0 g1 g2 g3 ⊢
  have hlB : w.heap.size + 1 < B3 := by omega
  have hlB2 : ¬ B3 = w.heap.size + 1 := by omega
  have hlB3 : ¬ w.heap.size + 1 = B3 := by omega
  have hlb2 : ¬ bb = w.heap.size + 1 := by omega
  have hlb3 : ¬ w.heap.size + 1 = bb := by omega
  have hlg2 : ¬ g = w.heap.size + 1 := by omega
  have hlg3 : ¬ w.heap.size + 1 = g := by omega
  clear hA2 hal l0 l1 l2 l3
  generalize (w2.alloc (.cells #[.int .i64 b', .int .i64 na, .int .i64 nb, .int .i64 a] 116)) = W3 at *
  clear hB3
  have l0 := cell_lt d1
  have l1 := cell_lt r0
  have l2 := cell_lt e0
  have l3 := cell_lt g0
  have l4 := cell_lt c1
  go_region_held3 (fun w' => w'.cell? ⟨w.heap.size, 0, none⟩ = some (.pointer (some ⟨g, 0, none⟩)) ∧ w'.cell? ⟨w.heap.size, 1, none⟩ = some (.slice (some ⟨bb, off, none⟩) n c) ∧ w'.cell? ⟨B3, 0, none⟩ = some (.int .i64 (b')) ∧ w'.cell? ⟨B3, 1, none⟩ = some (.int .i64 (na)) ∧ w'.cell? ⟨B3, 2, none⟩ = some (.int .i64 (nb)) ∧ w'.cell? ⟨B3, 3, none⟩ = some (.int .i64 (a)) ∧ w'.cell? ⟨bb, off + i, none⟩ = some (.int .i64 (x)) ∧ w'.cell? ⟨bb, off + q, none⟩ = some (.int .i64 (y)) ∧ w'.cell? ⟨g, 1, none⟩ = some (.int .i64 (n)) ∧ Below (w.heap.size) W3 w') ((go_split_ands; refine ⟨by (first | (with_reducible assumption) | (go_keep; done) | (go_cell; done) | (go_simp; done) | (simp [*]; done)), by (first | (with_reducible assumption) | (go_keep; done) | (go_cell; done) | (go_simp; done) | (simp [*]; done)), by (first | (with_reducible assumption) | (go_keep; done) | (go_cell; done) | (go_simp; done) | (simp [*]; done)), by (first | (with_reducible assumption) | (go_keep; done) | (go_cell; done) | (go_simp; done) | (simp [*]; done)), by (first | (with_reducible assumption) | (go_keep; done) | (go_cell; done) | (go_simp; done) | (simp [*]; done)), by (first | (with_reducible assumption) | (go_keep; done) | (go_cell; done) | (go_simp; done) | (simp [*]; done)), by (first | (with_reducible assumption) | (go_keep; done) | (go_cell; done) | (go_simp; done) | (simp [*]; done)), by (first | (with_reducible assumption) | (go_keep; done) | (go_cell; done) | (go_simp; done) | (simp [*]; done)), by (first | (with_reducible assumption) | (go_keep; done) | (go_cell; done) | (go_simp; done) | (simp [*]; done)), by first | (with_reducible assumption) | (go_grown; done)⟩)) (first | (go_at_call 134; go_call (timesB_any _ _ _ _ (by first | exact vU | exact vV) (by first | exact HBX.out | exact HBY.out)) as e w1 ⟨rfl, hb0⟩; go_split_ands; have q0 : w1.cell? ⟨w.heap.size, 0, none⟩ = some (.pointer (some ⟨g, 0, none⟩)) := (hb0.cell (p := ⟨w.heap.size, 0, none⟩) (by first | (with_reducible assumption) | (go_size; done) | (simp; omega))).trans (by first | (with_reducible assumption) | (go_keep; done) | (go_cell; done) | (go_simp; done) | (simp [*]; done)); have q1 : w1.cell? ⟨w.heap.size, 1, none⟩ = some (.slice (some ⟨bb, off, none⟩) n c) := (hb0.cell (p := ⟨w.heap.size, 1, none⟩) (by first | (with_reducible assumption) | (go_size; done) | (simp; omega))).trans (by first | (with_reducible assumption) | (go_keep; done) | (go_cell; done) | (go_simp; done) | (simp [*]; done)); have q2 : w1.cell? ⟨B3, 0, none⟩ = some (.int .i64 (b')) := (hb0.cell (p := ⟨B3, 0, none⟩) (by first | (with_reducible assumption) | (go_size; done) | (simp; omega))).trans (by first | (with_reducible assumption) | (go_keep; done) | (go_cell; done) | (go_simp; done) | (simp [*]; done)); have q3 : w1.cell? ⟨B3, 1, none⟩ = some (.int .i64 (na)) := (hb0.cell (p := ⟨B3, 1, none⟩) (by first | (with_reducible assumption) | (go_size; done) | (simp; omega))).trans (by first | (with_reducible assumption) | (go_keep; done) | (go_cell; done) | (go_simp; done) | (simp [*]; done)); have q4 : w1.cell? ⟨B3, 2, none⟩ = some (.int .i64 (nb)) := (hb0.cell (p := ⟨B3, 2, none⟩) (by first | (with_reducible assumption) | (go_size; done) | (simp; omega))).trans (by first | (with_reducible assumption) | (go_keep; done) | (go_cell; done) | (go_simp; done) | (simp [*]; done)); have q5 : w1.cell? ⟨B3, 3, none⟩ = some (.int .i64 (a)) := (hb0.cell (p := ⟨B3, 3, none⟩) (by first | (with_reducible assumption) | (go_size; done) | (simp; omega))).trans (by first | (with_reducible assumption) | (go_keep; done) | (go_cell; done) | (go_simp; done) | (simp [*]; done)); have q6 : w1.cell? ⟨bb, off + i, none⟩ = some (.int .i64 (x)) := (hb0.cell (p := ⟨bb, off + i, none⟩) (by first | (with_reducible assumption) | (go_size; done) | (simp; omega))).trans (by first | (with_reducible assumption) | (go_keep; done) | (go_cell; done) | (go_simp; done) | (simp [*]; done)); have q7 : w1.cell? ⟨bb, off + q, none⟩ = some (.int .i64 (y)) := (hb0.cell (p := ⟨bb, off + q, none⟩) (by first | (with_reducible assumption) | (go_size; done) | (simp; omega))).trans (by first | (with_reducible assumption) | (go_keep; done) | (go_cell; done) | (go_simp; done) | (simp [*]; done)); have q8 : w1.cell? ⟨g, 1, none⟩ = some (.int .i64 (n)) := (hb0.cell (p := ⟨g, 1, none⟩) (by first | (with_reducible assumption) | (go_size; done) | (simp; omega))).trans (by first | (with_reducible assumption) | (go_keep; done) | (go_cell; done) | (go_simp; done) | (simp [*]; done)); have q9 : w1.cell? ⟨w.heap.size + 1, 0, none⟩ = some (.int .i64 (0)) := (hb0.cell (p := ⟨w.heap.size + 1, 0, none⟩) (by first | (with_reducible assumption) | (go_size; done) | (simp; omega))).trans (by first | (with_reducible assumption) | (go_keep; done) | (go_cell; done) | (go_simp; done) | (simp [*]; done)); have q10 : w1.cell? ⟨w.heap.size + 1, 1, none⟩ = some (.int .i64 (0)) := (hb0.cell (p := ⟨w.heap.size + 1, 1, none⟩) (by first | (with_reducible assumption) | (go_size; done) | (simp; omega))).trans (by first | (with_reducible assumption) | (go_keep; done) | (go_cell; done) | (go_simp; done) | (simp [*]; done)); have qf0 : w1.frozen? ⟨w.heap.size + 1, 0, none⟩ = false := (hb0.frozen (p := ⟨w.heap.size + 1, 0, none⟩) (by first | (with_reducible assumption) | (go_size; done) | (simp; omega))).trans (by first | (with_reducible assumption) | (go_keep; done) | (go_cell; done) | (go_simp; done) | (simp [*]; done)); have qf1 : w1.frozen? ⟨w.heap.size + 1, 1, none⟩ = false := (hb0.frozen (p := ⟨w.heap.size + 1, 1, none⟩) (by first | (with_reducible assumption) | (go_size; done) | (simp; omega))).trans (by first | (with_reducible assumption) | (go_keep; done) | (go_cell; done) | (go_simp; done) | (simp [*]; done)); have hs0 : w.heap.size < w1.heap.size := Nat.lt_of_lt_of_le (by first | (with_reducible assumption) | (go_size; done) | (simp; omega)) hb0.size; have hs1 : B3 < w1.heap.size := Nat.lt_of_lt_of_le (by first | (with_reducible assumption) | (go_size; done) | (simp; omega)) hb0.size; have hs2 : bb < w1.heap.size := Nat.lt_of_lt_of_le (by first | (with_reducible assumption) | (go_size; done) | (simp; omega)) hb0.size; have hs3 : g < w1.heap.size := Nat.lt_of_lt_of_le (by first | (with_reducible assumption) | (go_size; done) | (simp; omega)) hb0.size; have hs4 : w.heap.size + 1 < w1.heap.size := Nat.lt_of_lt_of_le (by first | (with_reducible assumption) | (go_size; done) | (simp; omega)) hb0.size; have hT : Below (w.heap.size) W3 w1 := Below.trans (by first | (with_reducible assumption) | (go_grown; done)) (hb0.mono (by first | (with_reducible assumption) | (go_size; done) | (simp; omega) | omega)); have hTs := hT.size; (try have hT2 : Below W3.heap.size W3 w1 := belowTo (by first | (with_reducible assumption) | (go_grown; done)) hb0); clear hb0) | (go_at_call 135; go_call (plusB_any _ _ _ _ _ (by exact HPU.out) (by exact HPV.out)) as e w1 ⟨rfl, hb0⟩; go_split_ands; have q0 : w1.cell? ⟨w.heap.size, 0, none⟩ = some (.pointer (some ⟨g, 0, none⟩)) := (hb0.cell (p := ⟨w.heap.size, 0, none⟩) (by first | (with_reducible assumption) | (go_size; done) | (simp; omega))).trans (by first | (with_reducible assumption) | (go_keep; done) | (go_cell; done) | (go_simp; done) | (simp [*]; done)); have q1 : w1.cell? ⟨w.heap.size, 1, none⟩ = some (.slice (some ⟨bb, off, none⟩) n c) := (hb0.cell (p := ⟨w.heap.size, 1, none⟩) (by first | (with_reducible assumption) | (go_size; done) | (simp; omega))).trans (by first | (with_reducible assumption) | (go_keep; done) | (go_cell; done) | (go_simp; done) | (simp [*]; done)); have q2 : w1.cell? ⟨B3, 0, none⟩ = some (.int .i64 (b')) := (hb0.cell (p := ⟨B3, 0, none⟩) (by first | (with_reducible assumption) | (go_size; done) | (simp; omega))).trans (by first | (with_reducible assumption) | (go_keep; done) | (go_cell; done) | (go_simp; done) | (simp [*]; done)); have q3 : w1.cell? ⟨B3, 1, none⟩ = some (.int .i64 (na)) := (hb0.cell (p := ⟨B3, 1, none⟩) (by first | (with_reducible assumption) | (go_size; done) | (simp; omega))).trans (by first | (with_reducible assumption) | (go_keep; done) | (go_cell; done) | (go_simp; done) | (simp [*]; done)); have q4 : w1.cell? ⟨B3, 2, none⟩ = some (.int .i64 (nb)) := (hb0.cell (p := ⟨B3, 2, none⟩) (by first | (with_reducible assumption) | (go_size; done) | (simp; omega))).trans (by first | (with_reducible assumption) | (go_keep; done) | (go_cell; done) | (go_simp; done) | (simp [*]; done)); have q5 : w1.cell? ⟨B3, 3, none⟩ = some (.int .i64 (a)) := (hb0.cell (p := ⟨B3, 3, none⟩) (by first | (with_reducible assumption) | (go_size; done) | (simp; omega))).trans (by first | (with_reducible assumption) | (go_keep; done) | (go_cell; done) | (go_simp; done) | (simp [*]; done)); have q6 : w1.cell? ⟨bb, off + i, none⟩ = some (.int .i64 (x)) := (hb0.cell (p := ⟨bb, off + i, none⟩) (by first | (with_reducible assumption) | (go_size; done) | (simp; omega))).trans (by first | (with_reducible assumption) | (go_keep; done) | (go_cell; done) | (go_simp; done) | (simp [*]; done)); have q7 : w1.cell? ⟨bb, off + q, none⟩ = some (.int .i64 (y)) := (hb0.cell (p := ⟨bb, off + q, none⟩) (by first | (with_reducible assumption) | (go_size; done) | (simp; omega))).trans (by first | (with_reducible assumption) | (go_keep; done) | (go_cell; done) | (go_simp; done) | (simp [*]; done)); have q8 : w1.cell? ⟨g, 1, none⟩ = some (.int .i64 (n)) := (hb0.cell (p := ⟨g, 1, none⟩) (by first | (with_reducible assumption) | (go_size; done) | (simp; omega))).trans (by first | (with_reducible assumption) | (go_keep; done) | (go_cell; done) | (go_simp; done) | (simp [*]; done)); have q9 : w1.cell? ⟨w.heap.size + 1, 0, none⟩ = some (.int .i64 (0)) := (hb0.cell (p := ⟨w.heap.size + 1, 0, none⟩) (by first | (with_reducible assumption) | (go_size; done) | (simp; omega))).trans (by first | (with_reducible assumption) | (go_keep; done) | (go_cell; done) | (go_simp; done) | (simp [*]; done)); have q10 : w1.cell? ⟨w.heap.size + 1, 1, none⟩ = some (.int .i64 (0)) := (hb0.cell (p := ⟨w.heap.size + 1, 1, none⟩) (by first | (with_reducible assumption) | (go_size; done) | (simp; omega))).trans (by first | (with_reducible assumption) | (go_keep; done) | (go_cell; done) | (go_simp; done) | (simp [*]; done)); have qf0 : w1.frozen? ⟨w.heap.size + 1, 0, none⟩ = false := (hb0.frozen (p := ⟨w.heap.size + 1, 0, none⟩) (by first | (with_reducible assumption) | (go_size; done) | (simp; omega))).trans (by first | (with_reducible assumption) | (go_keep; done) | (go_cell; done) | (go_simp; done) | (simp [*]; done)); have qf1 : w1.frozen? ⟨w.heap.size + 1, 1, none⟩ = false := (hb0.frozen (p := ⟨w.heap.size + 1, 1, none⟩) (by first | (with_reducible assumption) | (go_size; done) | (simp; omega))).trans (by first | (with_reducible assumption) | (go_keep; done) | (go_cell; done) | (go_simp; done) | (simp [*]; done)); have hs0 : w.heap.size < w1.heap.size := Nat.lt_of_lt_of_le (by first | (with_reducible assumption) | (go_size; done) | (simp; omega)) hb0.size; have hs1 : B3 < w1.heap.size := Nat.lt_of_lt_of_le (by first | (with_reducible assumption) | (go_size; done) | (simp; omega)) hb0.size; have hs2 : bb < w1.heap.size := Nat.lt_of_lt_of_le (by first | (with_reducible assumption) | (go_size; done) | (simp; omega)) hb0.size; have hs3 : g < w1.heap.size := Nat.lt_of_lt_of_le (by first | (with_reducible assumption) | (go_size; done) | (simp; omega)) hb0.size; have hs4 : w.heap.size + 1 < w1.heap.size := Nat.lt_of_lt_of_le (by first | (with_reducible assumption) | (go_size; done) | (simp; omega)) hb0.size; have hT : Below (w.heap.size) W3 w1 := Below.trans (by first | (with_reducible assumption) | (go_grown; done)) (hb0.mono (by first | (with_reducible assumption) | (go_size; done) | (simp; omega) | omega)); have hTs := hT.size; (try have hT2 : Below W3.heap.size W3 w1 := belowTo (by first | (with_reducible assumption) | (go_grown; done)) hb0); clear hb0))
  all_goals (go_wp2; refine bodyPost_ret (by simp [results, Tryd.results111, go_sem, *]; try rfl) rfl ?_; have hZ := hA3.trans hT; exact ⟨rfl, by go_grown⟩)
theorem vectorAt0_any (base g : Nat) (ns : List Node) (u : Value) (d : List Int) (w : World) (hF : FanAt w base g ns) (hm : ns.length ≤ 1000) (hv : allVec (rays ns)) (hu : ReadsInts w u d) (hl : d.length = ns.length) (h2 : 2 ≤ ns.length) (hb : bnd 200 d) :
    Calls Tryd.prog 111 #[.agg #[.pointer (some ⟨g, 0, none⟩), u], .int .i64 0] w fun e w' => e = .returned (.agg #[.int .i64 ((vecZ (rays ns) d).1), .int .i64 ((vecZ (rays ns) d).2)]) ∧ Below w.heap.size w w' := by
  have h := vectorAt_any base g ns u d 0 w hF hm hv hu hl (by omega) hb
  rw [vecAt_zero (by rw [rays_len]; exact h2)] at h
  exact h
end Go.Proofs.YtcieihbknfeddabDoor
