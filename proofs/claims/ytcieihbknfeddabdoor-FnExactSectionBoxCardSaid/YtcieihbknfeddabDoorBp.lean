import Derived.Test.YtcieihbknfeddabDoorBe
import Derived.Test.YtcieihbknfeddabDoorB9
import Derived.Test.YtcieihbknfeddabDoorB4
import Derived.Test.YtcieihbknfeddabDoorQi
import Derived.Deep.RegionHeld
/- Sections: the mathematics: the vector of a cone, bounds, boxes, sections. -/
namespace Go.Proofs.YtcieihbknfeddabDoor
open Go.RowKit

/-- where a vector is -/
def whZ (l : List V2) (a : V2) : Nat := firstI (fun i => inC l i a) l.length
theorem whZ_lt {l : List V2} (h : fanB l = true) (a : V2) : whZ l a < l.length := by
  obtain ⟨i, hi, hc⟩ := fan_covers h a
  unfold whZ firstI
  have h1 := (List.takeWhile_prefix (fun i => !inC l i a) (l := List.range l.length)).length_le
  rw [List.length_range] at h1
  rcases Nat.lt_or_ge ((List.range l.length).takeWhile (fun i => !inC l i a)).length l.length with h2 | h2
  · exact h2
  · have e : (List.range l.length).takeWhile (fun i => !inC l i a) = List.range l.length := (List.takeWhile_prefix _).eq_of_length (by rw [List.length_range]; omega)
    have h3 := List.all_takeWhile (p := fun i => !inC l i a) (l := List.range l.length)
    rw [e] at h3
    have h4 := List.all_eq_true.1 h3 i (List.mem_range.2 hi)
    rw [hc] at h4
    cases h4
/-- the bound of a vector -/
def bndZ (l : List V2) (d : List Int) (a : V2) : Int := detV a (cyc l (whZ l a + 1)) * gz d (whZ l a) + detV (cyc l (whZ l a)) a * gz d ((whZ l a + 1) % l.length)
theorem det_small {a b : V2} (ha : vecB a.1 a.2 = true) (hb : vecB b.1 b.2 = true) : -2000000 ≤ detV a b ∧ detV a b ≤ 2000000 := by
  unfold detV detZ
  have h1 := szs ha
  have h2 := szs hb
  have m1 := mul_le h1.1 h2.2
  have m2 := mul_le h1.2 h2.1
  omega
theorem bnd_terms {l : List V2} {d : List Int} {a : V2} (hv : allVec l) (ha : vecB a.1 a.2 = true) (hd : bnd 100 d) :
    (-200000000 ≤ detV a (cyc l (whZ l a + 1)) * gz d (whZ l a) ∧ detV a (cyc l (whZ l a + 1)) * gz d (whZ l a) ≤ 200000000) ∧ -200000000 ≤ detV (cyc l (whZ l a)) a * gz d ((whZ l a + 1) % l.length) ∧ detV (cyc l (whZ l a)) a * gz d ((whZ l a + 1) % l.length) ≤ 200000000 := by
  have m1 := mul_le (det_small ha (hv (whZ l a + 1))) (hd (whZ l a))
  have m2 := mul_le (det_small (hv (whZ l a)) ha) (hd ((whZ l a + 1) % l.length))
  omega
theorem bndZ_bnd {l : List V2} {d : List Int} {a : V2} (hv : allVec l) (ha : vecB a.1 a.2 = true) (hd : bnd 100 d) : -400000000 ≤ bndZ l d a ∧ bndZ l d a ≤ 400000000 := by
  have := bnd_terms hv ha hd
  unfold bndZ
  omega
/-- is m a section, or one whose products are more than they must be -/
def hasZ (l : List V2) (d : List Int) (m : V2) : Bool := (List.range l.length).all (fun i => decide (-gz d i ≤ dotZ m.1 m.2 (cyc l i).1 (cyc l i).2))
theorem sec_bad {l : List V2} {d : List Int} {m : V2} {i : Nat} (hi : i < l.length) (h : dotZ m.1 m.2 (cyc l i).1 (cyc l i).2 < -gz d i) : hasZ l d m = false := by
  unfold hasZ
  rw [List.all_eq_false]
  exact ⟨i, List.mem_range.2 hi, by simpa using h⟩
theorem sec_good {l : List V2} {d : List Int} {m : V2} (h : ∀ i, i < l.length → -gz d i ≤ dotZ m.1 m.2 (cyc l i).1 (cyc l i).2) : hasZ l d m = true :=
  List.all_eq_true.2 (fun i hi => by simpa using h i (List.mem_range.1 hi))
theorem sec_in {l : List V2} {d : List Int} {m : V2} (h : hasZ l d m = true) {i : Nat} (hi : i < l.length) : -gz d i ≤ dotZ m.1 m.2 (cyc l i).1 (cyc l i).2 := by
  have := List.all_eq_true.1 h i (List.mem_range.2 hi)
  simpa using this
end Go.Proofs.YtcieihbknfeddabDoor

/- Sections: bounds and boxes: the program. -/
namespace Go.Proofs.YtcieihbknfeddabDoor
open Go.RowKit

theorem where_any (base g : Nat) (ns : List Node) (x0 y0 : Int) (w : World) (hF : FanAt w base g ns) (hm : ns.length ≤ 1000) (hf : fanB (rays ns) = true) (ha : vecB x0 y0 = true) :
    Calls Tryd.prog 140 #[.pointer (some ⟨g, 0, none⟩), .agg #[.int .i64 (x0), .int .i64 (y0)]] w fun e w' => e = .returned (.int .i64 (whZ (rays ns) (x0, y0) : Nat)) ∧ Below w.heap.size w w' := by
  have h := callsIn_wide.1 (where_in 3 (by omega) base g ns x0 y0 w hF hm hf ha)
  unfold whZ
  rw [rays_len]
  exact h
theorem atB_any (base g : Nat) (ns : List Node) (m : Nat) (w : World) (hF : FanAt w base g ns) (hm : ns.length ≤ 1000) (hi : m < ns.length) :
    Calls Tryd.prog 132 #[.pointer (some ⟨g, 0, none⟩), .int .i64 m] w fun e w' => e = .returned (.pointer (some ⟨(cyc ns m).1, 0, none⟩)) ∧ Below w.heap.size w w' :=
  (at_in base g ns m w hF hm hi).mono (fun _ _ h => ⟨h.1, by rw [← h.2]; exact Below.refl _ _⟩)
set_option maxRecDepth 100000 in
set_option maxHeartbeats 32000000 in
theorem bound_any (base g : Nat) (ns : List Node) (u : Value) (d : List Int) (x0 y0 : Int) (w : World) (hF : FanAt w base g ns) (hf : fanB (rays ns) = true) (hu : ReadsInts w u d) (hl : d.length = ns.length) (hb : bnd 100 d) (ha : vecB x0 y0 = true) :
    Calls Tryd.prog 116 #[.agg #[.pointer (some ⟨g, 0, none⟩), u], .agg #[.int .i64 (x0), .int .i64 (y0)]] w fun e w' => e = .returned (.int .i64 (bndZ (rays ns) d (x0, y0))) ∧ Below w.heap.size w w' := by
  have hlen := fan_len hf
  have hv : allVec (rays ns) := fan_vec hf
  have hil := whZ_lt hf (x0, y0)
  rw [rays_len] at hil hlen
  have HW := Lib.hid (fun w' (hb : Below w.heap.size w w') => where_any base g ns x0 y0 w' (hF.below hb) (by omega) hf ha)
  have HA := Lib.hid (fun w' (hb : Below w.heap.size w w') => atB_any base g ns (whZ (rays ns) (x0, y0)) w' (hF.below hb) (by omega) hil)
  have HC := Lib.hid (fun w' (hb : Below w.heap.size w w') => linkCone_any ns (whZ (rays ns) (x0, y0)) w' (hF.below hb).ring)
  have hp := hF.ring.pos
  have c1 := hF.head.c1
  have hlt := cell_lt c1
  obtain ⟨bb, off, c, rfl, _, hbb, hcs⟩ := hu.open (by omega)
  have hq : (whZ (rays ns) (x0, y0) + 1) % ns.length < d.length := by rw [hl]; exact Nat.mod_lt _ hp
  have e0 := hcs w (Below.refl _ _) (whZ (rays ns) (x0, y0)) (by omega)
  have e1 := hcs w (Below.refl _ _) _ hq
  have v0 := hv (whZ (rays ns) (x0, y0))
  have v1 := hv (whZ (rays ns) (x0, y0) + 1)
  have bt := bnd_terms (a := (x0, y0)) hv ha hb
  unfold bndZ
  unfold detV at bt ⊢
  rw [rays_cyc hp] at v0 v1
  rw [rays_cyc hp, rays_cyc hp] at bt ⊢
  simp only [rays_len] at *
  generalize whZ (rays ns) (x0, y0) = i at *
  have t2 := behindD i ns.length
  clear hF hf hu hb hcs hv
  generalize (cyc ns i).1 = q0 at *
  generalize (cyc ns i).2 = p0 at *
  generalize (cyc ns (i + 1)).2 = p1 at *
  obtain ⟨a, b⟩ := p0
  obtain ⟨a', b'⟩ := p1
  dsimp only at HC v0 v1 bt ⊢
  have HP := Lib.hid (fun w' => parts_any a b a' b' x0 y0 w' v0 v1 ha)
  generalize ns.length = n at *
  subst hl
  generalize gz d i = x at *
  generalize gz d ((i + 1) % d.length) = y at *
  generalize (i + 1) % d.length = q at *
  generalize d.length = n at *
  generalize detZ x0 y0 a' b' = P at *
  generalize detZ a b x0 y0 = Q at *
  have i1 : (0 : Int) ≤ (i : Int) := by omega
  have i2 : (i : Int) < (n : Int) := by omega
  have i3 : (0 : Int) ≤ (q : Int) := by omega
  have i4 : (q : Int) < (n : Int) := by omega
  have j1 : ¬ (n : Int) = 0 := by omega
  have j2 : ((n : Int) == 0) = false := by simpa using j1
  have j3 : ¬ n = 0 := by omega
  have q3 : IntKind.i64.wrap ((i : Int) + 1) = (i : Int) + 1 := by rw [IntKind.wrap_i64]; omega
  have q4 : IntKind.i64.wrap (P * x) = P * x := by rw [IntKind.wrap_i64]; omega
  have q5 : IntKind.i64.wrap (Q * y) = Q * y := by rw [IntKind.wrap_i64]; omega
  have q6 : IntKind.i64.wrap (P * x + Q * y) = P * x + Q * y := by rw [IntKind.wrap_i64]; omega
  clear v0 v1 ha bt
  go_enter Tryd.func116, Tryd.ntmps116
  go_wp2_with fail
  refine Calls.mono (HW.out _ (by go_grown)) ?_
  rintro e W1 ⟨rfl, hb1⟩
  have hA : Below w.heap.size w W1 := belowTo (by go_grown) hb1
  have hw1 := hb1.size
  simp only [World.size_alloc] at hw1
  have d0 : W1.cell? ⟨w.heap.size, 0, none⟩ = some (.pointer (some ⟨g, 0, none⟩)) := (hb1.cell (p := ⟨w.heap.size, 0, none⟩) (by simp; omega)).trans (by first | (go_cell; done) | (go_simp; done) | (simp; done))
  have d1 : W1.cell? ⟨w.heap.size, 1, none⟩ = some (.slice (some ⟨bb, off, none⟩) n c) := (hb1.cell (p := ⟨w.heap.size, 1, none⟩) (by simp; omega)).trans (by first | (go_cell; done) | (go_simp; done) | (simp; done))
  have r0 : W1.cell? ⟨w.heap.size + 1, 0, none⟩ = some (.int .i64 x0) := (hb1.cell (p := ⟨w.heap.size + 1, 0, none⟩) (by simp)).trans (by first | (go_cell; done) | (go_simp; done) | (simp; done))
  have r1 : W1.cell? ⟨w.heap.size + 1, 1, none⟩ = some (.int .i64 y0) := (hb1.cell (p := ⟨w.heap.size + 1, 1, none⟩) (by simp)).trans (by first | (go_cell; done) | (go_simp; done) | (simp; done))
  replace e0 := (hA.cell (p := ⟨bb, off + i, none⟩) hbb).trans e0
  replace e1 := (hA.cell (p := ⟨bb, off + q, none⟩) hbb).trans e1
  replace c1 := (hA.cell (p := ⟨g, 1, none⟩) hlt).trans c1
  have l0 := cell_lt d1
  have l1 := cell_lt r0
  have l2 := cell_lt e0
  have l3 := cell_lt c1
  have HAt := Lib.hid (fun w' (h : Below W1.heap.size W1 w') => HA.out w' (belowTo hA h))
  have HCt := Lib.hid (fun w' (h : Below W1.heap.size W1 w') => HC.out w' (belowTo hA h))
  clear hb1 HC HA HW hlt hbb
  go_wp2_with fail
  go_region_held3 (fun w' => w'.cell? ⟨w.heap.size, 0, none⟩ = some (.pointer (some ⟨g, 0, none⟩)) ∧ w'.cell? ⟨w.heap.size, 1, none⟩ = some (.slice (some ⟨bb, off, none⟩) n c) ∧ w'.cell? ⟨w.heap.size + 1, 0, none⟩ = some (.int .i64 (x0)) ∧ w'.cell? ⟨w.heap.size + 1, 1, none⟩ = some (.int .i64 (y0)) ∧ w'.cell? ⟨bb, off + i, none⟩ = some (.int .i64 (x)) ∧ w'.cell? ⟨bb, off + q, none⟩ = some (.int .i64 (y)) ∧ w'.cell? ⟨g, 1, none⟩ = some (.int .i64 (n)) ∧ Below (W1.heap.size) W1 w') ((go_split_ands; refine ⟨by (first | (with_reducible assumption) | (go_keep; done) | (go_cell; done) | (go_simp; done) | (simp [*]; done)), by (first | (with_reducible assumption) | (go_keep; done) | (go_cell; done) | (go_simp; done) | (simp [*]; done)), by (first | (with_reducible assumption) | (go_keep; done) | (go_cell; done) | (go_simp; done) | (simp [*]; done)), by (first | (with_reducible assumption) | (go_keep; done) | (go_cell; done) | (go_simp; done) | (simp [*]; done)), by (first | (with_reducible assumption) | (go_keep; done) | (go_cell; done) | (go_simp; done) | (simp [*]; done)), by (first | (with_reducible assumption) | (go_keep; done) | (go_cell; done) | (go_simp; done) | (simp [*]; done)), by (first | (with_reducible assumption) | (go_keep; done) | (go_cell; done) | (go_simp; done) | (simp [*]; done)), by first | (with_reducible assumption) | (go_grown; done)⟩)) (first | (go_at_call 132; go_call (HAt.out _ (by first | (with_reducible assumption) | (go_grown; done))) as e w1 ⟨rfl, hb0⟩; go_split_ands; have q0 : w1.cell? ⟨w.heap.size, 0, none⟩ = some (.pointer (some ⟨g, 0, none⟩)) := (hb0.cell (p := ⟨w.heap.size, 0, none⟩) (by first | (with_reducible assumption) | (go_size; done) | (simp; omega))).trans (by first | (with_reducible assumption) | (go_keep; done) | (go_cell; done) | (go_simp; done) | (simp [*]; done)); have q1 : w1.cell? ⟨w.heap.size, 1, none⟩ = some (.slice (some ⟨bb, off, none⟩) n c) := (hb0.cell (p := ⟨w.heap.size, 1, none⟩) (by first | (with_reducible assumption) | (go_size; done) | (simp; omega))).trans (by first | (with_reducible assumption) | (go_keep; done) | (go_cell; done) | (go_simp; done) | (simp [*]; done)); have q2 : w1.cell? ⟨w.heap.size + 1, 0, none⟩ = some (.int .i64 (x0)) := (hb0.cell (p := ⟨w.heap.size + 1, 0, none⟩) (by first | (with_reducible assumption) | (go_size; done) | (simp; omega))).trans (by first | (with_reducible assumption) | (go_keep; done) | (go_cell; done) | (go_simp; done) | (simp [*]; done)); have q3 : w1.cell? ⟨w.heap.size + 1, 1, none⟩ = some (.int .i64 (y0)) := (hb0.cell (p := ⟨w.heap.size + 1, 1, none⟩) (by first | (with_reducible assumption) | (go_size; done) | (simp; omega))).trans (by first | (with_reducible assumption) | (go_keep; done) | (go_cell; done) | (go_simp; done) | (simp [*]; done)); have q4 : w1.cell? ⟨bb, off + i, none⟩ = some (.int .i64 (x)) := (hb0.cell (p := ⟨bb, off + i, none⟩) (by first | (with_reducible assumption) | (go_size; done) | (simp; omega))).trans (by first | (with_reducible assumption) | (go_keep; done) | (go_cell; done) | (go_simp; done) | (simp [*]; done)); have q5 : w1.cell? ⟨bb, off + q, none⟩ = some (.int .i64 (y)) := (hb0.cell (p := ⟨bb, off + q, none⟩) (by first | (with_reducible assumption) | (go_size; done) | (simp; omega))).trans (by first | (with_reducible assumption) | (go_keep; done) | (go_cell; done) | (go_simp; done) | (simp [*]; done)); have q6 : w1.cell? ⟨g, 1, none⟩ = some (.int .i64 (n)) := (hb0.cell (p := ⟨g, 1, none⟩) (by first | (with_reducible assumption) | (go_size; done) | (simp; omega))).trans (by first | (with_reducible assumption) | (go_keep; done) | (go_cell; done) | (go_simp; done) | (simp [*]; done)); have hs0 : w.heap.size < w1.heap.size := Nat.lt_of_lt_of_le (by first | (with_reducible assumption) | (go_size; done) | (simp; omega)) hb0.size; have hs1 : w.heap.size + 1 < w1.heap.size := Nat.lt_of_lt_of_le (by first | (with_reducible assumption) | (go_size; done) | (simp; omega)) hb0.size; have hs2 : bb < w1.heap.size := Nat.lt_of_lt_of_le (by first | (with_reducible assumption) | (go_size; done) | (simp; omega)) hb0.size; have hs3 : g < w1.heap.size := Nat.lt_of_lt_of_le (by first | (with_reducible assumption) | (go_size; done) | (simp; omega)) hb0.size; have hT : Below (W1.heap.size) W1 w1 := Below.trans (by first | (with_reducible assumption) | (go_grown; done)) (hb0.mono (by first | (with_reducible assumption) | (go_size; done) | (simp; omega) | omega)); have hTs := hT.size; (try have hT2 : Below W1.heap.size W1 w1 := belowTo (by first | (with_reducible assumption) | (go_grown; done)) hb0); clear hb0) | (go_at_call 123; go_call (HCt.out _ (by first | (with_reducible assumption) | (go_grown; done))) as e w1 ⟨rfl, hb0⟩; go_split_ands; have q0 : w1.cell? ⟨w.heap.size, 0, none⟩ = some (.pointer (some ⟨g, 0, none⟩)) := (hb0.cell (p := ⟨w.heap.size, 0, none⟩) (by first | (with_reducible assumption) | (go_size; done) | (simp; omega))).trans (by first | (with_reducible assumption) | (go_keep; done) | (go_cell; done) | (go_simp; done) | (simp [*]; done)); have q1 : w1.cell? ⟨w.heap.size, 1, none⟩ = some (.slice (some ⟨bb, off, none⟩) n c) := (hb0.cell (p := ⟨w.heap.size, 1, none⟩) (by first | (with_reducible assumption) | (go_size; done) | (simp; omega))).trans (by first | (with_reducible assumption) | (go_keep; done) | (go_cell; done) | (go_simp; done) | (simp [*]; done)); have q2 : w1.cell? ⟨w.heap.size + 1, 0, none⟩ = some (.int .i64 (x0)) := (hb0.cell (p := ⟨w.heap.size + 1, 0, none⟩) (by first | (with_reducible assumption) | (go_size; done) | (simp; omega))).trans (by first | (with_reducible assumption) | (go_keep; done) | (go_cell; done) | (go_simp; done) | (simp [*]; done)); have q3 : w1.cell? ⟨w.heap.size + 1, 1, none⟩ = some (.int .i64 (y0)) := (hb0.cell (p := ⟨w.heap.size + 1, 1, none⟩) (by first | (with_reducible assumption) | (go_size; done) | (simp; omega))).trans (by first | (with_reducible assumption) | (go_keep; done) | (go_cell; done) | (go_simp; done) | (simp [*]; done)); have q4 : w1.cell? ⟨bb, off + i, none⟩ = some (.int .i64 (x)) := (hb0.cell (p := ⟨bb, off + i, none⟩) (by first | (with_reducible assumption) | (go_size; done) | (simp; omega))).trans (by first | (with_reducible assumption) | (go_keep; done) | (go_cell; done) | (go_simp; done) | (simp [*]; done)); have q5 : w1.cell? ⟨bb, off + q, none⟩ = some (.int .i64 (y)) := (hb0.cell (p := ⟨bb, off + q, none⟩) (by first | (with_reducible assumption) | (go_size; done) | (simp; omega))).trans (by first | (with_reducible assumption) | (go_keep; done) | (go_cell; done) | (go_simp; done) | (simp [*]; done)); have q6 : w1.cell? ⟨g, 1, none⟩ = some (.int .i64 (n)) := (hb0.cell (p := ⟨g, 1, none⟩) (by first | (with_reducible assumption) | (go_size; done) | (simp; omega))).trans (by first | (with_reducible assumption) | (go_keep; done) | (go_cell; done) | (go_simp; done) | (simp [*]; done)); have hs0 : w.heap.size < w1.heap.size := Nat.lt_of_lt_of_le (by first | (with_reducible assumption) | (go_size; done) | (simp; omega)) hb0.size; have hs1 : w.heap.size + 1 < w1.heap.size := Nat.lt_of_lt_of_le (by first | (with_reducible assumption) | (go_size; done) | (simp; omega)) hb0.size; have hs2 : bb < w1.heap.size := Nat.lt_of_lt_of_le (by first | (with_reducible assumption) | (go_size; done) | (simp; omega)) hb0.size; have hs3 : g < w1.heap.size := Nat.lt_of_lt_of_le (by first | (with_reducible assumption) | (go_size; done) | (simp; omega)) hb0.size; have hT : Below (W1.heap.size) W1 w1 := Below.trans (by first | (with_reducible assumption) | (go_grown; done)) (hb0.mono (by first | (with_reducible assumption) | (go_size; done) | (simp; omega) | omega)); have hTs := hT.size; (try have hT2 : Below W1.heap.size W1 w1 := belowTo (by first | (with_reducible assumption) | (go_grown; done)) hb0); clear hb0) | (go_at_call 141; go_call (HP.out _) as e w1 ⟨rfl, hb0⟩; go_split_ands; have q0 : w1.cell? ⟨w.heap.size, 0, none⟩ = some (.pointer (some ⟨g, 0, none⟩)) := (hb0.cell (p := ⟨w.heap.size, 0, none⟩) (by first | (with_reducible assumption) | (go_size; done) | (simp; omega))).trans (by first | (with_reducible assumption) | (go_keep; done) | (go_cell; done) | (go_simp; done) | (simp [*]; done)); have q1 : w1.cell? ⟨w.heap.size, 1, none⟩ = some (.slice (some ⟨bb, off, none⟩) n c) := (hb0.cell (p := ⟨w.heap.size, 1, none⟩) (by first | (with_reducible assumption) | (go_size; done) | (simp; omega))).trans (by first | (with_reducible assumption) | (go_keep; done) | (go_cell; done) | (go_simp; done) | (simp [*]; done)); have q2 : w1.cell? ⟨w.heap.size + 1, 0, none⟩ = some (.int .i64 (x0)) := (hb0.cell (p := ⟨w.heap.size + 1, 0, none⟩) (by first | (with_reducible assumption) | (go_size; done) | (simp; omega))).trans (by first | (with_reducible assumption) | (go_keep; done) | (go_cell; done) | (go_simp; done) | (simp [*]; done)); have q3 : w1.cell? ⟨w.heap.size + 1, 1, none⟩ = some (.int .i64 (y0)) := (hb0.cell (p := ⟨w.heap.size + 1, 1, none⟩) (by first | (with_reducible assumption) | (go_size; done) | (simp; omega))).trans (by first | (with_reducible assumption) | (go_keep; done) | (go_cell; done) | (go_simp; done) | (simp [*]; done)); have q4 : w1.cell? ⟨bb, off + i, none⟩ = some (.int .i64 (x)) := (hb0.cell (p := ⟨bb, off + i, none⟩) (by first | (with_reducible assumption) | (go_size; done) | (simp; omega))).trans (by first | (with_reducible assumption) | (go_keep; done) | (go_cell; done) | (go_simp; done) | (simp [*]; done)); have q5 : w1.cell? ⟨bb, off + q, none⟩ = some (.int .i64 (y)) := (hb0.cell (p := ⟨bb, off + q, none⟩) (by first | (with_reducible assumption) | (go_size; done) | (simp; omega))).trans (by first | (with_reducible assumption) | (go_keep; done) | (go_cell; done) | (go_simp; done) | (simp [*]; done)); have q6 : w1.cell? ⟨g, 1, none⟩ = some (.int .i64 (n)) := (hb0.cell (p := ⟨g, 1, none⟩) (by first | (with_reducible assumption) | (go_size; done) | (simp; omega))).trans (by first | (with_reducible assumption) | (go_keep; done) | (go_cell; done) | (go_simp; done) | (simp [*]; done)); have hs0 : w.heap.size < w1.heap.size := Nat.lt_of_lt_of_le (by first | (with_reducible assumption) | (go_size; done) | (simp; omega)) hb0.size; have hs1 : w.heap.size + 1 < w1.heap.size := Nat.lt_of_lt_of_le (by first | (with_reducible assumption) | (go_size; done) | (simp; omega)) hb0.size; have hs2 : bb < w1.heap.size := Nat.lt_of_lt_of_le (by first | (with_reducible assumption) | (go_size; done) | (simp; omega)) hb0.size; have hs3 : g < w1.heap.size := Nat.lt_of_lt_of_le (by first | (with_reducible assumption) | (go_size; done) | (simp; omega)) hb0.size; have hT : Below (W1.heap.size) W1 w1 := Below.trans (by first | (with_reducible assumption) | (go_grown; done)) (hb0.mono (by first | (with_reducible assumption) | (go_size; done) | (simp; omega) | omega)); have hTs := hT.size; (try have hT2 : Below W1.heap.size W1 w1 := belowTo (by first | (with_reducible assumption) | (go_grown; done)) hb0); clear hb0))
  go_wp2_with fail
  go_quiet (fail)
  go_wp2
  go_returns
  exact ⟨rfl, below_drewN (hA.trans (Below.mono hT hA.size)) _⟩
end Go.Proofs.YtcieihbknfeddabDoor

/- Sections: boxes: the program. -/
namespace Go.Proofs.YtcieihbknfeddabDoor
open Go.RowKit

set_option maxRecDepth 100000 in
set_option maxHeartbeats 32000000 in
theorem box_any (base g : Nat) (ns : List Node) (u : Value) (d : List Int) (w : World) (hF : FanAt w base g ns) (hf : fanB (rays ns) = true) (hu : ReadsInts w u d) (hl : d.length = ns.length) (hb : bnd 100 d) :
    Calls Tryd.prog 87 #[.agg #[.pointer (some ⟨g, 0, none⟩), u]] w fun e w' => e = .returned (.agg #[.int .i64 (-bndZ (rays ns) d (1, 0)), .int .i64 (-bndZ (rays ns) d (0, 1)), .int .i64 (bndZ (rays ns) d (-1, 0)), .int .i64 (bndZ (rays ns) d (0, -1))]) ∧ Below w.heap.size w w' := by
  have hv : allVec (rays ns) := fan_vec hf
  have HB := Lib.hid (fun x y w' (hb' : Below w.heap.size w w') (ha : vecB x y = true) => bound_any base g ns u d x y w' (hF.below hb') hf (hu.below hb') hl hb ha)
  obtain ⟨B, hB⟩ : ∃ B : Int → Int → Int, ∀ x y, bndZ (rays ns) d (x, y) = B x y := ⟨fun x y => bndZ (rays ns) d (x, y), fun _ _ => rfl⟩
  have b1 := bndZ_bnd (a := (1, 0)) hv (by decide) hb
  have b2 := bndZ_bnd (a := (0, 1)) hv (by decide) hb
  have b3 := bndZ_bnd (a := (-1, 0)) hv (by decide) hb
  have b4 := bndZ_bnd (a := (0, -1)) hv (by decide) hb
  rw [hB] at b1 b2 b3 b4
  have q1 : IntKind.i64.wrap (-(B 1 0)) = -(B 1 0) := by rw [IntKind.wrap_i64]; omega
  have q2 : IntKind.i64.wrap (-(B 0 1)) = -(B 0 1) := by rw [IntKind.wrap_i64]; omega
  simp only [hB] at HB ⊢
  obtain ⟨a, c, rfl, _⟩ := hu.len
  clear hF hf hu hl hb hv hB b1 b2 b3 b4
  go_enter Tryd.func87, Tryd.ntmps87
  go_wp2_with fail
  have hA0 : Below w.heap.size w ((w.alloc (.cells #[.pointer (some ⟨g, 0, none⟩), .slice a d.length c] 60)).alloc (.cells #[.int .i64 0, .int .i64 0, .int .i64 0, .int .i64 0] 95)) := by go_grown
  have x0 : ((w.alloc (.cells #[.pointer (some ⟨g, 0, none⟩), .slice a d.length c] 60)).alloc (.cells #[.int .i64 0, .int .i64 0, .int .i64 0, .int .i64 0] 95)).cell? ⟨w.heap.size, 0, none⟩ = some (.pointer (some ⟨g, 0, none⟩)) := by first | (go_cell; done) | (go_simp; done) | (simp; done)
  have x1 : ((w.alloc (.cells #[.pointer (some ⟨g, 0, none⟩), .slice a d.length c] 60)).alloc (.cells #[.int .i64 0, .int .i64 0, .int .i64 0, .int .i64 0] 95)).cell? ⟨w.heap.size, 1, none⟩ = some (.slice a d.length c) := by first | (go_cell; done) | (go_simp; done) | (simp; done)
  have r0 : ((w.alloc (.cells #[.pointer (some ⟨g, 0, none⟩), .slice a d.length c] 60)).alloc (.cells #[.int .i64 0, .int .i64 0, .int .i64 0, .int .i64 0] 95)).cell? ⟨w.heap.size + 1, 0, none⟩ = some (.int .i64 0) := by first | (go_cell; done) | (go_simp; done) | (simp; done)
  have r1 : ((w.alloc (.cells #[.pointer (some ⟨g, 0, none⟩), .slice a d.length c] 60)).alloc (.cells #[.int .i64 0, .int .i64 0, .int .i64 0, .int .i64 0] 95)).cell? ⟨w.heap.size + 1, 1, none⟩ = some (.int .i64 0) := by first | (go_cell; done) | (go_simp; done) | (simp; done)
  have r2 : ((w.alloc (.cells #[.pointer (some ⟨g, 0, none⟩), .slice a d.length c] 60)).alloc (.cells #[.int .i64 0, .int .i64 0, .int .i64 0, .int .i64 0] 95)).cell? ⟨w.heap.size + 1, 2, none⟩ = some (.int .i64 0) := by first | (go_cell; done) | (go_simp; done) | (simp; done)
  have r3 : ((w.alloc (.cells #[.pointer (some ⟨g, 0, none⟩), .slice a d.length c] 60)).alloc (.cells #[.int .i64 0, .int .i64 0, .int .i64 0, .int .i64 0] 95)).cell? ⟨w.heap.size + 1, 3, none⟩ = some (.int .i64 0) := by first | (go_cell; done) | (go_simp; done) | (simp; done)
  have f0 : ∀ o, ((w.alloc (.cells #[.pointer (some ⟨g, 0, none⟩), .slice a d.length c] 60)).alloc (.cells #[.int .i64 0, .int .i64 0, .int .i64 0, .int .i64 0] 95)).frozen? ⟨w.heap.size + 1, o, none⟩ = false := fun o => by first | (go_cell; done) | (go_simp; done) | (simp; done)
  generalize ((w.alloc (.cells #[.pointer (some ⟨g, 0, none⟩), .slice a d.length c] 60)).alloc (.cells #[.int .i64 0, .int .i64 0, .int .i64 0, .int .i64 0] 95)) = W at *
  have fz0 := f0 0
  have fz1 := f0 1
  have fz2 := f0 2
  have fz3 := f0 3
  have l0 := cell_lt x0
  have l1 := cell_lt r0
  have HBt := Lib.hid (fun x y w' (h : Below W.heap.size W w') ha => HB.out x y w' (belowTo hA0 h) ha)
  clear HB f0
  go_region_held3 (fun w' => w'.cell? ⟨w.heap.size, 0, none⟩ = some (.pointer (some ⟨g, 0, none⟩)) ∧ w'.cell? ⟨w.heap.size, 1, none⟩ = some (.slice a d.length c) ∧ Below (w.heap.size) W w') ((go_split_ands; refine ⟨by (first | (with_reducible assumption) | (go_keep; done) | (go_cell; done) | (go_simp; done) | (simp [*]; done)), by (first | (with_reducible assumption) | (go_keep; done) | (go_cell; done) | (go_simp; done) | (simp [*]; done)), by first | (with_reducible assumption) | (go_grown; done)⟩)) (first | (go_at_call 116; go_call (HBt.out _ _ _ (by first | (with_reducible assumption) | (go_grown; done)) (by decide)) as e w1 ⟨rfl, hb0⟩; go_split_ands; have q0 : w1.cell? ⟨w.heap.size, 0, none⟩ = some (.pointer (some ⟨g, 0, none⟩)) := (hb0.cell (p := ⟨w.heap.size, 0, none⟩) (by first | (with_reducible assumption) | (go_size; done) | (simp; omega))).trans (by first | (with_reducible assumption) | (go_keep; done) | (go_cell; done) | (go_simp; done) | (simp [*]; done)); have q1 : w1.cell? ⟨w.heap.size, 1, none⟩ = some (.slice a d.length c) := (hb0.cell (p := ⟨w.heap.size, 1, none⟩) (by first | (with_reducible assumption) | (go_size; done) | (simp; omega))).trans (by first | (with_reducible assumption) | (go_keep; done) | (go_cell; done) | (go_simp; done) | (simp [*]; done)); have q2 : w1.cell? ⟨w.heap.size + 1, 0, none⟩ = some (.int .i64 (0)) := (hb0.cell (p := ⟨w.heap.size + 1, 0, none⟩) (by first | (with_reducible assumption) | (go_size; done) | (simp; omega))).trans (by first | (with_reducible assumption) | (go_keep; done) | (go_cell; done) | (go_simp; done) | (simp [*]; done)); have q3 : w1.cell? ⟨w.heap.size + 1, 1, none⟩ = some (.int .i64 (0)) := (hb0.cell (p := ⟨w.heap.size + 1, 1, none⟩) (by first | (with_reducible assumption) | (go_size; done) | (simp; omega))).trans (by first | (with_reducible assumption) | (go_keep; done) | (go_cell; done) | (go_simp; done) | (simp [*]; done)); have q4 : w1.cell? ⟨w.heap.size + 1, 2, none⟩ = some (.int .i64 (0)) := (hb0.cell (p := ⟨w.heap.size + 1, 2, none⟩) (by first | (with_reducible assumption) | (go_size; done) | (simp; omega))).trans (by first | (with_reducible assumption) | (go_keep; done) | (go_cell; done) | (go_simp; done) | (simp [*]; done)); have q5 : w1.cell? ⟨w.heap.size + 1, 3, none⟩ = some (.int .i64 (0)) := (hb0.cell (p := ⟨w.heap.size + 1, 3, none⟩) (by first | (with_reducible assumption) | (go_size; done) | (simp; omega))).trans (by first | (with_reducible assumption) | (go_keep; done) | (go_cell; done) | (go_simp; done) | (simp [*]; done)); have qf0 : w1.frozen? ⟨w.heap.size + 1, 0, none⟩ = false := (hb0.frozen (p := ⟨w.heap.size + 1, 0, none⟩) (by first | (with_reducible assumption) | (go_size; done) | (simp; omega))).trans (by first | (with_reducible assumption) | (go_keep; done) | (go_cell; done) | (go_simp; done) | (simp [*]; done)); have qf1 : w1.frozen? ⟨w.heap.size + 1, 1, none⟩ = false := (hb0.frozen (p := ⟨w.heap.size + 1, 1, none⟩) (by first | (with_reducible assumption) | (go_size; done) | (simp; omega))).trans (by first | (with_reducible assumption) | (go_keep; done) | (go_cell; done) | (go_simp; done) | (simp [*]; done)); have qf2 : w1.frozen? ⟨w.heap.size + 1, 2, none⟩ = false := (hb0.frozen (p := ⟨w.heap.size + 1, 2, none⟩) (by first | (with_reducible assumption) | (go_size; done) | (simp; omega))).trans (by first | (with_reducible assumption) | (go_keep; done) | (go_cell; done) | (go_simp; done) | (simp [*]; done)); have qf3 : w1.frozen? ⟨w.heap.size + 1, 3, none⟩ = false := (hb0.frozen (p := ⟨w.heap.size + 1, 3, none⟩) (by first | (with_reducible assumption) | (go_size; done) | (simp; omega))).trans (by first | (with_reducible assumption) | (go_keep; done) | (go_cell; done) | (go_simp; done) | (simp [*]; done)); have hs0 : w.heap.size < w1.heap.size := Nat.lt_of_lt_of_le (by first | (with_reducible assumption) | (go_size; done) | (simp; omega)) hb0.size; have hs1 : w.heap.size + 1 < w1.heap.size := Nat.lt_of_lt_of_le (by first | (with_reducible assumption) | (go_size; done) | (simp; omega)) hb0.size; have hT : Below (w.heap.size) W w1 := Below.trans (by first | (with_reducible assumption) | (go_grown; done)) (hb0.mono (by first | (with_reducible assumption) | (go_size; done) | (simp; omega) | omega)); have hTs := hT.size; (try have hT2 : Below W.heap.size W w1 := belowTo (by first | (with_reducible assumption) | (go_grown; done)) hb0); clear hb0))
  all_goals (go_wp2; refine bodyPost_ret (by simp [results, Tryd.results87, go_sem, *]; try rfl) rfl ?_; have hZ := hA0.trans hT; exact ⟨rfl, by go_grown⟩)
end Go.Proofs.YtcieihbknfeddabDoor

/- Sections: is a vector one: the program. -/
namespace Go.Proofs.YtcieihbknfeddabDoor
open Go.RowKit Go.Shelf

attribute [local go_sem] Oper.semAt_some

def okAt (l : List V2) (d : List Int) (m : V2) (j x : Nat) : Prop := -gz d j ≤ dotZ m.1 m.2 (cyc l x).1 (cyc l x).2
def HasI (w w0 : World) (l : List V2) (d : List Int) (m : V2) (pre : List Nat) (W : World) : Prop :=
  ((Boxed W (w.heap.size + 2) 4 (.bool false) ∧ Boxed W (w.heap.size + 3) 3 (.int .i64 (pre.length : Nat))) ∧ ∀ j x, pre[j]? = some x → okAt l d m j x) ∧ Below (w.heap.size + 2) w0 W
def HasX (w w0 : World) (l : List V2) (d : List Int) (m : V2) (c : Code) (pre : List Nat) (W : World) : Prop :=
  ((c = .ret ∧ ∃ p x, pre = p ++ [x] ∧ ¬ okAt l d m p.length x) ∧ Boxed W (w.heap.size + 2) 4 (.bool false)) ∧ Below (w.heap.size + 2) w0 W
theorem hasI_own (w w0 : World) (l : List V2) (d : List Int) (m : V2) {k : Nat} (h0 : w.heap.size + 2 ≤ w0.heap.size) (h : w.heap.size + 2 ≤ k) : OwnFrom k (HasI w w0 l d m) :=
  OwnFrom.and (OwnFrom.and (OwnFrom.and (Own.from (ownErr _ _ _) _) (Own.from (boxed_own _ _ (fun pre : List Nat => .int .i64 (pre.length : Nat))) _)) (ownFrom_pure k (fun pre => ∀ j x, pre[j]? = some x → okAt l d m j x))) (ownFrom_below h0 h)
theorem hasX_own (w w0 : World) (l : List V2) (d : List Int) (m : V2) (c : Code) {k : Nat} (h0 : w.heap.size + 2 ≤ w0.heap.size) (h : w.heap.size + 2 ≤ k) : OwnFrom k (HasX w w0 l d m c) :=
  OwnFrom.and (OwnFrom.and (ownFrom_pure k (fun pre => c = .ret ∧ ∃ p x, pre = p ++ [x] ∧ ¬ okAt l d m p.length x)) (Own.from (ownErr _ _ _) _)) (ownFrom_below h0 h)
theorem ok_snoc {l : List V2} {d : List Int} {m : V2} {pre : List Nat} {x : Nat} (h : ∀ j x, pre[j]? = some x → okAt l d m j x) (hx : okAt l d m pre.length x) : ∀ j y, (pre ++ [x])[j]? = some y → okAt l d m j y := by
  intro j y hj
  rcases Nat.lt_trichotomy j pre.length with h1 | h1 | h1
  · rw [List.getElem?_append_left h1] at hj
    exact h j y hj
  · subst h1
    rw [List.getElem?_append_right (Nat.le_refl _), Nat.sub_self] at hj
    cases hj
    exact hx
  · rw [List.getElem?_eq_none (by simp; omega)] at hj
    cases hj
theorem ok_all {l : List V2} {d : List Int} {m : V2} (h : ∀ j x, (List.range l.length)[j]? = some x → okAt l d m j x) : hasZ l d m = true :=
  sec_good (fun i hi => h i i (by rw [List.getElem?_range hi]))
theorem ok_not {l : List V2} {d : List Int} {m : V2} {p : List Nat} {x : Nat} (hp : p ++ [x] <+: List.range l.length) (h : ¬ okAt l d m p.length x) : hasZ l d m = false := by
  obtain ⟨e, hx⟩ := prefix_range hp
  have e2 : p.length = x := by rw [e, List.length_range]
  rw [e2] at h
  unfold okAt at h
  exact sec_bad hx (by omega)
set_option maxRecDepth 100000 in
set_option maxHeartbeats 16000000 in
theorem has_in' (n : Nat) (hn : 3 ≤ n) (base g : Nat) (ns : List Node) (u : Value) (d : List Int) (x0 y0 : Int) (w : World) (hF : FanAt w base g ns) (hm : ns.length ≤ 1000) (hv : allVec (rays ns)) (hu : ReadsInts w u d) (hl : d.length = ns.length) (hb : bnd 200 d) (ha : vecB x0 y0 = true) :
    CallsIn Fence.wide n Tryd.prog 89 #[.agg #[.pointer (some ⟨g, 0, none⟩), u], .agg #[.int .i64 (x0), .int .i64 (y0)]] w fun e w' => e = .returned (.bool (hasZ (rays ns) d (x0, y0))) ∧ Below w.heap.size w w' := by
  have h1 : 1 ≤ n := by omega
  have hd : 1 ≤ n - 1 - 1 := by omega
  have hR := hF.ring
  have hp := hR.pos
  obtain ⟨bb, off, c, rfl, hdm, hbb, hcs⟩ := hu.open (by omega)
  have HCS := Lib.hid hcs
  have HMv := Lib.hid (fun c d w' (hc : vecB c d = true) => productBig_any x0 y0 c d w' (by have := szs ha; omega) hc)
  have HV := Lib.hid hv
  have HB := Lib.hid hb
  have HL := Lib.hid hl
  clear hu hcs hb hv ha hl
  refine callsIn_of_wp_marks Tryd.func89 rfl trivial ?_ rfl
  simp only [Tryd.ntmps89, List.size_toArray, List.length_cons, List.length_nil, Nat.reduceAdd, Nat.reduceSub, Array.replicate_succ, Array.replicate_zero, List.push_toArray, List.append_toArray, List.nil_append, List.cons_append]
  gi_wp2_with fail
  refine ⟨trivial, ?_⟩
  refine CallsIn.mono (links_in _ g _) ?_
  rintro e w3 ⟨rfl, rfl⟩
  have hA0 : Below w.heap.size w ((w.alloc (.cells #[.pointer (some ⟨g, 0, none⟩), .slice (some ⟨bb, off, none⟩) d.length c] 60)).alloc (.cells #[.int .i64 x0, .int .i64 y0] 36)) := by go_grown
  have p1 : ((w.alloc (.cells #[.pointer (some ⟨g, 0, none⟩), .slice (some ⟨bb, off, none⟩) d.length c] 60)).alloc (.cells #[.int .i64 x0, .int .i64 y0] 36)).cell? ⟨w.heap.size, 1, none⟩ = some (.slice (some ⟨bb, off, none⟩) d.length c) := by first | (go_cell; done) | (go_simp; done) | (simp; done)
  have p2 : ((w.alloc (.cells #[.pointer (some ⟨g, 0, none⟩), .slice (some ⟨bb, off, none⟩) d.length c] 60)).alloc (.cells #[.int .i64 x0, .int .i64 y0] 36)).cell? ⟨w.heap.size + 1, 0, none⟩ = some (.int .i64 x0) := by first | (go_cell; done) | (go_simp; done) | (simp; done)
  have p3 : ((w.alloc (.cells #[.pointer (some ⟨g, 0, none⟩), .slice (some ⟨bb, off, none⟩) d.length c] 60)).alloc (.cells #[.int .i64 x0, .int .i64 y0] 36)).cell? ⟨w.heap.size + 1, 1, none⟩ = some (.int .i64 y0) := by first | (go_cell; done) | (go_simp; done) | (simp; done)
  have hz0 : ((w.alloc (.cells #[.pointer (some ⟨g, 0, none⟩), .slice (some ⟨bb, off, none⟩) d.length c] 60)).alloc (.cells #[.int .i64 x0, .int .i64 y0] 36)).heap.size = w.heap.size + 2 := by simp
  gi_wp2_with fail
  generalize ((w.alloc (.cells #[.pointer (some ⟨g, 0, none⟩), .slice (some ⟨bb, off, none⟩) d.length c] 60)).alloc (.cells #[.int .i64 x0, .int .i64 y0] 36)) = w0 at *
  have hA : Below w0.heap.size w0 (((w0.alloc (.cells #[.bool false] 4)).alloc (.cells #[.int .i64 0] 3)).alloc (.cells #[.pointer (some ⟨g, 0, none⟩)] 58)) := by go_grown
  have bR := ((Boxed.new w0 4 (.bool false)).alloc (.cells #[.int .i64 0] 3)).alloc (.cells #[.pointer (some ⟨g, 0, none⟩)] 58)
  have bB := (Boxed.new (w0.alloc (.cells #[.bool false] 4)) 3 (.int .i64 0)).alloc (.cells #[.pointer (some ⟨g, 0, none⟩)] 58)
  have bF := Boxed.new ((w0.alloc (.cells #[.bool false] 4)).alloc (.cells #[.int .i64 0] 3)) 58 (.pointer (some ⟨g, 0, none⟩))
  have hz5 : (((w0.alloc (.cells #[.bool false] 4)).alloc (.cells #[.int .i64 0] 3)).alloc (.cells #[.pointer (some ⟨g, 0, none⟩)] 58)).heap.size = w0.heap.size + 3 := by simp
  simp only [World.size_alloc] at bF bB bR
  rw [hz0] at bR bB bF hz5 hA
  rw [show w.heap.size + 2 + 1 = w.heap.size + 3 by omega] at bB
  rw [show w.heap.size + 2 + 1 + 1 = w.heap.size + 4 by omega] at bF
  generalize (((w0.alloc (.cells #[.bool false] 4)).alloc (.cells #[.int .i64 0] 3)).alloc (.cells #[.pointer (some ⟨g, 0, none⟩)] 58)) = W5 at *
  have hF5 := (hF.below hA0).below (hA.mono (by omega))
  have hR0 := (hF.below hA0).ring
  have hlow : ∀ p ∈ ns, p.1 < w0.heap.size := fun p hp => hR0.mem_lt hp
  refine wpIn_links (by omega) rfl bF.cell (show w.heap.size + 2 ≤ _ by omega) hF5 (fun p hp => by have := hlow p hp; omega) (by omega) rfl (HasI w w0 (rays ns) d (x0, y0)) (HasX w w0 (rays ns) d (x0, y0)) (hasI_own w w0 _ _ _ (by omega) (by omega)) (fun c => hasX_own w w0 _ _ _ c (by omega) (by omega))
    ⟨⟨⟨bR, bB⟩, fun j x hj => by cases hj⟩, hA⟩ ?a₁ ?assign ?body ?done ?stop
  case assign =>
    intro l x W K hK
    gi_wp2
    exact hK
  case body =>
    rintro l pre x W ⟨⟨⟨hr, hi⟩, hq⟩, hb⟩ hlen
    have hbw : Below w.heap.size w W := hA0.trans (hb.mono (by omega))
    have hL := (hR.below hbw).link x
    have e1 : cyc (rays ns) x = (cyc ns x).2 := rays_cyc hp x
    have hvx := HV.out x
    rw [e1] at hvx
    have HM2 := Lib.hid (fun w' => HMv.out (cyc ns x).2.1 (cyc ns x).2.2 w' hvx)
    have HOK : Hid (okAt (rays ns) d (x0, y0) pre.length x ↔ -gz d pre.length ≤ dotZ x0 y0 (cyc ns x).2.1 (cyc ns x).2.2) := by show _ ↔ _; unfold okAt; rw [e1]
    have k0 := hL.c0
    have k1 := hL.c1
    have hcb := HB.out pre.length
    have hrl := hr.lt
    have a1 : W.cell? ⟨w.heap.size, 1, none⟩ = some (.slice (some ⟨bb, off, none⟩) d.length c) := (hb.cell (p := ⟨w.heap.size, 1, none⟩) (by simp)).trans p1
    have a2 : W.cell? ⟨w.heap.size + 1, 0, none⟩ = some (.int .i64 x0) := (hb.cell (p := ⟨w.heap.size + 1, 0, none⟩) (by simp)).trans p2
    have a3 : W.cell? ⟨w.heap.size + 1, 1, none⟩ = some (.int .i64 y0) := (hb.cell (p := ⟨w.heap.size + 1, 1, none⟩) (by simp)).trans p3
    have a4 := hi.cell
    have a5 : W.cell? ⟨bb, off + pre.length, none⟩ = some (.int .i64 (gz d pre.length)) := HCS.out W hbw pre.length (by have := HL.out; omega)
    have b1 := cell_lt a1
    have b2 := cell_lt a2
    have b4 := cell_lt a4
    have b5 := cell_lt a5
    have bq := cell_lt k0
    have HQ := Lib.hid hq
    have i1 : (0 : Int) ≤ (pre.length : Int) := by omega
    have i2 : (pre.length : Int) < (d.length : Int) := by have := HL.out; omega
    have i3 : pre.length < d.length := by have := HL.out; omega
    have hW2 := hb
    generalize gz d pre.length = z at *
    generalize dotZ x0 y0 (cyc ns x).2.1 (cyc ns x).2.2 = mx at HOK HM2
    generalize (cyc ns x).1 = qb at *
    generalize (cyc ns x).2 = zz at *
    obtain ⟨zx, zy⟩ := zz
    dsimp only at k0 k1 HM2
    have q1 : IntKind.i64.wrap (-z) = -z := by rw [IntKind.wrap_i64]; omega
    clear hvx e1 hL hq hcb p1 p2 p3
    gi_wp2
    refine region_round (by kernel_rfl) (noDefer_of (by kernel_rfl)) (by rintro ⟨_, _, h⟩; exact False.elim h) ?_
    refine wpAny_of_held (S := fun w' => Below W.heap.size W w') _ _ _ _ ?_
    have hSw : Below W.heap.size W (World.drew W) := by go_grown
    refine wpAnyH_take (i := 0) (v := ?_) rfl (by kernel_rfl) (by kernel_rfl) (by kernel_rfl) (fun _ _ _ h => h) (Or.inl ⟨by rfl, ?_⟩) hSw ?_
    rotate_left
    focus (intro w0 hS0; have c1 := (hS0.cell (p := ⟨w.heap.size, 1, none⟩) b1).trans a1; have c2 := (hS0.cell (p := ⟨w.heap.size + 1, 0, none⟩) b2).trans a2; have c3 := (hS0.cell (p := ⟨w.heap.size + 1, 1, none⟩) b2).trans a3; have c4 := (hS0.cell (p := ⟨w.heap.size + 3, 0, none⟩) b4).trans a4; have c5 := (hS0.cell (p := ⟨bb, off + pre.length, none⟩) b5).trans a5; have c6 := (hS0.cell (p := ⟨qb, 0, none⟩) bq).trans k0; have c7 := (hS0.cell (p := ⟨qb, 1, none⟩) bq).trans k1; clear hS0; go_simp; try with_reducible rfl)
    refine wpAnyH_take (i := 1) (v := ?_) rfl (by kernel_rfl) (by kernel_rfl) (by kernel_rfl) (fun _ _ _ h => h) (Or.inl ⟨by rfl, ?_⟩) hSw ?_
    rotate_left
    focus (intro w0 hS0; clear hS0; go_simp; try with_reducible rfl)
    refine wpAnyH_take (i := 2) (v := ?_) rfl (by kernel_rfl) (by kernel_rfl) (by kernel_rfl) (fun _ _ _ h => h) (Or.inl ⟨by rfl, ?_⟩) hSw ?_
    rotate_left
    focus (intro w0 hS0; clear hS0; go_simp; try with_reducible rfl)
    refine wpAnyH_take (i := 3) (v := ?_) rfl (by kernel_rfl) (by kernel_rfl) (by kernel_rfl) (fun _ _ _ h => h) (Or.inl ⟨by rfl, ?_⟩) hSw ?_
    rotate_left
    focus (intro w0 hS0; clear hS0; go_simp; try with_reducible rfl)
    refine wpAnyH_take (i := 4) (v := ?_) rfl (by kernel_rfl) (by kernel_rfl) (by kernel_rfl) (fun _ _ _ h => h) (Or.inl ⟨by rfl, ?_⟩) hSw ?_
    rotate_left
    focus (intro w0 hS0; have c1 := (hS0.cell (p := ⟨w.heap.size, 1, none⟩) b1).trans a1; have c2 := (hS0.cell (p := ⟨w.heap.size + 1, 0, none⟩) b2).trans a2; have c3 := (hS0.cell (p := ⟨w.heap.size + 1, 1, none⟩) b2).trans a3; have c4 := (hS0.cell (p := ⟨w.heap.size + 3, 0, none⟩) b4).trans a4; have c5 := (hS0.cell (p := ⟨bb, off + pre.length, none⟩) b5).trans a5; have c6 := (hS0.cell (p := ⟨qb, 0, none⟩) bq).trans k0; have c7 := (hS0.cell (p := ⟨qb, 1, none⟩) bq).trans k1; clear hS0; go_simp; try with_reducible rfl)
    refine wpAnyH_take (i := 6) (v := ?_) rfl (by kernel_rfl) (by kernel_rfl) (by kernel_rfl) (fun _ _ _ h => h) (Or.inl ⟨by rfl, ?_⟩) hSw ?_
    rotate_left
    focus (intro w0 hS0; clear hS0; go_simp; try with_reducible rfl)
    refine wpAnyH_take (i := 7) (v := ?_) rfl (by kernel_rfl) (by kernel_rfl) (by kernel_rfl) (fun _ _ _ h => h) (Or.inl ⟨by rfl, ?_⟩) hSw ?_
    rotate_left
    focus (intro w0 hS0; have c1 := (hS0.cell (p := ⟨w.heap.size, 1, none⟩) b1).trans a1; have c2 := (hS0.cell (p := ⟨w.heap.size + 1, 0, none⟩) b2).trans a2; have c3 := (hS0.cell (p := ⟨w.heap.size + 1, 1, none⟩) b2).trans a3; have c4 := (hS0.cell (p := ⟨w.heap.size + 3, 0, none⟩) b4).trans a4; have c5 := (hS0.cell (p := ⟨bb, off + pre.length, none⟩) b5).trans a5; have c6 := (hS0.cell (p := ⟨qb, 0, none⟩) bq).trans k0; have c7 := (hS0.cell (p := ⟨qb, 1, none⟩) bq).trans k1; clear hS0; go_simp; try with_reducible rfl)
    refine wpAnyH_take (i := 8) (v := ?_) rfl (by kernel_rfl) (by kernel_rfl) (by kernel_rfl) (fun _ _ _ h => h) (Or.inl ⟨by rfl, ?_⟩) hSw ?_
    rotate_left
    focus (intro w0 hS0; have c1 := (hS0.cell (p := ⟨w.heap.size, 1, none⟩) b1).trans a1; have c2 := (hS0.cell (p := ⟨w.heap.size + 1, 0, none⟩) b2).trans a2; have c3 := (hS0.cell (p := ⟨w.heap.size + 1, 1, none⟩) b2).trans a3; have c4 := (hS0.cell (p := ⟨w.heap.size + 3, 0, none⟩) b4).trans a4; have c5 := (hS0.cell (p := ⟨bb, off + pre.length, none⟩) b5).trans a5; have c6 := (hS0.cell (p := ⟨qb, 0, none⟩) bq).trans k0; have c7 := (hS0.cell (p := ⟨qb, 1, none⟩) bq).trans k1; clear hS0; go_simp; try with_reducible rfl)
    refine wpAnyH_take (i := 9) (v := ?_) rfl (by kernel_rfl) (by kernel_rfl) (by kernel_rfl) (fun _ _ _ h => h) (Or.inl ⟨by rfl, ?_⟩) hSw ?_
    rotate_left
    focus (intro w0 hS0; clear hS0; go_simp; try with_reducible rfl)
    refine wpAnyH_take (i := 10) (v := ?_) rfl (by kernel_rfl) (by kernel_rfl) (by kernel_rfl) (fun _ _ _ h => h) (Or.inl ⟨by rfl, ?_⟩) hSw ?_
    rotate_left
    focus (intro w0 hS0; have c1 := (hS0.cell (p := ⟨w.heap.size, 1, none⟩) b1).trans a1; have c2 := (hS0.cell (p := ⟨w.heap.size + 1, 0, none⟩) b2).trans a2; have c3 := (hS0.cell (p := ⟨w.heap.size + 1, 1, none⟩) b2).trans a3; have c4 := (hS0.cell (p := ⟨w.heap.size + 3, 0, none⟩) b4).trans a4; have c5 := (hS0.cell (p := ⟨bb, off + pre.length, none⟩) b5).trans a5; have c6 := (hS0.cell (p := ⟨qb, 0, none⟩) bq).trans k0; have c7 := (hS0.cell (p := ⟨qb, 1, none⟩) bq).trans k1; clear hS0; go_simp; try with_reducible rfl)
    refine wpAnyH_take (i := 11) (v := ?_) rfl (by kernel_rfl) (by kernel_rfl) (by kernel_rfl) (fun _ _ _ h => h) (Or.inl ⟨by rfl, ?_⟩) hSw ?_
    rotate_left
    focus (intro w0 hS0; clear hS0; go_simp; try with_reducible rfl)
    refine wpAnyH_ready (rs := [5]) (by kernel_rfl) (by simp) (AllReadyH.cons rfl (fun K hK => ?_) AllReadyH.nil)
    go_simp
    (refine Calls.mono (HM2.out _) ?_; rintro e w1 ⟨rfl, hb1⟩)
    replace hSw := belowTo hSw hb1
    refine hK.out _ _ hSw (fun _ => ?_)
    clear hK K
    refine wpAnyH_take (i := 12) (v := ?_) rfl (by kernel_rfl) (by kernel_rfl) (by kernel_rfl) (fun _ _ _ h => h) (Or.inl ⟨by rfl, ?_⟩) hSw ?_
    rotate_left
    focus (intro w0 hS0; clear hS0; go_simp; try with_reducible rfl)
    refine wpAnyH_done (by kernel_rfl) ?_ _
    have hr3 : Boxed w1 (w.heap.size + 2) 4 (.bool false) := (hSw.block _ hrl).trans hr
    have hi3 : Boxed w1 (w.heap.size + 3) 3 (.int .i64 (pre.length : Nat)) := (hSw.block _ b4).trans hi
    have rr3 := hr3.cell
    have rf3 := hr3.frozen
    have ri3 := hi3.cell
    have if3 := hi3.frozen
    have KO := Lib.hid (KeepsOthers.of_grownBy (grown_of_below hSw none) (fun _ _ e _ => by cases e))
    have hW3 := hb.trans (hSw.mono (by omega))
    have hbW := hSw.mono (B' := w.heap.size + 2) (by omega)
    clear hb1 hSw
    by_cases hlt : mx < -z
    · have HX : Hid (¬ okAt (rays ns) d (x0, y0) pre.length x) := fun h => by have := HOK.out.1 h; omega
      gi_wp2
      exact ⟨KO.out.trans (KeepsOthers.setCell _ _ _), ⟨⟨rfl, pre, x, rfl, HX.out⟩, hr3.set _⟩, hW3.setCell (p := ⟨w.heap.size + 2, 0, none⟩) (Nat.le_refl _) _⟩
    · have HX : Hid (∀ j y, (pre ++ [x])[j]? = some y → okAt (rays ns) d (x0, y0) j y) := ok_snoc HQ.out (HOK.out.2 (by omega))
      have hcv0 : Boxed (w1.setCell ⟨w.heap.size + 3, 0, none⟩ (.int .i64 ((pre.length : Int) + 1))) (w.heap.size + 3) 3 (.int .i64 ((pre ++ [x]).length : Nat)) := by
        have := hi3.set (.int .i64 ((pre.length : Int) + 1))
        simpa using this
      have hrv0 : Boxed (w1.setCell ⟨w.heap.size + 3, 0, none⟩ (.int .i64 ((pre.length : Int) + 1))) (w.heap.size + 2) 4 (.bool false) := (Below.heap_setCell w1 ⟨w.heap.size + 3, 0, none⟩ _ (w.heap.size + 2) (by simp)).trans hr3
      have hcv := Lib.hid hcv0
      have hrv := Lib.hid hrv0
      clear hcv0 hrv0
      have hpl : (pre.length : Int) ≤ 1000 := by omega
      gi_wp2
      exact ⟨KO.out.trans (KeepsOthers.setCell _ _ _), hbW.setCell (p := ⟨w.heap.size + 3, 0, none⟩) (by simp) _, ⟨⟨hrv.out, hcv.out⟩, HX.out⟩, hW3.setCell (p := ⟨w.heap.size + 3, 0, none⟩) (by simp) _⟩
  case done =>
    rintro D W hD ⟨⟨⟨hr, hi⟩, hq⟩, hb⟩ hK
    have HQ : Hid (hasZ (rays ns) d (x0, y0) = true) := ok_all (by rw [rays_len]; exact hq)
    have hbw : Below w.heap.size w W := hA0.trans (hb.mono (by omega))
    have rr := hr.cell
    have rf := hr.frozen
    have hK' : (W.setCell ⟨w.heap.size + 2, 0, none⟩ (.bool true)).heap[D]? = some (.deferred (some [])) := (Below.heap_setCell W ⟨w.heap.size + 2, 0, none⟩ _ D (by simp; omega)).trans hK
    have kk := (boxed_putObj (hr.set (.bool true)) (.deferred none) hK' rfl).cell
    have hB2 : Below w.heap.size w ((W.setCell ⟨w.heap.size + 2, 0, none⟩ (.bool true)).putObj D (.deferred none)) := (hbw.setCell (p := ⟨w.heap.size + 2, 0, none⟩) (by simp) (.bool true)).grown (grownBy_putObj' _ D (.deferred none)) (by simpa using hbw.size) (fun k e => by cases e; omega)
    have hKK := Lib.hid hK'
    clear hK hK' hq
    gi_wp2
    refine ⟨by simp, .inl ⟨_, _, rfl, run_takeDeferred hKK.out, ?_⟩⟩
    exact ⟨.bool true, by simp [results, Tryd.f89, go_sem, kk], by rw [HQ.out], hB2⟩
  case stop =>
    rintro D c pre W hD hpre ⟨⟨⟨rfl, p, x, rfl, hx⟩, hr⟩, hb⟩ hK
    have HQ : Hid (hasZ (rays ns) d (x0, y0) = false) := ok_not (by rw [rays_len]; exact hpre) hx
    have hbw : Below w.heap.size w W := hA0.trans (hb.mono (by omega))
    have kk := (boxed_putObj hr (.deferred none) hK rfl).cell
    have hB2 : Below w.heap.size w (W.putObj D (.deferred none)) := hbw.grown (grownBy_putObj' _ D (.deferred none)) hbw.size (fun k e => by cases e; omega)
    have hKK := Lib.hid hK
    clear hK
    gi_wp2
    refine ⟨by simp, .inl ⟨_, _, rfl, run_takeDeferred hKK.out, ?_⟩⟩
    exact ⟨.bool false, by simp [results, Tryd.f89, go_sem, kk], by rw [HQ.out], hB2⟩
theorem has_any' (base g : Nat) (ns : List Node) (u : Value) (d : List Int) (x0 y0 : Int) (w : World) (hF : FanAt w base g ns) (hm : ns.length ≤ 1000) (hv : allVec (rays ns)) (hu : ReadsInts w u d) (hl : d.length = ns.length) (hb : bnd 200 d) (ha : vecB x0 y0 = true) :
    Calls Tryd.prog 89 #[.agg #[.pointer (some ⟨g, 0, none⟩), u], .agg #[.int .i64 (x0), .int .i64 (y0)]] w fun e w' => e = .returned (.bool (hasZ (rays ns) d (x0, y0))) ∧ Below w.heap.size w w' :=
  callsIn_wide.1 (has_in' 3 (by omega) base g ns u d x0 y0 w hF hm hv hu hl hb ha)
end Go.Proofs.YtcieihbknfeddabDoor

/- Sections: boxes, sections: both exported functions. -/
namespace Go.Proofs.YtcieihbknfeddabDoor
open Go.RowKit

set_option maxHeartbeats 8000000 in
theorem sectionBox_any (v : Value) (l : List V2) (u : Value) (d : List Int) (w : World) (hl : ReadsVecs w v l) (hd : ReadsInts w u d) (hg : EtOk w) :
    Calls Tryd.prog 51 #[v, u] w fun e w' => e = .returned (.tuple #[.int .i64 (gate (divB l d) (-bndZ l d (1, 0))), .int .i64 (gate (divB l d) (bndZ l d (-1, 0))), .int .i64 (gate (divB l d) (-bndZ l d (0, 1))), .int .i64 (gate (divB l d) (bndZ l d (0, -1))), .bool (divB l d)]) ∧ Below w.heap.size w w' := by
  have HO := Lib.hid (divisorOf_any v u l d w hl hd hg)
  have HX := Lib.hid (fun base g (ns : List Node) w' (hF : FanAt w' base g ns) (hn : rays ns = l) (hb : Below w.heap.size w w') (hk : divB l d = true) => by
    have h := box_any base g ns u d w' hF (by rw [hn]; exact (smooth_in (div_in hk).1).1) (hd.below hb) (by rw [← rays_len, hn]; exact (div_in hk).2.1) (div_bnd hk)
    rw [hn] at h
    exact h)
  obtain ⟨a, c, rfl, _⟩ := hd.len
  clear hl hd
  generalize -bndZ l d (1, 0) = B1 at *
  generalize -bndZ l d (0, 1) = B2 at *
  generalize bndZ l d (-1, 0) = B3 at *
  generalize bndZ l d (0, -1) = B4 at *
  cases hk : divB l d
  · rw [hk] at HO
    clear HX hk
    go_enter Tryd.func51, Tryd.ntmps51
    go_wp2_with fail
    refine Calls.mono HO.out ?_
    rintro e w1 ⟨⟨h, _⟩ | ⟨_, rfl⟩, hb1⟩
    · cases h
    have hs1 := hb1.size
    go_wp2
    go_returns
    exact ⟨rfl, by go_grown⟩
  · rw [hk] at HO
    have HX2 := Lib.hid (fun base g ns w' hF hn hb => HX.out base g ns w' hF hn hb hk)
    clear HX hk
    go_enter Tryd.func51, Tryd.ntmps51
    go_wp2_with fail
    refine Calls.mono HO.out ?_
    rintro e w1 ⟨⟨_, g, ns, rfl, hF, hn⟩ | ⟨h, _⟩, hb1⟩
    case inr => cases h
    have HX3 := Lib.hid (fun w2 (h : Below w1.heap.size w1 w2) => HX2.out w.heap.size g ns w2 (hF.below h) hn (belowTo hb1 h))
    have hs1 := hb1.size
    clear hF hn HX2
    go_wp2_with fail
    refine Calls.mono (HX3.out _ (by go_grown)) ?_
    rintro e w2 ⟨rfl, hb2⟩
    have hB : Below w.heap.size w w2 := belowTo (by go_grown) hb2
    have hs2 := hB.size
    clear hb2 HX3
    go_wp2_with fail
    go_quiet (fail)
    go_wp2
    go_returns
    exact ⟨rfl, below_drewN (by go_grown) _⟩
set_option maxHeartbeats 8000000 in
theorem sectionHas_any (v : Value) (l : List V2) (u : Value) (d : List Int) (x0 y0 : Int) (w : World) (hl : ReadsVecs w v l) (hd : ReadsInts w u d) (hg : EtOk w) :
    Calls Tryd.prog 53 #[v, u, .agg #[.int .i64 (x0), .int .i64 (y0)]] w fun e w' => e = .returned (.bool (divB l d && (vecB x0 y0 && hasZ l d (x0, y0)))) ∧ Below w.heap.size w w' := by
  have HO := Lib.hid (fun w' (hb : Below w.heap.size w w') => divisorOf_any v u l d w' (hl.below hb) (hd.below hb) (hg.below hb))
  have HX := Lib.hid (fun base g (ns : List Node) w' (hF : FanAt w' base g ns) (hn : rays ns = l) (hb : Below w.heap.size w w') (hk : divB l d = true) (ha : vecB x0 y0 = true) => by
    have h3 := div_len hk
    have h5 : ns.length = l.length := by rw [← hn, rays_len]
    have h := has_any' base g ns u d x0 y0 w' hF (by omega) (by rw [hn]; exact (div_smooth hk).1) (hd.below hb) (by rw [h5]; exact (div_in hk).2.1) (bnd_mono (div_bnd hk) (by omega)) ha
    rw [hn] at h
    exact h)
  have HG := Lib.hid hg
  obtain ⟨a, c, rfl, _⟩ := hd.len
  clear hl hd hg
  cases hk : divB l d
  · rw [hk] at HO
    clear HX hk
    go_enter Tryd.func53, Tryd.ntmps53
    go_wp2_with fail
    refine Calls.mono (HO.out _ (by go_grown)) ?_
    rintro e w1 ⟨⟨h, _⟩ | ⟨_, rfl⟩, hb1⟩
    · cases h
    have hs1 := hb1.size
    have hB : Below w.heap.size w w1 := belowTo (by go_grown) hb1
    have hs2 := hB.size
    clear hb1
    go_wp2
    go_returns
    exact ⟨rfl, by go_grown⟩
  · rw [hk] at HO
    have HX2 := Lib.hid (fun base g ns w' hF hn hb => HX.out base g ns w' hF hn hb hk)
    have HE := Lib.hid (fun w' (hb : Below w.heap.size w w') => HG.out.below hb)
    clear HX hk HG
    cases ha : vecB x0 y0
    · have HC := Lib.hid (fun w' => check_out x0 y0 w' ha)
      clear ha HX2
      go_enter Tryd.func53, Tryd.ntmps53
      go_wp2_with fail
      refine Calls.mono (HO.out _ (by go_grown)) ?_
      rintro e w1 ⟨⟨_, g, ns, rfl, hF, hn⟩ | ⟨h, _⟩, hb1⟩
      case inr => cases h
      have hc0 : w1.cell? ⟨w.heap.size, 0, none⟩ = some (.int .i64 x0) := (hb1.cell (p := ⟨w.heap.size, 0, none⟩) (by simp)).trans (by simp)
      have hc1 : w1.cell? ⟨w.heap.size, 1, none⟩ = some (.int .i64 y0) := (hb1.cell (p := ⟨w.heap.size, 1, none⟩) (by simp)).trans (by simp)
      have hB : Below w.heap.size w w1 := belowTo (by go_grown) hb1
      have hl1 : w.heap.size < w1.heap.size := Nat.lt_of_lt_of_le (by simp) hb1.size
      have hs1 := hB.size
      clear hF hn hb1
      go_wp2_with fail
      refine Calls.mono (HC.out _) ?_
      rintro e w2 ⟨rfl, hb2⟩
      have hB2 : Below w.heap.size w w2 := hB.trans (Below.mono (belowTo (by go_grown) hb2) hs1)
      have HN := Lib.hid (none_hit ⟨#[118, 101, 99, 116, 111, 114]⟩ w2 (HE.out _ hB2))
      clear hb2 hc0 hc1 hl1
      go_wp2_with fail
      refine Calls.mono HN.out ?_
      rintro e w3 ⟨rfl, hb3⟩
      have hB3 := belowTo hB2 hb3
      clear hb3
      go_wp2
      go_returns
      exact ⟨rfl, hB3⟩
    · have HC := Lib.hid (fun w' => check_in x0 y0 w' ha)
      have HX3 := Lib.hid (fun base g ns w' hF hn hb => HX2.out base g ns w' hF hn hb ha)
      clear ha HX2 HE
      generalize hasZ l d (x0, y0) = K at *
      go_enter Tryd.func53, Tryd.ntmps53
      go_wp2_with fail
      refine Calls.mono (HO.out _ (by go_grown)) ?_
      rintro e w1 ⟨⟨_, g, ns, rfl, hF, hn⟩ | ⟨h, _⟩, hb1⟩
      case inr => cases h
      have hc0 : w1.cell? ⟨w.heap.size, 0, none⟩ = some (.int .i64 x0) := (hb1.cell (p := ⟨w.heap.size, 0, none⟩) (by simp)).trans (by simp)
      have hc1 : w1.cell? ⟨w.heap.size, 1, none⟩ = some (.int .i64 y0) := (hb1.cell (p := ⟨w.heap.size, 1, none⟩) (by simp)).trans (by simp)
      have hB : Below w.heap.size w w1 := belowTo (by go_grown) hb1
      have hl1 : w.heap.size < w1.heap.size := Nat.lt_of_lt_of_le (by simp) hb1.size
      have hs1 := hB.size
      have HX4 := Lib.hid (fun w2 (h : Below w1.heap.size w1 w2) => HX3.out _ g ns w2 (hF.below h) hn (hB.trans (h.mono hs1)))
      clear hF hn hb1 HX3 HO
      go_wp2_with fail
      refine Calls.mono (HC.out _) ?_
      rintro e w2 ⟨rfl, hb2⟩
      have hA2 : Below w1.heap.size w1 w2 := belowTo (by go_grown) hb2
      have hs2 := hA2.size
      have d0 : w2.cell? ⟨w1.heap.size, 0, none⟩ = some (.pointer (some ⟨g, 0, none⟩)) := (hb2.cell (p := ⟨w1.heap.size, 0, none⟩) (by simp)).trans (by first | (go_cell; done) | (go_simp; done) | (simp; done))
      have d1 : w2.cell? ⟨w1.heap.size, 1, none⟩ = some (.slice a d.length c) := (hb2.cell (p := ⟨w1.heap.size, 1, none⟩) (by simp)).trans (by first | (go_cell; done) | (go_simp; done) | (simp; done))
      replace hc0 := (hA2.cell (p := ⟨w.heap.size, 0, none⟩) hl1).trans hc0
      replace hc1 := (hA2.cell (p := ⟨w.heap.size, 1, none⟩) hl1).trans hc1
      have HN := Lib.hid (none_nil w2)
      clear hb2
      go_wp2_with fail
      refine Calls.mono HN.out ?_
      rintro e w3 ⟨rfl, hb3⟩
      have hA3 := belowTo hA2 hb3
      replace hc0 := (hb3.cell (p := ⟨w.heap.size, 0, none⟩) (Nat.lt_of_lt_of_le hl1 hs2)).trans hc0
      replace hc1 := (hb3.cell (p := ⟨w.heap.size, 1, none⟩) (Nat.lt_of_lt_of_le hl1 hs2)).trans hc1
      replace d0 := (hb3.cell (p := ⟨w1.heap.size, 0, none⟩) (cell_lt d0)).trans d0
      replace d1 := (hb3.cell (p := ⟨w1.heap.size, 1, none⟩) (cell_lt d1)).trans d1
      clear hb3
      go_wp2_with fail
      refine Calls.mono (HX4.out _ hA3) ?_
      rintro e w4 ⟨rfl, hb4⟩
      have hB4 := hB.trans ((belowTo hA3 hb4).mono hs1)
      clear hb4 hc0 hc1 d0 d1
      go_wp2
      go_returns
      exact ⟨rfl, hB4⟩
end Go.Proofs.YtcieihbknfeddabDoor
