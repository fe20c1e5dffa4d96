/- Sections: bounds and boxes: the program. -/
import Derived.Test.YtmencjdlfeojkaaDoorGv
import Derived.Test.YtmencjdlfeojkaaDoorGw
import Derived.Test.YtmencjdlfeojkaaDoorB4
import Derived.Test.YtmencjdlfeojkaaDoorQb
import Derived.Test.YtmencjdlfeojkaaDoorJa
import Derived.Test.YtmencjdlfeojkaaDoorQc
namespace Go.Proofs.YtmencjdlfeojkaaDoor
open Go.RowKit

theorem where_any (base g : Nat) (ns : List Node) (x0 y0 : Int) (w : World) (hF : FanAt w base g ns) (hm : ns.length ≤ 1000) (hf : fanB (rays ns) = true) (ha : vecB x0 y0 = true) :
    Calls Tryd.prog 82 #[.pointer (some ⟨g, 0, none⟩), .agg #[.int .i64 (x0), .int .i64 (y0)]] w fun e w' => e = .returned (.int .i64 (whZ (rays ns) (x0, y0) : Nat)) ∧ Below w.heap.size w w' := by
  have h := callsIn_wide.1 (where_in 3 (by omega) base g ns x0 y0 w hF hm hf ha)
  unfold whZ
  rw [rays_len]
  exact h
theorem atB_any (base g : Nat) (ns : List Node) (m : Nat) (w : World) (hF : FanAt w base g ns) (hm : ns.length ≤ 1000) (hi : m < ns.length) :
    Calls Tryd.prog 83 #[.pointer (some ⟨g, 0, none⟩), .int .i64 m] w fun e w' => e = .returned (.pointer (some ⟨(cyc ns m).1, 0, none⟩)) ∧ Below w.heap.size w w' :=
  (at_in base g ns m w hF hm hi).mono (fun _ _ h => ⟨h.1, by rw [← h.2]; exact Below.refl _ _⟩)
set_option maxRecDepth 100000 in
set_option maxHeartbeats 32000000 in
theorem bound_any (base g : Nat) (ns : List Node) (u : Value) (d : List Int) (x0 y0 : Int) (w : World) (hF : FanAt w base g ns) (hf : fanB (rays ns) = true) (hu : ReadsInts w u d) (hl : d.length = ns.length) (hb : bnd 100 d) (ha : vecB x0 y0 = true) :
    Calls Tryd.prog 54 #[.agg #[.pointer (some ⟨g, 0, none⟩), u], .agg #[.int .i64 (x0), .int .i64 (y0)]] w fun e w' => e = .returned (.int .i64 (bndZ (rays ns) d (x0, y0))) ∧ Below w.heap.size w w' := by
  have hlen := fan_len hf
  have hv : allVec (rays ns) := fan_vec hf
  have hil := whZ_lt hf (x0, y0)
  rw [rays_len] at hil hlen
  have HW := Lib.hid (fun w' (hb : Below w.heap.size w w') => where_any base g ns x0 y0 w' (hF.below hb) (by omega) hf ha)
  have HA := Lib.hid (fun w' (hb : Below w.heap.size w w') => atB_any base g ns (whZ (rays ns) (x0, y0)) w' (hF.below hb) (by omega) hil)
  have HC := Lib.hid (fun w' (hb : Below w.heap.size w w') => linkCone_any ns (whZ (rays ns) (x0, y0)) w' (hF.below hb).ring)
  have hp := hF.ring.pos
  have c1 := hF.head.c1
  have hlt := cell_lt c1
  obtain ⟨bb, off, c, rfl, _, hbb, hcs⟩ := hu.open (by omega)
  have hq : (whZ (rays ns) (x0, y0) + 1) % ns.length < d.length := by rw [hl]; exact Nat.mod_lt _ hp
  have e0 := hcs w (Below.refl _ _) (whZ (rays ns) (x0, y0)) (by omega)
  have e1 := hcs w (Below.refl _ _) _ hq
  have v0 := hv (whZ (rays ns) (x0, y0))
  have v1 := hv (whZ (rays ns) (x0, y0) + 1)
  have bt := bnd_terms (a := (x0, y0)) hv ha hb
  unfold bndZ
  unfold detV at bt ⊢
  rw [rays_cyc hp] at v0 v1
  rw [rays_cyc hp, rays_cyc hp] at bt ⊢
  simp only [rays_len] at *
  generalize whZ (rays ns) (x0, y0) = i at *
  have t2 := behindD i ns.length
  clear hF hf hu hb hcs hv
  generalize (cyc ns i).1 = q0 at *
  generalize (cyc ns i).2 = p0 at *
  generalize (cyc ns (i + 1)).2 = p1 at *
  obtain ⟨a, b⟩ := p0
  obtain ⟨a', b'⟩ := p1
  dsimp only at HC v0 v1 bt ⊢
  have HP := Lib.hid (fun w' => parts_any a b a' b' x0 y0 w' v0 v1 ha)
  generalize ns.length = n at *
  subst hl
  generalize gz d i = x at *
  generalize gz d ((i + 1) % d.length) = y at *
  generalize (i + 1) % d.length = q at *
  generalize d.length = n at *
  generalize detZ x0 y0 a' b' = P at *
  generalize detZ a b x0 y0 = Q at *
  have i1 : (0 : Int) ≤ (i : Int) := by omega
  have i2 : (i : Int) < (n : Int) := by omega
  have i3 : (0 : Int) ≤ (q : Int) := by omega
  have i4 : (q : Int) < (n : Int) := by omega
  have j1 : ¬ (n : Int) = 0 := by omega
  have j2 : ((n : Int) == 0) = false := by simpa using j1
  have j3 : ¬ n = 0 := by omega
  have q3 : IntKind.i64.wrap ((i : Int) + 1) = (i : Int) + 1 := by rw [IntKind.wrap_i64]; omega
  have q4 : IntKind.i64.wrap (P * x) = P * x := by rw [IntKind.wrap_i64]; omega
  have q5 : IntKind.i64.wrap (Q * y) = Q * y := by rw [IntKind.wrap_i64]; omega
  have q6 : IntKind.i64.wrap (P * x + Q * y) = P * x + Q * y := by rw [IntKind.wrap_i64]; omega
  clear v0 v1 ha bt
  go_enter Tryd.func54, Tryd.ntmps54
  go_wp2_with fail
  refine Calls.mono (HW.out _ (by go_grown)) ?_
  rintro e W1 ⟨rfl, hb1⟩
  have hA : Below w.heap.size w W1 := belowTo (by go_grown) hb1
  have hw1 := hb1.size
  simp only [World.size_alloc] at hw1
  have d0 : W1.cell? ⟨w.heap.size, 0, none⟩ = some (.pointer (some ⟨g, 0, none⟩)) := (hb1.cell (p := ⟨w.heap.size, 0, none⟩) (by simp; omega)).trans (by first | (go_cell; done) | (go_simp; done) | (simp; done))
  have d1 : W1.cell? ⟨w.heap.size, 1, none⟩ = some (.slice (some ⟨bb, off, none⟩) n c) := (hb1.cell (p := ⟨w.heap.size, 1, none⟩) (by simp; omega)).trans (by first | (go_cell; done) | (go_simp; done) | (simp; done))
  have r0 : W1.cell? ⟨w.heap.size + 1, 0, none⟩ = some (.int .i64 x0) := (hb1.cell (p := ⟨w.heap.size + 1, 0, none⟩) (by simp)).trans (by first | (go_cell; done) | (go_simp; done) | (simp; done))
  have r1 : W1.cell? ⟨w.heap.size + 1, 1, none⟩ = some (.int .i64 y0) := (hb1.cell (p := ⟨w.heap.size + 1, 1, none⟩) (by simp)).trans (by first | (go_cell; done) | (go_simp; done) | (simp; done))
  replace e0 := (hA.cell (p := ⟨bb, off + i, none⟩) hbb).trans e0
  replace e1 := (hA.cell (p := ⟨bb, off + q, none⟩) hbb).trans e1
  replace c1 := (hA.cell (p := ⟨g, 1, none⟩) hlt).trans c1
  have l0 := cell_lt d1
  have l1 := cell_lt r0
  have l2 := cell_lt e0
  have l3 := cell_lt c1
  have HAt := Lib.hid (fun w' (h : Below W1.heap.size W1 w') => HA.out w' (belowTo hA h))
  have HCt := Lib.hid (fun w' (h : Below W1.heap.size W1 w') => HC.out w' (belowTo hA h))
  clear hb1 HC HA HW hlt hbb
  go_wp2_with fail
  go_region_held3 (fun w' => w'.cell? ⟨w.heap.size, 0, none⟩ = some (.pointer (some ⟨g, 0, none⟩)) ∧ w'.cell? ⟨w.heap.size, 1, none⟩ = some (.slice (some ⟨bb, off, none⟩) n c) ∧ w'.cell? ⟨w.heap.size + 1, 0, none⟩ = some (.int .i64 (x0)) ∧ w'.cell? ⟨w.heap.size + 1, 1, none⟩ = some (.int .i64 (y0)) ∧ w'.cell? ⟨bb, off + i, none⟩ = some (.int .i64 (x)) ∧ w'.cell? ⟨bb, off + q, none⟩ = some (.int .i64 (y)) ∧ w'.cell? ⟨g, 1, none⟩ = some (.int .i64 (n)) ∧ Below (W1.heap.size) W1 w') ((go_split_ands; refine ⟨by (first | (with_reducible assumption) | (go_keep; done) | (go_cell; done) | (go_simp; done) | (simp [*]; done)), by (first | (with_reducible assumption) | (go_keep; done) | (go_cell; done) | (go_simp; done) | (simp [*]; done)), by (first | (with_reducible assumption) | (go_keep; done) | (go_cell; done) | (go_simp; done) | (simp [*]; done)), by (first | (with_reducible assumption) | (go_keep; done) | (go_cell; done) | (go_simp; done) | (simp [*]; done)), by (first | (with_reducible assumption) | (go_keep; done) | (go_cell; done) | (go_simp; done) | (simp [*]; done)), by (first | (with_reducible assumption) | (go_keep; done) | (go_cell; done) | (go_simp; done) | (simp [*]; done)), by (first | (with_reducible assumption) | (go_keep; done) | (go_cell; done) | (go_simp; done) | (simp [*]; done)), by first | (with_reducible assumption) | (go_grown; done)⟩)) (first | (go_at_call 83; go_call (HAt.out _ (by first | (with_reducible assumption) | (go_grown; done))) as e w1 ⟨rfl, hb0⟩; go_split_ands; have q0 : w1.cell? ⟨w.heap.size, 0, none⟩ = some (.pointer (some ⟨g, 0, none⟩)) := (hb0.cell (p := ⟨w.heap.size, 0, none⟩) (by first | (with_reducible assumption) | (go_size; done) | (simp; omega))).trans (by first | (with_reducible assumption) | (go_keep; done) | (go_cell; done) | (go_simp; done) | (simp [*]; done)); have q1 : w1.cell? ⟨w.heap.size, 1, none⟩ = some (.slice (some ⟨bb, off, none⟩) n c) := (hb0.cell (p := ⟨w.heap.size, 1, none⟩) (by first | (with_reducible assumption) | (go_size; done) | (simp; omega))).trans (by first | (with_reducible assumption) | (go_keep; done) | (go_cell; done) | (go_simp; done) | (simp [*]; done)); have q2 : w1.cell? ⟨w.heap.size + 1, 0, none⟩ = some (.int .i64 (x0)) := (hb0.cell (p := ⟨w.heap.size + 1, 0, none⟩) (by first | (with_reducible assumption) | (go_size; done) | (simp; omega))).trans (by first | (with_reducible assumption) | (go_keep; done) | (go_cell; done) | (go_simp; done) | (simp [*]; done)); have q3 : w1.cell? ⟨w.heap.size + 1, 1, none⟩ = some (.int .i64 (y0)) := (hb0.cell (p := ⟨w.heap.size + 1, 1, none⟩) (by first | (with_reducible assumption) | (go_size; done) | (simp; omega))).trans (by first | (with_reducible assumption) | (go_keep; done) | (go_cell; done) | (go_simp; done) | (simp [*]; done)); have q4 : w1.cell? ⟨bb, off + i, none⟩ = some (.int .i64 (x)) := (hb0.cell (p := ⟨bb, off + i, none⟩) (by first | (with_reducible assumption) | (go_size; done) | (simp; omega))).trans (by first | (with_reducible assumption) | (go_keep; done) | (go_cell; done) | (go_simp; done) | (simp [*]; done)); have q5 : w1.cell? ⟨bb, off + q, none⟩ = some (.int .i64 (y)) := (hb0.cell (p := ⟨bb, off + q, none⟩) (by first | (with_reducible assumption) | (go_size; done) | (simp; omega))).trans (by first | (with_reducible assumption) | (go_keep; done) | (go_cell; done) | (go_simp; done) | (simp [*]; done)); have q6 : w1.cell? ⟨g, 1, none⟩ = some (.int .i64 (n)) := (hb0.cell (p := ⟨g, 1, none⟩) (by first | (with_reducible assumption) | (go_size; done) | (simp; omega))).trans (by first | (with_reducible assumption) | (go_keep; done) | (go_cell; done) | (go_simp; done) | (simp [*]; done)); have hs0 : w.heap.size < w1.heap.size := Nat.lt_of_lt_of_le (by first | (with_reducible assumption) | (go_size; done) | (simp; omega)) hb0.size; have hs1 : w.heap.size + 1 < w1.heap.size := Nat.lt_of_lt_of_le (by first | (with_reducible assumption) | (go_size; done) | (simp; omega)) hb0.size; have hs2 : bb < w1.heap.size := Nat.lt_of_lt_of_le (by first | (with_reducible assumption) | (go_size; done) | (simp; omega)) hb0.size; have hs3 : g < w1.heap.size := Nat.lt_of_lt_of_le (by first | (with_reducible assumption) | (go_size; done) | (simp; omega)) hb0.size; have hT : Below (W1.heap.size) W1 w1 := Below.trans (by first | (with_reducible assumption) | (go_grown; done)) (hb0.mono (by first | (with_reducible assumption) | (go_size; done) | (simp; omega) | omega)); have hTs := hT.size; (try have hT2 : Below W1.heap.size W1 w1 := belowTo (by first | (with_reducible assumption) | (go_grown; done)) hb0); clear hb0) | (go_at_call 84; go_call (HCt.out _ (by first | (with_reducible assumption) | (go_grown; done))) as e w1 ⟨rfl, hb0⟩; go_split_ands; have q0 : w1.cell? ⟨w.heap.size, 0, none⟩ = some (.pointer (some ⟨g, 0, none⟩)) := (hb0.cell (p := ⟨w.heap.size, 0, none⟩) (by first | (with_reducible assumption) | (go_size; done) | (simp; omega))).trans (by first | (with_reducible assumption) | (go_keep; done) | (go_cell; done) | (go_simp; done) | (simp [*]; done)); have q1 : w1.cell? ⟨w.heap.size, 1, none⟩ = some (.slice (some ⟨bb, off, none⟩) n c) := (hb0.cell (p := ⟨w.heap.size, 1, none⟩) (by first | (with_reducible assumption) | (go_size; done) | (simp; omega))).trans (by first | (with_reducible assumption) | (go_keep; done) | (go_cell; done) | (go_simp; done) | (simp [*]; done)); have q2 : w1.cell? ⟨w.heap.size + 1, 0, none⟩ = some (.int .i64 (x0)) := (hb0.cell (p := ⟨w.heap.size + 1, 0, none⟩) (by first | (with_reducible assumption) | (go_size; done) | (simp; omega))).trans (by first | (with_reducible assumption) | (go_keep; done) | (go_cell; done) | (go_simp; done) | (simp [*]; done)); have q3 : w1.cell? ⟨w.heap.size + 1, 1, none⟩ = some (.int .i64 (y0)) := (hb0.cell (p := ⟨w.heap.size + 1, 1, none⟩) (by first | (with_reducible assumption) | (go_size; done) | (simp; omega))).trans (by first | (with_reducible assumption) | (go_keep; done) | (go_cell; done) | (go_simp; done) | (simp [*]; done)); have q4 : w1.cell? ⟨bb, off + i, none⟩ = some (.int .i64 (x)) := (hb0.cell (p := ⟨bb, off + i, none⟩) (by first | (with_reducible assumption) | (go_size; done) | (simp; omega))).trans (by first | (with_reducible assumption) | (go_keep; done) | (go_cell; done) | (go_simp; done) | (simp [*]; done)); have q5 : w1.cell? ⟨bb, off + q, none⟩ = some (.int .i64 (y)) := (hb0.cell (p := ⟨bb, off + q, none⟩) (by first | (with_reducible assumption) | (go_size; done) | (simp; omega))).trans (by first | (with_reducible assumption) | (go_keep; done) | (go_cell; done) | (go_simp; done) | (simp [*]; done)); have q6 : w1.cell? ⟨g, 1, none⟩ = some (.int .i64 (n)) := (hb0.cell (p := ⟨g, 1, none⟩) (by first | (with_reducible assumption) | (go_size; done) | (simp; omega))).trans (by first | (with_reducible assumption) | (go_keep; done) | (go_cell; done) | (go_simp; done) | (simp [*]; done)); have hs0 : w.heap.size < w1.heap.size := Nat.lt_of_lt_of_le (by first | (with_reducible assumption) | (go_size; done) | (simp; omega)) hb0.size; have hs1 : w.heap.size + 1 < w1.heap.size := Nat.lt_of_lt_of_le (by first | (with_reducible assumption) | (go_size; done) | (simp; omega)) hb0.size; have hs2 : bb < w1.heap.size := Nat.lt_of_lt_of_le (by first | (with_reducible assumption) | (go_size; done) | (simp; omega)) hb0.size; have hs3 : g < w1.heap.size := Nat.lt_of_lt_of_le (by first | (with_reducible assumption) | (go_size; done) | (simp; omega)) hb0.size; have hT : Below (W1.heap.size) W1 w1 := Below.trans (by first | (with_reducible assumption) | (go_grown; done)) (hb0.mono (by first | (with_reducible assumption) | (go_size; done) | (simp; omega) | omega)); have hTs := hT.size; (try have hT2 : Below W1.heap.size W1 w1 := belowTo (by first | (with_reducible assumption) | (go_grown; done)) hb0); clear hb0) | (go_at_call 85; go_call (HP.out _) as e w1 ⟨rfl, hb0⟩; go_split_ands; have q0 : w1.cell? ⟨w.heap.size, 0, none⟩ = some (.pointer (some ⟨g, 0, none⟩)) := (hb0.cell (p := ⟨w.heap.size, 0, none⟩) (by first | (with_reducible assumption) | (go_size; done) | (simp; omega))).trans (by first | (with_reducible assumption) | (go_keep; done) | (go_cell; done) | (go_simp; done) | (simp [*]; done)); have q1 : w1.cell? ⟨w.heap.size, 1, none⟩ = some (.slice (some ⟨bb, off, none⟩) n c) := (hb0.cell (p := ⟨w.heap.size, 1, none⟩) (by first | (with_reducible assumption) | (go_size; done) | (simp; omega))).trans (by first | (with_reducible assumption) | (go_keep; done) | (go_cell; done) | (go_simp; done) | (simp [*]; done)); have q2 : w1.cell? ⟨w.heap.size + 1, 0, none⟩ = some (.int .i64 (x0)) := (hb0.cell (p := ⟨w.heap.size + 1, 0, none⟩) (by first | (with_reducible assumption) | (go_size; done) | (simp; omega))).trans (by first | (with_reducible assumption) | (go_keep; done) | (go_cell; done) | (go_simp; done) | (simp [*]; done)); have q3 : w1.cell? ⟨w.heap.size + 1, 1, none⟩ = some (.int .i64 (y0)) := (hb0.cell (p := ⟨w.heap.size + 1, 1, none⟩) (by first | (with_reducible assumption) | (go_size; done) | (simp; omega))).trans (by first | (with_reducible assumption) | (go_keep; done) | (go_cell; done) | (go_simp; done) | (simp [*]; done)); have q4 : w1.cell? ⟨bb, off + i, none⟩ = some (.int .i64 (x)) := (hb0.cell (p := ⟨bb, off + i, none⟩) (by first | (with_reducible assumption) | (go_size; done) | (simp; omega))).trans (by first | (with_reducible assumption) | (go_keep; done) | (go_cell; done) | (go_simp; done) | (simp [*]; done)); have q5 : w1.cell? ⟨bb, off + q, none⟩ = some (.int .i64 (y)) := (hb0.cell (p := ⟨bb, off + q, none⟩) (by first | (with_reducible assumption) | (go_size; done) | (simp; omega))).trans (by first | (with_reducible assumption) | (go_keep; done) | (go_cell; done) | (go_simp; done) | (simp [*]; done)); have q6 : w1.cell? ⟨g, 1, none⟩ = some (.int .i64 (n)) := (hb0.cell (p := ⟨g, 1, none⟩) (by first | (with_reducible assumption) | (go_size; done) | (simp; omega))).trans (by first | (with_reducible assumption) | (go_keep; done) | (go_cell; done) | (go_simp; done) | (simp [*]; done)); have hs0 : w.heap.size < w1.heap.size := Nat.lt_of_lt_of_le (by first | (with_reducible assumption) | (go_size; done) | (simp; omega)) hb0.size; have hs1 : w.heap.size + 1 < w1.heap.size := Nat.lt_of_lt_of_le (by first | (with_reducible assumption) | (go_size; done) | (simp; omega)) hb0.size; have hs2 : bb < w1.heap.size := Nat.lt_of_lt_of_le (by first | (with_reducible assumption) | (go_size; done) | (simp; omega)) hb0.size; have hs3 : g < w1.heap.size := Nat.lt_of_lt_of_le (by first | (with_reducible assumption) | (go_size; done) | (simp; omega)) hb0.size; have hT : Below (W1.heap.size) W1 w1 := Below.trans (by first | (with_reducible assumption) | (go_grown; done)) (hb0.mono (by first | (with_reducible assumption) | (go_size; done) | (simp; omega) | omega)); have hTs := hT.size; (try have hT2 : Below W1.heap.size W1 w1 := belowTo (by first | (with_reducible assumption) | (go_grown; done)) hb0); clear hb0))
  go_wp2_with fail
  go_quiet (fail)
  go_wp2
  go_returns
  exact ⟨rfl, below_drewN (hA.trans (Below.mono hT hA.size)) _⟩
end Go.Proofs.YtmencjdlfeojkaaDoor
