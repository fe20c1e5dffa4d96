/- Sections: bounds and boxes: the model. -/
import Derived.Test.YtmencjdlfeojkaaDoorHc
import Derived.Test.YtmencjdlfeojkaaDoorQs
import Derived.Test.YtmencjdlfeojkaaDoorJa
import Derived.Test.YtmencjdlfeojkaaDoorQc
namespace Go.Proofs.YtmencjdlfeojkaaDoor
open Go.RowKit

theorem l3NextB_any (a : Option Addr) (n c k : Nat) (w : World) (hk : k < n) (hn : n ≤ 4611686018427387904) :
    Calls Tryd.prog 79 #[.slice a n c, .int .i64 k] w fun e w' => e = .returned (.int .i64 ((k + 1) % n : Nat)) ∧ Below w.heap.size w w' :=
  (l3Next_any a n c k w hk hn).mono (fun _ _ h => ⟨h.1, by rw [← h.2]; exact Below.refl _ _⟩)
set_option maxRecDepth 100000 in
set_option maxHeartbeats 32000000 in
theorem l5Bound_any (v : Value) (l : List V2) (u : Value) (d : List Int) (x0 y0 : Int) (w : World) (hv : ReadsVecs w v l) (hu : ReadsInts w u d) (hf : fanB l = true) (hl : d.length = l.length) (hb : bnd 100 d) (ha : vecB x0 y0 = true) :
    Calls Tryd.prog 51 #[v, u, .agg #[.int .i64 (x0), .int .i64 (y0)]] w fun e w' => e = .returned (.int .i64 (bndZ l d (x0, y0))) ∧ Below w.heap.size w w' := by
  have hlen := fan_len hf
  have hal : allVec l := fan_vec hf
  have hil := whZ_lt hf (x0, y0)
  have HW := Lib.hid (fun w' (hb : Below w.heap.size w w') => specFanWhere_any v l x0 y0 w' (hv.below hb))
  rw [hf, ha] at HW
  have HC := Lib.hid (fun w' (hb : Below w.heap.size w w') => l3Cone_any v l (whZ l (x0, y0)) w' (hv.below hb) hil)
  have hp : 0 < l.length := by omega
  obtain ⟨va, vc, rfl, _⟩ := hv
  have HN := Lib.hid (fun w' => l3NextB_any va l.length vc (whZ l (x0, y0)) w' hil (by omega))
  obtain ⟨bb, off, c, rfl, _, hbb, hcs⟩ := hu.open (by omega)
  have hq : (whZ l (x0, y0) + 1) % l.length < d.length := by rw [hl]; exact Nat.mod_lt _ hp
  have e0 := hcs w (Below.refl _ _) (whZ l (x0, y0)) (by omega)
  have e1 := hcs w (Below.refl _ _) _ hq
  have v0 := hal (whZ l (x0, y0))
  have v1 := hal (whZ l (x0, y0) + 1)
  have bt := bnd_terms (a := (x0, y0)) hal ha hb
  have HW2 : Hid (∀ w', Below w.heap.size w w' → Calls Tryd.prog 77 #[.slice va l.length vc, .agg #[.int .i64 (x0), .int .i64 (y0)]] w' fun e w'' => e = .returned (.tuple #[.int .i64 (whZ l (x0, y0) : Nat), .bool true]) ∧ Below w'.heap.size w' w'') := fun w' h => HW.out w' h
  unfold bndZ
  unfold detV at bt ⊢
  generalize whZ l (x0, y0) = i at *
  clear hf hu hb hcs hal HW
  generalize cyc l i = p0 at *
  generalize cyc l (i + 1) = p1 at *
  obtain ⟨a, b⟩ := p0
  obtain ⟨a', b'⟩ := p1
  dsimp only at HC v0 v1 bt ⊢
  generalize l.length = n at *
  subst hl
  generalize gz d i = x at *
  generalize gz d ((i + 1) % d.length) = y at *
  generalize (i + 1) % d.length = q at *
  generalize d.length = n at *
  have HD := Lib.hid (fun x1 y1 x2 y2 w' h1 h2 => l1Det_any x1 y1 x2 y2 w' h1 h2)
  generalize hP : detZ x0 y0 a' b' = P at *
  generalize hQ : detZ a b x0 y0 = Q at *
  have HPe := Lib.hid hP
  have HQe := Lib.hid hQ
  have HV0 := Lib.hid v0
  have HV1 := Lib.hid v1
  have HVA := Lib.hid ha
  have i1 : (0 : Int) ≤ (i : Int) := by omega
  have i2 : (i : Int) < (n : Int) := by omega
  have i3 : (0 : Int) ≤ (q : Int) := by omega
  have i4 : (q : Int) < (n : Int) := by omega
  have q4 : IntKind.i64.wrap (P * x) = P * x := by rw [IntKind.wrap_i64]; omega
  have q5 : IntKind.i64.wrap (Q * y) = Q * y := by rw [IntKind.wrap_i64]; omega
  have q6 : IntKind.i64.wrap (P * x + Q * y) = P * x + Q * y := by rw [IntKind.wrap_i64]; omega
  clear v0 v1 ha bt hP hQ
  go_enter Tryd.func51, Tryd.ntmps51
  go_wp2_with fail
  refine Calls.mono (HW2.out _ (by go_grown)) ?_
  rintro e W1 ⟨rfl, hb1⟩
  have hA : Below w.heap.size w W1 := belowTo (by go_grown) hb1
  have hw1 := hb1.size
  simp only [World.size_alloc] at hw1
  have r0 : W1.cell? ⟨w.heap.size, 0, none⟩ = some (.int .i64 x0) := (hb1.cell (p := ⟨w.heap.size, 0, none⟩) (by simp)).trans (by first | (go_cell; done) | (go_simp; done) | (simp; done))
  have r1 : W1.cell? ⟨w.heap.size, 1, none⟩ = some (.int .i64 y0) := (hb1.cell (p := ⟨w.heap.size, 1, none⟩) (by simp)).trans (by first | (go_cell; done) | (go_simp; done) | (simp; done))
  clear hb1 HW2
  go_wp2_with fail
  refine Calls.mono (HC.out _ hA) ?_
  rintro e W2 ⟨rfl, hb2⟩
  have hA2 := belowTo hA hb2
  replace r0 := (hb2.cell (p := ⟨w.heap.size, 0, none⟩) (cell_lt r0)).trans r0
  replace r1 := (hb2.cell (p := ⟨w.heap.size, 1, none⟩) (cell_lt r1)).trans r1
  replace e0 := (hA2.cell (p := ⟨bb, off + i, none⟩) hbb).trans e0
  replace e1 := (hA2.cell (p := ⟨bb, off + q, none⟩) hbb).trans e1
  have l1 := cell_lt r0
  have l2 := cell_lt e0
  clear hb2 hA HC
  go_wp2_with fail
  have hA3 : Below w.heap.size w (W2.alloc (.cells #[.int .i64 a, .int .i64 b, .int .i64 a', .int .i64 b'] 96)) := by go_grown
  have g0 : (W2.alloc (.cells #[.int .i64 a, .int .i64 b, .int .i64 a', .int .i64 b'] 96)).cell? ⟨W2.heap.size, 0, none⟩ = some (.int .i64 a) := by simp
  have g1 : (W2.alloc (.cells #[.int .i64 a, .int .i64 b, .int .i64 a', .int .i64 b'] 96)).cell? ⟨W2.heap.size, 1, none⟩ = some (.int .i64 b) := by simp
  have g2 : (W2.alloc (.cells #[.int .i64 a, .int .i64 b, .int .i64 a', .int .i64 b'] 96)).cell? ⟨W2.heap.size, 2, none⟩ = some (.int .i64 a') := by simp
  have g3 : (W2.alloc (.cells #[.int .i64 a, .int .i64 b, .int .i64 a', .int .i64 b'] 96)).cell? ⟨W2.heap.size, 3, none⟩ = some (.int .i64 b') := by simp
  have hal : Below W2.heap.size W2 (W2.alloc (.cells #[.int .i64 a, .int .i64 b, .int .i64 a', .int .i64 b'] 96)) := by go_grown
  replace r0 := (hal.cell (p := ⟨w.heap.size, 0, none⟩) l1).trans r0
  replace r1 := (hal.cell (p := ⟨w.heap.size, 1, none⟩) l1).trans r1
  replace e0 := (hal.cell (p := ⟨bb, off + i, none⟩) l2).trans e0
  replace e1 := (hal.cell (p := ⟨bb, off + q, none⟩) l2).trans e1
  obtain ⟨B3, hB3⟩ : ∃ B3, B3 = W2.heap.size := ⟨_, rfl⟩
  rw [← hB3] at g0 g1 g2 g3 ⊢
  clear hA2 hal l1 l2
  generalize (W2.alloc (.cells #[.int .i64 a, .int .i64 b, .int .i64 a', .int .i64 b'] 96)) = W3 at *
  clear hB3
  have l1 := cell_lt r0
  have l2 := cell_lt e0
  have l3 := cell_lt g0
  have HD1 : Hid (∀ w', Calls Tryd.prog 78 #[.agg #[.int .i64 (x0), .int .i64 (y0)], .agg #[.int .i64 (a'), .int .i64 (b')]] w' fun e w'' => e = .returned (.int .i64 P) ∧ Below w'.heap.size w' w'') := fun w' => by have h := HD.out x0 y0 a' b' w' HVA.out HV1.out; rw [HPe.out] at h; exact h
  have HD2 : Hid (∀ w', Calls Tryd.prog 78 #[.agg #[.int .i64 (a), .int .i64 (b)], .agg #[.int .i64 (x0), .int .i64 (y0)]] w' fun e w'' => e = .returned (.int .i64 Q) ∧ Below w'.heap.size w' w'') := fun w' => by have h := HD.out a b x0 y0 w' HV0.out HVA.out; rw [HQe.out] at h; exact h
  go_region_held3 (fun w' => w'.cell? ⟨w.heap.size, 0, none⟩ = some (.int .i64 (x0)) ∧ w'.cell? ⟨w.heap.size, 1, none⟩ = some (.int .i64 (y0)) ∧ w'.cell? ⟨B3, 0, none⟩ = some (.int .i64 (a)) ∧ w'.cell? ⟨B3, 1, none⟩ = some (.int .i64 (b)) ∧ w'.cell? ⟨B3, 2, none⟩ = some (.int .i64 (a')) ∧ w'.cell? ⟨B3, 3, none⟩ = some (.int .i64 (b')) ∧ w'.cell? ⟨bb, off + i, none⟩ = some (.int .i64 (x)) ∧ w'.cell? ⟨bb, off + q, none⟩ = some (.int .i64 (y)) ∧ Below (w.heap.size) W3 w') ((go_split_ands; refine ⟨by (first | (with_reducible assumption) | (go_keep; done) | (go_cell; done) | (go_simp; done) | (simp [*]; done)), by (first | (with_reducible assumption) | (go_keep; done) | (go_cell; done) | (go_simp; done) | (simp [*]; done)), by (first | (with_reducible assumption) | (go_keep; done) | (go_cell; done) | (go_simp; done) | (simp [*]; done)), by (first | (with_reducible assumption) | (go_keep; done) | (go_cell; done) | (go_simp; done) | (simp [*]; done)), by (first | (with_reducible assumption) | (go_keep; done) | (go_cell; done) | (go_simp; done) | (simp [*]; done)), by (first | (with_reducible assumption) | (go_keep; done) | (go_cell; done) | (go_simp; done) | (simp [*]; done)), by (first | (with_reducible assumption) | (go_keep; done) | (go_cell; done) | (go_simp; done) | (simp [*]; done)), by (first | (with_reducible assumption) | (go_keep; done) | (go_cell; done) | (go_simp; done) | (simp [*]; done)), by first | (with_reducible assumption) | (go_grown; done)⟩)) (first | (go_at_call 78; go_call ((by first | exact HD1.out _ | exact HD2.out _)) as e w1 ⟨rfl, hb0⟩; go_split_ands; have q0 : w1.cell? ⟨w.heap.size, 0, none⟩ = some (.int .i64 (x0)) := (hb0.cell (p := ⟨w.heap.size, 0, none⟩) (by first | (with_reducible assumption) | (go_size; done) | (simp; omega))).trans (by first | (with_reducible assumption) | (go_keep; done) | (go_cell; done) | (go_simp; done) | (simp [*]; done)); have q1 : w1.cell? ⟨w.heap.size, 1, none⟩ = some (.int .i64 (y0)) := (hb0.cell (p := ⟨w.heap.size, 1, none⟩) (by first | (with_reducible assumption) | (go_size; done) | (simp; omega))).trans (by first | (with_reducible assumption) | (go_keep; done) | (go_cell; done) | (go_simp; done) | (simp [*]; done)); have q2 : w1.cell? ⟨B3, 0, none⟩ = some (.int .i64 (a)) := (hb0.cell (p := ⟨B3, 0, none⟩) (by first | (with_reducible assumption) | (go_size; done) | (simp; omega))).trans (by first | (with_reducible assumption) | (go_keep; done) | (go_cell; done) | (go_simp; done) | (simp [*]; done)); have q3 : w1.cell? ⟨B3, 1, none⟩ = some (.int .i64 (b)) := (hb0.cell (p := ⟨B3, 1, none⟩) (by first | (with_reducible assumption) | (go_size; done) | (simp; omega))).trans (by first | (with_reducible assumption) | (go_keep; done) | (go_cell; done) | (go_simp; done) | (simp [*]; done)); have q4 : w1.cell? ⟨B3, 2, none⟩ = some (.int .i64 (a')) := (hb0.cell (p := ⟨B3, 2, none⟩) (by first | (with_reducible assumption) | (go_size; done) | (simp; omega))).trans (by first | (with_reducible assumption) | (go_keep; done) | (go_cell; done) | (go_simp; done) | (simp [*]; done)); have q5 : w1.cell? ⟨B3, 3, none⟩ = some (.int .i64 (b')) := (hb0.cell (p := ⟨B3, 3, none⟩) (by first | (with_reducible assumption) | (go_size; done) | (simp; omega))).trans (by first | (with_reducible assumption) | (go_keep; done) | (go_cell; done) | (go_simp; done) | (simp [*]; done)); have q6 : w1.cell? ⟨bb, off + i, none⟩ = some (.int .i64 (x)) := (hb0.cell (p := ⟨bb, off + i, none⟩) (by first | (with_reducible assumption) | (go_size; done) | (simp; omega))).trans (by first | (with_reducible assumption) | (go_keep; done) | (go_cell; done) | (go_simp; done) | (simp [*]; done)); have q7 : w1.cell? ⟨bb, off + q, none⟩ = some (.int .i64 (y)) := (hb0.cell (p := ⟨bb, off + q, none⟩) (by first | (with_reducible assumption) | (go_size; done) | (simp; omega))).trans (by first | (with_reducible assumption) | (go_keep; done) | (go_cell; done) | (go_simp; done) | (simp [*]; done)); have hs0 : w.heap.size < w1.heap.size := Nat.lt_of_lt_of_le (by first | (with_reducible assumption) | (go_size; done) | (simp; omega)) hb0.size; have hs1 : B3 < w1.heap.size := Nat.lt_of_lt_of_le (by first | (with_reducible assumption) | (go_size; done) | (simp; omega)) hb0.size; have hs2 : bb < w1.heap.size := Nat.lt_of_lt_of_le (by first | (with_reducible assumption) | (go_size; done) | (simp; omega)) hb0.size; have hT : Below (w.heap.size) W3 w1 := Below.trans (by first | (with_reducible assumption) | (go_grown; done)) (hb0.mono (by first | (with_reducible assumption) | (go_size; done) | (simp; omega) | omega)); have hTs := hT.size; (try have hT2 : Below W3.heap.size W3 w1 := belowTo (by first | (with_reducible assumption) | (go_grown; done)) hb0); clear hb0) | (go_at_call 79; go_call (HN.out _) as e w1 ⟨rfl, hb0⟩; go_split_ands; have q0 : w1.cell? ⟨w.heap.size, 0, none⟩ = some (.int .i64 (x0)) := (hb0.cell (p := ⟨w.heap.size, 0, none⟩) (by first | (with_reducible assumption) | (go_size; done) | (simp; omega))).trans (by first | (with_reducible assumption) | (go_keep; done) | (go_cell; done) | (go_simp; done) | (simp [*]; done)); have q1 : w1.cell? ⟨w.heap.size, 1, none⟩ = some (.int .i64 (y0)) := (hb0.cell (p := ⟨w.heap.size, 1, none⟩) (by first | (with_reducible assumption) | (go_size; done) | (simp; omega))).trans (by first | (with_reducible assumption) | (go_keep; done) | (go_cell; done) | (go_simp; done) | (simp [*]; done)); have q2 : w1.cell? ⟨B3, 0, none⟩ = some (.int .i64 (a)) := (hb0.cell (p := ⟨B3, 0, none⟩) (by first | (with_reducible assumption) | (go_size; done) | (simp; omega))).trans (by first | (with_reducible assumption) | (go_keep; done) | (go_cell; done) | (go_simp; done) | (simp [*]; done)); have q3 : w1.cell? ⟨B3, 1, none⟩ = some (.int .i64 (b)) := (hb0.cell (p := ⟨B3, 1, none⟩) (by first | (with_reducible assumption) | (go_size; done) | (simp; omega))).trans (by first | (with_reducible assumption) | (go_keep; done) | (go_cell; done) | (go_simp; done) | (simp [*]; done)); have q4 : w1.cell? ⟨B3, 2, none⟩ = some (.int .i64 (a')) := (hb0.cell (p := ⟨B3, 2, none⟩) (by first | (with_reducible assumption) | (go_size; done) | (simp; omega))).trans (by first | (with_reducible assumption) | (go_keep; done) | (go_cell; done) | (go_simp; done) | (simp [*]; done)); have q5 : w1.cell? ⟨B3, 3, none⟩ = some (.int .i64 (b')) := (hb0.cell (p := ⟨B3, 3, none⟩) (by first | (with_reducible assumption) | (go_size; done) | (simp; omega))).trans (by first | (with_reducible assumption) | (go_keep; done) | (go_cell; done) | (go_simp; done) | (simp [*]; done)); have q6 : w1.cell? ⟨bb, off + i, none⟩ = some (.int .i64 (x)) := (hb0.cell (p := ⟨bb, off + i, none⟩) (by first | (with_reducible assumption) | (go_size; done) | (simp; omega))).trans (by first | (with_reducible assumption) | (go_keep; done) | (go_cell; done) | (go_simp; done) | (simp [*]; done)); have q7 : w1.cell? ⟨bb, off + q, none⟩ = some (.int .i64 (y)) := (hb0.cell (p := ⟨bb, off + q, none⟩) (by first | (with_reducible assumption) | (go_size; done) | (simp; omega))).trans (by first | (with_reducible assumption) | (go_keep; done) | (go_cell; done) | (go_simp; done) | (simp [*]; done)); have hs0 : w.heap.size < w1.heap.size := Nat.lt_of_lt_of_le (by first | (with_reducible assumption) | (go_size; done) | (simp; omega)) hb0.size; have hs1 : B3 < w1.heap.size := Nat.lt_of_lt_of_le (by first | (with_reducible assumption) | (go_size; done) | (simp; omega)) hb0.size; have hs2 : bb < w1.heap.size := Nat.lt_of_lt_of_le (by first | (with_reducible assumption) | (go_size; done) | (simp; omega)) hb0.size; have hT : Below (w.heap.size) W3 w1 := Below.trans (by first | (with_reducible assumption) | (go_grown; done)) (hb0.mono (by first | (with_reducible assumption) | (go_size; done) | (simp; omega) | omega)); have hTs := hT.size; (try have hT2 : Below W3.heap.size W3 w1 := belowTo (by first | (with_reducible assumption) | (go_grown; done)) hb0); clear hb0))
  go_wp2
  go_returns
  exact ⟨rfl, hA3.trans (Below.mono hT (by have := hA3.size; omega))⟩
end Go.Proofs.YtmencjdlfeojkaaDoor
