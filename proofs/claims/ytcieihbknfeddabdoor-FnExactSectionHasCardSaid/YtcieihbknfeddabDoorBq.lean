import Derived.Test.YtcieihbknfeddabDoorI1
import Derived.Test.YtcieihbknfeddabDoorBf
import Derived.Test.YtcieihbknfeddabDoorBp
import Derived.Test.YtcieihbknfeddabDoorBe
/- Sections: bounds and boxes: the model. -/
namespace Go.Proofs.YtcieihbknfeddabDoor
open Go.RowKit

theorem l3NextB_any (a : Option Addr) (n c k : Nat) (w : World) (hk : k < n) (hn : n ≤ 4611686018427387904) :
    Calls Tryd.prog 118 #[.slice a n c, .int .i64 k] w fun e w' => e = .returned (.int .i64 ((k + 1) % n : Nat)) ∧ Below w.heap.size w w' :=
  (l3Next_any a n c k w hk hn).mono (fun _ _ h => ⟨h.1, by rw [← h.2]; exact Below.refl _ _⟩)
set_option maxRecDepth 100000 in
set_option maxHeartbeats 32000000 in
theorem l5Bound_any (v : Value) (l : List V2) (u : Value) (d : List Int) (x0 y0 : Int) (w : World) (hv : ReadsVecs w v l) (hu : ReadsInts w u d) (hf : fanB l = true) (hl : d.length = l.length) (hb : bnd 100 d) (ha : vecB x0 y0 = true) :
    Calls Tryd.prog 115 #[v, u, .agg #[.int .i64 (x0), .int .i64 (y0)]] w fun e w' => e = .returned (.int .i64 (bndZ l d (x0, y0))) ∧ Below w.heap.size w w' := by
  have hlen := fan_len hf
  have hal : allVec l := fan_vec hf
  have hil := whZ_lt hf (x0, y0)
  have HW := Lib.hid (fun w' (hb : Below w.heap.size w w') => specFanWhere_any v l x0 y0 w' (hv.below hb))
  rw [hf, ha] at HW
  have HC := Lib.hid (fun w' (hb : Below w.heap.size w w') => l3Cone_any v l (whZ l (x0, y0)) w' (hv.below hb) hil)
  have hp : 0 < l.length := by omega
  obtain ⟨va, vc, rfl, _⟩ := hv
  have HN := Lib.hid (fun w' => l3NextB_any va l.length vc (whZ l (x0, y0)) w' hil (by omega))
  obtain ⟨bb, off, c, rfl, _, hbb, hcs⟩ := hu.open (by omega)
  have hq : (whZ l (x0, y0) + 1) % l.length < d.length := by rw [hl]; exact Nat.mod_lt _ hp
  have e0 := hcs w (Below.refl _ _) (whZ l (x0, y0)) (by omega)
  have e1 := hcs w (Below.refl _ _) _ hq
  have v0 := hal (whZ l (x0, y0))
  have v1 := hal (whZ l (x0, y0) + 1)
  have bt := bnd_terms (a := (x0, y0)) hal ha hb
  have HW2 : Hid (∀ w', Below w.heap.size w w' → Calls Tryd.prog 139 #[.slice va l.length vc, .agg #[.int .i64 (x0), .int .i64 (y0)]] w' fun e w'' => e = .returned (.tuple #[.int .i64 (whZ l (x0, y0) : Nat), .bool true]) ∧ Below w'.heap.size w' w'') := fun w' h => HW.out w' h
  unfold bndZ
  unfold detV at bt ⊢
  generalize whZ l (x0, y0) = i at *
  clear hf hu hb hcs hal HW
  generalize cyc l i = p0 at *
  generalize cyc l (i + 1) = p1 at *
  obtain ⟨a, b⟩ := p0
  obtain ⟨a', b'⟩ := p1
  dsimp only at HC v0 v1 bt ⊢
  generalize l.length = n at *
  subst hl
  generalize gz d i = x at *
  generalize gz d ((i + 1) % d.length) = y at *
  generalize (i + 1) % d.length = q at *
  generalize d.length = n at *
  have HD := Lib.hid (fun x1 y1 x2 y2 w' h1 h2 => l1Det_any x1 y1 x2 y2 w' h1 h2)
  generalize hP : detZ x0 y0 a' b' = P at *
  generalize hQ : detZ a b x0 y0 = Q at *
  have HPe := Lib.hid hP
  have HQe := Lib.hid hQ
  have HV0 := Lib.hid v0
  have HV1 := Lib.hid v1
  have HVA := Lib.hid ha
  have i1 : (0 : Int) ≤ (i : Int) := by omega
  have i2 : (i : Int) < (n : Int) := by omega
  have i3 : (0 : Int) ≤ (q : Int) := by omega
  have i4 : (q : Int) < (n : Int) := by omega
  have q4 : IntKind.i64.wrap (P * x) = P * x := by rw [IntKind.wrap_i64]; omega
  have q5 : IntKind.i64.wrap (Q * y) = Q * y := by rw [IntKind.wrap_i64]; omega
  have q6 : IntKind.i64.wrap (P * x + Q * y) = P * x + Q * y := by rw [IntKind.wrap_i64]; omega
  clear v0 v1 ha bt hP hQ
  go_enter Tryd.func115, Tryd.ntmps115
  go_wp2_with fail
  refine Calls.mono (HW2.out _ (by go_grown)) ?_
  rintro e W1 ⟨rfl, hb1⟩
  have hA : Below w.heap.size w W1 := belowTo (by go_grown) hb1
  have hw1 := hb1.size
  simp only [World.size_alloc] at hw1
  have r0 : W1.cell? ⟨w.heap.size, 0, none⟩ = some (.int .i64 x0) := (hb1.cell (p := ⟨w.heap.size, 0, none⟩) (by simp)).trans (by first | (go_cell; done) | (go_simp; done) | (simp; done))
  have r1 : W1.cell? ⟨w.heap.size, 1, none⟩ = some (.int .i64 y0) := (hb1.cell (p := ⟨w.heap.size, 1, none⟩) (by simp)).trans (by first | (go_cell; done) | (go_simp; done) | (simp; done))
  clear hb1 HW2
  go_wp2_with fail
  refine Calls.mono (HC.out _ hA) ?_
  rintro e W2 ⟨rfl, hb2⟩
  have hA2 := belowTo hA hb2
  replace r0 := (hb2.cell (p := ⟨w.heap.size, 0, none⟩) (cell_lt r0)).trans r0
  replace r1 := (hb2.cell (p := ⟨w.heap.size, 1, none⟩) (cell_lt r1)).trans r1
  replace e0 := (hA2.cell (p := ⟨bb, off + i, none⟩) hbb).trans e0
  replace e1 := (hA2.cell (p := ⟨bb, off + q, none⟩) hbb).trans e1
  have l1 := cell_lt r0
  have l2 := cell_lt e0
  clear hb2 hA HC
  go_wp2_with fail
  have hA3 : Below w.heap.size w (W2.alloc (.cells #[.int .i64 a, .int .i64 b, .int .i64 a', .int .i64 b'] 116)) := by go_grown
  have g0 : (W2.alloc (.cells #[.int .i64 a, .int .i64 b, .int .i64 a', .int .i64 b'] 116)).cell? ⟨W2.heap.size, 0, none⟩ = some (.int .i64 a) := by simp
  have g1 : (W2.alloc (.cells #[.int .i64 a, .int .i64 b, .int .i64 a', .int .i64 b'] 116)).cell? ⟨W2.heap.size, 1, none⟩ = some (.int .i64 b) := by simp
  have g2 : (W2.alloc (.cells #[.int .i64 a, .int .i64 b, .int .i64 a', .int .i64 b'] 116)).cell? ⟨W2.heap.size, 2, none⟩ = some (.int .i64 a') := by simp
  have g3 : (W2.alloc (.cells #[.int .i64 a, .int .i64 b, .int .i64 a', .int .i64 b'] 116)).cell? ⟨W2.heap.size, 3, none⟩ = some (.int .i64 b') := by simp
  have hal : Below W2.heap.size W2 (W2.alloc (.cells #[.int .i64 a, .int .i64 b, .int .i64 a', .int .i64 b'] 116)) := by go_grown
  replace r0 := (hal.cell (p := ⟨w.heap.size, 0, none⟩) l1).trans r0
  replace r1 := (hal.cell (p := ⟨w.heap.size, 1, none⟩) l1).trans r1
  replace e0 := (hal.cell (p := ⟨bb, off + i, none⟩) l2).trans e0
  replace e1 := (hal.cell (p := ⟨bb, off + q, none⟩) l2).trans e1
  obtain ⟨B3, hB3⟩ : ∃ B3, B3 = W2.heap.size := ⟨_, rfl⟩
  rw [← hB3] at g0 g1 g2 g3 ⊢
  clear hA2 hal l1 l2
  generalize (W2.alloc (.cells #[.int .i64 a, .int .i64 b, .int .i64 a', .int .i64 b'] 116)) = W3 at *
  clear hB3
  have l1 := cell_lt r0
  have l2 := cell_lt e0
  have l3 := cell_lt g0
  have HD1 : Hid (∀ w', Calls Tryd.prog 119 #[.agg #[.int .i64 (x0), .int .i64 (y0)], .agg #[.int .i64 (a'), .int .i64 (b')]] w' fun e w'' => e = .returned (.int .i64 P) ∧ Below w'.heap.size w' w'') := fun w' => by have h := HD.out x0 y0 a' b' w' HVA.out HV1.out; rw [HPe.out] at h; exact h
  have HD2 : Hid (∀ w', Calls Tryd.prog 119 #[.agg #[.int .i64 (a), .int .i64 (b)], .agg #[.int .i64 (x0), .int .i64 (y0)]] w' fun e w'' => e = .returned (.int .i64 Q) ∧ Below w'.heap.size w' w'') := fun w' => by have h := HD.out a b x0 y0 w' HV0.out HVA.out; rw [HQe.out] at h; exact h
  go_region_held3 (fun w' => w'.cell? ⟨w.heap.size, 0, none⟩ = some (.int .i64 (x0)) ∧ w'.cell? ⟨w.heap.size, 1, none⟩ = some (.int .i64 (y0)) ∧ w'.cell? ⟨B3, 0, none⟩ = some (.int .i64 (a)) ∧ w'.cell? ⟨B3, 1, none⟩ = some (.int .i64 (b)) ∧ w'.cell? ⟨B3, 2, none⟩ = some (.int .i64 (a')) ∧ w'.cell? ⟨B3, 3, none⟩ = some (.int .i64 (b')) ∧ w'.cell? ⟨bb, off + i, none⟩ = some (.int .i64 (x)) ∧ w'.cell? ⟨bb, off + q, none⟩ = some (.int .i64 (y)) ∧ Below (w.heap.size) W3 w') ((go_split_ands; refine ⟨by (first | (with_reducible assumption) | (go_keep; done) | (go_cell; done) | (go_simp; done) | (simp [*]; done)), by (first | (with_reducible assumption) | (go_keep; done) | (go_cell; done) | (go_simp; done) | (simp [*]; done)), by (first | (with_reducible assumption) | (go_keep; done) | (go_cell; done) | (go_simp; done) | (simp [*]; done)), by (first | (with_reducible assumption) | (go_keep; done) | (go_cell; done) | (go_simp; done) | (simp [*]; done)), by (first | (with_reducible assumption) | (go_keep; done) | (go_cell; done) | (go_simp; done) | (simp [*]; done)), by (first | (with_reducible assumption) | (go_keep; done) | (go_cell; done) | (go_simp; done) | (simp [*]; done)), by (first | (with_reducible assumption) | (go_keep; done) | (go_cell; done) | (go_simp; done) | (simp [*]; done)), by (first | (with_reducible assumption) | (go_keep; done) | (go_cell; done) | (go_simp; done) | (simp [*]; done)), by first | (with_reducible assumption) | (go_grown; done)⟩)) (first | (go_at_call 119; go_call ((by first | exact HD1.out _ | exact HD2.out _)) as e w1 ⟨rfl, hb0⟩; go_split_ands; have q0 : w1.cell? ⟨w.heap.size, 0, none⟩ = some (.int .i64 (x0)) := (hb0.cell (p := ⟨w.heap.size, 0, none⟩) (by first | (with_reducible assumption) | (go_size; done) | (simp; omega))).trans (by first | (with_reducible assumption) | (go_keep; done) | (go_cell; done) | (go_simp; done) | (simp [*]; done)); have q1 : w1.cell? ⟨w.heap.size, 1, none⟩ = some (.int .i64 (y0)) := (hb0.cell (p := ⟨w.heap.size, 1, none⟩) (by first | (with_reducible assumption) | (go_size; done) | (simp; omega))).trans (by first | (with_reducible assumption) | (go_keep; done) | (go_cell; done) | (go_simp; done) | (simp [*]; done)); have q2 : w1.cell? ⟨B3, 0, none⟩ = some (.int .i64 (a)) := (hb0.cell (p := ⟨B3, 0, none⟩) (by first | (with_reducible assumption) | (go_size; done) | (simp; omega))).trans (by first | (with_reducible assumption) | (go_keep; done) | (go_cell; done) | (go_simp; done) | (simp [*]; done)); have q3 : w1.cell? ⟨B3, 1, none⟩ = some (.int .i64 (b)) := (hb0.cell (p := ⟨B3, 1, none⟩) (by first | (with_reducible assumption) | (go_size; done) | (simp; omega))).trans (by first | (with_reducible assumption) | (go_keep; done) | (go_cell; done) | (go_simp; done) | (simp [*]; done)); have q4 : w1.cell? ⟨B3, 2, none⟩ = some (.int .i64 (a')) := (hb0.cell (p := ⟨B3, 2, none⟩) (by first | (with_reducible assumption) | (go_size; done) | (simp; omega))).trans (by first | (with_reducible assumption) | (go_keep; done) | (go_cell; done) | (go_simp; done) | (simp [*]; done)); have q5 : w1.cell? ⟨B3, 3, none⟩ = some (.int .i64 (b')) := (hb0.cell (p := ⟨B3, 3, none⟩) (by first | (with_reducible assumption) | (go_size; done) | (simp; omega))).trans (by first | (with_reducible assumption) | (go_keep; done) | (go_cell; done) | (go_simp; done) | (simp [*]; done)); have q6 : w1.cell? ⟨bb, off + i, none⟩ = some (.int .i64 (x)) := (hb0.cell (p := ⟨bb, off + i, none⟩) (by first | (with_reducible assumption) | (go_size; done) | (simp; omega))).trans (by first | (with_reducible assumption) | (go_keep; done) | (go_cell; done) | (go_simp; done) | (simp [*]; done)); have q7 : w1.cell? ⟨bb, off + q, none⟩ = some (.int .i64 (y)) := (hb0.cell (p := ⟨bb, off + q, none⟩) (by first | (with_reducible assumption) | (go_size; done) | (simp; omega))).trans (by first | (with_reducible assumption) | (go_keep; done) | (go_cell; done) | (go_simp; done) | (simp [*]; done)); have hs0 : w.heap.size < w1.heap.size := Nat.lt_of_lt_of_le (by first | (with_reducible assumption) | (go_size; done) | (simp; omega)) hb0.size; have hs1 : B3 < w1.heap.size := Nat.lt_of_lt_of_le (by first | (with_reducible assumption) | (go_size; done) | (simp; omega)) hb0.size; have hs2 : bb < w1.heap.size := Nat.lt_of_lt_of_le (by first | (with_reducible assumption) | (go_size; done) | (simp; omega)) hb0.size; have hT : Below (w.heap.size) W3 w1 := Below.trans (by first | (with_reducible assumption) | (go_grown; done)) (hb0.mono (by first | (with_reducible assumption) | (go_size; done) | (simp; omega) | omega)); have hTs := hT.size; (try have hT2 : Below W3.heap.size W3 w1 := belowTo (by first | (with_reducible assumption) | (go_grown; done)) hb0); clear hb0) | (go_at_call 118; go_call (HN.out _) as e w1 ⟨rfl, hb0⟩; go_split_ands; have q0 : w1.cell? ⟨w.heap.size, 0, none⟩ = some (.int .i64 (x0)) := (hb0.cell (p := ⟨w.heap.size, 0, none⟩) (by first | (with_reducible assumption) | (go_size; done) | (simp; omega))).trans (by first | (with_reducible assumption) | (go_keep; done) | (go_cell; done) | (go_simp; done) | (simp [*]; done)); have q1 : w1.cell? ⟨w.heap.size, 1, none⟩ = some (.int .i64 (y0)) := (hb0.cell (p := ⟨w.heap.size, 1, none⟩) (by first | (with_reducible assumption) | (go_size; done) | (simp; omega))).trans (by first | (with_reducible assumption) | (go_keep; done) | (go_cell; done) | (go_simp; done) | (simp [*]; done)); have q2 : w1.cell? ⟨B3, 0, none⟩ = some (.int .i64 (a)) := (hb0.cell (p := ⟨B3, 0, none⟩) (by first | (with_reducible assumption) | (go_size; done) | (simp; omega))).trans (by first | (with_reducible assumption) | (go_keep; done) | (go_cell; done) | (go_simp; done) | (simp [*]; done)); have q3 : w1.cell? ⟨B3, 1, none⟩ = some (.int .i64 (b)) := (hb0.cell (p := ⟨B3, 1, none⟩) (by first | (with_reducible assumption) | (go_size; done) | (simp; omega))).trans (by first | (with_reducible assumption) | (go_keep; done) | (go_cell; done) | (go_simp; done) | (simp [*]; done)); have q4 : w1.cell? ⟨B3, 2, none⟩ = some (.int .i64 (a')) := (hb0.cell (p := ⟨B3, 2, none⟩) (by first | (with_reducible assumption) | (go_size; done) | (simp; omega))).trans (by first | (with_reducible assumption) | (go_keep; done) | (go_cell; done) | (go_simp; done) | (simp [*]; done)); have q5 : w1.cell? ⟨B3, 3, none⟩ = some (.int .i64 (b')) := (hb0.cell (p := ⟨B3, 3, none⟩) (by first | (with_reducible assumption) | (go_size; done) | (simp; omega))).trans (by first | (with_reducible assumption) | (go_keep; done) | (go_cell; done) | (go_simp; done) | (simp [*]; done)); have q6 : w1.cell? ⟨bb, off + i, none⟩ = some (.int .i64 (x)) := (hb0.cell (p := ⟨bb, off + i, none⟩) (by first | (with_reducible assumption) | (go_size; done) | (simp; omega))).trans (by first | (with_reducible assumption) | (go_keep; done) | (go_cell; done) | (go_simp; done) | (simp [*]; done)); have q7 : w1.cell? ⟨bb, off + q, none⟩ = some (.int .i64 (y)) := (hb0.cell (p := ⟨bb, off + q, none⟩) (by first | (with_reducible assumption) | (go_size; done) | (simp; omega))).trans (by first | (with_reducible assumption) | (go_keep; done) | (go_cell; done) | (go_simp; done) | (simp [*]; done)); have hs0 : w.heap.size < w1.heap.size := Nat.lt_of_lt_of_le (by first | (with_reducible assumption) | (go_size; done) | (simp; omega)) hb0.size; have hs1 : B3 < w1.heap.size := Nat.lt_of_lt_of_le (by first | (with_reducible assumption) | (go_size; done) | (simp; omega)) hb0.size; have hs2 : bb < w1.heap.size := Nat.lt_of_lt_of_le (by first | (with_reducible assumption) | (go_size; done) | (simp; omega)) hb0.size; have hT : Below (w.heap.size) W3 w1 := Below.trans (by first | (with_reducible assumption) | (go_grown; done)) (hb0.mono (by first | (with_reducible assumption) | (go_size; done) | (simp; omega) | omega)); have hTs := hT.size; (try have hT2 : Below W3.heap.size W3 w1 := belowTo (by first | (with_reducible assumption) | (go_grown; done)) hb0); clear hb0))
  go_wp2
  go_returns
  exact ⟨rfl, hA3.trans (Below.mono hT (by have := hA3.size; omega))⟩
end Go.Proofs.YtcieihbknfeddabDoor

/- Sections: boxes, sections: the model's functions. -/
namespace Go.Proofs.YtcieihbknfeddabDoor
open Go.RowKit

set_option maxHeartbeats 8000000 in
theorem l5Box_any (v : Value) (l : List V2) (u : Value) (d : List Int) (w : World) (hv : ReadsVecs w v l) (hu : ReadsInts w u d) (hf : fanB l = true) (hl : d.length = l.length) (hb : bnd 100 d) :
    Calls Tryd.prog 86 #[v, u] w fun e w' => e = .returned (.agg #[.int .i64 (-bndZ l d (1, 0)), .int .i64 (bndZ l d (-1, 0)), .int .i64 (-bndZ l d (0, 1)), .int .i64 (bndZ l d (0, -1))]) ∧ Below w.heap.size w w' := by
  have hal : allVec l := fan_vec hf
  have HB := Lib.hid (fun x y w' (hb' : Below w.heap.size w w') (ha : vecB x y = true) => l5Bound_any v l u d x y w' (hv.below hb') (hu.below hb') hf hl hb ha)
  obtain ⟨B, hB⟩ : ∃ B : Int → Int → Int, ∀ x y, bndZ l d (x, y) = B x y := ⟨fun x y => bndZ l d (x, y), fun _ _ => rfl⟩
  have b1 := bndZ_bnd (a := (1, 0)) hal (by decide) hb
  have b2 := bndZ_bnd (a := (0, 1)) hal (by decide) hb
  rw [hB] at b1 b2
  simp only [hB] at HB ⊢
  obtain ⟨va, vc, rfl, _⟩ := hv
  obtain ⟨a, c, rfl, _⟩ := hu.len
  clear hf hu hl hb hal hB
  have H1 := Lib.hid (fun w' hb' => HB.out 1 0 w' hb' (by decide))
  have H2 := Lib.hid (fun w' hb' => HB.out (-1) 0 w' hb' (by decide))
  have H3 := Lib.hid (fun w' hb' => HB.out 0 1 w' hb' (by decide))
  have H4 := Lib.hid (fun w' hb' => HB.out 0 (-1) w' hb' (by decide))
  generalize B 1 0 = B1 at *
  generalize B (-1) 0 = B2 at *
  generalize B 0 1 = B3 at *
  generalize B 0 (-1) = B4 at *
  clear HB
  go_enter Tryd.func86, Tryd.ntmps86
  go_wp2_with fail
  refine Calls.mono (H1.out _ (by go_grown)) ?_
  rintro e w1 ⟨rfl, hb1⟩
  have hA : Below w.heap.size w w1 := belowTo (by go_grown) hb1
  have r0 : w1.cell? ⟨w.heap.size, 0, none⟩ = some (.int .i64 0) := (hb1.cell (p := ⟨w.heap.size, 0, none⟩) (by simp)).trans (by first | (go_cell; done) | (go_simp; done) | (simp; done))
  have r1 : w1.cell? ⟨w.heap.size, 1, none⟩ = some (.int .i64 0) := (hb1.cell (p := ⟨w.heap.size, 1, none⟩) (by simp)).trans (by first | (go_cell; done) | (go_simp; done) | (simp; done))
  have r2 : w1.cell? ⟨w.heap.size, 2, none⟩ = some (.int .i64 0) := (hb1.cell (p := ⟨w.heap.size, 2, none⟩) (by simp)).trans (by first | (go_cell; done) | (go_simp; done) | (simp; done))
  have r3 : w1.cell? ⟨w.heap.size, 3, none⟩ = some (.int .i64 0) := (hb1.cell (p := ⟨w.heap.size, 3, none⟩) (by simp)).trans (by first | (go_cell; done) | (go_simp; done) | (simp; done))
  have f0 : ∀ o, w1.frozen? ⟨w.heap.size, o, none⟩ = false := fun o => (hb1.frozen (p := ⟨w.heap.size, o, none⟩) (by simp)).trans (by first | (go_cell; done) | (go_simp; done) | (simp; done))
  clear hb1
  go_wp2_with fail
  refine Calls.mono (H2.out _ hA) ?_
  rintro e w2 ⟨rfl, hb2⟩
  have hA2 := belowTo hA hb2
  replace f0 : ∀ o, w2.frozen? ⟨w.heap.size, o, none⟩ = false := fun o => (hb2.frozen (p := ⟨w.heap.size, o, none⟩) (cell_lt r0)).trans (f0 o)
  replace r1 := (hb2.cell (p := ⟨w.heap.size, 1, none⟩) (cell_lt r0)).trans r1
  replace r2 := (hb2.cell (p := ⟨w.heap.size, 2, none⟩) (cell_lt r0)).trans r2
  replace r3 := (hb2.cell (p := ⟨w.heap.size, 3, none⟩) (cell_lt r0)).trans r3
  replace r0 := (hb2.cell (p := ⟨w.heap.size, 0, none⟩) (cell_lt r0)).trans r0
  clear hb2 hA
  go_wp2_with fail
  refine Calls.mono (H3.out _ hA2) ?_
  rintro e w3 ⟨rfl, hb2⟩
  have hA3 := belowTo hA2 hb2
  replace f0 : ∀ o, w3.frozen? ⟨w.heap.size, o, none⟩ = false := fun o => (hb2.frozen (p := ⟨w.heap.size, o, none⟩) (cell_lt r0)).trans (f0 o)
  replace r1 := (hb2.cell (p := ⟨w.heap.size, 1, none⟩) (cell_lt r0)).trans r1
  replace r2 := (hb2.cell (p := ⟨w.heap.size, 2, none⟩) (cell_lt r0)).trans r2
  replace r3 := (hb2.cell (p := ⟨w.heap.size, 3, none⟩) (cell_lt r0)).trans r3
  replace r0 := (hb2.cell (p := ⟨w.heap.size, 0, none⟩) (cell_lt r0)).trans r0
  clear hb2 hA2
  go_wp2_with fail
  refine Calls.mono (H4.out _ hA3) ?_
  rintro e w4 ⟨rfl, hb2⟩
  have hA4 := belowTo hA3 hb2
  replace f0 : ∀ o, w4.frozen? ⟨w.heap.size, o, none⟩ = false := fun o => (hb2.frozen (p := ⟨w.heap.size, o, none⟩) (cell_lt r0)).trans (f0 o)
  replace r1 := (hb2.cell (p := ⟨w.heap.size, 1, none⟩) (cell_lt r0)).trans r1
  replace r2 := (hb2.cell (p := ⟨w.heap.size, 2, none⟩) (cell_lt r0)).trans r2
  replace r3 := (hb2.cell (p := ⟨w.heap.size, 3, none⟩) (cell_lt r0)).trans r3
  replace r0 := (hb2.cell (p := ⟨w.heap.size, 0, none⟩) (cell_lt r0)).trans r0
  clear hb2 hA3
  have z0 := f0 0
  have z1 := f0 1
  have z2 := f0 2
  have z3 := f0 3
  clear f0
  have l0 := cell_lt r0
  go_wp2
  refine bodyPost_ret (by simp [results, Tryd.results86, go_sem, *]; try rfl) rfl ?_
  exact ⟨rfl, by go_grown⟩
set_option maxHeartbeats 8000000 in
theorem specSectionBox_any (v : Value) (l : List V2) (u : Value) (d : List Int) (w : World) (hl : ReadsVecs w v l) (hd : ReadsInts w u d) :
    Calls Tryd.prog 50 #[v, u] w fun e w' => e = .returned (.tuple #[.int .i64 (gate (divB l d) (-bndZ l d (1, 0))), .int .i64 (gate (divB l d) (bndZ l d (-1, 0))), .int .i64 (gate (divB l d) (-bndZ l d (0, 1))), .int .i64 (gate (divB l d) (bndZ l d (0, -1))), .bool (divB l d)]) ∧ Below w.heap.size w w' := by
  have HO := Lib.hid (specDivisorIn_any v l u d w hl hd)
  have HX := Lib.hid (fun w' (hb : Below w.heap.size w w') (hk : divB l d = true) => l5Box_any v l u d w' (hl.below hb) (hd.below hb) (smooth_in (div_in hk).1).1 (div_in hk).2.1 (div_bnd hk))
  obtain ⟨va, vc, rfl, _⟩ := hl
  obtain ⟨a, c, rfl, _⟩ := hd.len
  clear hd
  generalize -bndZ l d (1, 0) = B1 at *
  generalize -bndZ l d (0, 1) = B2 at *
  generalize bndZ l d (-1, 0) = B3 at *
  generalize bndZ l d (0, -1) = B4 at *
  cases hk : divB l d
  · rw [hk] at HO
    clear HX hk
    go_enter Tryd.func50, Tryd.ntmps50
    go_wp2_with fail
    refine Calls.mono HO.out ?_
    rintro e w1 ⟨rfl, hb1⟩
    go_wp2
    go_returns
    exact ⟨rfl, hb1⟩
  · rw [hk] at HO
    have HX2 := Lib.hid (fun w' hb => HX.out w' hb hk)
    clear HX hk
    go_enter Tryd.func50, Tryd.ntmps50
    go_wp2_with fail
    refine Calls.mono HO.out ?_
    rintro e w1 ⟨rfl, hb1⟩
    go_wp2_with fail
    refine Calls.mono (HX2.out _ hb1) ?_
    rintro e w2 ⟨rfl, hb2⟩
    have hB : Below w.heap.size w w2 := belowTo hb1 hb2
    have hs2 := hB.size
    clear hb2 hb1 HX2
    go_wp2_with fail
    go_quiet (fail)
    go_wp2
    go_returns
    exact ⟨rfl, below_drewN (by go_grown) _⟩
/-- is m a section whose products are by e more than they must be -/
def hasE (l : List V2) (d : List Int) (m : V2) (e : Int) : Bool := (List.range l.length).all (fun i => decide (e - gz d i ≤ dotZ m.1 m.2 (cyc l i).1 (cyc l i).2))
theorem hasE_zero (l : List V2) (d : List Int) (m : V2) : hasE l d m 0 = hasZ l d m := by
  unfold hasE hasZ
  simp only [Int.zero_sub]
theorem hasE_bad {l : List V2} {d : List Int} {m : V2} {e : Int} {i : Nat} (hi : i < l.length) (h : dotZ m.1 m.2 (cyc l i).1 (cyc l i).2 < e - gz d i) : hasE l d m e = false := by
  unfold hasE
  rw [List.all_eq_false]
  exact ⟨i, List.mem_range.2 hi, by simpa using h⟩
theorem hasE_good {l : List V2} {d : List Int} {m : V2} {e : Int} (h : ∀ i, i < l.length → e - gz d i ≤ dotZ m.1 m.2 (cyc l i).1 (cyc l i).2) : hasE l d m e = true :=
  List.all_eq_true.2 (fun i hi => by simpa using h i (List.mem_range.1 hi))
set_option maxRecDepth 100000 in
set_option maxHeartbeats 16000000 in
theorem l5Has_any (v : Value) (l : List V2) (u : Value) (d : List Int) (x0 y0 m0 : Int) (w : World) (hv : ReadsVecs w v l) (hu : ReadsInts w u d) (h0 : 0 < l.length) (hn : l.length ≤ 1000) (hal : allVec l) (hl : d.length = l.length) (hb : bnd 200 d) (ha : vecB x0 y0 = true) (hm : 0 ≤ m0 ∧ m0 ≤ 1) :
    Calls Tryd.prog 88 #[v, u, .agg #[.int .i64 (x0), .int .i64 (y0)], .int .i64 m0] w fun e w' => e = .returned (.bool (hasE l d (x0, y0) m0)) ∧ Below w.heap.size w w' := by
  obtain ⟨bv, ov, vc, rfl, _, _, hbv, hvs⟩ := hv.open h0
  obtain ⟨bb, off, c, rfl, _, hbb, hcs⟩ := hu.open (by omega)
  have HVS := Lib.hid hvs
  have HCS := Lib.hid hcs
  have HG : Hid (∀ k, k < l.length → dotZ (cyc l k).1 (cyc l k).2 x0 y0 < m0 - gz d k → hasE l d (x0, y0) m0 = false) := fun k hk h => hasE_bad hk (by rw [dot_flip]; exact h)
  have HT : Hid ((∀ j, j < l.length → m0 - gz d j ≤ dotZ (cyc l j).1 (cyc l j).2 x0 y0) → hasE l d (x0, y0) m0 = true) := fun h => hasE_good (fun i hi => by rw [dot_flip]; exact h i hi)
  have HP := Lib.hid (fun a b w' (h : vecB a b = true) => l1Product_any a b x0 y0 w' h ha)
  have HAL := Lib.hid hal
  have HBN := Lib.hid hb
  clear hv hu hvs hcs hal hb ha
  have HLN := Lib.hid hl
  rw [hl]
  clear hl
  generalize hasE l d (x0, y0) m0 = K at *
  have hA1 : Below w.heap.size w (w.alloc (.cells #[.int .i64 x0, .int .i64 y0] 36)) := by go_grown
  have p0 : (w.alloc (.cells #[.int .i64 x0, .int .i64 y0] 36)).cell? ⟨w.heap.size, 0, none⟩ = some (.int .i64 x0) := by simp
  have p1 : (w.alloc (.cells #[.int .i64 x0, .int .i64 y0] 36)).cell? ⟨w.heap.size, 1, none⟩ = some (.int .i64 y0) := by simp
  have hl1 : w.heap.size < (w.alloc (.cells #[.int .i64 x0, .int .i64 y0] 36)).heap.size := by simp
  have HA1 := Lib.hid hA1
  have HP0 := Lib.hid p0
  have HP1 := Lib.hid p1
  have HL1 := Lib.hid hl1
  clear hA1 p0 p1 hl1
  go_enter Tryd.func88, Tryd.ntmps88
  go_wp2
  generalize (w.alloc (.cells #[.int .i64 x0, .int .i64 y0] 36)) = V1 at *
  go_loopw [9] (fun s wr => ∃ k : Nat, k ≤ l.length ∧ s = .int .i64 k ∧ Hid (∀ j, j < k → m0 - gz d j ≤ dotZ (cyc l j).1 (cyc l j).2 x0 y0) ∧ Below V1.heap.size V1 wr) (fun s _ => l.length - (intOf s).toNat)
  case atStart => exact ⟨0, Nat.zero_le _, rfl, fun j hj => by omega, Below.refl _ _⟩
  case round =>
    obtain ⟨k, hk, rfl, hE, hB⟩ := hrel
    have i1 : (0 : Int) ≤ (k : Int) := by omega
    have hBw : Below w.heap.size w wr := HA1.out.trans (hB.mono (by have := HL1.out; omega))
    by_cases hlt : k < l.length
    · have i2 : (k : Int) < (l.length : Int) := by omega
      obtain ⟨c0, c1⟩ := HVS.out wr hBw k hlt
      have c2 := HCS.out wr hBw k (by have := HLN.out; omega)
      have c3 := (hB.cell (p := ⟨w.heap.size, 0, none⟩) HL1.out).trans HP0.out
      have c4 := (hB.cell (p := ⟨w.heap.size, 1, none⟩) HL1.out).trans HP1.out
      have hv1 := HAL.out k
      have HP2 := Lib.hid (fun w' => HP.out _ _ w' hv1)
      have hbk := HBN.out k
      have HN := Lib.hid (fun h => HG.out k hlt h)
      have HK : Hid (m0 - gz d k ≤ dotZ (cyc l k).1 (cyc l k).2 x0 y0 → ∀ j, j < k + 1 → m0 - gz d j ≤ dotZ (cyc l j).1 (cyc l j).2 x0 y0) := fun h j hj => by
        by_cases e : j = k
        · subst e; exact h
        · exact hE.out j (by omega)
      generalize hD : dotZ (cyc l k).1 (cyc l k).2 x0 y0 = D at HN HK HP2
      generalize gz d k = z at *
      generalize hC : cyc l k = C at *
      obtain ⟨zx, zy⟩ := C
      dsimp only at c0 c1 HP2
      have q1 : IntKind.i64.wrap (m0 - z) = m0 - z := by rw [IntKind.wrap_i64]; omega
      have t0 := cell_lt c0
      have t2 := cell_lt c2
      have t3 := cell_lt c3
      have HBw := Lib.hid hBw
      clear hD hC HVS HCS HG HT HAL HBN HP hv1 hBw HA1 HP0 HP1
      go_wp2
      go_region_held3 (fun w' => w'.cell? ⟨bv, ov + k * 2, none⟩ = some (.int .i64 (zx)) ∧ w'.cell? ⟨bv, ov + k * 2 + 1, none⟩ = some (.int .i64 (zy)) ∧ w'.cell? ⟨w.heap.size, 0, none⟩ = some (.int .i64 (x0)) ∧ w'.cell? ⟨w.heap.size, 1, none⟩ = some (.int .i64 (y0)) ∧ w'.cell? ⟨bb, off + k, none⟩ = some (.int .i64 (z)) ∧ Below (wr.heap.size) wr w') ((go_split_ands; refine ⟨by (first | (with_reducible assumption) | (go_keep; done) | (go_cell; done) | (go_simp; done) | (simp [*]; done)), by (first | (with_reducible assumption) | (go_keep; done) | (go_cell; done) | (go_simp; done) | (simp [*]; done)), by (first | (with_reducible assumption) | (go_keep; done) | (go_cell; done) | (go_simp; done) | (simp [*]; done)), by (first | (with_reducible assumption) | (go_keep; done) | (go_cell; done) | (go_simp; done) | (simp [*]; done)), by (first | (with_reducible assumption) | (go_keep; done) | (go_cell; done) | (go_simp; done) | (simp [*]; done)), by first | (with_reducible assumption) | (go_grown; done)⟩)) (first | (go_at_call 94; go_call (HP2.out _) as e w1 ⟨rfl, hb0⟩; go_split_ands; have q0 : w1.cell? ⟨bv, ov + k * 2, none⟩ = some (.int .i64 (zx)) := (hb0.cell (p := ⟨bv, ov + k * 2, none⟩) (by first | (with_reducible assumption) | (go_size; done) | (simp; omega))).trans (by first | (with_reducible assumption) | (go_keep; done) | (go_cell; done) | (go_simp; done) | (simp [*]; done)); have q1 : w1.cell? ⟨bv, ov + k * 2 + 1, none⟩ = some (.int .i64 (zy)) := (hb0.cell (p := ⟨bv, ov + k * 2 + 1, none⟩) (by first | (with_reducible assumption) | (go_size; done) | (simp; omega))).trans (by first | (with_reducible assumption) | (go_keep; done) | (go_cell; done) | (go_simp; done) | (simp [*]; done)); have q2 : w1.cell? ⟨w.heap.size, 0, none⟩ = some (.int .i64 (x0)) := (hb0.cell (p := ⟨w.heap.size, 0, none⟩) (by first | (with_reducible assumption) | (go_size; done) | (simp; omega))).trans (by first | (with_reducible assumption) | (go_keep; done) | (go_cell; done) | (go_simp; done) | (simp [*]; done)); have q3 : w1.cell? ⟨w.heap.size, 1, none⟩ = some (.int .i64 (y0)) := (hb0.cell (p := ⟨w.heap.size, 1, none⟩) (by first | (with_reducible assumption) | (go_size; done) | (simp; omega))).trans (by first | (with_reducible assumption) | (go_keep; done) | (go_cell; done) | (go_simp; done) | (simp [*]; done)); have q4 : w1.cell? ⟨bb, off + k, none⟩ = some (.int .i64 (z)) := (hb0.cell (p := ⟨bb, off + k, none⟩) (by first | (with_reducible assumption) | (go_size; done) | (simp; omega))).trans (by first | (with_reducible assumption) | (go_keep; done) | (go_cell; done) | (go_simp; done) | (simp [*]; done)); have hs0 : bv < w1.heap.size := Nat.lt_of_lt_of_le (by first | (with_reducible assumption) | (go_size; done) | (simp; omega)) hb0.size; have hs1 : w.heap.size < w1.heap.size := Nat.lt_of_lt_of_le (by first | (with_reducible assumption) | (go_size; done) | (simp; omega)) hb0.size; have hs2 : bb < w1.heap.size := Nat.lt_of_lt_of_le (by first | (with_reducible assumption) | (go_size; done) | (simp; omega)) hb0.size; have hT : Below (wr.heap.size) wr w1 := Below.trans (by first | (with_reducible assumption) | (go_grown; done)) (hb0.mono (by first | (with_reducible assumption) | (go_size; done) | (simp; omega) | omega)); have hTs := hT.size; (try have hT2 : Below wr.heap.size wr w1 := belowTo (by first | (with_reducible assumption) | (go_grown; done)) hb0); clear hb0))
      have hB2 : Below V1.heap.size V1 w1 := hB.trans (Below.mono hT hB.size)
      by_cases hD : D < m0 - z
      · have HF := Lib.hid (HN.out hD)
        have hA := HBw.out.trans (Below.mono hT HBw.out.size)
        go_wp2
        go_returns
        exact ⟨by rw [HF.out]; rfl, hA⟩
      · have HK2 := Lib.hid (HK.out (by omega))
        go_wp2
        go_roundw
        case rel => exact ⟨k + 1, by omega, by go_num, HK2, hB2⟩
        case measure => simp [intOf]; omega
    · obtain rfl : k = l.length := by omega
      have i2 : ¬ ((l.length : Nat) : Int) < (l.length : Int) := by omega
      have HT2 := Lib.hid (HT.out hE.out)
      go_wp2
      go_returns
      exact ⟨by rw [HT2.out]; rfl, hBw⟩
end Go.Proofs.YtcieihbknfeddabDoor

/- Sections: is a vector one: the model's exported function. -/
namespace Go.Proofs.YtcieihbknfeddabDoor
open Go.RowKit

set_option maxHeartbeats 8000000 in
theorem specSectionHas_any (v : Value) (l : List V2) (u : Value) (d : List Int) (x0 y0 : Int) (w : World) (hl : ReadsVecs w v l) (hd : ReadsInts w u d) :
    Calls Tryd.prog 52 #[v, u, .agg #[.int .i64 (x0), .int .i64 (y0)]] w fun e w' => e = .returned (.bool (divB l d && (vecB x0 y0 && hasZ l d (x0, y0)))) ∧ Below w.heap.size w w' := by
  have HO := Lib.hid (fun w' (hb : Below w.heap.size w w') => specDivisorIn_any v l u d w' (hl.below hb) (hd.below hb))
  have HX := Lib.hid (fun w' (hb : Below w.heap.size w w') (hk : divB l d = true) (ha : vecB x0 y0 = true) => by
    have h3 := div_len hk
    have h := l5Has_any v l u d x0 y0 0 w' (hl.below hb) (hd.below hb) (by omega) (by omega) (div_smooth hk).1 (div_in hk).2.1 (bnd_mono (div_bnd hk) (by omega)) ha (by omega)
    rw [hasE_zero] at h
    exact h)
  have HV := Lib.hid (fun w' => specVecIn_any x0 y0 w')
  obtain ⟨va, vc, rfl, _⟩ := hl
  obtain ⟨a, c, rfl, _⟩ := hd.len
  clear hd
  generalize hasZ l d (x0, y0) = K at *
  cases hk : divB l d
  · rw [hk] at HO
    clear HX hk HV
    go_enter Tryd.func52, Tryd.ntmps52
    go_wp2_with fail
    refine Calls.mono (HO.out _ (by go_grown)) ?_
    rintro e w1 ⟨rfl, hb1⟩
    have hB : Below w.heap.size w w1 := belowTo (by go_grown) hb1
    clear hb1
    go_wp2
    go_returns
    exact ⟨rfl, hB⟩
  · rw [hk] at HO
    have HX2 := Lib.hid (fun w' hb => HX.out w' hb hk)
    clear HX hk
    cases ha : vecB x0 y0
    · rw [ha] at HV
      clear ha HX2
      go_enter Tryd.func52, Tryd.ntmps52
      go_wp2_with fail
      refine Calls.mono (HO.out _ (by go_grown)) ?_
      rintro e w1 ⟨rfl, hb1⟩
      have hB : Below w.heap.size w w1 := belowTo (by go_grown) hb1
      have hc0 : w1.cell? ⟨w.heap.size, 0, none⟩ = some (.int .i64 x0) := (hb1.cell (p := ⟨w.heap.size, 0, none⟩) (by simp)).trans (by simp)
      have hc1 : w1.cell? ⟨w.heap.size, 1, none⟩ = some (.int .i64 y0) := (hb1.cell (p := ⟨w.heap.size, 1, none⟩) (by simp)).trans (by simp)
      clear hb1
      go_wp2_with fail
      refine Calls.mono (HV.out _) ?_
      rintro e w2 ⟨rfl, hb2⟩
      have hB2 := belowTo hB hb2
      clear hb2
      go_wp2
      go_returns
      exact ⟨rfl, hB2⟩
    · rw [ha] at HV
      have HX3 := Lib.hid (fun w' hb => HX2.out w' hb ha)
      clear ha HX2
      go_enter Tryd.func52, Tryd.ntmps52
      go_wp2_with fail
      refine Calls.mono (HO.out _ (by go_grown)) ?_
      rintro e w1 ⟨rfl, hb1⟩
      have hB : Below w.heap.size w w1 := belowTo (by go_grown) hb1
      have hc0 : w1.cell? ⟨w.heap.size, 0, none⟩ = some (.int .i64 x0) := (hb1.cell (p := ⟨w.heap.size, 0, none⟩) (by simp)).trans (by simp)
      have hc1 : w1.cell? ⟨w.heap.size, 1, none⟩ = some (.int .i64 y0) := (hb1.cell (p := ⟨w.heap.size, 1, none⟩) (by simp)).trans (by simp)
      clear hb1
      go_wp2_with fail
      refine Calls.mono (HV.out _) ?_
      rintro e w2 ⟨rfl, hb2⟩
      have hB2 := belowTo hB hb2
      replace hc0 := (hb2.cell (p := ⟨w.heap.size, 0, none⟩) (cell_lt hc0)).trans hc0
      replace hc1 := (hb2.cell (p := ⟨w.heap.size, 1, none⟩) (cell_lt hc1)).trans hc1
      clear hb2
      go_wp2_with fail
      refine Calls.mono (HX3.out _ hB2) ?_
      rintro e w3 ⟨rfl, hb3⟩
      have hB3 := belowTo hB2 hb3
      clear hb3
      go_wp2
      go_returns
      exact ⟨rfl, hB3⟩
end Go.Proofs.YtcieihbknfeddabDoor
