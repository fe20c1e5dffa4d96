/- PolygonShift: both sides. -/
import Derived.Test.YthkcopmodfmoeaaDoorYk
import Derived.Test.YthkcopmodfmoeaaDoorYl
namespace Go.Proofs.YthkcopmodfmoeaaDoor
open Go.RowKit

theorem vec_cells (W : World) (X Y : Int) (t : TypeId) : ∀ j u, [Value.int .i64 X, Value.int .i64 Y][j]? = some u → (W.alloc (.cells #[.int .i64 X, .int .i64 Y] t)).cell? ((⟨W.heap.size, 0, none⟩ : Addr).add j) = some u := by
  intro j u hj
  match j, hj with
  | 0, hj => simp at hj; subst hj; simp [Addr.add]
  | 1, hj => simp at hj; subst hj; simp [Addr.add]
theorem vec_one (X Y : Int) : ∀ u ∈ [Value.int .i64 X, Value.int .i64 Y], u.oneCell' = true := by
  intro u hu
  simp at hu
  rcases hu with rfl | rfl <;> rfl
set_option maxHeartbeats 1000000 in
theorem vplusBig_any (x1 y1 x2 y2 : Int) (w : World) (h1 : big 400000 x1 y1) (h2 : big 400000 x2 y2) :
    Calls Tryd.prog 52 #[.agg #[.int .i64 (x1), .int .i64 (y1)], .agg #[.int .i64 (x2), .int .i64 (y2)]] w fun e w' => e = .returned (.agg #[.int .i64 (x2 + x1), .int .i64 (y2 + y1)]) ∧ Below w.heap.size w w' := by
  obtain ⟨⟨_, _⟩, _, _⟩ := h1
  obtain ⟨⟨_, _⟩, _, _⟩ := h2
  have q1 : IntKind.i64.wrap (x1 + x2) = x2 + x1 := by rw [IntKind.wrap_i64]; omega
  have q2 : IntKind.i64.wrap (y1 + y2) = y2 + y1 := by rw [IntKind.wrap_i64]; omega
  go_enter Tryd.func52, Tryd.ntmps52
  go_wp2
  go_returns
  exact ⟨rfl, by go_grown⟩
def ShiftB (l : List V2) (s : V2) : Bool := polyB l && vecB s.1 s.2
def ShiftL (l : List V2) (s : V2) : List V2 := gV (ShiftB l s && polyB (l.map (shiftF s))) (tidyP (l.map (shiftF s)))
theorem vec_big {x y : Int} (h : vecB x y = true) : big 400000 x y := by
  unfold vecB szB at h
  simp at h
  unfold big
  omega
set_option maxHeartbeats 4000000 in
theorem polygonShift_any (v : Value) (l : List V2) (p r : Int) (w : World) (hl : ReadsVecs w v l) (hg : EtOk w) :
    Calls Tryd.prog 26 #[v, .agg #[.int .i64 (p), .int .i64 (r)]] w (GivesVecsR w (ShiftL l (p, r)) (ShiftB l (p, r) && polyB (l.map (shiftF (p, r))))) := by
  have HC := Lib.hid (fun B w' (hb : Below w.heap.size w w') c0 c1 hB => checkAll_pv v l p r B w' (hl.below hb) c0 c1 hB)
  have HCh := Lib.hid (fun w' (hb : Below w.heap.size w w') (hK : polyB l = true) (hv : vecB p r = true) =>
    changedS v l p r (shiftF (p, r)) w' (hg.below hb) (hl.below hb) (by have := poly_len hK; omega) (by have := poly_len hK; omega) (fun i => poly_small hK i)
      (fun W x y _ hxy => vplusBig_any p r x y W (vec_big hv) (by unfold big at *; omega)) (shift_big (s := (p, r)) hK hv))
  have HM := Lib.hid (fun (hK : polyB l = true) => hull_shift hK (p, r))
  have HT : Hid (ShiftB l (p, r) = (polyB l && vecB p r)) := rfl
  obtain ⟨a, c, rfl, _⟩ := hl
  unfold GivesVecsR ShiftL
  generalize hTB : ShiftB l (p, r) = TB at *
  clear hTB
  generalize l.map (shiftF (p, r)) = L at *
  cases hk : (polyB l && vecB p r)
  · have hTB : TB = false := by rw [HT.out, hk]
    subst hTB
    rw [hk] at HC
    clear hk HCh HM HT
    go_enter Tryd.func26, Tryd.ntmps26
    go_wp2_with fail
    refine Calls.mono (HC.out _ _ (by go_grown) (by go_cell) (by go_cell) (by go_size)) ?_
    rintro e w1 ⟨he, hb1⟩
    obtain ⟨s, rfl⟩ : IsNone e := he
    have hb : Below w.heap.size w w1 := belowTo (by go_grown) hb1
    clear hb1
    go_wp2_with fail
    refine Calls.mono (none_hit s _ (hg.below hb)) ?_
    rintro e w2 ⟨rfl, hb2⟩
    replace hb := belowTo hb hb2
    clear hb2
    go_wp2
    go_returns
    exact ⟨_, rfl, VecsR.nil _ _, hb⟩
  · have hTB : TB = true := by rw [HT.out, hk]
    subst hTB
    have hk2 : polyB l = true ∧ vecB p r = true := by simpa using hk
    rw [hk] at HC
    obtain ⟨m1, m2⟩ := HM.out hk2.1
    have HC2 := Lib.hid (fun w' hb => HCh.out w' hb hk2.1 hk2.2)
    rw [m2, m1] at HC2
    unfold GivesVecsR at HC2
    clear HM HCh HT m1 m2 hk hk2
    rw [Bool.true_and]
    generalize gV (polyB L) (tidyP L) = R at *
    generalize polyB L = P at *
    go_enter Tryd.func26, Tryd.ntmps26
    go_wp2_with fail
    refine Calls.mono (HC.out _ _ (by go_grown) (by go_cell) (by go_cell) (by go_size)) ?_
    rintro e w1 ⟨he, hb1⟩
    obtain rfl : e = .returned .nilIface := he
    have hb : Below w.heap.size w w1 := belowTo (by go_grown) hb1
    have c0 : w1.cell? ⟨w.heap.size, 0, none⟩ = some (.int .i64 p) := (hb1.cell (p := ⟨w.heap.size, 0, none⟩) (by simp; omega)).trans (by first | (go_cell; done) | (go_simp; done) | (simp; done))
    have c1 : w1.cell? ⟨w.heap.size, 1, none⟩ = some (.int .i64 r) := (hb1.cell (p := ⟨w.heap.size, 1, none⟩) (by simp; omega)).trans (by first | (go_cell; done) | (go_simp; done) | (simp; done))
    clear hb1
    go_wp2_with fail
    refine Calls.mono (none_nil _) ?_
    rintro e w2 ⟨rfl, hb2⟩
    replace c1 := (hb2.cell (p := ⟨w.heap.size, 1, none⟩) (cell_lt c0)).trans c1
    replace c0 := (hb2.cell (p := ⟨w.heap.size, 0, none⟩) (cell_lt c0)).trans c0
    replace hb := belowTo hb hb2
    have hs := hb.size
    clear hb2
    go_wp2_with fail
    refine Calls.mono (HC2.out _ hb) ?_
    rintro e w3 ⟨v3, rfl, I3, hb3⟩
    have HB := Lib.hid (belowTo hb hb3)
    have HI3 := Lib.hid (I3.lower hs)
    clear hb3 I3
    go_wp2
    go_returns
    exact ⟨_, rfl, HI3.out, HB.out⟩
end Go.Proofs.YthkcopmodfmoeaaDoor
