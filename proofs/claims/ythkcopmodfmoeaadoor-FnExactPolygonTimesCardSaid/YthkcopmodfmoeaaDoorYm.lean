/- PolygonTimes: both sides. -/
import Derived.Test.YthkcopmodfmoeaaDoorYk
import Derived.Test.YthkcopmodfmoeaaDoorYl
namespace Go.Proofs.YthkcopmodfmoeaaDoor
open Go.RowKit

theorem small_mul {n u : Int} (h1 : 1 ≤ n) (h2 : n ≤ 20) (k : -100 ≤ u ∧ u ≤ 100) : -2000 ≤ n * u ∧ n * u ≤ 2000 := by
  have q1 := Int.mul_nonneg (show 0 ≤ n by omega) (show 0 ≤ u + 100 by omega)
  have q2 := Int.mul_nonneg (show 0 ≤ n by omega) (show 0 ≤ 100 - u by omega)
  rw [Int.mul_add] at q1
  rw [Int.mul_sub] at q2
  omega
set_option maxHeartbeats 1000000 in
theorem vtimes_any (x y n : Int) (w : World) (h : big 100 x y) (h1 : 1 ≤ n) (h2 : n ≤ 20) :
    Calls Tryd.prog 50 #[.agg #[.int .i64 (x), .int .i64 (y)], .int .i64 n] w fun e w' => e = .returned (.agg #[.int .i64 (n * x), .int .i64 (n * y)]) ∧ Below w.heap.size w w' := by
  have b1 := small_mul h1 h2 h.1
  have b2 := small_mul h1 h2 h.2
  rw [Int.mul_comm] at b1 b2
  have q1 : IntKind.i64.wrap (x * n) = x * n := by rw [IntKind.wrap_i64]; omega
  have q2 : IntKind.i64.wrap (y * n) = y * n := by rw [IntKind.wrap_i64]; omega
  have e1 : n * x = x * n := Int.mul_comm _ _
  have e2 : n * y = y * n := Int.mul_comm _ _
  rw [e1, e2]
  clear e1 e2 b1 b2 h
  go_enter Tryd.func50, Tryd.ntmps50
  go_wp2
  go_returns
  exact ⟨rfl, by go_grown⟩
set_option maxHeartbeats 2000000 in
theorem ptimes1_any (x y n : Int) (q : Nat) (w : World) (c0 : w.cell? ⟨q, 0, none⟩ = some (.int .i64 n)) (h : big 100 x y) (h1 : 1 ≤ n) (h2 : n ≤ 20) :
    Calls Tryd.prog 49 #[.agg #[.int .i64 (x), .int .i64 (y)], .pointer (some ⟨q, 0, none⟩)] w fun e w' => e = .returned (.agg #[.int .i64 (n * x), .int .i64 (n * y)]) ∧ Below w.heap.size w w' := by
  have HT := Lib.hid (fun w' => vtimes_any x y n w' h h1 h2)
  have hq := cell_lt c0
  generalize n * x = X at *
  generalize n * y = Y at *
  clear h h1 h2
  go_enter Tryd.func49, Tryd.ntmps49
  go_wp2_with fail
  refine Calls.mono (HT.out _) ?_
  rintro e w1 ⟨rfl, hb1⟩
  have t0 : w1.cell? ⟨w.heap.size + 1, 0, none⟩ = some (.int .i64 0) := (hb1.cell (p := ⟨w.heap.size + 1, 0, none⟩) (by simp)).trans (by simp)
  have t1 : w1.cell? ⟨w.heap.size + 1, 1, none⟩ = some (.int .i64 0) := (hb1.cell (p := ⟨w.heap.size + 1, 1, none⟩) (by simp)).trans (by simp)
  have t2 : w1.frozen? ⟨w.heap.size + 1, 0, none⟩ = false := (hb1.frozen (p := ⟨w.heap.size + 1, 0, none⟩) (by simp)).trans (by simp)
  have t3 : w1.frozen? ⟨w.heap.size + 1, 1, none⟩ = false := (hb1.frozen (p := ⟨w.heap.size + 1, 1, none⟩) (by simp)).trans (by simp)
  have hB := belowTo (a := w) (by go_grown) hb1
  clear hb1
  go_wp2
  have r0 : ((w1.setCell ⟨w.heap.size + 1, 0, none⟩ (.int .i64 X)).setCell ⟨w.heap.size + 1, 1, none⟩ (.int .i64 Y)).cell? ⟨w.heap.size + 1, 0, none⟩ = some (.int .i64 X) := by
    rw [World.cell?_setCell_other _ _ _ _ (by simp)]
    exact World.cell?_setCell_same _ _ _ t0
  have r1 : ((w1.setCell ⟨w.heap.size + 1, 0, none⟩ (.int .i64 X)).setCell ⟨w.heap.size + 1, 1, none⟩ (.int .i64 Y)).cell? ⟨w.heap.size + 1, 1, none⟩ = some (.int .i64 Y) := by
    refine World.cell?_setCell_same _ _ _ (u := .int .i64 0) ?_
    rw [World.cell?_setCell_other _ _ _ _ (by simp)]
    exact t1
  have hF : Below w.heap.size w ((w1.setCell ⟨w.heap.size + 1, 0, none⟩ (.int .i64 X)).setCell ⟨w.heap.size + 1, 1, none⟩ (.int .i64 Y)) := (hB.setCell (p := ⟨w.heap.size + 1, 0, none⟩) (by simp) _).setCell (p := ⟨w.heap.size + 1, 1, none⟩) (by simp) _
  generalize ((w1.setCell ⟨w.heap.size + 1, 0, none⟩ (.int .i64 X)).setCell ⟨w.heap.size + 1, 1, none⟩ (.int .i64 Y)) = W9 at *
  refine bodyPost_ret (by simp [results, Tryd.results49, go_sem, *]; try rfl) rfl ?_
  exact ⟨rfl, hF⟩
def TimesB (l : List V2) (n : Int) : Bool := polyB l && (decide (1 ≤ n) && decide (n ≤ 20))
def TimesL (l : List V2) (n : Int) : List V2 := gV (TimesB l n && polyB (l.map (timesF n))) (tidyP (l.map (timesF n)))
theorem times_no {l : List V2} {n : Int} (h : TimesB l n = false) : gV (TimesB l n && polyB (l.map (timesF n))) (tidyP (l.map (timesF n))) = [] := by rw [h]; rfl
set_option maxHeartbeats 4000000 in
theorem polygonTimes_any (v : Value) (l : List V2) (n : Int) (w : World) (hl : ReadsVecs w v l) (hg : EtOk w) :
    Calls Tryd.prog 23 #[v, .int .i64 n] w (GivesVecsR w (TimesL l n) (TimesB l n && polyB (l.map (timesF n)))) := by
  have HC := Lib.hid (fun w' (hb : Below w.heap.size w w') => polyCheck_any v l w' (hl.below hb))
  have HCh := Lib.hid (fun w' (hb : Below w.heap.size w w') (c0 : w'.cell? ⟨w.heap.size, 0, none⟩ = some (.int .i64 n)) (hK : polyB l = true) (h1 : 1 ≤ n) (h2 : n ≤ 20) =>
    changedT v l w.heap.size (timesF n) w' (hg.below hb) (hl.below hb) (by have := poly_len hK; omega) (by have := poly_len hK; omega) (fun i => poly_small hK i)
      (fun W x y hW hxy => ptimes1_any x y n w.heap.size W ((hW.cell (p := ⟨w.heap.size, 0, none⟩) (cell_lt c0)).trans c0) hxy h1 h2) (times_big hK h1 h2))
  have HM := Lib.hid (fun (hK : polyB l = true) (h1 : 1 ≤ n) => hull_times hK h1)
  obtain ⟨a, c, rfl, _⟩ := hl
  unfold GivesVecsR TimesL
  have HT : Hid (TimesB l n = (polyB l && (decide (1 ≤ n) && decide (n ≤ 20)))) := rfl
  generalize hTB : TimesB l n = TB at *
  clear hTB
  generalize l.map (timesF n) = L at *
  generalize hKK : polyB l = K at *
  clear hKK
  cases K
  · have hTB : TB = false := by rw [HT.out]; rfl
    subst hTB
    clear HCh HM HT
    go_enter Tryd.func23, Tryd.ntmps23
    go_wp2_with fail
    refine Calls.mono (HC.out _ (by go_grown)) ?_
    rintro e w1 ⟨he, hb1⟩
    rcases polyEnd_of he with ⟨h, _⟩ | ⟨_, s, rfl⟩
    · cases h
    clear he
    have hB1 := belowTo (a := w) (by go_grown) hb1
    clear hb1
    go_wp2_with fail
    refine Calls.mono (none_hit s _ (hg.below hB1)) ?_
    rintro e w2 ⟨rfl, hb2⟩
    have hB2 := belowTo hB1 hb2
    clear hB1 hb2
    go_wp2
    go_returns
    exact ⟨_, rfl, VecsR.nil _ _, hB2⟩
  · by_cases hn : 1 ≤ n ∧ n ≤ 20
    · obtain ⟨h1, h2⟩ := hn
      have hTB : TB = true := by rw [HT.out]; simp [h1, h2]
      subst hTB
      obtain ⟨m1, m2⟩ := HM.out rfl h1
      have HC2 := Lib.hid (fun w' hb c0 => HCh.out w' hb c0 rfl h1 h2)
      rw [m2, m1] at HC2
      unfold GivesVecsR at HC2
      clear HM HCh HT m1 m2
      rw [Bool.true_and]
      generalize gV (polyB L) (tidyP L) = R at *
      generalize polyB L = P at *
      have i1 : ¬ n < 1 := by omega
      have i2 : ¬ 20 < n := by omega
      go_enter Tryd.func23, Tryd.ntmps23
      go_wp2_with fail
      refine Calls.mono (HC.out _ (by go_grown)) ?_
      rintro e w1 ⟨he, hb1⟩
      rcases polyEnd_of he with ⟨_, rfl⟩ | ⟨h, _⟩
      rotate_left
      · cases h
      clear he
      have c1 : w1.cell? ⟨w.heap.size, 0, none⟩ = some (.int .i64 n) := (hb1.cell (p := ⟨w.heap.size, 0, none⟩) (by simp)).trans (by simp)
      have hB1 := belowTo (a := w) (by go_grown) hb1
      clear hb1
      go_wp2_with fail
      refine Calls.mono (none_nil _) ?_
      rintro e w2 ⟨rfl, hb2⟩
      have c2 : w2.cell? ⟨w.heap.size, 0, none⟩ = some (.int .i64 n) := (hb2.cell (p := ⟨w.heap.size, 0, none⟩) (cell_lt c1)).trans c1
      have hB2 := belowTo hB1 hb2
      have hs := hB2.size
      clear hB1 hb2 c1
      go_wp2_with fail
      refine Calls.mono (HC2.out _ hB2 c2) ?_
      rintro e w3 ⟨v3, rfl, I3, hb3⟩
      have HB := Lib.hid (belowTo hB2 hb3)
      have HI3 := Lib.hid (I3.lower hs)
      clear hb3 I3
      go_wp2
      go_returns
      exact ⟨_, rfl, HI3.out, HB.out⟩
    · have hTB : TB = false := by rw [HT.out]; simp; omega
      subst hTB
      clear HCh HM HT
      by_cases h1 : n < 1
      · go_enter Tryd.func23, Tryd.ntmps23
        go_wp2_with fail
        refine Calls.mono (HC.out _ (by go_grown)) ?_
        rintro e w1 ⟨he, hb1⟩
        rcases polyEnd_of he with ⟨_, rfl⟩ | ⟨h, _⟩
        rotate_left
        · cases h
        clear he
        have c1 : w1.cell? ⟨w.heap.size, 0, none⟩ = some (.int .i64 n) := (hb1.cell (p := ⟨w.heap.size, 0, none⟩) (by simp)).trans (by simp)
        have hB1 := belowTo (a := w) (by go_grown) hb1
        clear hb1
        go_wp2_with fail
        refine Calls.mono (none_nil _) ?_
        rintro e w2 ⟨rfl, hb2⟩
        have c2 : w2.cell? ⟨w.heap.size, 0, none⟩ = some (.int .i64 n) := (hb2.cell (p := ⟨w.heap.size, 0, none⟩) (cell_lt c1)).trans c1
        have hB2 := belowTo hB1 hb2
        clear hB1 hb2 c1
        go_wp2
        go_returns
        exact ⟨_, rfl, VecsR.nil _ _, hB2⟩
      · have h2 : 20 < n := by omega
        go_enter Tryd.func23, Tryd.ntmps23
        go_wp2_with fail
        refine Calls.mono (HC.out _ (by go_grown)) ?_
        rintro e w1 ⟨he, hb1⟩
        rcases polyEnd_of he with ⟨_, rfl⟩ | ⟨h, _⟩
        rotate_left
        · cases h
        clear he
        have c1 : w1.cell? ⟨w.heap.size, 0, none⟩ = some (.int .i64 n) := (hb1.cell (p := ⟨w.heap.size, 0, none⟩) (by simp)).trans (by simp)
        have hB1 := belowTo (a := w) (by go_grown) hb1
        clear hb1
        go_wp2_with fail
        refine Calls.mono (none_nil _) ?_
        rintro e w2 ⟨rfl, hb2⟩
        have c2 : w2.cell? ⟨w.heap.size, 0, none⟩ = some (.int .i64 n) := (hb2.cell (p := ⟨w.heap.size, 0, none⟩) (cell_lt c1)).trans c1
        have hB2 := belowTo hB1 hb2
        clear hB1 hb2 c1
        go_wp2
        go_returns
        exact ⟨_, rfl, VecsR.nil _ _, hB2⟩
end Go.Proofs.YthkcopmodfmoeaaDoor
