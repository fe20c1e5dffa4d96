/- Lists of numbers and their fans: the program. -/
import Derived.Test.YtohojjoediibhaaDoorEd
import Derived.Test.YtohojjoediibhaaDoorB9
import Derived.Test.YtohojjoediibhaaDoorVe
import Derived.Test.YtohojjoediibhaaDoorQx
import Derived.Test.YtohojjoediibhaaDoorB2
import Derived.Laws.StructEq
import Derived.ChangeKeysEq
namespace Go.Proofs.YtohojjoediibhaaDoor
open Go.RowKit

set_option maxHeartbeats 400000 in
theorem areNumbers1_any (b n : Int) (B : Nat) (w : World) (hB : w.cell? ⟨B, 0, none⟩ = some (.int .i64 b)) (h0 : 0 ≤ b) (h1 : b ≤ 1) :
    Calls Tryd.prog 158 #[.int .i64 n, .pointer (some ⟨B, 0, none⟩)] w fun e w' => e = .returned (.bool (numP b n)) ∧ w' = w := by
  unfold numP
  go_enter Tryd.func158, Tryd.ntmps158
  go_wp2
  all_goals go_returns
  all_goals (refine ⟨ret_bool ?_, rfl⟩; first | rfl | (rw [Bool.eq_iff_iff]; simp; try (intros; omega)))
set_option maxHeartbeats 4000000 in
theorem everyNum_any (v : Value) (d : List Int) (b : Int) (B : Nat) (w : World) (h : ReadsInts w v d) (hB : w.cell? ⟨B, 0, none⟩ = some (.int .i64 b)) (h0 : 0 ≤ b) (h1 : b ≤ 1) :
    Calls Tryd.prog 135 #[v, .func (.func 158) #[] #[.pointer (some ⟨B, 0, none⟩)]] w fun e w' => e = .returned (.bool (d.all (numP b))) ∧ w' = w := by
  obtain ⟨a, c, rfl, hm, hc⟩ := h
  have HC := Lib.hid hc
  have HCB := Lib.hid hB
  have HB := Lib.hid (fun k hk h => all_bad (p := numP b) (d := d) (k := k) hk h)
  have HG := Lib.hid (fun h => all_good (p := numP b) (d := d) h)
  obtain ⟨n, hn⟩ : ∃ n, n = d.length := ⟨_, rfl⟩
  have HN := Lib.hid hn
  rw [← hn] at hm ⊢
  clear hc hn hB
  go_enter Tryd.func135, Tryd.ntmps135
  go_wp2
  go_loop [9] (fun s => ∃ k : Nat, s = .int .i64 k ∧ k ≤ n ∧ Hid (∀ j, j < k → numP b (gz d j) = true)) (fun s => n - (intOf s).toNat)
  case atStart => exact ⟨0, rfl, Nat.zero_le _, fun j hj => absurd hj (Nat.not_lt_zero _)⟩
  case round =>
    obtain ⟨k, rfl, hk, HR⟩ := hrel
    by_cases hlt : k < n
    · have hkl : k < d.length := by have := HN.out; omega
      obtain ⟨bb, off, rfl, hb, hcell⟩ := HC.out (by omega)
      have c1 : w.cell? ⟨bb, off + k, none⟩ = some (.int .i64 (gz d k)) := hcell k hkl
      have j1 : (0 : Int) ≤ (k : Int) := by omega
      have j2 : (k : Int) < (n : Int) := by omega
      have HI := Lib.hid (areNumbers1_any b (gz d k) B w HCB.out h0 h1)
      cases hz : numP b (gz d k)
      · have HB2 := Lib.hid (HB.out k hkl hz)
        rw [hz] at HI
        clear hz hcell HR
        generalize gz d k = z at c1 HI
        go_wp2_with fail
        refine Calls.mono HI.out ?_
        rintro e w1 ⟨rfl, rfl⟩
        go_wp2
        go_returns
        exact ⟨by rw [HB2.out]; rfl, rfl⟩
      · have HR2 : Hid (∀ j, j < k + 1 → numP b (gz d j) = true) := fun j hj => by
          by_cases e : j = k
          · subst e; exact hz
          · exact HR.out j (by omega)
        rw [hz] at HI
        clear hz hcell HR
        generalize gz d k = z at c1 HI
        go_wp2_with fail
        refine Calls.mono HI.out ?_
        rintro e w1 ⟨rfl, rfl⟩
        go_wp2
        go_round
        case rel => exact ⟨k + 1, by go_num, by omega, HR2⟩
        case measure => simp [intOf]; omega
    · have hkn : k = n := by omega
      subst hkn
      have HA := Lib.hid (HG.out (fun j hj => HR.out j (by have := HN.out; omega)))
      clear HR HC
      go_wp2
      go_returns
      exact ⟨by rw [HA.out]; rfl, rfl⟩
set_option maxHeartbeats 4000000 in
theorem areNumbers_any (v : Value) (d : List Int) (b : Int) (w : World) (h : ReadsInts w v d) (h0 : 0 ≤ b) (h1 : b ≤ 1) :
    Calls Tryd.prog 118 #[v, .int .i64 b] w fun e w' => e = .returned (.bool (areN d b)) ∧ Below w.heap.size w w' := by
  have HE := Lib.hid (fun B w' (hb : Below w.heap.size w w') hB => everyNum_any v d b B w' (h.below hb) hB h0 h1)
  obtain ⟨a, c, rfl, hm, _⟩ := h
  have q1 : IntKind.i64.wrap (20 - b) = 20 - b := by rw [IntKind.wrap_i64]; omega
  have hA : Below w.heap.size w (w.alloc (.cells #[.int .i64 b] 3)) := by go_grown
  have HE2 := Lib.hid (HE.out w.heap.size _ hA (by simp))
  by_cases h3 : 3 ≤ d.length
  · by_cases h20 : (d.length : Int) ≤ 20 - b
    · have e1 : areN d b = d.all (numP b) := by simp [areN, h3, h20]
      rw [e1]
      generalize d.all (numP b) = K at *
      have j1 : (3 : Int) ≤ (d.length : Int) := by omega
      generalize d.length = n at *
      clear HE e1 hm
      go_enter Tryd.func118, Tryd.ntmps118
      go_wp2_with fail
      refine Calls.mono HE2.out ?_
      rintro e w1 ⟨rfl, rfl⟩
      go_wp2
      go_returns
      exact ⟨by cases K <;> rfl, hA⟩
    · have e1 : areN d b = false := by simp [areN, h20]
      rw [e1]
      have j1 : (3 : Int) ≤ (d.length : Int) := by omega
      have j2 : decide ((3 : Int) ≤ (d.length : Int)) = true := by simpa using j1
      have j3 : decide ((d.length : Int) ≤ 20 - b) = false := by simpa using h20
      generalize d.length = n at *
      clear HE HE2 e1 hm
      go_enter Tryd.func118, Tryd.ntmps118
      go_wp2
      go_returns
      exact ⟨rfl, hA⟩
  · have e1 : areN d b = false := by simp [areN, h3]
    rw [e1]
    have j1 : ¬ (3 : Int) ≤ (d.length : Int) := by omega
    have j2 : decide ((3 : Int) ≤ (d.length : Int)) = false := by simpa using j1
    generalize d.length = n at *
    clear HE HE2 e1 hm
    go_enter Tryd.func118, Tryd.ntmps118
    go_wp2
    go_returns
    exact ⟨rfl, hA⟩

/-! a pair of rays -/
set_option maxHeartbeats 1000000 in
theorem timesE_any (x y n : Int) (w : World) (hx : -2000000000 ≤ x * n ∧ x * n ≤ 2000000000) (hy : -2000000000 ≤ y * n ∧ y * n ≤ 2000000000) :
    Calls Tryd.prog 112 #[.agg #[.int .i64 (x), .int .i64 (y)], .int .i64 n] w fun e w' => e = .returned (.agg #[.int .i64 (x * n), .int .i64 (y * n)]) ∧ Below w.heap.size w w' := by
  obtain ⟨_, _⟩ := hx
  obtain ⟨_, _⟩ := hy
  go_enter Tryd.func112, Tryd.ntmps112
  go_wp2
  go_returns
  exact ⟨rfl, by go_grown⟩
set_option maxHeartbeats 1000000 in
theorem minusE_any (x1 y1 x2 y2 : Int) (w : World) (h1 : -2000000000 ≤ x1 ∧ x1 ≤ 2000000000) (h2 : -2000000000 ≤ y1 ∧ y1 ≤ 2000000000) (h3 : -1000 ≤ x2 ∧ x2 ≤ 1000) (h4 : -1000 ≤ y2 ∧ y2 ≤ 1000) :
    Calls Tryd.prog 184 #[.agg #[.int .i64 (x1), .int .i64 (y1)], .agg #[.int .i64 (x2), .int .i64 (y2)]] w fun e w' => e = .returned (.agg #[.int .i64 (x1 - x2), .int .i64 (y1 - y2)]) ∧ Below w.heap.size w w' := by
  obtain ⟨_, _⟩ := h1
  obtain ⟨_, _⟩ := h2
  obtain ⟨_, _⟩ := h3
  obtain ⟨_, _⟩ := h4
  go_enter Tryd.func184, Tryd.ntmps184
  go_wp2
  go_returns
  exact ⟨rfl, by go_grown⟩
set_option maxHeartbeats 4000000 in
theorem next_any (x1 y1 x2 y2 a : Int) (w : World) (h1 : vecB x1 y1 = true) (h2 : vecB x2 y2 = true) (ha : -100 ≤ a ∧ a ≤ 100) :
    Calls Tryd.prog 162 #[.agg #[.int .i64 (x1), .int .i64 (y1), .int .i64 (x2), .int .i64 (y2)], .int .i64 a] w fun e w' => e = .returned (.agg #[.int .i64 (x2), .int .i64 (y2), .int .i64 (x2 * -a - x1), .int .i64 (y2 * -a - y1)]) ∧ Below w.heap.size w w' := by
  obtain ⟨⟨x1l, x1h⟩, y1l, y1h⟩ := szs h1
  have s2 := szs h2
  have b1 := step_bd ha s2.1
  have b2 := step_bd ha s2.2
  have HT := Lib.hid (fun w' => timesE_any x2 y2 (-a) w' (by omega) (by omega))
  have HM := Lib.hid (fun w' => minusE_any (x2 * -a) (y2 * -a) x1 y1 w' (by omega) (by omega) ⟨x1l, x1h⟩ ⟨y1l, y1h⟩)
  have q1 : IntKind.i64.wrap (-a) = -a := by rw [IntKind.wrap_i64]; omega
  clear h1 h2 s2 b1 b2
  generalize x2 * -a = p at *
  generalize y2 * -a = q at *
  go_enter Tryd.func162, Tryd.ntmps162
  go_wp2
  go_region_held3 (fun w' => w'.cell? ⟨w.heap.size, 0, none⟩ = some (.int .i64 (x1)) ∧ w'.cell? ⟨w.heap.size, 1, none⟩ = some (.int .i64 (y1)) ∧ w'.cell? ⟨w.heap.size, 2, none⟩ = some (.int .i64 (x2)) ∧ w'.cell? ⟨w.heap.size, 3, none⟩ = some (.int .i64 (y2)) ∧ Below w.heap.size w w') ((go_split_ands; refine ⟨by (first | (with_reducible assumption) | (go_keep; done) | (go_cell; done) | (go_simp; done) | (simp [*]; done)), by (first | (with_reducible assumption) | (go_keep; done) | (go_cell; done) | (go_simp; done) | (simp [*]; done)), by (first | (with_reducible assumption) | (go_keep; done) | (go_cell; done) | (go_simp; done) | (simp [*]; done)), by (first | (with_reducible assumption) | (go_keep; done) | (go_cell; done) | (go_simp; done) | (simp [*]; done)), by first | (with_reducible assumption) | (go_grown; done)⟩)) (first | (go_at_call 112; go_call (HT.out _) as e w1 ⟨rfl, hb0⟩; go_split_ands; have q0 : w1.cell? ⟨w.heap.size, 0, none⟩ = some (.int .i64 (x1)) := (hb0.cell (p := ⟨w.heap.size, 0, none⟩) (by first | (with_reducible assumption) | (go_size; done) | (simp; omega))).trans (by first | (with_reducible assumption) | (go_keep; done) | (go_cell; done) | (go_simp; done) | (simp [*]; done)); have q1 : w1.cell? ⟨w.heap.size, 1, none⟩ = some (.int .i64 (y1)) := (hb0.cell (p := ⟨w.heap.size, 1, none⟩) (by first | (with_reducible assumption) | (go_size; done) | (simp; omega))).trans (by first | (with_reducible assumption) | (go_keep; done) | (go_cell; done) | (go_simp; done) | (simp [*]; done)); have q2 : w1.cell? ⟨w.heap.size, 2, none⟩ = some (.int .i64 (x2)) := (hb0.cell (p := ⟨w.heap.size, 2, none⟩) (by first | (with_reducible assumption) | (go_size; done) | (simp; omega))).trans (by first | (with_reducible assumption) | (go_keep; done) | (go_cell; done) | (go_simp; done) | (simp [*]; done)); have q3 : w1.cell? ⟨w.heap.size, 3, none⟩ = some (.int .i64 (y2)) := (hb0.cell (p := ⟨w.heap.size, 3, none⟩) (by first | (with_reducible assumption) | (go_size; done) | (simp; omega))).trans (by first | (with_reducible assumption) | (go_keep; done) | (go_cell; done) | (go_simp; done) | (simp [*]; done)); have q4 : w1.cell? ⟨w.heap.size + 1, 0, none⟩ = some (.int .i64 (0)) := (hb0.cell (p := ⟨w.heap.size + 1, 0, none⟩) (by first | (with_reducible assumption) | (go_size; done) | (simp; omega))).trans (by first | (with_reducible assumption) | (go_keep; done) | (go_cell; done) | (go_simp; done) | (simp [*]; done)); have q5 : w1.cell? ⟨w.heap.size + 1, 1, none⟩ = some (.int .i64 (0)) := (hb0.cell (p := ⟨w.heap.size + 1, 1, none⟩) (by first | (with_reducible assumption) | (go_size; done) | (simp; omega))).trans (by first | (with_reducible assumption) | (go_keep; done) | (go_cell; done) | (go_simp; done) | (simp [*]; done)); have q6 : w1.cell? ⟨w.heap.size + 1, 2, none⟩ = some (.int .i64 (0)) := (hb0.cell (p := ⟨w.heap.size + 1, 2, none⟩) (by first | (with_reducible assumption) | (go_size; done) | (simp; omega))).trans (by first | (with_reducible assumption) | (go_keep; done) | (go_cell; done) | (go_simp; done) | (simp [*]; done)); have q7 : w1.cell? ⟨w.heap.size + 1, 3, none⟩ = some (.int .i64 (0)) := (hb0.cell (p := ⟨w.heap.size + 1, 3, none⟩) (by first | (with_reducible assumption) | (go_size; done) | (simp; omega))).trans (by first | (with_reducible assumption) | (go_keep; done) | (go_cell; done) | (go_simp; done) | (simp [*]; done)); have qf0 : w1.frozen? ⟨w.heap.size + 1, 0, none⟩ = false := (hb0.frozen (p := ⟨w.heap.size + 1, 0, none⟩) (by first | (with_reducible assumption) | (go_size; done) | (simp; omega))).trans (by first | (with_reducible assumption) | (go_keep; done) | (go_cell; done) | (go_simp; done) | (simp [*]; done)); have qf1 : w1.frozen? ⟨w.heap.size + 1, 1, none⟩ = false := (hb0.frozen (p := ⟨w.heap.size + 1, 1, none⟩) (by first | (with_reducible assumption) | (go_size; done) | (simp; omega))).trans (by first | (with_reducible assumption) | (go_keep; done) | (go_cell; done) | (go_simp; done) | (simp [*]; done)); have qf2 : w1.frozen? ⟨w.heap.size + 1, 2, none⟩ = false := (hb0.frozen (p := ⟨w.heap.size + 1, 2, none⟩) (by first | (with_reducible assumption) | (go_size; done) | (simp; omega))).trans (by first | (with_reducible assumption) | (go_keep; done) | (go_cell; done) | (go_simp; done) | (simp [*]; done)); have qf3 : w1.frozen? ⟨w.heap.size + 1, 3, none⟩ = false := (hb0.frozen (p := ⟨w.heap.size + 1, 3, none⟩) (by first | (with_reducible assumption) | (go_size; done) | (simp; omega))).trans (by first | (with_reducible assumption) | (go_keep; done) | (go_cell; done) | (go_simp; done) | (simp [*]; done)); have hs0 : w.heap.size < w1.heap.size := Nat.lt_of_lt_of_le (by first | (with_reducible assumption) | (go_size; done) | (simp; omega)) hb0.size; have hs1 : w.heap.size + 1 < w1.heap.size := Nat.lt_of_lt_of_le (by first | (with_reducible assumption) | (go_size; done) | (simp; omega)) hb0.size; have hT : Below w.heap.size w w1 := belowTo (by first | (with_reducible assumption) | (go_grown; done)) hb0; have hTs := hT.size; clear hb0) | (go_at_call 184; go_call (HM.out _) as e w1 ⟨rfl, hb0⟩; go_split_ands; have q0 : w1.cell? ⟨w.heap.size, 0, none⟩ = some (.int .i64 (x1)) := (hb0.cell (p := ⟨w.heap.size, 0, none⟩) (by first | (with_reducible assumption) | (go_size; done) | (simp; omega))).trans (by first | (with_reducible assumption) | (go_keep; done) | (go_cell; done) | (go_simp; done) | (simp [*]; done)); have q1 : w1.cell? ⟨w.heap.size, 1, none⟩ = some (.int .i64 (y1)) := (hb0.cell (p := ⟨w.heap.size, 1, none⟩) (by first | (with_reducible assumption) | (go_size; done) | (simp; omega))).trans (by first | (with_reducible assumption) | (go_keep; done) | (go_cell; done) | (go_simp; done) | (simp [*]; done)); have q2 : w1.cell? ⟨w.heap.size, 2, none⟩ = some (.int .i64 (x2)) := (hb0.cell (p := ⟨w.heap.size, 2, none⟩) (by first | (with_reducible assumption) | (go_size; done) | (simp; omega))).trans (by first | (with_reducible assumption) | (go_keep; done) | (go_cell; done) | (go_simp; done) | (simp [*]; done)); have q3 : w1.cell? ⟨w.heap.size, 3, none⟩ = some (.int .i64 (y2)) := (hb0.cell (p := ⟨w.heap.size, 3, none⟩) (by first | (with_reducible assumption) | (go_size; done) | (simp; omega))).trans (by first | (with_reducible assumption) | (go_keep; done) | (go_cell; done) | (go_simp; done) | (simp [*]; done)); have q4 : w1.cell? ⟨w.heap.size + 1, 0, none⟩ = some (.int .i64 (0)) := (hb0.cell (p := ⟨w.heap.size + 1, 0, none⟩) (by first | (with_reducible assumption) | (go_size; done) | (simp; omega))).trans (by first | (with_reducible assumption) | (go_keep; done) | (go_cell; done) | (go_simp; done) | (simp [*]; done)); have q5 : w1.cell? ⟨w.heap.size + 1, 1, none⟩ = some (.int .i64 (0)) := (hb0.cell (p := ⟨w.heap.size + 1, 1, none⟩) (by first | (with_reducible assumption) | (go_size; done) | (simp; omega))).trans (by first | (with_reducible assumption) | (go_keep; done) | (go_cell; done) | (go_simp; done) | (simp [*]; done)); have q6 : w1.cell? ⟨w.heap.size + 1, 2, none⟩ = some (.int .i64 (0)) := (hb0.cell (p := ⟨w.heap.size + 1, 2, none⟩) (by first | (with_reducible assumption) | (go_size; done) | (simp; omega))).trans (by first | (with_reducible assumption) | (go_keep; done) | (go_cell; done) | (go_simp; done) | (simp [*]; done)); have q7 : w1.cell? ⟨w.heap.size + 1, 3, none⟩ = some (.int .i64 (0)) := (hb0.cell (p := ⟨w.heap.size + 1, 3, none⟩) (by first | (with_reducible assumption) | (go_size; done) | (simp; omega))).trans (by first | (with_reducible assumption) | (go_keep; done) | (go_cell; done) | (go_simp; done) | (simp [*]; done)); have qf0 : w1.frozen? ⟨w.heap.size + 1, 0, none⟩ = false := (hb0.frozen (p := ⟨w.heap.size + 1, 0, none⟩) (by first | (with_reducible assumption) | (go_size; done) | (simp; omega))).trans (by first | (with_reducible assumption) | (go_keep; done) | (go_cell; done) | (go_simp; done) | (simp [*]; done)); have qf1 : w1.frozen? ⟨w.heap.size + 1, 1, none⟩ = false := (hb0.frozen (p := ⟨w.heap.size + 1, 1, none⟩) (by first | (with_reducible assumption) | (go_size; done) | (simp; omega))).trans (by first | (with_reducible assumption) | (go_keep; done) | (go_cell; done) | (go_simp; done) | (simp [*]; done)); have qf2 : w1.frozen? ⟨w.heap.size + 1, 2, none⟩ = false := (hb0.frozen (p := ⟨w.heap.size + 1, 2, none⟩) (by first | (with_reducible assumption) | (go_size; done) | (simp; omega))).trans (by first | (with_reducible assumption) | (go_keep; done) | (go_cell; done) | (go_simp; done) | (simp [*]; done)); have qf3 : w1.frozen? ⟨w.heap.size + 1, 3, none⟩ = false := (hb0.frozen (p := ⟨w.heap.size + 1, 3, none⟩) (by first | (with_reducible assumption) | (go_size; done) | (simp; omega))).trans (by first | (with_reducible assumption) | (go_keep; done) | (go_cell; done) | (go_simp; done) | (simp [*]; done)); have hs0 : w.heap.size < w1.heap.size := Nat.lt_of_lt_of_le (by first | (with_reducible assumption) | (go_size; done) | (simp; omega)) hb0.size; have hs1 : w.heap.size + 1 < w1.heap.size := Nat.lt_of_lt_of_le (by first | (with_reducible assumption) | (go_size; done) | (simp; omega)) hb0.size; have hT : Below w.heap.size w w1 := belowTo (by first | (with_reducible assumption) | (go_grown; done)) hb0; have hTs := hT.size; clear hb0))
  all_goals
    go_wp2
    refine bodyPost_ret (by simp [results, Tryd.results162, go_sem, *]; try rfl) rfl ?_
    exact ⟨rfl, by go_grown⟩
set_option maxHeartbeats 4000000 in
theorem pairCheck_any (x1 y1 x2 y2 : Int) (w : World) :
    Calls Tryd.prog 163 #[.agg #[.int .i64 (x1), .int .i64 (y1), .int .i64 (x2), .int .i64 (y2)]] w fun e w' => CheckEnd (twoOk x1 y1 x2 y2) e ∧ Below w.heap.size w w' := by
  have HB0 := Lib.hid (fun b w' (h : twoOk x1 y1 x2 y2 = false) => checkAll_vv_out x1 y1 x2 y2 b w' h)
  have HG0 := Lib.hid (fun b w' (h1 : vecB x1 y1 = true) (h2 : vecB x2 y2 = true) => checkAll_vv_in x1 y1 x2 y2 b w' h1 h2)
  have HT : Hid (twoOk x1 y1 x2 y2 = true → vecB x1 y1 = true ∧ vecB x2 y2 = true) := fun h => by simpa [twoOk] using h
  cases hk : twoOk x1 y1 x2 y2
  · have HC := Lib.hid (fun b w' => HB0.out b w' hk)
    clear HB0 HG0 HT hk
    go_enter Tryd.func163, Tryd.ntmps163
    go_wp2_with fail
    refine Calls.mono (HC.out _ _ (by first | (go_cell; done) | (go_simp; done) | (simp; done)) (by first | (go_cell; done) | (go_simp; done) | (simp; done)) (by simp)) ?_
    rintro e w1 ⟨rfl, hb1⟩
    have hB : Below w.heap.size w w1 := belowTo (by go_grown) hb1
    clear hb1
    go_wp2
    refine bodyPost_ret (by simp [results, Tryd.results163, go_sem, *]; try rfl) rfl ?_
    exact ⟨⟨_, rfl⟩, hB⟩
  · obtain ⟨h1, h2⟩ := HT.out hk
    have HC := Lib.hid (fun b w' => HG0.out b w' h1 h2)
    clear HB0 HG0 HT hk h1 h2
    go_enter Tryd.func163, Tryd.ntmps163
    go_wp2_with fail
    refine Calls.mono (HC.out _ _ (by first | (go_cell; done) | (go_simp; done) | (simp; done)) (by first | (go_cell; done) | (go_simp; done) | (simp; done)) (by simp)) ?_
    rintro e w1 ⟨rfl, hb1⟩
    have hB : Below w.heap.size w w1 := belowTo (by go_grown) hb1
    clear hb1
    go_wp2
    refine bodyPost_ret (by simp [results, Tryd.results163, go_sem, *]; try rfl) rfl ?_
    exact ⟨rfl, hB⟩
end Go.Proofs.YtohojjoediibhaaDoor
