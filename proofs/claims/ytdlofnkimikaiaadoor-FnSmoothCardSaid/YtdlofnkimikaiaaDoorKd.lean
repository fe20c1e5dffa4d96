/- Fans: the kind of a fan with at most four rays: the mathematics, slices.Equal. -/
import Derived.Test.YtdlofnkimikaiaaDoorB9
import Derived.Test.YtdlofnkimikaiaaDoorBf
namespace Go.Proofs.YtdlofnkimikaiaaDoor
open Go.RowKit

theorem num_two {l : List V2} (h4 : l.length = 4) (i : Nat) : numZ l (i + 2) = -numZ l i := by
  unfold numZ
  rw [h4, show i + 2 + 4 - 1 = (i + 1) + 4 by omega, show i + 2 + 1 = i + 4 - 1 by omega]
  have e : cyc l (i + 1 + 4) = cyc l (i + 1) := by
    have := cyc_add l (i + 1)
    rwa [h4] at this
  rw [e]
  unfold detV detZ
  rw [Int.mul_comm (cyc l (i + 4 - 1)).1, Int.mul_comm (cyc l (i + 4 - 1)).2]
  omega
theorem num_cross {l : List V2} (h4 : l.length = 4) (hS : Smooth l) (i : Nat) : numZ l i * numZ l (i + 1) = 0 := by
  have a : cyc l (i + 4) = cyc l i := by
    have := cyc_add l i
    rwa [h4] at this
  have d0 := hS.2 i
  have d1 := hS.2 (i + 1)
  have d2 := hS.2 (i + 2)
  have d3 := hS.2 (i + 3)
  rw [show i + 3 + 1 = i + 4 by omega, a] at d3
  have t0 := three d3 d0
  have t1 := three d0 d1
  have t2 := three d1 d2
  have e0 : numZ l i = -detV (cyc l (i + 3)) (cyc l (i + 1)) := by
    unfold numZ
    rw [h4, show i + 4 - 1 = i + 3 by omega]
  have e1 : numZ l (i + 1) = -detV (cyc l i) (cyc l (i + 2)) := by
    unfold numZ
    rw [h4, show i + 1 + 4 - 1 = i + 4 by omega, a]
  have e2 : detV (cyc l (i + 1)) (cyc l (i + 3)) = -detV (cyc l (i + 3)) (cyc l (i + 1)) := det_flip _ _
  rw [e0, e1]
  rw [show i + 1 + 1 = i + 2 by omega] at t1 t2 d1
  rw [show i + 2 + 1 = i + 3 by omega] at t2 d2
  rw [e2] at t2
  generalize detV (cyc l (i + 3)) (cyc l (i + 1)) = d at *
  generalize detV (cyc l i) (cyc l (i + 2)) = f at *
  have hp : (cyc l (i + 1)).1 ≠ 0 ∨ (cyc l (i + 1)).2 ≠ 0 := by
    by_cases hx : (cyc l (i + 1)).1 = 0
    · refine .inr (fun hy => ?_)
      simp [detV, detZ, hx, hy] at d0
    · exact .inl hx
  obtain ⟨t0x, t0y⟩ := t0
  obtain ⟨t1x, t1y⟩ := t1
  obtain ⟨t2x, t2y⟩ := t2
  have kx : d * (f * (cyc l (i + 1)).1) = 0 := by
    rw [← t1x, Int.mul_add]
    rw [Int.neg_mul] at t2x
    omega
  have ky : d * (f * (cyc l (i + 1)).2) = 0 := by
    rw [← t1y, Int.mul_add]
    rw [Int.neg_mul] at t2y
    omega
  rw [Int.neg_mul_neg]
  rcases hp with hp | hp
  · rw [← Int.mul_assoc] at kx
    rcases Int.mul_eq_zero.1 kx with k | k
    · exact k
    · exact absurd k hp
  · rw [← Int.mul_assoc] at ky
    rcases Int.mul_eq_zero.1 ky with k | k
    · exact k
    · exact absurd k hp
/-- what the two numbers that are not forced say -/
def kindM (l : List V2) : Int := (if 0 ≤ numZ l 0 then numZ l 0 else -numZ l 0) + (if 0 ≤ numZ l 1 then numZ l 1 else -numZ l 1)
def kind4 (l : List V2) : Int := if l.length = 3 then -1 else if l.length = 4 then kindM l else 0
def kindOk (l : List V2) : Bool := decide (l.length ≤ 4)
/-- the list of numbers, read from the link x on, is 0, k, 0, -k with k not negative -/
def fromB (l : List V2) (x : Nat) : Bool := decide (l.length = 4) && (decide (0 ≤ numZ l (x + 1)) && (numZ l x == 0))
theorem four_cases {l : List V2} (h4 : l.length = 4) (hS : Smooth l) : (numZ l 0 = 0 ∨ numZ l 1 = 0) ∧ numZ l 2 = -numZ l 0 ∧ numZ l 3 = -numZ l 1 ∧ numZ l 4 = numZ l 0 := by
  have h := num_cross h4 hS 0
  have a : numZ l 2 = _ := num_two h4 0
  have b : numZ l 3 = _ := num_two h4 1
  have c : numZ l 4 = _ := num_two h4 2
  refine ⟨Int.mul_eq_zero.1 h, a, b, ?_⟩
  rw [c, a, Int.neg_neg]
theorem from_some {l : List V2} (h4 : l.length = 4) (hS : Smooth l) : ∃ x, x < 4 ∧ fromB l x = true := by
  obtain ⟨h, h2, h3, h4'⟩ := four_cases h4 hS
  unfold fromB
  rw [show decide (l.length = 4) = true by simpa using h4]
  rcases h with h | h
  · by_cases hk : 0 ≤ numZ l 1
    · exact ⟨0, by omega, by simp [h, hk]⟩
    · exact ⟨2, by omega, by
        rw [show 2 + 1 = 3 from rfl, h2, h3, h]
        simp
        omega⟩
  · by_cases hk : 0 ≤ numZ l 0
    · exact ⟨3, by omega, by
        rw [show 3 + 1 = 4 from rfl, h3, h4', h]
        simp
        omega⟩
    · exact ⟨1, by omega, by
        rw [show 1 + 1 = 2 from rfl, h2, h]
        simp
        omega⟩
theorem from_kind {l : List V2} (hS : Smooth l) {x : Nat} (hx : x < 4) (h : fromB l x = true) : kind4 l = numZ l (x + 1) ∧ kindOk l = true := by
  unfold fromB at h
  rw [Bool.and_eq_true, Bool.and_eq_true] at h
  obtain ⟨h4, hk, hz⟩ := h
  have h4 := of_decide_eq_true h4
  have hk := of_decide_eq_true hk
  have hz : numZ l x = 0 := by simpa using hz
  obtain ⟨_, h2, h3, h4'⟩ := four_cases h4 hS
  refine ⟨?_, by unfold kindOk; rw [h4]; rfl⟩
  unfold kind4 kindM
  rw [h4, if_neg (by omega), if_pos rfl]
  match x, hx with
  | 0, _ => rw [show 0 + 1 = 1 from rfl] at *; (repeat' split) <;> omega
  | 1, _ => rw [show 1 + 1 = 2 from rfl] at *; (repeat' split) <;> omega
  | 2, _ => rw [show 2 + 1 = 3 from rfl] at *; (repeat' split) <;> omega
  | 3, _ => rw [show 3 + 1 = 4 from rfl] at *; (repeat' split) <;> omega
def eqB (n : Nat) (X Y : Nat → Int) : Bool := (List.range n).all (fun j => X j == Y j)
theorem eqB_true {n : Nat} {X Y : Nat → Int} (h : ∀ j, j < n → X j = Y j) : eqB n X Y = true := List.all_eq_true.2 (fun j hj => by simpa using h j (List.mem_range.1 hj))
theorem eqB_false {n k : Nat} {X Y : Nat → Int} (hk : k < n) (h : X k ≠ Y k) : eqB n X Y = false := by
  unfold eqB
  rw [List.all_eq_false]
  exact ⟨k, List.mem_range.2 hk, by simpa using h⟩
theorem eqB_four (X Y : Nat → Int) : eqB 4 X Y = ((X 0 == Y 0) && ((X 1 == Y 1) && ((X 2 == Y 2) && (X 3 == Y 3)))) := by
  unfold eqB
  show (X 0 == Y 0 && (X 1 == Y 1 && (X 2 == Y 2 && (X 3 == Y 3 && true)))) = _
  rw [Bool.and_true]
set_option maxHeartbeats 1000000 in
theorem slEqual_ne (a b : Option Addr) (n m c d : Nat) (w : World) (h : n ≠ m) :
    Calls Tryd.prog 124 #[.slice a n c, .slice b m d] w fun e w' => e = .returned (.bool false) ∧ w = w' := by
  have j1 : ¬ (n : Int) = (m : Int) := by omega
  have j2 : ((n : Int) == (m : Int)) = false := by simpa using j1
  have j3 : ((n : Int) != (m : Int)) = true := by simp [bne, j2]
  go_enter Tryd.func124, Tryd.ntmps124
  go_wp2
  go_returns
  exact ⟨rfl, rfl⟩
set_option maxHeartbeats 4000000 in
theorem slEqual_any (bb off bb2 off2 n c d : Nat) (X Y : Nat → Int) (w : World) (hx : ∀ j, j < n → w.cell? ⟨bb, off + j, none⟩ = some (.int .i64 (X j))) (hy : ∀ j, j < n → w.cell? ⟨bb2, off2 + j, none⟩ = some (.int .i64 (Y j))) (hn : n ≤ 1000) (hb : bb < w.heap.size) (hb2 : bb2 < w.heap.size) :
    Calls Tryd.prog 124 #[.slice (some ⟨bb, off, none⟩) n c, .slice (some ⟨bb2, off2, none⟩) n d] w fun e w' => e = .returned (.bool (eqB n X Y)) ∧ Below w.heap.size w w' := by
  have HX := Lib.hid (fun wr (hw : Below w.heap.size w wr) j hj => (hw.cell (p := ⟨bb, off + j, none⟩) hb).trans (hx j hj))
  have HY := Lib.hid (fun wr (hw : Below w.heap.size w wr) j hj => (hw.cell (p := ⟨bb2, off2 + j, none⟩) hb2).trans (hy j hj))
  clear hx hy
  go_enter Tryd.func124, Tryd.ntmps124
  go_wp2
  go_loopw [13] (fun s wr => ∃ k : Nat, k ≤ n ∧ s = .int .i64 k ∧ Hid (∀ j, j < k → X j = Y j) ∧ Below w.heap.size w wr) (fun s _ => n - (intOf s).toNat)
  case atStart => exact ⟨0, Nat.zero_le _, rfl, fun j hj => by omega, Below.refl _ _⟩
  case round =>
    obtain ⟨k, hk, rfl, hE, hB⟩ := hrel
    have i1 : (0 : Int) ≤ (k : Int) := by omega
    by_cases hlt : k < n
    · have i2 : (k : Int) < (n : Int) := by omega
      have c1 := HX.out wr hB k hlt
      have c2 := HY.out wr hB k hlt
      have l1 := Nat.lt_of_lt_of_le hb hB.size
      have l2 := Nat.lt_of_lt_of_le hb2 hB.size
      have HN := Lib.hid (fun h => eqB_false (X := X) (Y := Y) hlt h)
      have HK : Hid (X k = Y k → ∀ j, j < k + 1 → X j = Y j) := fun h j hj => by
        by_cases e : j = k
        · subst e; exact h
        · exact hE.out j (by omega)
      have hBd : Below w.heap.size w wr.drew := hB.trans (by go_grown)
      generalize X k = p at *
      generalize Y k = q at *
      by_cases hpq : p = q
      · subst hpq
        have HK2 := Lib.hid (HK.out rfl)
        go_wp2
        refine wp_region_any (by kernel_rfl) ?_
        try (change wpAny _ _ _ _ _ _ _ (World.drew _))
        refine wpAny_take (i := 0) (v := ?_) rfl (by kernel_rfl) (by kernel_rfl) (by kernel_rfl) (fun _ _ _ h => h) (Or.inl ⟨by rfl, ?_⟩) ?_
        rotate_left
        focus (intro w0; go_simp; try with_reducible rfl)
        refine wpAny_take (i := 1) (v := ?_) rfl (by kernel_rfl) (by kernel_rfl) (by kernel_rfl) (fun _ _ _ h => h) (Or.inl ⟨by rfl, ?_⟩) ?_
        rotate_left
        focus (intro w0; go_simp; try with_reducible rfl)
        refine wpAny_take (i := 2) (v := ?_) rfl (by kernel_rfl) (by kernel_rfl) (by kernel_rfl) (fun _ _ _ h => h) (Or.inl ⟨by rfl, ?_⟩) ?_
        rotate_left
        focus (intro w0; go_simp; try with_reducible rfl)
        refine wpAny_take (i := 4) (v := ?_) rfl (by kernel_rfl) (by kernel_rfl) (by kernel_rfl) (fun _ _ _ h => h) (Or.inl ⟨by rfl, ?_⟩) ?_
        rotate_left
        focus (intro w0; go_simp; try with_reducible rfl)
        refine wpAny_take (i := 5) (v := ?_) rfl (by kernel_rfl) (by kernel_rfl) (by kernel_rfl) (fun _ _ _ h => h) (Or.inl ⟨by rfl, ?_⟩) ?_
        rotate_left
        focus (intro w0; go_simp; try with_reducible rfl)
        refine wpAny_take (i := 6) (v := ?_) rfl (by kernel_rfl) (by kernel_rfl) (by kernel_rfl) (fun _ _ _ h => h) (Or.inl ⟨by rfl, ?_⟩) ?_
        rotate_left
        focus (intro w0; go_simp; try with_reducible rfl)
        refine wpAny_ready (rs := [3, 7]) (by kernel_rfl) (by simp) (AllReady.cons rfl (fun K hK => ?_) (AllReady.cons rfl (fun K hK => ?_) (AllReady.nil)))
        focus
          go_simp
          refine hK _ _ ?_
          clear hK K
          refine wpAny_ready (rs := [7]) (by kernel_rfl) (by simp) (AllReady.cons rfl (fun K hK => ?_) (AllReady.nil))
          go_simp
          refine hK _ _ ?_
          clear hK K
          refine wpAny_seq 8 rfl (by kernel_rfl) ?_
          simp only [List.drop_succ_cons, List.drop_zero]
        rotate_left 1
        focus
          go_simp
          refine hK _ _ ?_
          clear hK K
          refine wpAny_ready (rs := [3]) (by kernel_rfl) (by simp) (AllReady.cons rfl (fun K hK => ?_) (AllReady.nil))
          go_simp
          refine hK _ _ ?_
          clear hK K
          refine wpAny_seq 8 rfl (by kernel_rfl) ?_
          simp only [List.drop_succ_cons, List.drop_zero]
        all_goals
          go_wp2
          go_roundw
          case rel => exact ⟨k + 1, by omega, by go_num, HK2, hBd⟩
          case measure => simp [intOf]; omega
      · have hq1 : (p == q) = false := by simpa using hpq
        have hq2 : (p != q) = true := by simp [bne, hq1]
        have HF := Lib.hid (HN.out hpq)
        go_wp2
        refine wp_region_any (by kernel_rfl) ?_
        try (change wpAny _ _ _ _ _ _ _ (World.drew _))
        refine wpAny_take (i := 0) (v := ?_) rfl (by kernel_rfl) (by kernel_rfl) (by kernel_rfl) (fun _ _ _ h => h) (Or.inl ⟨by rfl, ?_⟩) ?_
        rotate_left
        focus (intro w0; go_simp; try with_reducible rfl)
        refine wpAny_take (i := 1) (v := ?_) rfl (by kernel_rfl) (by kernel_rfl) (by kernel_rfl) (fun _ _ _ h => h) (Or.inl ⟨by rfl, ?_⟩) ?_
        rotate_left
        focus (intro w0; go_simp; try with_reducible rfl)
        refine wpAny_take (i := 2) (v := ?_) rfl (by kernel_rfl) (by kernel_rfl) (by kernel_rfl) (fun _ _ _ h => h) (Or.inl ⟨by rfl, ?_⟩) ?_
        rotate_left
        focus (intro w0; go_simp; try with_reducible rfl)
        refine wpAny_take (i := 4) (v := ?_) rfl (by kernel_rfl) (by kernel_rfl) (by kernel_rfl) (fun _ _ _ h => h) (Or.inl ⟨by rfl, ?_⟩) ?_
        rotate_left
        focus (intro w0; go_simp; try with_reducible rfl)
        refine wpAny_take (i := 5) (v := ?_) rfl (by kernel_rfl) (by kernel_rfl) (by kernel_rfl) (fun _ _ _ h => h) (Or.inl ⟨by rfl, ?_⟩) ?_
        rotate_left
        focus (intro w0; go_simp; try with_reducible rfl)
        refine wpAny_take (i := 6) (v := ?_) rfl (by kernel_rfl) (by kernel_rfl) (by kernel_rfl) (fun _ _ _ h => h) (Or.inl ⟨by rfl, ?_⟩) ?_
        rotate_left
        focus (intro w0; go_simp; try with_reducible rfl)
        refine wpAny_ready (rs := [3, 7]) (by kernel_rfl) (by simp) (AllReady.cons rfl (fun K hK => ?_) (AllReady.cons rfl (fun K hK => ?_) (AllReady.nil)))
        focus
          go_simp
          refine hK _ _ ?_
          clear hK K
          refine wpAny_ready (rs := [7]) (by kernel_rfl) (by simp) (AllReady.cons rfl (fun K hK => ?_) (AllReady.nil))
          go_simp
          refine hK _ _ ?_
          clear hK K
          refine wpAny_seq 8 rfl (by kernel_rfl) ?_
          simp only [List.drop_succ_cons, List.drop_zero]
        rotate_left 1
        focus
          go_simp
          refine hK _ _ ?_
          clear hK K
          refine wpAny_ready (rs := [3]) (by kernel_rfl) (by simp) (AllReady.cons rfl (fun K hK => ?_) (AllReady.nil))
          go_simp
          refine hK _ _ ?_
          clear hK K
          refine wpAny_seq 8 rfl (by kernel_rfl) ?_
          simp only [List.drop_succ_cons, List.drop_zero]
        all_goals
          go_wp2
          go_returns
          exact ⟨by rw [HF.out]; rfl, hBd⟩
    · obtain rfl : k = n := by omega
      have i2 : ¬ (k : Int) < (k : Int) := by omega
      have HT := Lib.hid (eqB_true hE.out)
      go_wp2
      go_returns
      exact ⟨by rw [HT.out]; rfl, hB⟩
end Go.Proofs.YtdlofnkimikaiaaDoor
