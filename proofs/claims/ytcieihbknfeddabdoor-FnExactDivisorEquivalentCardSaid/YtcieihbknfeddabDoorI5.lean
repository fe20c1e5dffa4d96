import Derived.Test.YtcieihbknfeddabDoorB9
import Derived.Test.YtcieihbknfeddabDoorBf
/- Fans: the kind of a fan with at most four rays: the mathematics, slices.Equal. -/
namespace Go.Proofs.YtcieihbknfeddabDoor
open Go.RowKit

theorem num_two {l : List V2} (h4 : l.length = 4) (i : Nat) : numZ l (i + 2) = -numZ l i := by
  unfold numZ
  rw [h4, show i + 2 + 4 - 1 = (i + 1) + 4 by omega, show i + 2 + 1 = i + 4 - 1 by omega]
  have e : cyc l (i + 1 + 4) = cyc l (i + 1) := by
    have := cyc_add l (i + 1)
    rwa [h4] at this
  rw [e]
  unfold detV detZ
  rw [Int.mul_comm (cyc l (i + 4 - 1)).1, Int.mul_comm (cyc l (i + 4 - 1)).2]
  omega
theorem num_cross {l : List V2} (h4 : l.length = 4) (hS : Smooth l) (i : Nat) : numZ l i * numZ l (i + 1) = 0 := by
  have a : cyc l (i + 4) = cyc l i := by
    have := cyc_add l i
    rwa [h4] at this
  have d0 := hS.2 i
  have d1 := hS.2 (i + 1)
  have d2 := hS.2 (i + 2)
  have d3 := hS.2 (i + 3)
  rw [show i + 3 + 1 = i + 4 by omega, a] at d3
  have t0 := three d3 d0
  have t1 := three d0 d1
  have t2 := three d1 d2
  have e0 : numZ l i = -detV (cyc l (i + 3)) (cyc l (i + 1)) := by
    unfold numZ
    rw [h4, show i + 4 - 1 = i + 3 by omega]
  have e1 : numZ l (i + 1) = -detV (cyc l i) (cyc l (i + 2)) := by
    unfold numZ
    rw [h4, show i + 1 + 4 - 1 = i + 4 by omega, a]
  have e2 : detV (cyc l (i + 1)) (cyc l (i + 3)) = -detV (cyc l (i + 3)) (cyc l (i + 1)) := det_flip _ _
  rw [e0, e1]
  rw [show i + 1 + 1 = i + 2 by omega] at t1 t2 d1
  rw [show i + 2 + 1 = i + 3 by omega] at t2 d2
  rw [e2] at t2
  generalize detV (cyc l (i + 3)) (cyc l (i + 1)) = d at *
  generalize detV (cyc l i) (cyc l (i + 2)) = f at *
  have hp : (cyc l (i + 1)).1 ≠ 0 ∨ (cyc l (i + 1)).2 ≠ 0 := by
    by_cases hx : (cyc l (i + 1)).1 = 0
    · refine .inr (fun hy => ?_)
      simp [detV, detZ, hx, hy] at d0
    · exact .inl hx
  obtain ⟨t0x, t0y⟩ := t0
  obtain ⟨t1x, t1y⟩ := t1
  obtain ⟨t2x, t2y⟩ := t2
  have kx : d * (f * (cyc l (i + 1)).1) = 0 := by
    rw [← t1x, Int.mul_add]
    rw [Int.neg_mul] at t2x
    omega
  have ky : d * (f * (cyc l (i + 1)).2) = 0 := by
    rw [← t1y, Int.mul_add]
    rw [Int.neg_mul] at t2y
    omega
  rw [Int.neg_mul_neg]
  rcases hp with hp | hp
  · rw [← Int.mul_assoc] at kx
    rcases Int.mul_eq_zero.1 kx with k | k
    · exact k
    · exact absurd k hp
  · rw [← Int.mul_assoc] at ky
    rcases Int.mul_eq_zero.1 ky with k | k
    · exact k
    · exact absurd k hp
/-- what the two numbers that are not forced say -/
def kindM (l : List V2) : Int := (if 0 ≤ numZ l 0 then numZ l 0 else -numZ l 0) + (if 0 ≤ numZ l 1 then numZ l 1 else -numZ l 1)
def kind4 (l : List V2) : Int := if l.length = 3 then -1 else if l.length = 4 then kindM l else 0
def kindOk (l : List V2) : Bool := decide (l.length ≤ 4)
/-- the list of numbers, read from the link x on, is 0, k, 0, -k with k not negative -/
def fromB (l : List V2) (x : Nat) : Bool := decide (l.length = 4) && (decide (0 ≤ numZ l (x + 1)) && (numZ l x == 0))
theorem four_cases {l : List V2} (h4 : l.length = 4) (hS : Smooth l) : (numZ l 0 = 0 ∨ numZ l 1 = 0) ∧ numZ l 2 = -numZ l 0 ∧ numZ l 3 = -numZ l 1 ∧ numZ l 4 = numZ l 0 := by
  have h := num_cross h4 hS 0
  have a : numZ l 2 = _ := num_two h4 0
  have b : numZ l 3 = _ := num_two h4 1
  have c : numZ l 4 = _ := num_two h4 2
  refine ⟨Int.mul_eq_zero.1 h, a, b, ?_⟩
  rw [c, a, Int.neg_neg]
theorem from_some {l : List V2} (h4 : l.length = 4) (hS : Smooth l) : ∃ x, x < 4 ∧ fromB l x = true := by
  obtain ⟨h, h2, h3, h4'⟩ := four_cases h4 hS
  unfold fromB
  rw [show decide (l.length = 4) = true by simpa using h4]
  rcases h with h | h
  · by_cases hk : 0 ≤ numZ l 1
    · exact ⟨0, by omega, by simp [h, hk]⟩
    · exact ⟨2, by omega, by
        rw [show 2 + 1 = 3 from rfl, h2, h3, h]
        simp
        omega⟩
  · by_cases hk : 0 ≤ numZ l 0
    · exact ⟨3, by omega, by
        rw [show 3 + 1 = 4 from rfl, h3, h4', h]
        simp
        omega⟩
    · exact ⟨1, by omega, by
        rw [show 1 + 1 = 2 from rfl, h2, h]
        simp
        omega⟩
theorem from_kind {l : List V2} (hS : Smooth l) {x : Nat} (hx : x < 4) (h : fromB l x = true) : kind4 l = numZ l (x + 1) ∧ kindOk l = true := by
  unfold fromB at h
  rw [Bool.and_eq_true, Bool.and_eq_true] at h
  obtain ⟨h4, hk, hz⟩ := h
  have h4 := of_decide_eq_true h4
  have hk := of_decide_eq_true hk
  have hz : numZ l x = 0 := by simpa using hz
  obtain ⟨_, h2, h3, h4'⟩ := four_cases h4 hS
  refine ⟨?_, by unfold kindOk; rw [h4]; rfl⟩
  unfold kind4 kindM
  rw [h4, if_neg (by omega), if_pos rfl]
  match x, hx with
  | 0, _ => rw [show 0 + 1 = 1 from rfl] at *; (repeat' split) <;> omega
  | 1, _ => rw [show 1 + 1 = 2 from rfl] at *; (repeat' split) <;> omega
  | 2, _ => rw [show 2 + 1 = 3 from rfl] at *; (repeat' split) <;> omega
  | 3, _ => rw [show 3 + 1 = 4 from rfl] at *; (repeat' split) <;> omega
def eqB (n : Nat) (X Y : Nat → Int) : Bool := (List.range n).all (fun j => X j == Y j)
theorem eqB_true {n : Nat} {X Y : Nat → Int} (h : ∀ j, j < n → X j = Y j) : eqB n X Y = true := List.all_eq_true.2 (fun j hj => by simpa using h j (List.mem_range.1 hj))
theorem eqB_false {n k : Nat} {X Y : Nat → Int} (hk : k < n) (h : X k ≠ Y k) : eqB n X Y = false := by
  unfold eqB
  rw [List.all_eq_false]
  exact ⟨k, List.mem_range.2 hk, by simpa using h⟩
theorem eqB_four (X Y : Nat → Int) : eqB 4 X Y = ((X 0 == Y 0) && ((X 1 == Y 1) && ((X 2 == Y 2) && (X 3 == Y 3)))) := by
  unfold eqB
  show (X 0 == Y 0 && (X 1 == Y 1 && (X 2 == Y 2 && (X 3 == Y 3 && true)))) = _
  rw [Bool.and_true]
set_option maxHeartbeats 1000000 in
theorem slEqual_ne (a b : Option Addr) (n m c d : Nat) (w : World) (h : n ≠ m) :
    Calls Tryd.prog 110 #[.slice a n c, .slice b m d] w fun e w' => e = .returned (.bool false) ∧ w = w' := by
  have j1 : ¬ (n : Int) = (m : Int) := by omega
  have j2 : ((n : Int) == (m : Int)) = false := by simpa using j1
  have j3 : ((n : Int) != (m : Int)) = true := by simp [bne, j2]
  go_enter Tryd.func110, Tryd.ntmps110
  go_wp2
  go_returns
  exact ⟨rfl, rfl⟩
set_option maxHeartbeats 4000000 in
theorem slEqual_any (bb off bb2 off2 n c d : Nat) (X Y : Nat → Int) (w : World) (hx : ∀ j, j < n → w.cell? ⟨bb, off + j, none⟩ = some (.int .i64 (X j))) (hy : ∀ j, j < n → w.cell? ⟨bb2, off2 + j, none⟩ = some (.int .i64 (Y j))) (hn : n ≤ 1000) (hb : bb < w.heap.size) (hb2 : bb2 < w.heap.size) :
    Calls Tryd.prog 110 #[.slice (some ⟨bb, off, none⟩) n c, .slice (some ⟨bb2, off2, none⟩) n d] w fun e w' => e = .returned (.bool (eqB n X Y)) ∧ Below w.heap.size w w' := by
  have HX := Lib.hid (fun wr (hw : Below w.heap.size w wr) j hj => (hw.cell (p := ⟨bb, off + j, none⟩) hb).trans (hx j hj))
  have HY := Lib.hid (fun wr (hw : Below w.heap.size w wr) j hj => (hw.cell (p := ⟨bb2, off2 + j, none⟩) hb2).trans (hy j hj))
  clear hx hy
  go_enter Tryd.func110, Tryd.ntmps110
  go_wp2
  go_loopw [13] (fun s wr => ∃ k : Nat, k ≤ n ∧ s = .int .i64 k ∧ Hid (∀ j, j < k → X j = Y j) ∧ Below w.heap.size w wr) (fun s _ => n - (intOf s).toNat)
  case atStart => exact ⟨0, Nat.zero_le _, rfl, fun j hj => by omega, Below.refl _ _⟩
  case round =>
    obtain ⟨k, hk, rfl, hE, hB⟩ := hrel
    have i1 : (0 : Int) ≤ (k : Int) := by omega
    by_cases hlt : k < n
    · have i2 : (k : Int) < (n : Int) := by omega
      have c1 := HX.out wr hB k hlt
      have c2 := HY.out wr hB k hlt
      have l1 := Nat.lt_of_lt_of_le hb hB.size
      have l2 := Nat.lt_of_lt_of_le hb2 hB.size
      have HN := Lib.hid (fun h => eqB_false (X := X) (Y := Y) hlt h)
      have HK : Hid (X k = Y k → ∀ j, j < k + 1 → X j = Y j) := fun h j hj => by
        by_cases e : j = k
        · subst e; exact h
        · exact hE.out j (by omega)
      have hBd : Below w.heap.size w wr.drew := hB.trans (by go_grown)
      generalize X k = p at *
      generalize Y k = q at *
      by_cases hpq : p = q
      · subst hpq
        have HK2 := Lib.hid (HK.out rfl)
        go_wp2
        refine wp_region_any (by kernel_rfl) ?_
        try (change wpAny _ _ _ _ _ _ _ (World.drew _))
        refine wpAny_take (i := 0) (v := ?_) rfl (by kernel_rfl) (by kernel_rfl) (by kernel_rfl) (fun _ _ _ h => h) (Or.inl ⟨by rfl, ?_⟩) ?_
        rotate_left
        focus (intro w0; go_simp; try with_reducible rfl)
        refine wpAny_take (i := 1) (v := ?_) rfl (by kernel_rfl) (by kernel_rfl) (by kernel_rfl) (fun _ _ _ h => h) (Or.inl ⟨by rfl, ?_⟩) ?_
        rotate_left
        focus (intro w0; go_simp; try with_reducible rfl)
        refine wpAny_take (i := 2) (v := ?_) rfl (by kernel_rfl) (by kernel_rfl) (by kernel_rfl) (fun _ _ _ h => h) (Or.inl ⟨by rfl, ?_⟩) ?_
        rotate_left
        focus (intro w0; go_simp; try with_reducible rfl)
        refine wpAny_take (i := 4) (v := ?_) rfl (by kernel_rfl) (by kernel_rfl) (by kernel_rfl) (fun _ _ _ h => h) (Or.inl ⟨by rfl, ?_⟩) ?_
        rotate_left
        focus (intro w0; go_simp; try with_reducible rfl)
        refine wpAny_take (i := 5) (v := ?_) rfl (by kernel_rfl) (by kernel_rfl) (by kernel_rfl) (fun _ _ _ h => h) (Or.inl ⟨by rfl, ?_⟩) ?_
        rotate_left
        focus (intro w0; go_simp; try with_reducible rfl)
        refine wpAny_take (i := 6) (v := ?_) rfl (by kernel_rfl) (by kernel_rfl) (by kernel_rfl) (fun _ _ _ h => h) (Or.inl ⟨by rfl, ?_⟩) ?_
        rotate_left
        focus (intro w0; go_simp; try with_reducible rfl)
        refine wpAny_ready (rs := [3, 7]) (by kernel_rfl) (by simp) (AllReady.cons rfl (fun K hK => ?_) (AllReady.cons rfl (fun K hK => ?_) (AllReady.nil)))
        focus
          go_simp
          refine hK _ _ ?_
          clear hK K
          refine wpAny_ready (rs := [7]) (by kernel_rfl) (by simp) (AllReady.cons rfl (fun K hK => ?_) (AllReady.nil))
          go_simp
          refine hK _ _ ?_
          clear hK K
          refine wpAny_seq 8 rfl (by kernel_rfl) ?_
          simp only [List.drop_succ_cons, List.drop_zero]
        rotate_left 1
        focus
          go_simp
          refine hK _ _ ?_
          clear hK K
          refine wpAny_ready (rs := [3]) (by kernel_rfl) (by simp) (AllReady.cons rfl (fun K hK => ?_) (AllReady.nil))
          go_simp
          refine hK _ _ ?_
          clear hK K
          refine wpAny_seq 8 rfl (by kernel_rfl) ?_
          simp only [List.drop_succ_cons, List.drop_zero]
        all_goals
          go_wp2
          go_roundw
          case rel => exact ⟨k + 1, by omega, by go_num, HK2, hBd⟩
          case measure => simp [intOf]; omega
      · have hq1 : (p == q) = false := by simpa using hpq
        have hq2 : (p != q) = true := by simp [bne, hq1]
        have HF := Lib.hid (HN.out hpq)
        go_wp2
        refine wp_region_any (by kernel_rfl) ?_
        try (change wpAny _ _ _ _ _ _ _ (World.drew _))
        refine wpAny_take (i := 0) (v := ?_) rfl (by kernel_rfl) (by kernel_rfl) (by kernel_rfl) (fun _ _ _ h => h) (Or.inl ⟨by rfl, ?_⟩) ?_
        rotate_left
        focus (intro w0; go_simp; try with_reducible rfl)
        refine wpAny_take (i := 1) (v := ?_) rfl (by kernel_rfl) (by kernel_rfl) (by kernel_rfl) (fun _ _ _ h => h) (Or.inl ⟨by rfl, ?_⟩) ?_
        rotate_left
        focus (intro w0; go_simp; try with_reducible rfl)
        refine wpAny_take (i := 2) (v := ?_) rfl (by kernel_rfl) (by kernel_rfl) (by kernel_rfl) (fun _ _ _ h => h) (Or.inl ⟨by rfl, ?_⟩) ?_
        rotate_left
        focus (intro w0; go_simp; try with_reducible rfl)
        refine wpAny_take (i := 4) (v := ?_) rfl (by kernel_rfl) (by kernel_rfl) (by kernel_rfl) (fun _ _ _ h => h) (Or.inl ⟨by rfl, ?_⟩) ?_
        rotate_left
        focus (intro w0; go_simp; try with_reducible rfl)
        refine wpAny_take (i := 5) (v := ?_) rfl (by kernel_rfl) (by kernel_rfl) (by kernel_rfl) (fun _ _ _ h => h) (Or.inl ⟨by rfl, ?_⟩) ?_
        rotate_left
        focus (intro w0; go_simp; try with_reducible rfl)
        refine wpAny_take (i := 6) (v := ?_) rfl (by kernel_rfl) (by kernel_rfl) (by kernel_rfl) (fun _ _ _ h => h) (Or.inl ⟨by rfl, ?_⟩) ?_
        rotate_left
        focus (intro w0; go_simp; try with_reducible rfl)
        refine wpAny_ready (rs := [3, 7]) (by kernel_rfl) (by simp) (AllReady.cons rfl (fun K hK => ?_) (AllReady.cons rfl (fun K hK => ?_) (AllReady.nil)))
        focus
          go_simp
          refine hK _ _ ?_
          clear hK K
          refine wpAny_ready (rs := [7]) (by kernel_rfl) (by simp) (AllReady.cons rfl (fun K hK => ?_) (AllReady.nil))
          go_simp
          refine hK _ _ ?_
          clear hK K
          refine wpAny_seq 8 rfl (by kernel_rfl) ?_
          simp only [List.drop_succ_cons, List.drop_zero]
        rotate_left 1
        focus
          go_simp
          refine hK _ _ ?_
          clear hK K
          refine wpAny_ready (rs := [3]) (by kernel_rfl) (by simp) (AllReady.cons rfl (fun K hK => ?_) (AllReady.nil))
          go_simp
          refine hK _ _ ?_
          clear hK K
          refine wpAny_seq 8 rfl (by kernel_rfl) ?_
          simp only [List.drop_succ_cons, List.drop_zero]
        all_goals
          go_wp2
          go_returns
          exact ⟨by rw [HF.out]; rfl, hBd⟩
    · obtain rfl : k = n := by omega
      have i2 : ¬ (k : Int) < (k : Int) := by omega
      have HT := Lib.hid (eqB_true hE.out)
      go_wp2
      go_returns
      exact ⟨by rw [HT.out]; rfl, hB⟩
end Go.Proofs.YtcieihbknfeddabDoor

/- The kind of a fan: the program. -/
namespace Go.Proofs.YtcieihbknfeddabDoor
open Go.RowKit Go.Shelf

attribute [local go_sem] Oper.semAt_some

theorem num_rot {l : List V2} {x : Nat} (hx : x ≤ l.length) (h0 : 0 < l.length) (j : Nat) : numZ (rot x l) j = numZ l (x + j) := by
  unfold numZ
  rw [rot_len, cyc_rot hx, cyc_rot hx, show x + (j + l.length - 1) = x + j + l.length - 1 by omega, show x + (j + 1) = x + j + 1 by omega]
theorem nums_get (l : List V2) {j : Nat} (h : j < l.length) : (numsZ l)[j]?.getD 0 = numZ l j := by
  unfold numsZ
  simp [h]
theorem allVec_rot {l : List V2} (h : allVec l) {x : Nat} (hx : x ≤ l.length) : allVec (rot x l) := fun i => by rw [cyc_rot hx]; exact h _
theorem num_bd {l : List V2} (h : allVec l) (i : Nat) : -2000000 ≤ numZ l i ∧ numZ l i ≤ 2000000 := by
  have := det_sz (h (i + l.length - 1)) (h (i + 1))
  unfold numZ detV
  omega
def yNum (k : Int) (j : Nat) : Int := if j = 1 then k else if j = 3 then -k else 0
theorem eq_from {l : List V2} (h4 : l.length = 4) {x : Nat} (hk : 0 ≤ numZ l (x + 1)) : eqB 4 (fun j => numZ l (x + j)) (yNum (numZ l (x + 1))) = fromB l x := by
  rw [eqB_four]
  unfold yNum fromB
  rw [num_two h4 x, show x + 3 = (x + 1) + 2 from rfl, num_two h4 (x + 1)]
  have e1 : decide (l.length = 4) = true := by simpa using h4
  have e2 : decide (0 ≤ numZ l (x + 1)) = true := by simpa using hk
  rw [e1, e2]
  simp
  try (intro h; omega)
theorem from_len {l : List V2} (h : l.length ≠ 4) (x : Nat) : fromB l x = false := by
  unfold fromB
  simp [h]
theorem from_neg {l : List V2} {x : Nat} (h : numZ l (x + 1) < 0) : fromB l x = false := by
  unfold fromB
  have e2 : decide (0 ≤ numZ l (x + 1)) = false := by simpa using h
  rw [e2]
  simp
theorem not_kind {l : List V2} (hS : Smooth l) (h3 : 3 ≤ l.length) (h : l.length ≠ 3) (hn : ∀ i, i < l.length → fromB l i = false) : kindOk l = false := by
  unfold kindOk
  apply decide_eq_false
  intro hle
  have h4 : l.length = 4 := by omega
  obtain ⟨x, hx, hf⟩ := from_some h4 hS
  rw [hn x (by omega)] at hf
  cases hf
theorem num_congr (l : List V2) (x j : Nat) : numZ l (x % l.length + j) = numZ l (x + j) := by
  rcases Nat.eq_zero_or_pos l.length with h0 | h0
  · rw [h0, Nat.mod_zero]
  · unfold numZ
    rw [show cyc l (x % l.length + j + l.length - 1) = cyc l (x + j + l.length - 1) from cyc_congr l (by
        rw [show x % l.length + j + l.length - 1 = x % l.length + (j + l.length - 1) by omega, show x + j + l.length - 1 = x + (j + l.length - 1) by omega, Nat.mod_add_mod]),
      show cyc l (x % l.length + j + 1) = cyc l (x + j + 1) from cyc_congr l (by
        rw [show x % l.length + j + 1 = x % l.length + (j + 1) by omega, show x + j + 1 = x + (j + 1) by omega, Nat.mod_add_mod])]
/-- the fan that begins at another link -/
theorem from_any (ns : List Node) (x : Nat) (w : World) (hR : Ring w ns) (hm : ns.length ≤ 1000) (hv : allVec (rays ns)) :
    Calls Tryd.prog 102 #[.pointer (some ⟨w.heap.size, 0, none⟩)] (w.alloc (fanObj (cyc ns x).1 ns.length)) (GivesInts (w.alloc (fanObj (cyc ns x).1 ns.length)) (numsZ (rot (x % (rays ns).length) (rays ns)))) := by
  have hx : x % ns.length ≤ ns.length := Nat.le_of_lt (Nat.mod_lt _ hR.pos)
  rw [rays_len]
  have hF : FanAt (w.alloc (fanObj (cyc ns x).1 ns.length)) 0 w.heap.size (rot (x % ns.length) ns) := by
    have hR2 := (hR.rot hx).below (show Below w.heap.size w (w.alloc (fanObj (cyc ns x).1 ns.length)) by go_grown)
    refine ⟨hR2, ?_, fun p hp => ?_, fun p _ => Nat.zero_le _, Nat.zero_le _⟩
    · rw [cyc_rot hx, rot_len, Nat.add_zero, cyc_mod]
      exact World.alloc_heap_new _ _
    · have hp' : p ∈ ns := by
        unfold rot at hp
        rcases List.mem_append.1 hp with h | h
        · exact List.mem_of_mem_drop h
        · exact List.mem_of_mem_take h
      exact Nat.ne_of_lt (hR.mem_lt hp')
  have e : rays (rot (x % ns.length) ns) = rot (x % ns.length) (rays ns) := rot_map _ _ _
  have := callsIn_wide.1 (numbers_in 3 (by omega) 0 _ _ _ hF (by rw [rot_len]; exact hm) (by rw [e]; exact allVec_rot hv (by rw [rays_len]; exact hx)))
  rwa [e] at this
/-- the numbers from a link on, held against 0, k, 0, -k -/
theorem equal_from (l : List V2) (x : Nat) (v : Value) (base : Nat) (w : World) (h0 : 0 < l.length) (hm : l.length ≤ 1000) (hk : 0 ≤ numZ l (x + 1)) (hV : Ints w base v (numsZ (rot (x % l.length) l))) :
    Calls Tryd.prog 110 #[v, .slice (some ⟨w.heap.size, 0, none⟩) 4 4] (w.alloc (.cells #[.int .i64 0, .int .i64 (numZ l (x + 1)), .int .i64 0, .int .i64 (-numZ l (x + 1))] 3)) fun e w' => e = .returned (.bool (fromB l x)) ∧ Below w.heap.size w w' := by
  have hlen : (numsZ (rot (x % l.length) l)).length = l.length := by rw [nums_len, rot_len]
  have hx : x % l.length ≤ l.length := Nat.le_of_lt (Nat.mod_lt _ h0)
  obtain ⟨a, c, rfl, _, hcell⟩ := hV.reads (by rw [hlen]; omega)
  rw [hlen] at hcell ⊢
  by_cases h4 : l.length = 4
  · obtain ⟨bb, off, rfl, hbb, hcs⟩ := hcell h0
    have hA : Below w.heap.size w (w.alloc (.cells #[.int .i64 0, .int .i64 (numZ l (x + 1)), .int .i64 0, .int .i64 (-numZ l (x + 1))] 3)) := by go_grown
    have := slEqual_any bb off w.heap.size 0 4 c 4 (fun j => numZ l (x + j)) (yNum (numZ l (x + 1))) (w.alloc (.cells #[.int .i64 0, .int .i64 (numZ l (x + 1)), .int .i64 0, .int .i64 (-numZ l (x + 1))] 3)) (fun j hj => by
        rw [(hA.cell (p := ⟨bb, off + j, none⟩) hbb), hcs j (by omega), nums_get _ (by rw [rot_len]; omega), num_rot hx h0, num_congr]) (fun j hj => by
        rw [Nat.zero_add, World.cell?_alloc_at _ _ _ _ rfl]
        match j, hj with
        | 0, _ => rfl
        | 1, _ => rfl
        | 2, _ => rfl
        | 3, _ => rfl) (by omega) (Nat.lt_of_lt_of_le hbb hA.size) (by simp)
    rw [eq_from h4 hk] at this
    rw [h4]
    refine this.mono ?_
    rintro e w' ⟨rfl, hb⟩
    exact ⟨rfl, belowTo hA hb⟩
  · rw [from_len h4]
    refine (slEqual_ne _ _ _ _ _ _ _ h4).mono ?_
    rintro e w' ⟨rfl, rfl⟩
    exact ⟨rfl, by go_grown⟩

def KindI (w w0 : World) (l : List V2) (pre : List Nat) (W : World) : Prop :=
  ((Boxed W (w.heap.size + 1) 3 (.int .i64 0) ∧ Boxed W (w.heap.size + 1 + 1) 4 (.bool false)) ∧ ∀ i ∈ pre, fromB l i = false) ∧ Below (w.heap.size + 1) w0 W
def KindX (w w0 : World) (l : List V2) (c : Code) (pre : List Nat) (W : World) : Prop :=
  ((c = .ret ∧ ∃ p x, pre = p ++ [x] ∧ fromB l x = true) ∧ ∃ x p, pre = p ++ [x] ∧ (Boxed W (w.heap.size + 1) 3 (.int .i64 (numZ l (x + 1))) ∧ Boxed W (w.heap.size + 1 + 1) 4 (.bool true))) ∧ Below (w.heap.size + 1) w0 W
theorem kindI_own (w w0 : World) (l : List V2) {k : Nat} (h0 : w.heap.size + 1 ≤ w0.heap.size) (h : w.heap.size + 1 ≤ k) : OwnFrom k (KindI w w0 l) :=
  OwnFrom.and (OwnFrom.and (OwnFrom.and (Own.from (ownErr _ _ _) _) (Own.from (ownErr _ _ _) _)) (ownFrom_pure k (fun pre => ∀ i ∈ pre, fromB l i = false))) (ownFrom_below h0 h)
theorem kindX_own (w w0 : World) (l : List V2) (c : Code) {k : Nat} (h0 : w.heap.size + 1 ≤ w0.heap.size) (h : w.heap.size + 1 ≤ k) : OwnFrom k (KindX w w0 l c) := by
  refine OwnFrom.and (OwnFrom.and (ownFrom_pure k (fun pre => c = .ret ∧ ∃ p x, pre = p ++ [x] ∧ fromB l x = true)) ?_) (ownFrom_below h0 h)
  rintro s X Y row ⟨x, p, rfl, hb, hb2⟩ hg hr
  exact ⟨x, p, rfl, ownErr _ _ _ (p ++ [x]) X Y row hb hg (fun r e => (hr r e).2), ownErr _ _ _ (p ++ [x]) X Y row hb2 hg (fun r e => (hr r e).2)⟩
end Go.Proofs.YtcieihbknfeddabDoor

/- The kind of a fan: both sides. -/
namespace Go.Proofs.YtcieihbknfeddabDoor
open Go.RowKit

theorem run_max_int4 {P : Program} {w : World} (ts : Array TypeId) (t : TypeId) (k1 k2 k3 k4 : IntKind) (x y z u : Int) : (Builtin.max_ ts t #[.int k1 x, .int k2 y, .int k3 z, .int k4 u]).run P w = .ok (.int k1 (max (max (max x y) z) u)) w := by
  have h : (Builtin.max_ ts t #[.int k1 x, .int k2 y, .int k3 z, .int k4 u]).run P w = .ok (.int k1 (if u > (if z > (if y > x then y else x) then z else (if y > x then y else x)) then u else (if z > (if y > x then y else x) then z else (if y > x then y else x)))) w := by
    simp [Builtin.max_, Builtin.max2]
  rw [h]
  congr 2
  (repeat' split) <;> omega
attribute [local go_sem] run_max_int4
theorem max_kind {l : List V2} (h4 : l.length = 4) (hS : Smooth l) : max (numZ l 0) (max (numZ l 1) (max (numZ l 2) (numZ l 3))) = kind4 l := by
  obtain ⟨h0, h2, h3, _⟩ := four_cases h4 hS
  unfold kind4 kindM
  rw [h4, if_neg (by omega), if_pos rfl, h2, h3]
  (repeat' split) <;> omega
end Go.Proofs.YtcieihbknfeddabDoor
