import Derived.Test.YtcieihbknfeddaaDoorB9
import Derived.Test.YtcieihbknfeddaaDoorBf
/- Fans: the kind of a fan with at most four rays: the mathematics, slices.Equal. -/
namespace Go.Proofs.YtcieihbknfeddaaDoor
open Go.RowKit

theorem num_two {l : List V2} (h4 : l.length = 4) (i : Nat) : numZ l (i + 2) = -numZ l i := by
  unfold numZ
  rw [h4, show i + 2 + 4 - 1 = (i + 1) + 4 by omega, show i + 2 + 1 = i + 4 - 1 by omega]
  have e : cyc l (i + 1 + 4) = cyc l (i + 1) := by
    have := cyc_add l (i + 1)
    rwa [h4] at this
  rw [e]
  unfold detV detZ
  rw [Int.mul_comm (cyc l (i + 4 - 1)).1, Int.mul_comm (cyc l (i + 4 - 1)).2]
  omega
theorem num_cross {l : List V2} (h4 : l.length = 4) (hS : Smooth l) (i : Nat) : numZ l i * numZ l (i + 1) = 0 := by
  have a : cyc l (i + 4) = cyc l i := by
    have := cyc_add l i
    rwa [h4] at this
  have d0 := hS.2 i
  have d1 := hS.2 (i + 1)
  have d2 := hS.2 (i + 2)
  have d3 := hS.2 (i + 3)
  rw [show i + 3 + 1 = i + 4 by omega, a] at d3
  have t0 := three d3 d0
  have t1 := three d0 d1
  have t2 := three d1 d2
  have e0 : numZ l i = -detV (cyc l (i + 3)) (cyc l (i + 1)) := by
    unfold numZ
    rw [h4, show i + 4 - 1 = i + 3 by omega]
  have e1 : numZ l (i + 1) = -detV (cyc l i) (cyc l (i + 2)) := by
    unfold numZ
    rw [h4, show i + 1 + 4 - 1 = i + 4 by omega, a]
  have e2 : detV (cyc l (i + 1)) (cyc l (i + 3)) = -detV (cyc l (i + 3)) (cyc l (i + 1)) := det_flip _ _
  rw [e0, e1]
  rw [show i + 1 + 1 = i + 2 by omega] at t1 t2 d1
  rw [show i + 2 + 1 = i + 3 by omega] at t2 d2
  rw [e2] at t2
  generalize detV (cyc l (i + 3)) (cyc l (i + 1)) = d at *
  generalize detV (cyc l i) (cyc l (i + 2)) = f at *
  have hp : (cyc l (i + 1)).1 ≠ 0 ∨ (cyc l (i + 1)).2 ≠ 0 := by
    by_cases hx : (cyc l (i + 1)).1 = 0
    · refine .inr (fun hy => ?_)
      simp [detV, detZ, hx, hy] at d0
    · exact .inl hx
  obtain ⟨t0x, t0y⟩ := t0
  obtain ⟨t1x, t1y⟩ := t1
  obtain ⟨t2x, t2y⟩ := t2
  have kx : d * (f * (cyc l (i + 1)).1) = 0 := by
    rw [← t1x, Int.mul_add]
    rw [Int.neg_mul] at t2x
    omega
  have ky : d * (f * (cyc l (i + 1)).2) = 0 := by
    rw [← t1y, Int.mul_add]
    rw [Int.neg_mul] at t2y
    omega
  rw [Int.neg_mul_neg]
  rcases hp with hp | hp
  · rw [← Int.mul_assoc] at kx
    rcases Int.mul_eq_zero.1 kx with k | k
    · exact k
    · exact absurd k hp
  · rw [← Int.mul_assoc] at ky
    rcases Int.mul_eq_zero.1 ky with k | k
    · exact k
    · exact absurd k hp
/-- what the two numbers that are not forced say -/
def kindM (l : List V2) : Int := (if 0 ≤ numZ l 0 then numZ l 0 else -numZ l 0) + (if 0 ≤ numZ l 1 then numZ l 1 else -numZ l 1)
def kind4 (l : List V2) : Int := if l.length = 3 then -1 else if l.length = 4 then kindM l else 0
def kindOk (l : List V2) : Bool := decide (l.length ≤ 4)
/-- the list of numbers, read from the link x on, is 0, k, 0, -k with k not negative -/
def fromB (l : List V2) (x : Nat) : Bool := decide (l.length = 4) && (decide (0 ≤ numZ l (x + 1)) && (numZ l x == 0))
theorem four_cases {l : List V2} (h4 : l.length = 4) (hS : Smooth l) : (numZ l 0 = 0 ∨ numZ l 1 = 0) ∧ numZ l 2 = -numZ l 0 ∧ numZ l 3 = -numZ l 1 ∧ numZ l 4 = numZ l 0 := by
  have h := num_cross h4 hS 0
  have a : numZ l 2 = _ := num_two h4 0
  have b : numZ l 3 = _ := num_two h4 1
  have c : numZ l 4 = _ := num_two h4 2
  refine ⟨Int.mul_eq_zero.1 h, a, b, ?_⟩
  rw [c, a, Int.neg_neg]
theorem from_some {l : List V2} (h4 : l.length = 4) (hS : Smooth l) : ∃ x, x < 4 ∧ fromB l x = true := by
  obtain ⟨h, h2, h3, h4'⟩ := four_cases h4 hS
  unfold fromB
  rw [show decide (l.length = 4) = true by simpa using h4]
  rcases h with h | h
  · by_cases hk : 0 ≤ numZ l 1
    · exact ⟨0, by omega, by simp [h, hk]⟩
    · exact ⟨2, by omega, by
        rw [show 2 + 1 = 3 from rfl, h2, h3, h]
        simp
        omega⟩
  · by_cases hk : 0 ≤ numZ l 0
    · exact ⟨3, by omega, by
        rw [show 3 + 1 = 4 from rfl, h3, h4', h]
        simp
        omega⟩
    · exact ⟨1, by omega, by
        rw [show 1 + 1 = 2 from rfl, h2, h]
        simp
        omega⟩
theorem from_kind {l : List V2} (hS : Smooth l) {x : Nat} (hx : x < 4) (h : fromB l x = true) : kind4 l = numZ l (x + 1) ∧ kindOk l = true := by
  unfold fromB at h
  rw [Bool.and_eq_true, Bool.and_eq_true] at h
  obtain ⟨h4, hk, hz⟩ := h
  have h4 := of_decide_eq_true h4
  have hk := of_decide_eq_true hk
  have hz : numZ l x = 0 := by simpa using hz
  obtain ⟨_, h2, h3, h4'⟩ := four_cases h4 hS
  refine ⟨?_, by unfold kindOk; rw [h4]; rfl⟩
  unfold kind4 kindM
  rw [h4, if_neg (by omega), if_pos rfl]
  match x, hx with
  | 0, _ => rw [show 0 + 1 = 1 from rfl] at *; (repeat' split) <;> omega
  | 1, _ => rw [show 1 + 1 = 2 from rfl] at *; (repeat' split) <;> omega
  | 2, _ => rw [show 2 + 1 = 3 from rfl] at *; (repeat' split) <;> omega
  | 3, _ => rw [show 3 + 1 = 4 from rfl] at *; (repeat' split) <;> omega
def eqB (n : Nat) (X Y : Nat → Int) : Bool := (List.range n).all (fun j => X j == Y j)
theorem eqB_true {n : Nat} {X Y : Nat → Int} (h : ∀ j, j < n → X j = Y j) : eqB n X Y = true := List.all_eq_true.2 (fun j hj => by simpa using h j (List.mem_range.1 hj))
theorem eqB_false {n k : Nat} {X Y : Nat → Int} (hk : k < n) (h : X k ≠ Y k) : eqB n X Y = false := by
  unfold eqB
  rw [List.all_eq_false]
  exact ⟨k, List.mem_range.2 hk, by simpa using h⟩
theorem eqB_four (X Y : Nat → Int) : eqB 4 X Y = ((X 0 == Y 0) && ((X 1 == Y 1) && ((X 2 == Y 2) && (X 3 == Y 3)))) := by
  unfold eqB
  show (X 0 == Y 0 && (X 1 == Y 1 && (X 2 == Y 2 && (X 3 == Y 3 && true)))) = _
  rw [Bool.and_true]
set_option maxHeartbeats 1000000 in
theorem slEqual_ne (a b : Option Addr) (n m c d : Nat) (w : World) (h : n ≠ m) :
    Calls Tryd.prog 140 #[.slice a n c, .slice b m d] w fun e w' => e = .returned (.bool false) ∧ w = w' := by
  have j1 : ¬ (n : Int) = (m : Int) := by omega
  have j2 : ((n : Int) == (m : Int)) = false := by simpa using j1
  have j3 : ((n : Int) != (m : Int)) = true := by simp [bne, j2]
  go_enter Tryd.func140, Tryd.ntmps140
  go_wp2
  go_returns
  exact ⟨rfl, rfl⟩
set_option maxHeartbeats 4000000 in
theorem slEqual_any (bb off bb2 off2 n c d : Nat) (X Y : Nat → Int) (w : World) (hx : ∀ j, j < n → w.cell? ⟨bb, off + j, none⟩ = some (.int .i64 (X j))) (hy : ∀ j, j < n → w.cell? ⟨bb2, off2 + j, none⟩ = some (.int .i64 (Y j))) (hn : n ≤ 1000) (hb : bb < w.heap.size) (hb2 : bb2 < w.heap.size) :
    Calls Tryd.prog 140 #[.slice (some ⟨bb, off, none⟩) n c, .slice (some ⟨bb2, off2, none⟩) n d] w fun e w' => e = .returned (.bool (eqB n X Y)) ∧ Below w.heap.size w w' := by
  have HX := Lib.hid (fun wr (hw : Below w.heap.size w wr) j hj => (hw.cell (p := ⟨bb, off + j, none⟩) hb).trans (hx j hj))
  have HY := Lib.hid (fun wr (hw : Below w.heap.size w wr) j hj => (hw.cell (p := ⟨bb2, off2 + j, none⟩) hb2).trans (hy j hj))
  clear hx hy
  go_enter Tryd.func140, Tryd.ntmps140
  go_wp2
  go_loopw [13] (fun s wr => ∃ k : Nat, k ≤ n ∧ s = .int .i64 k ∧ Hid (∀ j, j < k → X j = Y j) ∧ Below w.heap.size w wr) (fun s _ => n - (intOf s).toNat)
  case atStart => exact ⟨0, Nat.zero_le _, rfl, fun j hj => by omega, Below.refl _ _⟩
  case round =>
    obtain ⟨k, hk, rfl, hE, hB⟩ := hrel
    have i1 : (0 : Int) ≤ (k : Int) := by omega
    by_cases hlt : k < n
    · have i2 : (k : Int) < (n : Int) := by omega
      have c1 := HX.out wr hB k hlt
      have c2 := HY.out wr hB k hlt
      have l1 := Nat.lt_of_lt_of_le hb hB.size
      have l2 := Nat.lt_of_lt_of_le hb2 hB.size
      have HN := Lib.hid (fun h => eqB_false (X := X) (Y := Y) hlt h)
      have HK : Hid (X k = Y k → ∀ j, j < k + 1 → X j = Y j) := fun h j hj => by
        by_cases e : j = k
        · subst e; exact h
        · exact hE.out j (by omega)
      have hBd : Below w.heap.size w wr.drew := hB.trans (by go_grown)
      generalize X k = p at *
      generalize Y k = q at *
      by_cases hpq : p = q
      · subst hpq
        have HK2 := Lib.hid (HK.out rfl)
        go_wp2
        refine wp_region_any (by kernel_rfl) ?_
        try (change wpAny _ _ _ _ _ _ _ (World.drew _))
        refine wpAny_take (i := 0) (v := ?_) rfl (by kernel_rfl) (by kernel_rfl) (by kernel_rfl) (fun _ _ _ h => h) (Or.inl ⟨by rfl, ?_⟩) ?_
        rotate_left
        focus (intro w0; go_simp; try with_reducible rfl)
        refine wpAny_take (i := 1) (v := ?_) rfl (by kernel_rfl) (by kernel_rfl) (by kernel_rfl) (fun _ _ _ h => h) (Or.inl ⟨by rfl, ?_⟩) ?_
        rotate_left
        focus (intro w0; go_simp; try with_reducible rfl)
        refine wpAny_take (i := 2) (v := ?_) rfl (by kernel_rfl) (by kernel_rfl) (by kernel_rfl) (fun _ _ _ h => h) (Or.inl ⟨by rfl, ?_⟩) ?_
        rotate_left
        focus (intro w0; go_simp; try with_reducible rfl)
        refine wpAny_take (i := 4) (v := ?_) rfl (by kernel_rfl) (by kernel_rfl) (by kernel_rfl) (fun _ _ _ h => h) (Or.inl ⟨by rfl, ?_⟩) ?_
        rotate_left
        focus (intro w0; go_simp; try with_reducible rfl)
        refine wpAny_take (i := 5) (v := ?_) rfl (by kernel_rfl) (by kernel_rfl) (by kernel_rfl) (fun _ _ _ h => h) (Or.inl ⟨by rfl, ?_⟩) ?_
        rotate_left
        focus (intro w0; go_simp; try with_reducible rfl)
        refine wpAny_take (i := 6) (v := ?_) rfl (by kernel_rfl) (by kernel_rfl) (by kernel_rfl) (fun _ _ _ h => h) (Or.inl ⟨by rfl, ?_⟩) ?_
        rotate_left
        focus (intro w0; go_simp; try with_reducible rfl)
        refine wpAny_ready (rs := [3, 7]) (by kernel_rfl) (by simp) (AllReady.cons rfl (fun K hK => ?_) (AllReady.cons rfl (fun K hK => ?_) (AllReady.nil)))
        focus
          go_simp
          refine hK _ _ ?_
          clear hK K
          refine wpAny_ready (rs := [7]) (by kernel_rfl) (by simp) (AllReady.cons rfl (fun K hK => ?_) (AllReady.nil))
          go_simp
          refine hK _ _ ?_
          clear hK K
          refine wpAny_seq 8 rfl (by kernel_rfl) ?_
          simp only [List.drop_succ_cons, List.drop_zero]
        rotate_left 1
        focus
          go_simp
          refine hK _ _ ?_
          clear hK K
          refine wpAny_ready (rs := [3]) (by kernel_rfl) (by simp) (AllReady.cons rfl (fun K hK => ?_) (AllReady.nil))
          go_simp
          refine hK _ _ ?_
          clear hK K
          refine wpAny_seq 8 rfl (by kernel_rfl) ?_
          simp only [List.drop_succ_cons, List.drop_zero]
        all_goals
          go_wp2
          go_roundw
          case rel => exact ⟨k + 1, by omega, by go_num, HK2, hBd⟩
          case measure => simp [intOf]; omega
      · have hq1 : (p == q) = false := by simpa using hpq
        have hq2 : (p != q) = true := by simp [bne, hq1]
        have HF := Lib.hid (HN.out hpq)
        go_wp2
        refine wp_region_any (by kernel_rfl) ?_
        try (change wpAny _ _ _ _ _ _ _ (World.drew _))
        refine wpAny_take (i := 0) (v := ?_) rfl (by kernel_rfl) (by kernel_rfl) (by kernel_rfl) (fun _ _ _ h => h) (Or.inl ⟨by rfl, ?_⟩) ?_
        rotate_left
        focus (intro w0; go_simp; try with_reducible rfl)
        refine wpAny_take (i := 1) (v := ?_) rfl (by kernel_rfl) (by kernel_rfl) (by kernel_rfl) (fun _ _ _ h => h) (Or.inl ⟨by rfl, ?_⟩) ?_
        rotate_left
        focus (intro w0; go_simp; try with_reducible rfl)
        refine wpAny_take (i := 2) (v := ?_) rfl (by kernel_rfl) (by kernel_rfl) (by kernel_rfl) (fun _ _ _ h => h) (Or.inl ⟨by rfl, ?_⟩) ?_
        rotate_left
        focus (intro w0; go_simp; try with_reducible rfl)
        refine wpAny_take (i := 4) (v := ?_) rfl (by kernel_rfl) (by kernel_rfl) (by kernel_rfl) (fun _ _ _ h => h) (Or.inl ⟨by rfl, ?_⟩) ?_
        rotate_left
        focus (intro w0; go_simp; try with_reducible rfl)
        refine wpAny_take (i := 5) (v := ?_) rfl (by kernel_rfl) (by kernel_rfl) (by kernel_rfl) (fun _ _ _ h => h) (Or.inl ⟨by rfl, ?_⟩) ?_
        rotate_left
        focus (intro w0; go_simp; try with_reducible rfl)
        refine wpAny_take (i := 6) (v := ?_) rfl (by kernel_rfl) (by kernel_rfl) (by kernel_rfl) (fun _ _ _ h => h) (Or.inl ⟨by rfl, ?_⟩) ?_
        rotate_left
        focus (intro w0; go_simp; try with_reducible rfl)
        refine wpAny_ready (rs := [3, 7]) (by kernel_rfl) (by simp) (AllReady.cons rfl (fun K hK => ?_) (AllReady.cons rfl (fun K hK => ?_) (AllReady.nil)))
        focus
          go_simp
          refine hK _ _ ?_
          clear hK K
          refine wpAny_ready (rs := [7]) (by kernel_rfl) (by simp) (AllReady.cons rfl (fun K hK => ?_) (AllReady.nil))
          go_simp
          refine hK _ _ ?_
          clear hK K
          refine wpAny_seq 8 rfl (by kernel_rfl) ?_
          simp only [List.drop_succ_cons, List.drop_zero]
        rotate_left 1
        focus
          go_simp
          refine hK _ _ ?_
          clear hK K
          refine wpAny_ready (rs := [3]) (by kernel_rfl) (by simp) (AllReady.cons rfl (fun K hK => ?_) (AllReady.nil))
          go_simp
          refine hK _ _ ?_
          clear hK K
          refine wpAny_seq 8 rfl (by kernel_rfl) ?_
          simp only [List.drop_succ_cons, List.drop_zero]
        all_goals
          go_wp2
          go_returns
          exact ⟨by rw [HF.out]; rfl, hBd⟩
    · obtain rfl : k = n := by omega
      have i2 : ¬ (k : Int) < (k : Int) := by omega
      have HT := Lib.hid (eqB_true hE.out)
      go_wp2
      go_returns
      exact ⟨by rw [HT.out]; rfl, hB⟩
end Go.Proofs.YtcieihbknfeddaaDoor

/- The kind of a fan: the program. -/
namespace Go.Proofs.YtcieihbknfeddaaDoor
open Go.RowKit Go.Shelf

attribute [local go_sem] Oper.semAt_some

theorem num_rot {l : List V2} {x : Nat} (hx : x ≤ l.length) (h0 : 0 < l.length) (j : Nat) : numZ (rot x l) j = numZ l (x + j) := by
  unfold numZ
  rw [rot_len, cyc_rot hx, cyc_rot hx, show x + (j + l.length - 1) = x + j + l.length - 1 by omega, show x + (j + 1) = x + j + 1 by omega]
theorem nums_get (l : List V2) {j : Nat} (h : j < l.length) : (numsZ l)[j]?.getD 0 = numZ l j := by
  unfold numsZ
  simp [h]
theorem allVec_rot {l : List V2} (h : allVec l) {x : Nat} (hx : x ≤ l.length) : allVec (rot x l) := fun i => by rw [cyc_rot hx]; exact h _
theorem num_bd {l : List V2} (h : allVec l) (i : Nat) : -2000000 ≤ numZ l i ∧ numZ l i ≤ 2000000 := by
  have := det_sz (h (i + l.length - 1)) (h (i + 1))
  unfold numZ detV
  omega
def yNum (k : Int) (j : Nat) : Int := if j = 1 then k else if j = 3 then -k else 0
theorem eq_from {l : List V2} (h4 : l.length = 4) {x : Nat} (hk : 0 ≤ numZ l (x + 1)) : eqB 4 (fun j => numZ l (x + j)) (yNum (numZ l (x + 1))) = fromB l x := by
  rw [eqB_four]
  unfold yNum fromB
  rw [num_two h4 x, show x + 3 = (x + 1) + 2 from rfl, num_two h4 (x + 1)]
  have e1 : decide (l.length = 4) = true := by simpa using h4
  have e2 : decide (0 ≤ numZ l (x + 1)) = true := by simpa using hk
  rw [e1, e2]
  simp
  try (intro h; omega)
theorem from_len {l : List V2} (h : l.length ≠ 4) (x : Nat) : fromB l x = false := by
  unfold fromB
  simp [h]
theorem from_neg {l : List V2} {x : Nat} (h : numZ l (x + 1) < 0) : fromB l x = false := by
  unfold fromB
  have e2 : decide (0 ≤ numZ l (x + 1)) = false := by simpa using h
  rw [e2]
  simp
theorem not_kind {l : List V2} (hS : Smooth l) (h3 : 3 ≤ l.length) (h : l.length ≠ 3) (hn : ∀ i, i < l.length → fromB l i = false) : kindOk l = false := by
  unfold kindOk
  apply decide_eq_false
  intro hle
  have h4 : l.length = 4 := by omega
  obtain ⟨x, hx, hf⟩ := from_some h4 hS
  rw [hn x (by omega)] at hf
  cases hf
theorem num_congr (l : List V2) (x j : Nat) : numZ l (x % l.length + j) = numZ l (x + j) := by
  rcases Nat.eq_zero_or_pos l.length with h0 | h0
  · rw [h0, Nat.mod_zero]
  · unfold numZ
    rw [show cyc l (x % l.length + j + l.length - 1) = cyc l (x + j + l.length - 1) from cyc_congr l (by
        rw [show x % l.length + j + l.length - 1 = x % l.length + (j + l.length - 1) by omega, show x + j + l.length - 1 = x + (j + l.length - 1) by omega, Nat.mod_add_mod]),
      show cyc l (x % l.length + j + 1) = cyc l (x + j + 1) from cyc_congr l (by
        rw [show x % l.length + j + 1 = x % l.length + (j + 1) by omega, show x + j + 1 = x + (j + 1) by omega, Nat.mod_add_mod])]
/-- the fan that begins at another link -/
theorem from_any (ns : List Node) (x : Nat) (w : World) (hR : Ring w ns) (hm : ns.length ≤ 1000) (hv : allVec (rays ns)) :
    Calls Tryd.prog 101 #[.pointer (some ⟨w.heap.size, 0, none⟩)] (w.alloc (fanObj (cyc ns x).1 ns.length)) (GivesInts (w.alloc (fanObj (cyc ns x).1 ns.length)) (numsZ (rot (x % (rays ns).length) (rays ns)))) := by
  have hx : x % ns.length ≤ ns.length := Nat.le_of_lt (Nat.mod_lt _ hR.pos)
  rw [rays_len]
  have hF : FanAt (w.alloc (fanObj (cyc ns x).1 ns.length)) 0 w.heap.size (rot (x % ns.length) ns) := by
    have hR2 := (hR.rot hx).below (show Below w.heap.size w (w.alloc (fanObj (cyc ns x).1 ns.length)) by go_grown)
    refine ⟨hR2, ?_, fun p hp => ?_, fun p _ => Nat.zero_le _, Nat.zero_le _⟩
    · rw [cyc_rot hx, rot_len, Nat.add_zero, cyc_mod]
      exact World.alloc_heap_new _ _
    · have hp' : p ∈ ns := by
        unfold rot at hp
        rcases List.mem_append.1 hp with h | h
        · exact List.mem_of_mem_drop h
        · exact List.mem_of_mem_take h
      exact Nat.ne_of_lt (hR.mem_lt hp')
  have e : rays (rot (x % ns.length) ns) = rot (x % ns.length) (rays ns) := rot_map _ _ _
  have := callsIn_wide.1 (numbers_in 3 (by omega) 0 _ _ _ hF (by rw [rot_len]; exact hm) (by rw [e]; exact allVec_rot hv (by rw [rays_len]; exact hx)))
  rwa [e] at this
/-- the numbers from a link on, held against 0, k, 0, -k -/
theorem equal_from (l : List V2) (x : Nat) (v : Value) (base : Nat) (w : World) (h0 : 0 < l.length) (hm : l.length ≤ 1000) (hk : 0 ≤ numZ l (x + 1)) (hV : Ints w base v (numsZ (rot (x % l.length) l))) :
    Calls Tryd.prog 140 #[v, .slice (some ⟨w.heap.size, 0, none⟩) 4 4] (w.alloc (.cells #[.int .i64 0, .int .i64 (numZ l (x + 1)), .int .i64 0, .int .i64 (-numZ l (x + 1))] 3)) fun e w' => e = .returned (.bool (fromB l x)) ∧ Below w.heap.size w w' := by
  have hlen : (numsZ (rot (x % l.length) l)).length = l.length := by rw [nums_len, rot_len]
  have hx : x % l.length ≤ l.length := Nat.le_of_lt (Nat.mod_lt _ h0)
  obtain ⟨a, c, rfl, _, hcell⟩ := hV.reads (by rw [hlen]; omega)
  rw [hlen] at hcell ⊢
  by_cases h4 : l.length = 4
  · obtain ⟨bb, off, rfl, hbb, hcs⟩ := hcell h0
    have hA : Below w.heap.size w (w.alloc (.cells #[.int .i64 0, .int .i64 (numZ l (x + 1)), .int .i64 0, .int .i64 (-numZ l (x + 1))] 3)) := by go_grown
    have := slEqual_any bb off w.heap.size 0 4 c 4 (fun j => numZ l (x + j)) (yNum (numZ l (x + 1))) (w.alloc (.cells #[.int .i64 0, .int .i64 (numZ l (x + 1)), .int .i64 0, .int .i64 (-numZ l (x + 1))] 3)) (fun j hj => by
        rw [(hA.cell (p := ⟨bb, off + j, none⟩) hbb), hcs j (by omega), nums_get _ (by rw [rot_len]; omega), num_rot hx h0, num_congr]) (fun j hj => by
        rw [Nat.zero_add, World.cell?_alloc_at _ _ _ _ rfl]
        match j, hj with
        | 0, _ => rfl
        | 1, _ => rfl
        | 2, _ => rfl
        | 3, _ => rfl) (by omega) (Nat.lt_of_lt_of_le hbb hA.size) (by simp)
    rw [eq_from h4 hk] at this
    rw [h4]
    refine this.mono ?_
    rintro e w' ⟨rfl, hb⟩
    exact ⟨rfl, belowTo hA hb⟩
  · rw [from_len h4]
    refine (slEqual_ne _ _ _ _ _ _ _ h4).mono ?_
    rintro e w' ⟨rfl, rfl⟩
    exact ⟨rfl, by go_grown⟩

def KindI (w w0 : World) (l : List V2) (pre : List Nat) (W : World) : Prop :=
  ((Boxed W (w.heap.size + 1) 3 (.int .i64 0) ∧ Boxed W (w.heap.size + 1 + 1) 4 (.bool false)) ∧ ∀ i ∈ pre, fromB l i = false) ∧ Below (w.heap.size + 1) w0 W
def KindX (w w0 : World) (l : List V2) (c : Code) (pre : List Nat) (W : World) : Prop :=
  ((c = .ret ∧ ∃ p x, pre = p ++ [x] ∧ fromB l x = true) ∧ ∃ x p, pre = p ++ [x] ∧ (Boxed W (w.heap.size + 1) 3 (.int .i64 (numZ l (x + 1))) ∧ Boxed W (w.heap.size + 1 + 1) 4 (.bool true))) ∧ Below (w.heap.size + 1) w0 W
theorem kindI_own (w w0 : World) (l : List V2) {k : Nat} (h0 : w.heap.size + 1 ≤ w0.heap.size) (h : w.heap.size + 1 ≤ k) : OwnFrom k (KindI w w0 l) :=
  OwnFrom.and (OwnFrom.and (OwnFrom.and (Own.from (ownErr _ _ _) _) (Own.from (ownErr _ _ _) _)) (ownFrom_pure k (fun pre => ∀ i ∈ pre, fromB l i = false))) (ownFrom_below h0 h)
theorem kindX_own (w w0 : World) (l : List V2) (c : Code) {k : Nat} (h0 : w.heap.size + 1 ≤ w0.heap.size) (h : w.heap.size + 1 ≤ k) : OwnFrom k (KindX w w0 l c) := by
  refine OwnFrom.and (OwnFrom.and (ownFrom_pure k (fun pre => c = .ret ∧ ∃ p x, pre = p ++ [x] ∧ fromB l x = true)) ?_) (ownFrom_below h0 h)
  rintro s X Y row ⟨x, p, rfl, hb, hb2⟩ hg hr
  exact ⟨x, p, rfl, ownErr _ _ _ (p ++ [x]) X Y row hb hg (fun r e => (hr r e).2), ownErr _ _ _ (p ++ [x]) X Y row hb2 hg (fun r e => (hr r e).2)⟩
set_option maxHeartbeats 8000000 in
theorem kind_three (base g : Nat) (ns : List Node) (w : World) (hF : FanAt w base g ns) (h3 : ns.length = 3) :
    Calls Tryd.prog 111 #[.pointer (some ⟨g, 0, none⟩)] w fun e w' => e = .returned (.tuple #[.int .i64 (-1), .bool true]) ∧ Below w.heap.size w w' := by
  have q0 := hF.head.c1
  have q1 := hF.head.lt
  rw [h3] at q0
  have hA : Below w.heap.size w (((w.alloc (.cells #[.pointer (some ⟨g, 0, none⟩)] 92)).alloc (.cells #[.int .i64 0] 3)).alloc (.cells #[.bool false] 4)) := by go_grown
  have g0 : (((w.alloc (.cells #[.pointer (some ⟨g, 0, none⟩)] 92)).alloc (.cells #[.int .i64 0] 3)).alloc (.cells #[.bool false] 4)).cell? ⟨g, 1, none⟩ = some (.int .i64 ((3 : Nat) : Int)) := (hA.cell (p := ⟨g, 1, none⟩) q1).trans q0
  have b1 := ((Boxed.new (w.alloc (.cells #[.pointer (some ⟨g, 0, none⟩)] 92)) 3 (.int .i64 0)).alloc (.cells #[.bool false] 4))
  have b2 := Boxed.new ((w.alloc (.cells #[.pointer (some ⟨g, 0, none⟩)] 92)).alloc (.cells #[.int .i64 0] 3)) 4 (.bool false)
  simp only [World.size_alloc] at b1 b2
  have x1 := b1.set (.int .i64 (-1))
  have x2 : Boxed ((((w.alloc (.cells #[.pointer (some ⟨g, 0, none⟩)] 92)).alloc (.cells #[.int .i64 0] 3)).alloc (.cells #[.bool false] 4)).setCell ⟨w.heap.size + 1, 0, none⟩ (.int .i64 (-1))) (w.heap.size + 1 + 1) 4 (.bool false) := (Below.heap_setCell (((w.alloc (.cells #[.pointer (some ⟨g, 0, none⟩)] 92)).alloc (.cells #[.int .i64 0] 3)).alloc (.cells #[.bool false] 4)) ⟨w.heap.size + 1, 0, none⟩ (.int .i64 (-1)) (w.heap.size + 1 + 1) (by simp)).trans b2
  have x3 := (x2.set (.bool true)).cell
  have x4 : (((((w.alloc (.cells #[.pointer (some ⟨g, 0, none⟩)] 92)).alloc (.cells #[.int .i64 0] 3)).alloc (.cells #[.bool false] 4)).setCell ⟨w.heap.size + 1, 0, none⟩ (.int .i64 (-1))).setCell ⟨w.heap.size + 1 + 1, 0, none⟩ (.bool true)).cell? ⟨w.heap.size + 1, 0, none⟩ = some (.int .i64 (-1)) := by
    have : Boxed (((((w.alloc (.cells #[.pointer (some ⟨g, 0, none⟩)] 92)).alloc (.cells #[.int .i64 0] 3)).alloc (.cells #[.bool false] 4)).setCell ⟨w.heap.size + 1, 0, none⟩ (.int .i64 (-1))).setCell ⟨w.heap.size + 1 + 1, 0, none⟩ (.bool true)) (w.heap.size + 1) 3 (.int .i64 (-1)) := (Below.heap_setCell _ ⟨w.heap.size + 1 + 1, 0, none⟩ (.bool true) (w.heap.size + 1) (by simp)).trans x1
    exact this.cell
  have hB2 : Below w.heap.size w (((((w.alloc (.cells #[.pointer (some ⟨g, 0, none⟩)] 92)).alloc (.cells #[.int .i64 0] 3)).alloc (.cells #[.bool false] 4)).setCell ⟨w.heap.size + 1, 0, none⟩ (.int .i64 (-1))).setCell ⟨w.heap.size + 1 + 1, 0, none⟩ (.bool true)) := (hA.setCell (p := ⟨w.heap.size + 1, 0, none⟩) (by simp) _).setCell (p := ⟨w.heap.size + 1 + 1, 0, none⟩) (by simp; omega) _
  have c1 := b1.cell
  have f1 := b1.frozen
  have c2 := x2.cell
  have f2 := x2.frozen
  clear q0 b1 b2 x1 x2
  go_enter Tryd.func111, Tryd.ntmps111
  go_wp2
  go_returns
  first
    | exact ⟨rfl, hB2⟩
    | exact ⟨rfl, by go_grown⟩
set_option maxHeartbeats 8000000 in
theorem kind_more (n : Nat) (hn : 3 ≤ n) (base g : Nat) (ns : List Node) (w : World) (hF : FanAt w base g ns) (hm : ns.length ≤ 1000) (hS : Smooth (rays ns)) (h3 : 3 < ns.length) :
    CallsIn Fence.wide n Tryd.prog 111 #[.pointer (some ⟨g, 0, none⟩)] w fun e w' => e = .returned (.tuple #[.int .i64 (gate (kindOk (rays ns)) (kind4 (rays ns))), .bool (kindOk (rays ns))]) ∧ Below w.heap.size w w' := by
  have h1 : 1 ≤ n := by omega
  have hd : 1 ≤ n - 1 - 1 := by omega
  have hR := hF.ring
  have hp := hR.pos
  have q0 := hF.head.c1
  have q1 := hF.head.lt
  have q2 : ¬ (ns.length : Int) = 3 := by omega
  have q3 : ((ns.length : Int) == 3) = false := by simpa using q2
  have hA0 : Below w.heap.size w (((w.alloc (.cells #[.pointer (some ⟨g, 0, none⟩)] 92)).alloc (.cells #[.int .i64 0] 3)).alloc (.cells #[.bool false] 4)) := by go_grown
  have g0 : (((w.alloc (.cells #[.pointer (some ⟨g, 0, none⟩)] 92)).alloc (.cells #[.int .i64 0] 3)).alloc (.cells #[.bool false] 4)).cell? ⟨g, 1, none⟩ = some (.int .i64 (ns.length : Int)) := (hA0.cell (p := ⟨g, 1, none⟩) q1).trans q0
  have b1 := ((Boxed.new (w.alloc (.cells #[.pointer (some ⟨g, 0, none⟩)] 92)) 3 (.int .i64 0)).alloc (.cells #[.bool false] 4))
  have b2 := Boxed.new ((w.alloc (.cells #[.pointer (some ⟨g, 0, none⟩)] 92)).alloc (.cells #[.int .i64 0] 3)) 4 (.bool false)
  simp only [World.size_alloc] at b1 b2
  have p0 : (((w.alloc (.cells #[.pointer (some ⟨g, 0, none⟩)] 92)).alloc (.cells #[.int .i64 0] 3)).alloc (.cells #[.bool false] 4)).cell? ⟨w.heap.size, 0, none⟩ = some (.pointer (some ⟨g, 0, none⟩)) := (World.cell?_alloc_lt _ _ ⟨_, _, none⟩ (by simp only [World.size_alloc]; omega)).trans ((World.cell?_alloc_lt _ _ ⟨_, _, none⟩ (by simp only [World.size_alloc]; omega)).trans (by simp))
  have w0c : (w.alloc (.cells #[.pointer (some ⟨g, 0, none⟩)] 92)).cell? ⟨w.heap.size, 0, none⟩ = some (.pointer (some ⟨g, 0, none⟩)) := by simp
  have hz : (((w.alloc (.cells #[.pointer (some ⟨g, 0, none⟩)] 92)).alloc (.cells #[.int .i64 0] 3)).alloc (.cells #[.bool false] 4)).heap.size = w.heap.size + 1 + 1 + 1 := by simp
  have hw0 : Below w.heap.size w (w.alloc (.cells #[.pointer (some ⟨g, 0, none⟩)] 92)) := by go_grown
  have hz0 : (w.alloc (.cells #[.pointer (some ⟨g, 0, none⟩)] 92)).heap.size = w.heap.size + 1 := by simp
  have hAw : Below (w.heap.size + 1) (w.alloc (.cells #[.pointer (some ⟨g, 0, none⟩)] 92)) (((w.alloc (.cells #[.pointer (some ⟨g, 0, none⟩)] 92)).alloc (.cells #[.int .i64 0] 3)).alloc (.cells #[.bool false] 4)) := by go_grown
  refine callsIn_of_wp_marks Tryd.func111 rfl trivial ?_ rfl
  simp only [Tryd.ntmps111, List.size_toArray, List.length_cons, List.length_nil, Nat.reduceAdd, Nat.reduceSub, Array.replicate_succ, Array.replicate_zero, List.push_toArray, List.append_toArray, List.nil_append, List.cons_append]
  gi_wp2_with fail
  refine ⟨trivial, ?_⟩
  refine CallsIn.mono (links_in _ g _) ?_
  rintro e w3 ⟨rfl, rfl⟩
  have bF := Boxed.new (((w.alloc (.cells #[.pointer (some ⟨g, 0, none⟩)] 92)).alloc (.cells #[.int .i64 0] 3)).alloc (.cells #[.bool false] 4)) 92 (.pointer (some ⟨g, 0, none⟩))
  have hA5 : Below w.heap.size w ((((w.alloc (.cells #[.pointer (some ⟨g, 0, none⟩)] 92)).alloc (.cells #[.int .i64 0] 3)).alloc (.cells #[.bool false] 4)).alloc (.cells #[.pointer (some ⟨g, 0, none⟩)] 92)) := by go_grown
  have hAw5 : Below (w.heap.size + 1) (w.alloc (.cells #[.pointer (some ⟨g, 0, none⟩)] 92)) ((((w.alloc (.cells #[.pointer (some ⟨g, 0, none⟩)] 92)).alloc (.cells #[.int .i64 0] 3)).alloc (.cells #[.bool false] 4)).alloc (.cells #[.pointer (some ⟨g, 0, none⟩)] 92)) := hAw.alloc (by simp only [World.size_alloc]; omega) _
  have y1 := b1.alloc (.cells #[.pointer (some ⟨g, 0, none⟩)] 92)
  have y2 := b2.alloc (.cells #[.pointer (some ⟨g, 0, none⟩)] 92)
  have hz5 : ((((w.alloc (.cells #[.pointer (some ⟨g, 0, none⟩)] 92)).alloc (.cells #[.int .i64 0] 3)).alloc (.cells #[.bool false] 4)).alloc (.cells #[.pointer (some ⟨g, 0, none⟩)] 92)).heap.size = w.heap.size + 1 + 1 + 1 + 1 := by simp
  simp only [World.size_alloc] at bF
  clear b1 b2 hAw g0 p0 hz
  gi_wp2_with fail
  generalize ((((w.alloc (.cells #[.pointer (some ⟨g, 0, none⟩)] 92)).alloc (.cells #[.int .i64 0] 3)).alloc (.cells #[.bool false] 4)).alloc (.cells #[.pointer (some ⟨g, 0, none⟩)] 92)) = W5 at *
  generalize (w.alloc (.cells #[.pointer (some ⟨g, 0, none⟩)] 92)) = w0 at *
  refine wpIn_links (by omega) rfl bF.cell hA5.size (hF.below hA5) (fun p hp => hR.mem_lt hp) (by omega) rfl (KindI w w0 (rays ns)) (KindX w w0 (rays ns)) (kindI_own w w0 _ (by omega) (by omega)) (fun c => kindX_own w w0 _ c (by omega) (by omega))
    ⟨⟨⟨y1, y2⟩, fun i hi => by cases hi⟩, hAw5⟩ ?a₁ ?assign ?body ?done ?stop
  case assign =>
    intro l x W K hK
    gi_wp2
    exact hK
  case body =>
    rintro l pre x W ⟨⟨⟨hr1, hr2⟩, hq⟩, hb⟩ hlen
    have hbw : Below w.heap.size w W := hw0.trans (hb.mono (by omega))
    have hRW := hR.below hbw
    have k3 := (hRW.link x).c3
    have kl := (hRW.link x).lt
    have HN := Lib.hid (number_any ns (x + 1) W hRW hS.1)
    have HFr := Lib.hid (fun w' (h : Below W.heap.size W w') => from_any ns x w' (hRW.below h) hm hS.1)
    have HEq := Lib.hid (fun v base w' hk hV => equal_from (rays ns) x v base w' (by rw [rays_len]; exact hp) (by rw [rays_len]; exact hm) hk hV)
    obtain ⟨n1, n2⟩ := num_bd hS.1 (x + 1)
    have q5 : IntKind.i64.wrap (-(numZ (rays ns) (x + 1))) = -(numZ (rays ns) (x + 1)) := by rw [IntKind.wrap_i64]; omega
    have c0 : W.cell? ⟨w.heap.size, 0, none⟩ = some (.pointer (some ⟨g, 0, none⟩)) := (hb.cell (p := ⟨w.heap.size, 0, none⟩) (by simp)).trans w0c
    have g1 : W.cell? ⟨g, 1, none⟩ = some (.int .i64 (ns.length : Int)) := (hbw.cell (p := ⟨g, 1, none⟩) q1).trans q0
    have HNg := Lib.hid (fun h => from_neg (l := rays ns) (x := x) h)
    have HQ := Lib.hid hq
    have rl1 := hr1.lt
    have rl2 := hr2.lt
    clear hq
    generalize hkk : numZ (rays ns) (x + 1) = k at *
    have HKK := Lib.hid hkk
    clear hkk
    generalize numsZ (rot (x % (rays ns).length) (rays ns)) = L at *
    generalize (cyc ns x).1 = q at *
    generalize (cyc ns (x + 1)).1 = q' at *
    have HX : Hid (fromB (rays ns) x = false → ∀ i ∈ pre ++ [x], fromB (rays ns) i = false) := fun h i hi => by
      rcases List.mem_append.1 hi with hi | hi
      · exact HQ.out i hi
      · obtain rfl := List.mem_singleton.1 hi
        exact h
    gi_wp2_with fail
    refine ⟨trivial, ?_⟩
    refine CallsIn.mono (CallsIn.inRound l (callsIn_wide.2 HN.out)) ?_
    rintro e w2 ⟨rfl, hb2⟩
    have c0' := (hb2.cell (p := ⟨w.heap.size, 0, none⟩) (by dsimp only; omega)).trans c0
    have g1' := (hb2.cell (p := ⟨g, 1, none⟩) (Nat.lt_of_lt_of_le q1 hbw.size)).trans g1
    have hs2 := hb2.size
    have hsw : w.heap.size < w2.heap.size := by omega
    have hsg : g < w2.heap.size := Nat.lt_of_lt_of_le q1 (Nat.le_trans hbw.size hs2)
    clear c0 g1 k3
    by_cases hk : 0 ≤ k
    · have HFq := Lib.hid (HFr.out w2 hb2)
      unfold fanObj at HFq
      gi_wp2_with fail
      refine ⟨trivial, ?_⟩
      refine CallsIn.mono (CallsIn.inRound l (callsIn_wide.2 HFq.out)) ?_
      rintro e w3 ⟨v, rfl, hV, hb3⟩
      have hb' : Below W.heap.size W w3 := belowTo (hb2.alloc hs2 _) hb3
      have HE := Lib.hid (HEq.out v _ w3 hk hV)
      clear hb2 hb3 hV HEq HFq HFr HN
      gi_wp2_with fail
      refine ⟨trivial, ?_⟩
      refine CallsIn.mono (CallsIn.inRound l (callsIn_wide.2 HE.out)) ?_
      rintro e w4 ⟨rfl, hb4⟩
      replace hb' := belowTo hb' hb4
      have hr1' : Boxed w4 (w.heap.size + 1) 3 (.int .i64 0) := (hb'.block _ rl1).trans hr1
      have hr2' : Boxed w4 (w.heap.size + 1 + 1) 4 (.bool false) := (hb'.block _ rl2).trans hr2
      have KO := Lib.hid (KeepsOthers.of_grownBy (grown_of_below hb' none) (fun _ _ e _ => by cases e))
      have hW2 := hb.trans (hb'.mono (by omega))
      have hbW := hb'.mono (B' := w.heap.size) (by omega)
      clear hb4 hb' HE
      cases hf : fromB (rays ns) x
      · have HF := Lib.hid (HX.out hf)
        clear hf HX
        gi_wp2
        exact ⟨KO.out, hbW, ⟨⟨hr1', hr2'⟩, HF.out⟩, hW2⟩
      · have HF := Lib.hid hf
        have e1 := hr1'.cell
        have f1 := hr1'.frozen
        have z2 : Boxed (w4.setCell ⟨w.heap.size + 1, 0, none⟩ (.int .i64 k)) (w.heap.size + 1 + 1) 4 (.bool false) := (Below.heap_setCell w4 ⟨w.heap.size + 1, 0, none⟩ (.int .i64 k) (w.heap.size + 1 + 1) (by simp)).trans hr2'
        have z3 : Boxed ((w4.setCell ⟨w.heap.size + 1, 0, none⟩ (.int .i64 k)).setCell ⟨w.heap.size + 1 + 1, 0, none⟩ (.bool true)) (w.heap.size + 1) 3 (.int .i64 k) := (Below.heap_setCell _ ⟨w.heap.size + 1 + 1, 0, none⟩ (.bool true) (w.heap.size + 1) (by simp)).trans (hr1'.set _)
        have e2 := z2.cell
        have f2 := z2.frozen
        clear hf HX
        gi_wp2
        refine ⟨(KO.out.trans (KeepsOthers.setCell _ _ _)).trans (KeepsOthers.setCell _ _ _), ⟨⟨rfl, pre, x, rfl, HF.out⟩, x, pre, rfl, ?_, z2.set _⟩, (hW2.setCell (p := ⟨w.heap.size + 1, 0, none⟩) (by simp) _).setCell (p := ⟨w.heap.size + 1 + 1, 0, none⟩) (by simp) _⟩
        rw [HKK.out]
        exact z3
    · have HF := Lib.hid (HX.out (HNg.out (by omega)))
      have hk2 : decide (0 ≤ k) = false := decide_eq_false hk
      have hk3 : k < 0 := by omega
      have hb' : Below W.heap.size W (w2.alloc (.cells #[.pointer (some ⟨q, 0, none⟩), .int .i64 (ns.length : Int)] 135)) := hb2.alloc hs2 _
      have hr1' := (hb'.block _ rl1).trans hr1
      have hr2' := (hb'.block _ rl2).trans hr2
      have KO := Lib.hid (KeepsOthers.of_grownBy (grown_of_below hb' none) (fun _ _ e _ => by cases e))
      have hW2 := hb.trans (hb'.mono (by omega))
      have hbW := hb'.mono (B' := w.heap.size) (by omega)
      clear HX
      gi_wp2_with fail
      refine ⟨trivial, ?_⟩
      gi_wp2_with fail
      refine ⟨trivial, ?_⟩
      gi_wp2
      exact ⟨KO.out, hbW, ⟨⟨hr1', hr2'⟩, HF.out⟩, hW2⟩
  case done =>
    rintro D W hD ⟨⟨⟨hr1, hr2⟩, hq⟩, hb⟩ hK
    have HE : Hid (kindOk (rays ns) = false) := not_kind hS (by rw [rays_len]; omega) (by rw [rays_len]; omega) (fun i hi => hq i (List.mem_range.2 (by rwa [rays_len] at hi)))
    have e1 := hr1.cell
    have f1 := hr1.frozen
    have hK1 : (W.setCell ⟨w.heap.size + 1, 0, none⟩ (.int .i64 0)).heap[D]? = some (.deferred (some [])) := (Below.heap_setCell W ⟨w.heap.size + 1, 0, none⟩ _ D (by simp; omega)).trans hK
    have hK' : ((W.setCell ⟨w.heap.size + 1, 0, none⟩ (.int .i64 0)).setCell ⟨w.heap.size + 1 + 1, 0, none⟩ (.bool false)).heap[D]? = some (.deferred (some [])) := (Below.heap_setCell _ ⟨w.heap.size + 1 + 1, 0, none⟩ _ D (by simp; omega)).trans hK1
    have z2 : Boxed (W.setCell ⟨w.heap.size + 1, 0, none⟩ (.int .i64 0)) (w.heap.size + 1 + 1) 4 (.bool false) := (Below.heap_setCell W ⟨w.heap.size + 1, 0, none⟩ (.int .i64 0) (w.heap.size + 1 + 1) (by simp)).trans hr2
    have e2 := z2.cell
    have f2 := z2.frozen
    have z3 : Boxed ((W.setCell ⟨w.heap.size + 1, 0, none⟩ (.int .i64 0)).setCell ⟨w.heap.size + 1 + 1, 0, none⟩ (.bool false)) (w.heap.size + 1) 3 (.int .i64 0) := (Below.heap_setCell _ ⟨w.heap.size + 1 + 1, 0, none⟩ (.bool false) (w.heap.size + 1) (by simp)).trans (hr1.set _)
    have kk1 := (boxed_putObj z3 (.deferred none) hK' rfl).cell
    have kk2 := (boxed_putObj (z2.set (.bool false)) (.deferred none) hK' rfl).cell
    have hbw : Below w.heap.size w W := hw0.trans (hb.mono (by omega))
    have hB2 : Below w.heap.size w (((W.setCell ⟨w.heap.size + 1, 0, none⟩ (.int .i64 0)).setCell ⟨w.heap.size + 1 + 1, 0, none⟩ (.bool false)).putObj D (.deferred none)) := ((hbw.setCell (p := ⟨w.heap.size + 1, 0, none⟩) (by simp) _).setCell (p := ⟨w.heap.size + 1 + 1, 0, none⟩) (by simp; omega) _).grown (grownBy_putObj' _ D (.deferred none)) (by simpa using hbw.size) (fun k e => by cases e; omega)
    have hKK := Lib.hid hK'
    clear hK hK' hK1 hq
    gi_wp2
    refine ⟨by simp, .inl ⟨_, _, rfl, run_takeDeferred hKK.out, ?_⟩⟩
    exact ⟨.tuple #[.int .i64 0, .bool false], by simp [results, Tryd.f111, go_sem, kk1, kk2], by rw [HE.out]; rfl, hB2⟩
  case stop =>
    rintro D c pre W hD hpre ⟨⟨⟨rfl, p, x, rfl, hx⟩, x', p', hpp, hr1, hr2⟩, hb⟩ hK
    obtain ⟨rfl, hxn⟩ := prefix_range hpre
    obtain ⟨-, e2⟩ := List.append_inj' hpp rfl
    obtain rfl : x = x' := by simpa using e2
    have h4 : (rays ns).length = 4 := by
      unfold fromB at hx
      rw [Bool.and_eq_true] at hx
      exact of_decide_eq_true hx.1
    obtain ⟨t1, t2⟩ := from_kind hS (x := x) (by rw [rays_len] at h4; omega) hx
    have HE := Lib.hid (And.intro t1 t2)
    have kk1 := (boxed_putObj hr1 (.deferred none) hK rfl).cell
    have kk2 := (boxed_putObj hr2 (.deferred none) hK rfl).cell
    have hbw : Below w.heap.size w W := hw0.trans (hb.mono (by omega))
    have hB2 : Below w.heap.size w (W.putObj D (.deferred none)) := hbw.grown (grownBy_putObj' _ D (.deferred none)) hbw.size (fun k e => by cases e; omega)
    have hKK := Lib.hid hK
    clear hK hpp e2 hpre h4 t1 t2 hx
    gi_wp2
    refine ⟨by simp, .inl ⟨_, _, rfl, run_takeDeferred hKK.out, ?_⟩⟩
    exact ⟨.tuple #[.int .i64 (numZ (rays ns) (x + 1)), .bool true], by simp [results, Tryd.f111, go_sem, kk1, kk2], by rw [HE.out.1, HE.out.2]; rfl, hB2⟩
theorem fanKindM_any (base g : Nat) (ns : List Node) (w : World) (hF : FanAt w base g ns) (hm : ns.length ≤ 1000) (hS : Smooth (rays ns)) (h3 : 3 ≤ ns.length) :
    Calls Tryd.prog 111 #[.pointer (some ⟨g, 0, none⟩)] w fun e w' => e = .returned (.tuple #[.int .i64 (gate (kindOk (rays ns)) (kind4 (rays ns))), .bool (kindOk (rays ns))]) ∧ Below w.heap.size w w' := by
  by_cases h : ns.length = 3
  · have e1 : kindOk (rays ns) = true := by unfold kindOk; rw [rays_len, h]; rfl
    have e2 : kind4 (rays ns) = -1 := by unfold kind4; rw [rays_len, if_pos h]
    rw [e1, e2]
    exact kind_three base g ns w hF h
  · exact callsIn_wide.1 (kind_more 3 (by omega) base g ns w hF hm hS (by omega))
end Go.Proofs.YtcieihbknfeddaaDoor

/- The kind of a fan: both sides. -/
namespace Go.Proofs.YtcieihbknfeddaaDoor
open Go.RowKit

set_option maxHeartbeats 4000000 in
theorem fanKind_any (v : Value) (l : List V2) (w : World) (hl : ReadsVecs w v l) (hg : EtOk w) :
    Calls Tryd.prog 60 #[v] w fun e w' => e = .returned (.tuple #[.int .i64 (gate (smoothB l && kindOk l) (kind4 l)), .bool (smoothB l && kindOk l)]) ∧ Below w.heap.size w w' := by
  have HO := Lib.hid (smoothFanOf_any v l w hl hg)
  have HS := Lib.hid (fun (ns : List Node) h hn => fan_small (l := l) (ns := ns) (smooth_in h).1 hn)
  have HV := Lib.hid (fun h => And.intro (smooth_all (l := l) h) (fan_len (smooth_in (l := l) h).1).1)
  clear hl hg
  cases hb : smoothB l
  · rw [hb] at HO
    clear hb HS HV
    go_enter Tryd.func60, Tryd.ntmps60
    go_wp2_with fail
    refine Calls.mono HO.out ?_
    rintro e w1 ⟨⟨h, _⟩ | ⟨_, rfl⟩, hb1⟩
    · cases h
    · go_wp2
      go_returns
      exact ⟨rfl, hb1⟩
  · rw [hb] at HO HS HV
    clear hb
    go_enter Tryd.func60, Tryd.ntmps60
    go_wp2_with fail
    refine Calls.mono HO.out ?_
    rintro e w1 ⟨⟨_, g, ns, rfl, hF, hn⟩ | ⟨h, _⟩, hb1⟩
    · obtain ⟨hs, hnl⟩ := HS.out ns (by simp) hn
      obtain ⟨hS, h3⟩ := HV.out (by simp)
      have HK := Lib.hid (fanKindM_any _ g ns w1 hF hs (by rw [hn]; exact hS) (by omega))
      rw [hn] at HK
      clear hF hn hs hnl hS h3 HO HS HV
      go_wp2_with fail
      refine Calls.mono HK.out ?_
      rintro e w2 ⟨rfl, hb2⟩
      have hB := belowTo hb1 hb2
      clear hb1 hb2
      go_wp2
      go_returns
      exact ⟨rfl, hB⟩
    · cases h
theorem run_max_int4 {P : Program} {w : World} (ts : Array TypeId) (t : TypeId) (k1 k2 k3 k4 : IntKind) (x y z u : Int) : (Builtin.max_ ts t #[.int k1 x, .int k2 y, .int k3 z, .int k4 u]).run P w = .ok (.int k1 (max (max (max x y) z) u)) w := by
  have h : (Builtin.max_ ts t #[.int k1 x, .int k2 y, .int k3 z, .int k4 u]).run P w = .ok (.int k1 (if u > (if z > (if y > x then y else x) then z else (if y > x then y else x)) then u else (if z > (if y > x then y else x) then z else (if y > x then y else x)))) w := by
    simp [Builtin.max_, Builtin.max2]
  rw [h]
  congr 2
  (repeat' split) <;> omega
attribute [local go_sem] run_max_int4
theorem max_kind {l : List V2} (h4 : l.length = 4) (hS : Smooth l) : max (numZ l 0) (max (numZ l 1) (max (numZ l 2) (numZ l 3))) = kind4 l := by
  obtain ⟨h0, h2, h3, _⟩ := four_cases h4 hS
  unfold kind4 kindM
  rw [h4, if_neg (by omega), if_pos rfl, h2, h3]
  (repeat' split) <;> omega
set_option maxHeartbeats 4000000 in
theorem specFanKind_any (v : Value) (l : List V2) (w : World) (hl : ReadsVecs w v l) :
    Calls Tryd.prog 59 #[v] w fun e w' => e = .returned (.tuple #[.int .i64 (gate (smoothB l && kindOk l) (kind4 l)), .bool (smoothB l && kindOk l)]) ∧ Below w.heap.size w w' := by
  have HN := Lib.hid (specFanNumbers_any v l w hl)
  have HV := Lib.hid (fun h => And.intro (smooth_all (l := l) h) (fan_len (smooth_in (l := l) h).1))
  obtain ⟨a, c, rfl, _, _, _⟩ := hl
  cases hb : smoothB l
  · rw [hb] at HN
    clear hb HV
    go_enter Tryd.func59, Tryd.ntmps59
    go_wp2_with fail
    refine Calls.mono HN.out ?_
    rintro e w1 ⟨v1, rfl, _, hb1⟩
    go_wp2
    go_returns
    exact ⟨rfl, hb1⟩
  · rw [hb] at HN HV
    clear hb
    obtain ⟨hS, h3, h20⟩ := HV.out (by simp)
    by_cases h4 : l.length ≤ 4
    · have hk : kindOk l = true := by unfold kindOk; simpa using h4
      rw [hk]
      by_cases hl3 : l.length = 3
      · have hz : kind4 l = -1 := by unfold kind4; rw [if_pos hl3]
        rw [hz]
        have i1 : ¬ (4 : Int) < (l.length : Int) := by omega
        have i2 : (l.length : Int) = 3 := by omega
        clear HV hS h3 h20 h4 hk hl3 hz
        go_enter Tryd.func59, Tryd.ntmps59
        go_wp2_with fail
        refine Calls.mono HN.out ?_
        rintro e w1 ⟨v1, rfl, _, hb1⟩
        go_wp2
        go_returns
        exact ⟨rfl, hb1⟩
      · have h4' : l.length = 4 := by omega
        have HZ := Lib.hid (max_kind h4' hS)
        have i1 : ¬ (4 : Int) < (l.length : Int) := by omega
        have i2 : ¬ (l.length : Int) = 3 := by omega
        have HG := Lib.hid (fun j (hj : j < 4) => nums_get l (j := j) (by omega))
        have HL : Hid ((gV true (numsZ l)).length = 4) := by show (numsZ l).length = 4; rw [nums_len]; exact h4'
        clear HV hS h3 h20 h4 hk hl3 h4'
        generalize kind4 l = Q at *
        go_enter Tryd.func59, Tryd.ntmps59
        go_wp2_with fail
        refine Calls.mono HN.out ?_
        rintro e w1 ⟨v1, rfl, hI, hb1⟩
        obtain ⟨a1, c1, rfl, _, hcell⟩ := hI.reads (by rw [HL.out]; omega)
        rw [HL.out] at hcell ⊢
        obtain ⟨bb, off, rfl, hbb, hcs⟩ := hcell (by omega)
        have k0 := hcs 0 (by omega)
        have k1 := hcs 1 (by omega)
        have k2 := hcs 2 (by omega)
        have k3 := hcs 3 (by omega)
        change _ = some (Value.int .i64 ((numsZ l)[0]?.getD 0)) at k0
        change _ = some (Value.int .i64 ((numsZ l)[1]?.getD 0)) at k1
        change _ = some (Value.int .i64 ((numsZ l)[2]?.getD 0)) at k2
        change _ = some (Value.int .i64 ((numsZ l)[3]?.getD 0)) at k3
        rw [HG.out _ (by omega)] at k0 k1 k2 k3
        clear hcs hcell hI HL
        generalize numZ l 0 = z0 at *
        generalize numZ l 1 = z1 at *
        generalize numZ l 2 = z2 at *
        generalize numZ l 3 = z3 at *
        rw [Nat.add_zero] at k0
        have hl1 : bb < w1.heap.size := hbb
        go_wp2
        go_region
        go_wp2
        go_returns
        exact ⟨by rw [← HZ.out]; rfl, by go_grown⟩
    · have hk : kindOk l = false := by unfold kindOk; simpa using h4
      rw [hk]
      have i1 : (4 : Int) < (l.length : Int) := by omega
      clear HV hS h3 h20 h4 hk
      go_enter Tryd.func59, Tryd.ntmps59
      go_wp2_with fail
      refine Calls.mono HN.out ?_
      rintro e w1 ⟨v1, rfl, _, hb1⟩
      go_wp2
      go_returns
      exact ⟨rfl, hb1⟩
end Go.Proofs.YtcieihbknfeddaaDoor
