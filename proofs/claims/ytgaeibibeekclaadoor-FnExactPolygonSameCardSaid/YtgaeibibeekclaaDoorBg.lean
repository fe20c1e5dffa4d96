import Derived.Test.YtgaeibibeekclaaDoorK2
import Derived.Test.YtgaeibibeekclaaDoorB1
import Derived.Test.YtgaeibibeekclaaDoorB2
/- Polygons that are moved by matrices: the mathematics. -/
namespace Go.Proofs.YtgaeibibeekclaaDoor
open Go.RowKit

theorem hullD_same {l m : List V2} (h : ∀ q, q ∈ l ↔ q ∈ m) : hullD l = hullD m := by
  unfold hullD
  rw [asc_ext (sortD_asc l) (sortD_asc m) (fun q => by rw [sortD_mem, sortD_mem, h])]
theorem cyc_rev {l : List V2} (h0 : 0 < l.length) (i t : Nat) (ht : t ≤ l.length) : cyc l.reverse (i + t) = cyc l (l.length - 1 - i % l.length + l.length - t) := by
  have hr : l.reverse.length = l.length := by simp
  have ha := Nat.mod_lt i h0
  have h1 : cyc l.reverse (i + t) = cyc l.reverse ((i % l.length + t) % l.length) := by
    refine cyc_congr _ ?_
    rw [hr, Nat.mod_mod, Nat.mod_add_mod]
  have h2 : ∀ a, a < l.length → cyc l.reverse a = cyc l (l.length - 1 - a) := fun a ha => by
    rw [cyc_lt (by rw [hr]; exact ha), cyc_lt (by omega), List.getElem?_reverse ha]
  rw [h1]
  by_cases c : i % l.length + t < l.length
  · rw [Nat.mod_eq_of_lt c, h2 _ c]
    refine cyc_congr _ ?_
    rw [show l.length - 1 - i % l.length + l.length - t = (l.length - 1 - (i % l.length + t)) + l.length by omega, Nat.add_mod_right]
  · by_cases c2 : i % l.length + t < l.length + l.length
    · have e : (i % l.length + t) % l.length = i % l.length + t - l.length := by
        rw [Nat.mod_eq_sub_mod (by omega), Nat.mod_eq_of_lt (by omega)]
      rw [e, h2 _ (by omega)]
      congr 1
      omega
    · omega
/-- corners that are turned over, in the opposite order -/
theorem conv_over {l : List V2} (h : ConvS l.length (cyc l)) (F : V2 → V2) (hF : ∀ a b d, dtV (subV (F b) (F a)) (subV (F d) (F a)) = -1 * dtV (subV b a) (subV d a)) : ConvS (l.map F).reverse.length (cyc (l.map F).reverse) := by
  have h3 := h.three
  have hl : (l.map F).length = l.length := List.length_map ..
  have hr : (l.map F).reverse.length = l.length := by simp
  have e : ∀ i t, t ≤ l.length → cyc (l.map F).reverse (i + t) = F (cyc l (l.length - 1 - i % l.length + l.length - t)) := fun i t ht => by
    rw [cyc_rev (by omega) i t (by omega), hl, cyc_map F (by omega)]
  rw [hr]
  refine ⟨h3, fun i => ?_, fun i t h2 hn => ?_⟩
  · have := cyc_add (l.map F).reverse i
    rwa [hr] at this
  · unfold farZ
    have e0 := e i 0 (by omega)
    rw [Nat.add_zero, Nat.sub_zero] at e0
    rw [e i 1 (by omega), e0, e i t (by omega), hF]
    have hj : i % l.length < l.length := Nat.mod_lt _ (by omega)
    generalize hjj : l.length - 1 - i % l.length = j at *
    have q := h.inner (j + l.length - 1) (l.length + 1 - t) (by omega) (by omega)
    unfold farZ at q
    rw [show j + l.length - 1 + 1 = j + l.length by omega, show j + l.length - 1 + (l.length + 1 - t) = (j + l.length - t) + l.length by omega, h.per (j + l.length - t)] at q
    generalize cyc l (j + l.length) = A at *
    generalize cyc l (j + l.length - 1) = B at *
    generalize cyc l (j + l.length - t) = C at *
    have e2 : -1 * dtV (subV B A) (subV C A) = dtV (subV A B) (subV C B) := by unfold dtV subV; grind
    rw [e2]
    exact q
def moveF (a b c d : Int) (u : V2) : V2 := (moveX a b u.1 u.2, moveX c d u.1 u.2)
theorem move_turn (a b c d : Int) (u v z : V2) : dtV (subV (moveF a b c d v) (moveF a b c d u)) (subV (moveF a b c d z) (moveF a b c d u)) = detM a b c d * dtV (subV v u) (subV z u) := by
  unfold dtV subV moveF moveX detM
  grind
/-- the corners, moved, in the order of a polygon -/
def moveL (a b c d : Int) (l : List V2) : List V2 := if 0 < detM a b c d then l.map (moveF a b c d) else (l.map (moveF a b c d)).reverse
theorem hull_move {l : List V2} (h : polyB l = true) {a b c d : Int} (hm : matB a b c d = true) :
    hullD (l.map (moveF a b c d)) = tidyP (moveL a b c d l) ∧ polyB (hullD (l.map (moveF a b c d))) = polyB (moveL a b c d l) := by
  have hd := (mat_in hm).2
  have hc := poly_conv h
  unfold moveL
  by_cases h1 : detM a b c d = 1
  · rw [if_pos (by omega)]
    exact hull_map hc _ 1 (by omega) (fun u v z => by rw [move_turn, h1])
  · have h2 : detM a b c d = -1 := by simpa [detOk, h1] using hd
    rw [if_neg (by omega)]
    have e := hull_round (conv_over hc (moveF a b c d) (fun u v z => by rw [move_turn, h2]))
    rw [hullD_same (m := (l.map (moveF a b c d)).reverse) (fun q => by simp), e, tidyP_poly]
    exact ⟨rfl, rfl⟩
theorem move_big {l : List V2} (h : polyB l = true) {a b c d : Int} (hm : matB a b c d = true) : ∀ x ∈ l.map (moveF a b c d), big 400000 x.1 x.2 := by
  intro x hx
  obtain ⟨y, hy, rfl⟩ := List.mem_map.1 hx
  obtain ⟨j, hj, rfl⟩ := List.mem_iff_getElem.1 hy
  have e : l[j] = cyc l j := by rw [cyc_lt hj, List.getElem?_eq_getElem hj]; rfl
  rw [e]
  obtain ⟨⟨h1, h2⟩, h3, h4⟩ := poly_small h j
  obtain ⟨⟨ka, kb, kc, kd⟩, _⟩ := mat_in hm
  generalize cyc l j = z at *
  have bd : ∀ m u : Int, szB m = true → -100 ≤ u → u ≤ 100 → -100000 ≤ m * u ∧ m * u ≤ 100000 := fun m u hm k1 k2 => by
    obtain ⟨m1, m2⟩ := szB_true hm
    have q1 := Int.mul_nonneg (show 0 ≤ m + 1000 by omega) (show 0 ≤ u + 100 by omega)
    have q2 := Int.mul_nonneg (show 0 ≤ 1000 - m by omega) (show 0 ≤ 100 - u by omega)
    have q3 := Int.mul_nonneg (show 0 ≤ m + 1000 by omega) (show 0 ≤ 100 - u by omega)
    have q4 := Int.mul_nonneg (show 0 ≤ 1000 - m by omega) (show 0 ≤ u + 100 by omega)
    rw [Int.add_mul, Int.mul_add, Int.mul_add] at q1
    rw [Int.sub_mul, Int.mul_sub, Int.mul_sub] at q2
    rw [Int.add_mul, Int.mul_sub, Int.mul_sub] at q3
    rw [Int.sub_mul, Int.mul_add, Int.mul_add] at q4
    omega
  have a1 := bd _ _ ka h1 h2
  have a2 := bd _ _ kb h3 h4
  have a3 := bd _ _ kc h1 h2
  have a4 := bd _ _ kd h3 h4
  unfold big moveF moveX
  dsimp only
  omega
end Go.Proofs.YtgaeibibeekclaaDoor

/- PolygonMove: the program. -/
namespace Go.Proofs.YtgaeibibeekclaaDoor
open Go.RowKit

set_option maxHeartbeats 4000000 in
theorem checkAll_pm (v : Value) (l : List V2) (a b c d : Int) (B : Nat) (w : World) (h : ReadsVecs w v l)
    (c0 : w.cell? ⟨B, 0, none⟩ = some (.iface 51 v)) (c1 : w.cell? ⟨B, 1, none⟩ = some (.iface 77 (.agg #[.int .i64 (a), .int .i64 (b), .int .i64 (c), .int .i64 (d)]))) (hB : B < w.heap.size) :
    Calls Tryd.prog 34 #[.slice (some ⟨B, 0, none⟩) 2 2] w fun e w' => PolyEnd (polyB l && matB a b c d) e ∧ Below w.heap.size w w' := by
  have HC := Lib.hid (fun w' hb => polyCheck_any v l w' (h.below (w := w) hb))
  clear h
  generalize polyB l = K at *
  go_enter Tryd.func34, Tryd.ntmps34
  go_wp2
  refine wp_loop_rounds 3 ?_
  rw [rounds_succ]
  go_wp2_with fail
  refine Calls.mono (HC.out _ (by go_grown)) ?_
  rintro e w1 ⟨he, hb1⟩
  replace hb1 : Below w.heap.size w w1 := belowTo (by go_grown) hb1
  have c1' : w1.cell? ⟨B, 1, none⟩ = some (.iface 77 (.agg #[.int .i64 (a), .int .i64 (b), .int .i64 (c), .int .i64 (d)])) := (hb1.cell (p := ⟨B, 1, none⟩) hB).trans c1
  rcases polyEnd_of he with ⟨rfl, rfl⟩ | ⟨rfl, s, rfl⟩
  · clear he c0 c1 HC
    cases h2 : matB a b c d
    · go_wp2_with fail
      rw [rounds_succ]
      go_wp2_with fail
      go_call (matCheck_out a b c d _ h2) as e w2 ⟨rfl, hb2⟩
      clear c1'
      go_wp2
      go_returns
      exact ⟨polyEnd_err (by rw [h2]; rfl) ⟨_, rfl⟩, belowTo hb1 hb2⟩
    · go_wp2_with fail
      rw [rounds_succ]
      go_wp2_with fail
      go_call (matCheck_in a b c d _ h2) as e w2 ⟨rfl, hb2⟩
      clear c1'
      go_wp2_with fail
      rw [rounds_succ]
      go_wp2
      go_returns
      exact ⟨polyEnd_ok (by rw [h2]; rfl) rfl, belowTo hb1 hb2⟩
  · clear he c0 c1 HC c1'
    go_wp2
    go_returns
    exact ⟨polyEnd_err rfl ⟨_, rfl⟩, hb1⟩
theorem sz_of {a : Int} (h : -1000 ≤ a ∧ a ≤ 1000) : szB a = true := by simp [szB]; omega
def MoveB (l : List V2) (a b c d : Int) : Bool := polyB l && matB a b c d
def MoveL (l : List V2) (a b c d : Int) : List V2 := gV (MoveB l a b c d && polyB (moveL a b c d l)) (tidyP (moveL a b c d l))
end Go.Proofs.YtgaeibibeekclaaDoor

/- PolygonMove: the model. -/
namespace Go.Proofs.YtgaeibibeekclaaDoor
open Go.RowKit

theorem pair_cells (W : World) (X Y : Int) (t : TypeId) : ∀ j u, [Value.int .i64 X, Value.int .i64 Y][j]? = some u → (W.alloc (.cells #[.int .i64 X, .int .i64 Y] t)).cell? ((⟨W.heap.size, 0, none⟩ : Addr).add j) = some u := by
  intro j u hj
  match j, hj with
  | 0, hj => simp at hj; subst hj; simp [Addr.add]
  | 1, hj => simp at hj; subst hj; simp [Addr.add]
theorem pair_one (X Y : Int) : ∀ u ∈ [Value.int .i64 X, Value.int .i64 Y], u.oneCell' = true := by
  intro u hu
  simp at hu
  rcases hu with rfl | rfl <;> rfl
/-- the first corners, moved, in the order that the model gives them -/
def piece (up : Bool) (F : V2 → V2) (l : List V2) (k : Nat) : List V2 := if up then (List.range k).map (fun i => F (cyc l i)) else ((List.range k).map (fun i => F (cyc l i))).reverse
theorem piece_zero (up : Bool) (F : V2 → V2) (l : List V2) : piece up F l 0 = [] := by cases up <;> rfl
theorem piece_size (up : Bool) (F : V2 → V2) (l : List V2) (k : Nat) : (piece up F l k).length = k := by cases up <;> simp [piece]
theorem piece_up (F : V2 → V2) (l : List V2) (k : Nat) : piece true F l (k + 1) = piece true F l k ++ [F (cyc l k)] := by simp [piece, List.range_succ]
theorem piece_down (F : V2 → V2) (l : List V2) (k : Nat) : piece false F l (k + 1) = [F (cyc l k)] ++ piece false F l k := by simp [piece, List.range_succ]
theorem piece_done (a b c d : Int) (l : List V2) : piece (decide (0 < detM a b c d)) (moveF a b c d) l l.length = moveL a b c d l := by
  unfold moveL
  by_cases h : 0 < detM a b c d
  · rw [if_pos h, decide_eq_true h]
    exact range_map _ _
  · rw [if_neg h, decide_eq_false h]
    show ((List.range l.length).map _).reverse = _
    rw [range_map]
end Go.Proofs.YtgaeibibeekclaaDoor

/- PolygonMove: the model's exported function. -/
namespace Go.Proofs.YtgaeibibeekclaaDoor
open Go.RowKit

theorem moveL_len (a b c d : Int) (l : List V2) : (moveL a b c d l).length = l.length := by unfold moveL; split <;> simp
end Go.Proofs.YtgaeibibeekclaaDoor
