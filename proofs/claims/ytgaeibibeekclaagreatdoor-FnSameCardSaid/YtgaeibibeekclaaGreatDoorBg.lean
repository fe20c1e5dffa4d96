import Derived.Test.YtgaeibibeekclaaGreatDoorK2
import Derived.Test.YtgaeibibeekclaaGreatDoorB1
import Derived.Test.YtgaeibibeekclaaGreatDoorB2
/- Polygons that are moved by matrices: the mathematics. -/
namespace Go.Proofs.YtgaeibibeekclaaGreatDoor
open Go.RowKit

theorem hullD_same {l m : List V2} (h : ∀ q, q ∈ l ↔ q ∈ m) : hullD l = hullD m := by
  unfold hullD
  rw [asc_ext (sortD_asc l) (sortD_asc m) (fun q => by rw [sortD_mem, sortD_mem, h])]
theorem cyc_rev {l : List V2} (h0 : 0 < l.length) (i t : Nat) (ht : t ≤ l.length) : cyc l.reverse (i + t) = cyc l (l.length - 1 - i % l.length + l.length - t) := by
  have hr : l.reverse.length = l.length := by simp
  have ha := Nat.mod_lt i h0
  have h1 : cyc l.reverse (i + t) = cyc l.reverse ((i % l.length + t) % l.length) := by
    refine cyc_congr _ ?_
    rw [hr, Nat.mod_mod, Nat.mod_add_mod]
  have h2 : ∀ a, a < l.length → cyc l.reverse a = cyc l (l.length - 1 - a) := fun a ha => by
    rw [cyc_lt (by rw [hr]; exact ha), cyc_lt (by omega), List.getElem?_reverse ha]
  rw [h1]
  by_cases c : i % l.length + t < l.length
  · rw [Nat.mod_eq_of_lt c, h2 _ c]
    refine cyc_congr _ ?_
    rw [show l.length - 1 - i % l.length + l.length - t = (l.length - 1 - (i % l.length + t)) + l.length by omega, Nat.add_mod_right]
  · by_cases c2 : i % l.length + t < l.length + l.length
    · have e : (i % l.length + t) % l.length = i % l.length + t - l.length := by
        rw [Nat.mod_eq_sub_mod (by omega), Nat.mod_eq_of_lt (by omega)]
      rw [e, h2 _ (by omega)]
      congr 1
      omega
    · omega
/-- corners that are turned over, in the opposite order -/
theorem conv_over {l : List V2} (h : ConvS l.length (cyc l)) (F : V2 → V2) (hF : ∀ a b d, dtV (subV (F b) (F a)) (subV (F d) (F a)) = -1 * dtV (subV b a) (subV d a)) : ConvS (l.map F).reverse.length (cyc (l.map F).reverse) := by
  have h3 := h.three
  have hl : (l.map F).length = l.length := List.length_map ..
  have hr : (l.map F).reverse.length = l.length := by simp
  have e : ∀ i t, t ≤ l.length → cyc (l.map F).reverse (i + t) = F (cyc l (l.length - 1 - i % l.length + l.length - t)) := fun i t ht => by
    rw [cyc_rev (by omega) i t (by omega), hl, cyc_map F (by omega)]
  rw [hr]
  refine ⟨h3, fun i => ?_, fun i t h2 hn => ?_⟩
  · have := cyc_add (l.map F).reverse i
    rwa [hr] at this
  · unfold farZ
    have e0 := e i 0 (by omega)
    rw [Nat.add_zero, Nat.sub_zero] at e0
    rw [e i 1 (by omega), e0, e i t (by omega), hF]
    have hj : i % l.length < l.length := Nat.mod_lt _ (by omega)
    generalize hjj : l.length - 1 - i % l.length = j at *
    have q := h.inner (j + l.length - 1) (l.length + 1 - t) (by omega) (by omega)
    unfold farZ at q
    rw [show j + l.length - 1 + 1 = j + l.length by omega, show j + l.length - 1 + (l.length + 1 - t) = (j + l.length - t) + l.length by omega, h.per (j + l.length - t)] at q
    generalize cyc l (j + l.length) = A at *
    generalize cyc l (j + l.length - 1) = B at *
    generalize cyc l (j + l.length - t) = C at *
    have e2 : -1 * dtV (subV B A) (subV C A) = dtV (subV A B) (subV C B) := by unfold dtV subV; grind
    rw [e2]
    exact q
def moveF (a b c d : Int) (u : V2) : V2 := (moveX a b u.1 u.2, moveX c d u.1 u.2)
theorem move_turn (a b c d : Int) (u v z : V2) : dtV (subV (moveF a b c d v) (moveF a b c d u)) (subV (moveF a b c d z) (moveF a b c d u)) = detM a b c d * dtV (subV v u) (subV z u) := by
  unfold dtV subV moveF moveX detM
  grind
/-- the corners, moved, in the order of a polygon -/
def moveL (a b c d : Int) (l : List V2) : List V2 := if 0 < detM a b c d then l.map (moveF a b c d) else (l.map (moveF a b c d)).reverse
theorem hull_move {l : List V2} (h : polyB l = true) {a b c d : Int} (hm : matB a b c d = true) :
    hullD (l.map (moveF a b c d)) = tidyP (moveL a b c d l) ∧ polyB (hullD (l.map (moveF a b c d))) = polyB (moveL a b c d l) := by
  have hd := (mat_in hm).2
  have hc := poly_conv h
  unfold moveL
  by_cases h1 : detM a b c d = 1
  · rw [if_pos (by omega)]
    exact hull_map hc _ 1 (by omega) (fun u v z => by rw [move_turn, h1])
  · have h2 : detM a b c d = -1 := by simpa [detOk, h1] using hd
    rw [if_neg (by omega)]
    have e := hull_round (conv_over hc (moveF a b c d) (fun u v z => by rw [move_turn, h2]))
    rw [hullD_same (m := (l.map (moveF a b c d)).reverse) (fun q => by simp), e, tidyP_poly]
    exact ⟨rfl, rfl⟩
theorem move_big {l : List V2} (h : polyB l = true) {a b c d : Int} (hm : matB a b c d = true) : ∀ x ∈ l.map (moveF a b c d), big 400000 x.1 x.2 := by
  intro x hx
  obtain ⟨y, hy, rfl⟩ := List.mem_map.1 hx
  obtain ⟨j, hj, rfl⟩ := List.mem_iff_getElem.1 hy
  have e : l[j] = cyc l j := by rw [cyc_lt hj, List.getElem?_eq_getElem hj]; rfl
  rw [e]
  obtain ⟨⟨h1, h2⟩, h3, h4⟩ := poly_small h j
  obtain ⟨⟨ka, kb, kc, kd⟩, _⟩ := mat_in hm
  generalize cyc l j = z at *
  have bd : ∀ m u : Int, szB m = true → -100 ≤ u → u ≤ 100 → -100000 ≤ m * u ∧ m * u ≤ 100000 := fun m u hm k1 k2 => by
    obtain ⟨m1, m2⟩ := szB_true hm
    have q1 := Int.mul_nonneg (show 0 ≤ m + 1000 by omega) (show 0 ≤ u + 100 by omega)
    have q2 := Int.mul_nonneg (show 0 ≤ 1000 - m by omega) (show 0 ≤ 100 - u by omega)
    have q3 := Int.mul_nonneg (show 0 ≤ m + 1000 by omega) (show 0 ≤ 100 - u by omega)
    have q4 := Int.mul_nonneg (show 0 ≤ 1000 - m by omega) (show 0 ≤ u + 100 by omega)
    rw [Int.add_mul, Int.mul_add, Int.mul_add] at q1
    rw [Int.sub_mul, Int.mul_sub, Int.mul_sub] at q2
    rw [Int.add_mul, Int.mul_sub, Int.mul_sub] at q3
    rw [Int.sub_mul, Int.mul_add, Int.mul_add] at q4
    omega
  have a1 := bd _ _ ka h1 h2
  have a2 := bd _ _ kb h3 h4
  have a3 := bd _ _ kc h1 h2
  have a4 := bd _ _ kd h3 h4
  unfold big moveF moveX
  dsimp only
  omega
end Go.Proofs.YtgaeibibeekclaaGreatDoor

/- PolygonMove: the program. -/
namespace Go.Proofs.YtgaeibibeekclaaGreatDoor
open Go.RowKit

set_option maxHeartbeats 4000000 in
theorem checkAll_pm (v : Value) (l : List V2) (a b c d : Int) (B : Nat) (w : World) (h : ReadsVecs w v l)
    (c0 : w.cell? ⟨B, 0, none⟩ = some (.iface 52 v)) (c1 : w.cell? ⟨B, 1, none⟩ = some (.iface 35 (.agg #[.int .i64 (a), .int .i64 (b), .int .i64 (c), .int .i64 (d)]))) (hB : B < w.heap.size) :
    Calls Tryz.prog 28 #[.slice (some ⟨B, 0, none⟩) 2 2] w fun e w' => PolyEnd (polyB l && matB a b c d) e ∧ Below w.heap.size w w' := by
  have HC := Lib.hid (fun w' hb => polyCheck_any v l w' (h.below (w := w) hb))
  clear h
  generalize polyB l = K at *
  go_enter Tryz.func28, Tryz.ntmps28
  go_wp2
  refine wp_loop_rounds 3 ?_
  rw [rounds_succ]
  go_wp2_with fail
  refine Calls.mono (HC.out _ (by go_grown)) ?_
  rintro e w1 ⟨he, hb1⟩
  replace hb1 : Below w.heap.size w w1 := belowTo (by go_grown) hb1
  have c1' : w1.cell? ⟨B, 1, none⟩ = some (.iface 35 (.agg #[.int .i64 (a), .int .i64 (b), .int .i64 (c), .int .i64 (d)])) := (hb1.cell (p := ⟨B, 1, none⟩) hB).trans c1
  rcases polyEnd_of he with ⟨rfl, rfl⟩ | ⟨rfl, s, rfl⟩
  · clear he c0 c1 HC
    cases h2 : matB a b c d
    · go_wp2_with fail
      rw [rounds_succ]
      go_wp2_with fail
      go_call (matCheck_out a b c d _ h2) as e w2 ⟨rfl, hb2⟩
      clear c1'
      go_wp2
      go_returns
      exact ⟨polyEnd_err (by rw [h2]; rfl) ⟨_, rfl⟩, belowTo hb1 hb2⟩
    · go_wp2_with fail
      rw [rounds_succ]
      go_wp2_with fail
      go_call (matCheck_in a b c d _ h2) as e w2 ⟨rfl, hb2⟩
      clear c1'
      go_wp2_with fail
      rw [rounds_succ]
      go_wp2
      go_returns
      exact ⟨polyEnd_ok (by rw [h2]; rfl) rfl, belowTo hb1 hb2⟩
  · clear he c0 c1 HC c1'
    go_wp2
    go_returns
    exact ⟨polyEnd_err rfl ⟨_, rfl⟩, hb1⟩
theorem sz_of {a : Int} (h : -1000 ≤ a ∧ a ≤ 1000) : szB a = true := by simp [szB]; omega
def MoveB (l : List V2) (a b c d : Int) : Bool := polyB l && matB a b c d
def MoveL (l : List V2) (a b c d : Int) : List V2 := gV (MoveB l a b c d && polyB (moveL a b c d l)) (tidyP (moveL a b c d l))
set_option maxHeartbeats 4000000 in
theorem polygonMove_any (v : Value) (l : List V2) (p q r s : Int) (w : World) (hl : ReadsVecs w v l) (hg : EtOk w) :
    Calls Tryz.prog 15 #[v, .agg #[.int .i64 (p), .int .i64 (q), .int .i64 (r), .int .i64 (s)]] w (GivesVecsR w (MoveL l p q r s) (MoveB l p q r s && polyB (moveL p q r s l))) := by
  have HC := Lib.hid (fun B w' (hb : Below w.heap.size w w') c0 c1 hB => checkAll_pm v l p q r s B w' (hl.below hb) c0 c1 hB)
  have HCh := Lib.hid (fun w' (hb : Below w.heap.size w w') (hK : polyB l = true) (hv : matB p q r s = true) =>
    changedM v l p q r s (moveF p q r s) w' (hg.below hb) (hl.below hb) (by have := poly_len hK; omega) (by have := poly_len hK; omega) (fun i => poly_small hK i)
      (fun W x y _ hxy => by
        obtain ⟨⟨k1, k2, k3, k4⟩, _⟩ := mat_in hv
        exact move_any p q r s x y W k1 k2 k3 k4 (sz_of (by unfold big at hxy; omega)) (sz_of (by unfold big at hxy; omega))) (move_big hK hv))
  have HM := Lib.hid (fun (hK : polyB l = true) (hv : matB p q r s = true) => hull_move hK hv)
  have HT : Hid (MoveB l p q r s = (polyB l && matB p q r s)) := rfl
  obtain ⟨a, c, rfl, _⟩ := hl
  unfold GivesVecsR MoveL
  generalize hTB : MoveB l p q r s = TB at *
  clear hTB
  generalize l.map (moveF p q r s) = L at *
  generalize moveL p q r s l = L2 at *
  cases hk : (polyB l && matB p q r s)
  · have hTB : TB = false := by rw [HT.out, hk]
    subst hTB
    rw [hk] at HC
    clear hk HCh HM HT
    go_enter Tryz.func15, Tryz.ntmps15
    go_wp2_with fail
    refine Calls.mono (HC.out _ _ (by go_grown) (by go_cell) (by go_cell) (by go_size)) ?_
    rintro e w1 ⟨he, hb1⟩
    obtain ⟨s, rfl⟩ : IsNone e := he
    have hb : Below w.heap.size w w1 := belowTo (by go_grown) hb1
    clear hb1
    go_wp2_with fail
    refine Calls.mono (none_hit s _ (hg.below hb)) ?_
    rintro e w2 ⟨rfl, hb2⟩
    replace hb := belowTo hb hb2
    clear hb2
    go_wp2
    go_returns
    exact ⟨_, rfl, VecsR.nil _ _, hb⟩
  · have hTB : TB = true := by rw [HT.out, hk]
    subst hTB
    have hk2 : polyB l = true ∧ matB p q r s = true := by simpa using hk
    rw [hk] at HC
    obtain ⟨m1, m2⟩ := HM.out hk2.1 hk2.2
    have HC2 := Lib.hid (fun w' hb => HCh.out w' hb hk2.1 hk2.2)
    rw [m2, m1] at HC2
    unfold GivesVecsR at HC2
    clear HM HCh HT m1 m2 hk hk2
    rw [Bool.true_and]
    generalize gV (polyB L2) (tidyP L2) = R at *
    generalize polyB L2 = P at *
    go_enter Tryz.func15, Tryz.ntmps15
    go_wp2_with fail
    refine Calls.mono (HC.out _ _ (by go_grown) (by go_cell) (by go_cell) (by go_size)) ?_
    rintro e w1 ⟨he, hb1⟩
    obtain rfl : e = .returned .nilIface := he
    have hb : Below w.heap.size w w1 := belowTo (by go_grown) hb1
    have c0 : w1.cell? ⟨w.heap.size, 0, none⟩ = some (.int .i64 p) := (hb1.cell (p := ⟨w.heap.size, 0, none⟩) (by simp; omega)).trans (by first | (go_cell; done) | (go_simp; done) | (simp; done))
    have c1 : w1.cell? ⟨w.heap.size, 1, none⟩ = some (.int .i64 q) := (hb1.cell (p := ⟨w.heap.size, 1, none⟩) (by simp; omega)).trans (by first | (go_cell; done) | (go_simp; done) | (simp; done))
    have c2 : w1.cell? ⟨w.heap.size, 2, none⟩ = some (.int .i64 r) := (hb1.cell (p := ⟨w.heap.size, 2, none⟩) (by simp; omega)).trans (by first | (go_cell; done) | (go_simp; done) | (simp; done))
    have c3 : w1.cell? ⟨w.heap.size, 3, none⟩ = some (.int .i64 s) := (hb1.cell (p := ⟨w.heap.size, 3, none⟩) (by simp; omega)).trans (by first | (go_cell; done) | (go_simp; done) | (simp; done))
    clear hb1
    go_wp2_with fail
    refine Calls.mono (none_nil _) ?_
    rintro e w2 ⟨rfl, hb2⟩
    replace c1 := (hb2.cell (p := ⟨w.heap.size, 1, none⟩) (cell_lt c0)).trans c1
    replace c2 := (hb2.cell (p := ⟨w.heap.size, 2, none⟩) (cell_lt c0)).trans c2
    replace c3 := (hb2.cell (p := ⟨w.heap.size, 3, none⟩) (cell_lt c0)).trans c3
    replace c0 := (hb2.cell (p := ⟨w.heap.size, 0, none⟩) (cell_lt c0)).trans c0
    replace hb := belowTo hb hb2
    have hs := hb.size
    clear hb2
    go_wp2_with fail
    refine Calls.mono (HC2.out _ hb) ?_
    rintro e w3 ⟨v3, rfl, I3, hb3⟩
    have HB := Lib.hid (belowTo hb hb3)
    have HI3 := Lib.hid (I3.lower hs)
    clear hb3 I3
    go_wp2
    go_returns
    exact ⟨_, rfl, HI3.out, HB.out⟩
end Go.Proofs.YtgaeibibeekclaaGreatDoor

/- PolygonMove: the model. -/
namespace Go.Proofs.YtgaeibibeekclaaGreatDoor
open Go.RowKit

theorem pair_cells (W : World) (X Y : Int) (t : TypeId) : ∀ j u, [Value.int .i64 X, Value.int .i64 Y][j]? = some u → (W.alloc (.cells #[.int .i64 X, .int .i64 Y] t)).cell? ((⟨W.heap.size, 0, none⟩ : Addr).add j) = some u := by
  intro j u hj
  match j, hj with
  | 0, hj => simp at hj; subst hj; simp [Addr.add]
  | 1, hj => simp at hj; subst hj; simp [Addr.add]
theorem pair_one (X Y : Int) : ∀ u ∈ [Value.int .i64 X, Value.int .i64 Y], u.oneCell' = true := by
  intro u hu
  simp at hu
  rcases hu with rfl | rfl <;> rfl
/-- the first corners, moved, in the order that the model gives them -/
def piece (up : Bool) (F : V2 → V2) (l : List V2) (k : Nat) : List V2 := if up then (List.range k).map (fun i => F (cyc l i)) else ((List.range k).map (fun i => F (cyc l i))).reverse
theorem piece_zero (up : Bool) (F : V2 → V2) (l : List V2) : piece up F l 0 = [] := by cases up <;> rfl
theorem piece_size (up : Bool) (F : V2 → V2) (l : List V2) (k : Nat) : (piece up F l k).length = k := by cases up <;> simp [piece]
theorem piece_up (F : V2 → V2) (l : List V2) (k : Nat) : piece true F l (k + 1) = piece true F l k ++ [F (cyc l k)] := by simp [piece, List.range_succ]
theorem piece_down (F : V2 → V2) (l : List V2) (k : Nat) : piece false F l (k + 1) = [F (cyc l k)] ++ piece false F l k := by simp [piece, List.range_succ]
theorem piece_done (a b c d : Int) (l : List V2) : piece (decide (0 < detM a b c d)) (moveF a b c d) l l.length = moveL a b c d l := by
  unfold moveL
  by_cases h : 0 < detM a b c d
  · rw [if_pos h, decide_eq_true h]
    exact range_map _ _
  · rw [if_neg h, decide_eq_false h]
    show ((List.range l.length).map _).reverse = _
    rw [range_map]
set_option maxRecDepth 100000 in
set_option maxHeartbeats 8000000 in
theorem l6gMove_any (v : Value) (l : List V2) (p q r s : Int) (w : World) (hl : ReadsVecs w v l) (h0 : 0 < l.length) (hm : l.length ≤ 1000) (hM : matB p q r s = true) (hv : ∀ i, szB (cyc l i).1 = true ∧ szB (cyc l i).2 = true) :
    Calls Tryz.prog 41 #[v, .agg #[.int .i64 (p), .int .i64 (q), .int .i64 (r), .int .i64 (s)]] w (GivesVecs w (moveL p q r s l)) := by
  obtain ⟨i0, hi, hz0, hz1, hz2⟩ := info_parts infoVec
  obtain ⟨bb, off, c, rfl, _, _, hbb, hcs⟩ := hl.open h0
  have HCl := Lib.hid hcs
  obtain ⟨⟨kp, kq, kr, ks⟩, hd⟩ := mat_in hM
  have HMv := Lib.hid (fun k w' => l1Move_any p q r s (cyc l k).1 (cyc l k).2 w' kp kq kr ks (hv k).1 (hv k).2)
  have HF : Hid (∀ k, moveF p q r s (cyc l k) = (moveX p q (cyc l k).1 (cyc l k).2, moveX r s (cyc l k).1 (cyc l k).2)) := fun k => rfl
  have HPd := Lib.hid (piece_done p q r s l)
  have b1 := mul_bd (szB_true kp) (szB_true ks)
  have b2 := mul_bd (szB_true kq) (szB_true kr)
  have q1 : IntKind.i64.wrap (p * s) = p * s := by rw [IntKind.wrap_i64]; omega
  have q2 : IntKind.i64.wrap (q * r) = q * r := by rw [IntKind.wrap_i64]; omega
  have q3 : IntKind.i64.wrap (p * s - q * r) = p * s - q * r := by rw [IntKind.wrap_i64]; omega
  obtain ⟨W0, hW0⟩ : ∃ W0, W0 = w.alloc (.cells #[.int .i64 p, .int .i64 q, .int .i64 r, .int .i64 s] 35) := ⟨_, rfl⟩
  have hB0 : Below w.heap.size w W0 := by rw [hW0]; go_grown
  have x0 : W0.cell? ⟨w.heap.size, 0, none⟩ = some (.int .i64 p) := by rw [hW0]; simp
  have x1 : W0.cell? ⟨w.heap.size, 1, none⟩ = some (.int .i64 q) := by rw [hW0]; simp
  have x2 : W0.cell? ⟨w.heap.size, 2, none⟩ = some (.int .i64 r) := by rw [hW0]; simp
  have x3 : W0.cell? ⟨w.heap.size, 3, none⟩ = some (.int .i64 s) := by rw [hW0]; simp
  have hz0' : W0.heap.size = w.heap.size + 1 := by rw [hW0]; simp
  have hA0 : Below W0.heap.size W0 (W0.alloc (.cells #[] 25)) := by go_grown
  have hB1 := hB0.trans (hA0.mono (by omega))
  have hE0 := Vecs.empty W0
  rw [hz0'] at hE0
  have y0 := (hA0.cell (p := ⟨w.heap.size, 0, none⟩) (by show w.heap.size < _; omega)).trans x0
  have y1 := (hA0.cell (p := ⟨w.heap.size, 1, none⟩) (by show w.heap.size < _; omega)).trans x1
  have y2 := (hA0.cell (p := ⟨w.heap.size, 2, none⟩) (by show w.heap.size < _; omega)).trans x2
  have y3 := (hA0.cell (p := ⟨w.heap.size, 3, none⟩) (by show w.heap.size < _; omega)).trans x3
  obtain ⟨W1, hW1⟩ : ∃ W1, W1 = W0.alloc (.cells #[] 25) := ⟨_, rfl⟩
  have hz1' : w.heap.size + 1 < W1.heap.size := by rw [hW1]; simp; omega
  rw [← hW1] at hB1 hE0 y0 y1 y2 y3
  have HE0 := Lib.hid hE0
  have HB1 := Lib.hid hB1
  have HY : Hid (W1.cell? ⟨w.heap.size, 0, none⟩ = some (.int .i64 p) ∧ W1.cell? ⟨w.heap.size, 1, none⟩ = some (.int .i64 q) ∧ W1.cell? ⟨w.heap.size, 2, none⟩ = some (.int .i64 r) ∧ W1.cell? ⟨w.heap.size, 3, none⟩ = some (.int .i64 s)) := ⟨y0, y1, y2, y3⟩
  have hbl : bb < w.heap.size + 1 := Nat.lt_succ_of_lt hbb
  clear hA0 hB0 x0 x1 x2 x3 hB1 hE0 y0 y1 y2 y3 hl hcs hM hv b1 b2 kp kq kr ks hbb
  unfold detM at HPd hd
  generalize moveL p q r s l = Ml at *
  generalize moveF p q r s = F at *
  have HZ0 := Lib.hid (piece_zero (decide (0 < p * s - q * r)) F l)
  have HSz := Lib.hid (fun k => piece_size (decide (0 < p * s - q * r)) F l k)
  have hdd : 0 < p * s - q * r ∨ ¬ 0 < p * s - q * r := by omega
  rcases hdd with hpos | hneg
  · rw [decide_eq_true hpos] at HPd HZ0 HSz
    have HUp := Lib.hid (fun k => piece_up F l k)
    clear hd
    go_enter Tryz.func41, Tryz.ntmps41
    go_upto_region 2 with fail
    rw [← hW0, ← hW1]
    clear hW0 hW1 hz0'
    go_wp2
    go_loopw [5, 6] (fun s5 s6 wr => ∃ k : Nat, k ≤ l.length ∧ s6 = .int .i64 k ∧ Hid (Vecs wr (w.heap.size + 1) s5 (piece true F l k)) ∧ Below (w.heap.size + 1) W1 wr) (fun _ s6 _ => l.length - (intOf s6).toNat)
    case atStart => exact ⟨0, Nat.zero_le _, rfl, by rw [HZ0.out]; exact HE0.out, Below.refl _ _⟩
    case round =>
      obtain ⟨k, hk, rfl, HV, hB⟩ := hrel
      have i1 : (0 : Int) ≤ (k : Int) := by omega
      have hBw := HB1.out.trans (hB.mono (Nat.le_succ _))
      by_cases hlt : k < l.length
      · have i2 : (k : Int) < (l.length : Int) := by omega
        obtain ⟨d0, d1⟩ := HCl.out wr hBw k hlt
        obtain ⟨h1, h2, h3, h4⟩ := HY.out
        have y0 := (hB.cell (p := ⟨w.heap.size, 0, none⟩) (Nat.lt_succ_self _)).trans h1
        have y1 := (hB.cell (p := ⟨w.heap.size, 1, none⟩) (Nat.lt_succ_self _)).trans h2
        have y2 := (hB.cell (p := ⟨w.heap.size, 2, none⟩) (Nat.lt_succ_self _)).trans h3
        have y3 := (hB.cell (p := ⟨w.heap.size, 3, none⟩) (Nat.lt_succ_self _)).trans h4
        have HUk := HUp.out k
        rw [HF.out k] at HUk
        have HMk := Lib.hid (HMv.out k)
        have hkl := HSz.out k
        generalize cyc l k = V at *
        obtain ⟨x, y⟩ := V
        dsimp only at d0 d1 HUk HMk
        have HUk := Lib.hid HUk
        generalize moveX p q x y = X at *
        generalize moveX r s x y = Y at *
        have hown := HV.out
        unfold Vecs VRow at hown
        rw [hkl] at hown
        have HOw := Lib.hid (World.ownsRow.drew hown)
        have HB := Lib.hid hB
        have hws : w.heap.size + 1 ≤ wr.heap.size := Nat.le_trans (Nat.le_of_lt hz1') hB.size
        have HHk := Lib.hid hkl
        have h1000 : k ≤ 1000 := by omega
        clear hown HV HCl HY HF HUp HMv HSz HPd HZ0 HE0 HB1 hB hBw h1 h2 h3 h4 hkl
        go_wp2
        refine wp_region_any (by kernel_rfl) ?_
        try (change wpAny _ _ _ _ _ _ _ (World.drew _))
        refine wpAny_of_held (S := fun w' => Below (w.heap.size + 1) wr w') _ _ _ _ ?_
        have hSw : Below (w.heap.size + 1) wr (World.drew wr) := by go_grown
        generalize hwd : World.drew wr = wd at hSw ⊢
        refine wpAnyH_take (i := 0) (v := ?_) rfl (by kernel_rfl) (by kernel_rfl) (by kernel_rfl) (fun _ _ _ h => h) (Or.inl ⟨by rfl, ?_⟩) hSw ?_
        rotate_left
        focus (intro w0 hS0; clear hS0; go_simp; try with_reducible rfl)
        refine wpAnyH_take (i := 1) (v := ?_) rfl (by kernel_rfl) (by kernel_rfl) (by kernel_rfl) (fun _ _ _ h => h) (Or.inl ⟨by rfl, ?_⟩) hSw ?_
        rotate_left
        focus (intro w0 hS0; have c0 := (hS0.cell (p := ⟨bb, off + k * 2, none⟩) hbl).trans d0; have c1 := (hS0.cell (p := ⟨bb, off + k * 2 + 1, none⟩) hbl).trans d1; have c2 := (hS0.cell (p := ⟨w.heap.size, 0, none⟩) (Nat.lt_succ_self _)).trans y0; have c3 := (hS0.cell (p := ⟨w.heap.size, 1, none⟩) (Nat.lt_succ_self _)).trans y1; have c4 := (hS0.cell (p := ⟨w.heap.size, 2, none⟩) (Nat.lt_succ_self _)).trans y2; have c5 := (hS0.cell (p := ⟨w.heap.size, 3, none⟩) (Nat.lt_succ_self _)).trans y3; clear hS0; go_simp; try with_reducible rfl)
        refine wpAnyH_take (i := 2) (v := ?_) rfl (by kernel_rfl) (by kernel_rfl) (by kernel_rfl) (fun _ _ _ h => h) (Or.inl ⟨by rfl, ?_⟩) hSw ?_
        rotate_left
        focus (intro w0 hS0; clear hS0; go_simp; try with_reducible rfl)
        refine wpAnyH_take (i := 3) (v := ?_) rfl (by kernel_rfl) (by kernel_rfl) (by kernel_rfl) (fun _ _ _ h => h) (Or.inl ⟨by rfl, ?_⟩) hSw ?_
        rotate_left
        focus (intro w0 hS0; clear hS0; go_simp; try with_reducible rfl)
        refine wpAnyH_take (i := 4) (v := ?_) rfl (by kernel_rfl) (by kernel_rfl) (by kernel_rfl) (fun _ _ _ h => h) (Or.inl ⟨by rfl, ?_⟩) hSw ?_
        rotate_left
        focus (intro w0 hS0; clear hS0; go_simp; try with_reducible rfl)
        refine wpAnyH_take (i := 5) (v := ?_) rfl (by kernel_rfl) (by kernel_rfl) (by kernel_rfl) (fun _ _ _ h => h) (Or.inl ⟨by rfl, ?_⟩) hSw ?_
        rotate_left
        focus (intro w0 hS0; have c0 := (hS0.cell (p := ⟨bb, off + k * 2, none⟩) hbl).trans d0; have c1 := (hS0.cell (p := ⟨bb, off + k * 2 + 1, none⟩) hbl).trans d1; have c2 := (hS0.cell (p := ⟨w.heap.size, 0, none⟩) (Nat.lt_succ_self _)).trans y0; have c3 := (hS0.cell (p := ⟨w.heap.size, 1, none⟩) (Nat.lt_succ_self _)).trans y1; have c4 := (hS0.cell (p := ⟨w.heap.size, 2, none⟩) (Nat.lt_succ_self _)).trans y2; have c5 := (hS0.cell (p := ⟨w.heap.size, 3, none⟩) (Nat.lt_succ_self _)).trans y3; clear hS0; go_simp; try with_reducible rfl)
        refine wpAnyH_ready (rs := [6]) (by kernel_rfl) (by simp) (AllReadyH.cons rfl (fun K hK => ?_) (AllReadyH.nil))
        go_simp
        (have hwz : w.heap.size + 1 ≤ wd.heap.size := (by rw [← hwd]; exact hws); have HOz := HOw; rw [hwd] at HOz; refine Calls.mono (HMk.out _) ?_; rintro e w4 ⟨rfl, hbX⟩; have hwz4 : w.heap.size + 1 ≤ w4.heap.size := Nat.le_trans hwz hbX.size; replace HOz := Lib.hid (VRow.below HOz.out hbX); replace hSw := hSw.trans (hbX.mono hwz); refine hK.out _ _ hSw (fun _ => ?_); clear hK K hbX)
        refine wpAnyH_ready (rs := [7]) (by kernel_rfl) (by simp) (AllReadyH.cons rfl (fun K hK => ?_) (AllReadyH.nil))
        go_simp
        (replace hSw := hSw.alloc hwz4 (.cells #[.int .i64 X, .int .i64 Y] 25); refine hK.out _ _ hSw (fun _ => ?_); clear hK K)
        refine wpAnyH_ready (rs := [8]) (by kernel_rfl) (by simp) (AllReadyH.cons rfl (fun K hK => ?_) (AllReadyH.nil))
        (refine step_list (by rintro ⟨_, _, h⟩; obtain ⟨_, hv, _⟩ := h; cases hv) (by kernel_rfl) ?_; refine wpList_append_own_at _ rfl _ _ 23 rfl (w.heap.size + 1) 25 i0 (.agg #[.int .i64 (0), .int .i64 (0)]) 2 16 Tryz.underlying23 hi hz0 hz1 hz2 rfl (by decide) _ _ _ rfl (World.ownsRow.alloc HOz.out _) ⟨_, 0, none⟩ 1 1 [.int .i64 X, .int .i64 Y] rfl rfl (pair_cells _ X Y _) (pair_one X Y) (by unfold maxLen; omega) (by omega) (by simp; omega) ?_; intro v' wz hown' hgrow _ _; replace hSw := hSw.grown hgrow (by simp; omega) (fun k hk => (World.ownsRow.lt HOz.out k hk).1); refine hK.out _ _ hSw (fun _ => ?_); clear hK K)
        refine wpAnyH_take (i := 9) (v := ?_) rfl (by kernel_rfl) (by kernel_rfl) (by kernel_rfl) (fun _ _ _ h => h) (Or.inl ⟨by rfl, ?_⟩) hSw ?_
        rotate_left
        focus (intro w0 hS0; clear hS0; go_simp; try with_reducible rfl)
        refine wpAnyH_done (by kernel_rfl) ?_ _
        have HB5 := Lib.hid (HB.out.trans hSw)
        have HVv := Lib.hid (Vecs.snoc (l := piece true F l k) HHk.out.symm hown')
        clear hown' hgrow hSw
        rw [← HUk.out] at HVv
        go_wp2
        go_roundw
        case rel => exact ⟨k + 1, by omega, by go_num, HVv, HB5.out⟩
        case measure => simp [intOf]; omega
      · obtain rfl : k = l.length := by omega
        have i2 : ¬ ((l.length : Nat) : Int) < (l.length : Int) := by omega
        have hI := HV.out
        rw [HPd.out] at hI
        have HI := Lib.hid (hI.lower (Nat.le_succ _))
        clear hI HV
        go_wp2
        go_returns
        exact ⟨_, rfl, HI.out, hBw⟩
  · rw [decide_eq_false hneg] at HPd HZ0 HSz
    have HDn := Lib.hid (fun k => piece_down F l k)
    clear hd
    go_enter Tryz.func41, Tryz.ntmps41
    go_upto_region 2 with fail
    rw [← hW0, ← hW1]
    clear hW0 hW1 hz0'
    go_wp2
    go_loopw [5, 6] (fun s5 s6 wr => ∃ k gg cc : Nat, k ≤ l.length ∧ s5 = .slice (some ⟨gg, 0, none⟩) k cc ∧ s6 = .int .i64 k ∧ Hid (Vecs wr (w.heap.size + 1) (.slice (some ⟨gg, 0, none⟩) k cc) (piece false F l k)) ∧ Below (w.heap.size + 1) W1 wr) (fun _ s6 _ => l.length - (intOf s6).toNat)
    case atStart => exact ⟨0, w.heap.size + 1, 0, Nat.zero_le _, rfl, rfl, by rw [HZ0.out]; exact HE0.out, Below.refl _ _⟩
    case round =>
      obtain ⟨k, gg, cc, hk, rfl, rfl, HV, hB⟩ := hrel
      have i1 : (0 : Int) ≤ (k : Int) := by omega
      have hBw := HB1.out.trans (hB.mono (Nat.le_succ _))
      by_cases hlt : k < l.length
      · have i2 : (k : Int) < (l.length : Int) := by omega
        obtain ⟨d0, d1⟩ := HCl.out wr hBw k hlt
        obtain ⟨h1, h2, h3, h4⟩ := HY.out
        have y0 := (hB.cell (p := ⟨w.heap.size, 0, none⟩) (Nat.lt_succ_self _)).trans h1
        have y1 := (hB.cell (p := ⟨w.heap.size, 1, none⟩) (Nat.lt_succ_self _)).trans h2
        have y2 := (hB.cell (p := ⟨w.heap.size, 2, none⟩) (Nat.lt_succ_self _)).trans h3
        have y3 := (hB.cell (p := ⟨w.heap.size, 3, none⟩) (Nat.lt_succ_self _)).trans h4
        have HUk := HDn.out k
        rw [HF.out k] at HUk
        have HMk := Lib.hid (HMv.out k)
        have hkl := HSz.out k
        generalize cyc l k = V at *
        obtain ⟨x, y⟩ := V
        dsimp only at d0 d1 HUk HMk
        have HUk := Lib.hid HUk
        generalize moveX p q x y = X at *
        generalize moveX r s x y = Y at *
        have hown := HV.out
        unfold Vecs VRow at hown
        rw [hkl] at hown
        have HOw := Lib.hid (World.ownsRow.drew hown)
        have HB := Lib.hid hB
        have hws : w.heap.size + 1 ≤ wr.heap.size := Nat.le_trans (Nat.le_of_lt hz1') hB.size
        have HHk := Lib.hid hkl
        have HLn : Hid ((intsV (flat (piece false F l k))).length = k * 2) := by show _ = _; rw [flatV_len, hkl]
        have h1000 : k ≤ 1000 := by omega
        clear hown HV HCl HY HF HDn HMv HSz HPd HZ0 HE0 HB1 hB hBw h1 h2 h3 h4 hkl
        go_wp2
        refine wp_region_any (by kernel_rfl) ?_
        try (change wpAny _ _ _ _ _ _ _ (World.drew _))
        refine wpAny_of_held (S := fun w' => Below (w.heap.size + 1) wr w') _ _ _ _ ?_
        have hSw : Below (w.heap.size + 1) wr (World.drew wr) := by go_grown
        generalize hwd : World.drew wr = wd at hSw ⊢
        refine wpAnyH_take (i := 0) (v := ?_) rfl (by kernel_rfl) (by kernel_rfl) (by kernel_rfl) (fun _ _ _ h => h) (Or.inl ⟨by rfl, ?_⟩) hSw ?_
        rotate_left
        focus (intro w0 hS0; have c0 := (hS0.cell (p := ⟨bb, off + k * 2, none⟩) hbl).trans d0; have c1 := (hS0.cell (p := ⟨bb, off + k * 2 + 1, none⟩) hbl).trans d1; have c2 := (hS0.cell (p := ⟨w.heap.size, 0, none⟩) (Nat.lt_succ_self _)).trans y0; have c3 := (hS0.cell (p := ⟨w.heap.size, 1, none⟩) (Nat.lt_succ_self _)).trans y1; have c4 := (hS0.cell (p := ⟨w.heap.size, 2, none⟩) (Nat.lt_succ_self _)).trans y2; have c5 := (hS0.cell (p := ⟨w.heap.size, 3, none⟩) (Nat.lt_succ_self _)).trans y3; clear hS0; go_simp; try with_reducible rfl)
        refine wpAnyH_take (i := 1) (v := ?_) rfl (by kernel_rfl) (by kernel_rfl) (by kernel_rfl) (fun _ _ _ h => h) (Or.inl ⟨by rfl, ?_⟩) hSw ?_
        rotate_left
        focus (intro w0 hS0; clear hS0; go_simp; try with_reducible rfl)
        refine wpAnyH_take (i := 2) (v := ?_) rfl (by kernel_rfl) (by kernel_rfl) (by kernel_rfl) (fun _ _ _ h => h) (Or.inl ⟨by rfl, ?_⟩) hSw ?_
        rotate_left
        focus (intro w0 hS0; clear hS0; go_simp; try with_reducible rfl)
        refine wpAnyH_take (i := 3) (v := ?_) rfl (by kernel_rfl) (by kernel_rfl) (by kernel_rfl) (fun _ _ _ h => h) (Or.inl ⟨by rfl, ?_⟩) hSw ?_
        rotate_left
        focus (intro w0 hS0; clear hS0; go_simp; try with_reducible rfl)
        refine wpAnyH_take (i := 4) (v := ?_) rfl (by kernel_rfl) (by kernel_rfl) (by kernel_rfl) (fun _ _ _ h => h) (Or.inl ⟨by rfl, ?_⟩) hSw ?_
        rotate_left
        focus (intro w0 hS0; have c0 := (hS0.cell (p := ⟨bb, off + k * 2, none⟩) hbl).trans d0; have c1 := (hS0.cell (p := ⟨bb, off + k * 2 + 1, none⟩) hbl).trans d1; have c2 := (hS0.cell (p := ⟨w.heap.size, 0, none⟩) (Nat.lt_succ_self _)).trans y0; have c3 := (hS0.cell (p := ⟨w.heap.size, 1, none⟩) (Nat.lt_succ_self _)).trans y1; have c4 := (hS0.cell (p := ⟨w.heap.size, 2, none⟩) (Nat.lt_succ_self _)).trans y2; have c5 := (hS0.cell (p := ⟨w.heap.size, 3, none⟩) (Nat.lt_succ_self _)).trans y3; clear hS0; go_simp; try with_reducible rfl)
        refine wpAnyH_take (i := 7) (v := ?_) rfl (by kernel_rfl) (by kernel_rfl) (by kernel_rfl) (fun _ _ _ h => h) (Or.inl ⟨by rfl, ?_⟩) hSw ?_
        rotate_left
        focus (intro w0 hS0; clear hS0; go_simp; try with_reducible rfl)
        refine wpAnyH_ready (rs := [5]) (by kernel_rfl) (by simp) (AllReadyH.cons rfl (fun K hK => ?_) (AllReadyH.nil))
        go_simp
        (have hwz : w.heap.size + 1 ≤ wd.heap.size := (by rw [← hwd]; exact hws); have HOz := HOw; rw [hwd] at HOz; refine Calls.mono (HMk.out _) ?_; rintro e w4 ⟨rfl, hbX⟩; have hwz4 : w.heap.size + 1 ≤ w4.heap.size := Nat.le_trans hwz hbX.size; replace HOz := Lib.hid (VRow.below HOz.out hbX); replace hSw := hSw.trans (hbX.mono hwz); refine hK.out _ _ hSw (fun _ => ?_); clear hK K hbX)
        refine wpAnyH_ready (rs := [6]) (by kernel_rfl) (by simp) (AllReadyH.cons rfl (fun K hK => ?_) (AllReadyH.nil))
        go_simp
        (replace hSw := hSw.alloc hwz4 (.cells #[.int .i64 X, .int .i64 Y] 25); have HLt := Lib.hid (World.ownsRow_lit (base := w.heap.size + 1) (e := 25) (size := 2) w4 #[.int .i64 X, .int .i64 Y] 1 hwz4 (by unfold maxLen; omega) rfl); refine hK.out _ _ hSw (fun _ => ?_); clear hK K)
        refine wpAnyH_ready (rs := [8]) (by kernel_rfl) (by simp) (AllReadyH.cons rfl (fun K hK => ?_) (AllReadyH.nil))
        (refine step_list (by rintro ⟨_, _, h⟩; obtain ⟨_, hv, _⟩ := h; cases hv) (by kernel_rfl) ?_; refine wpList_append_own_at _ rfl _ _ 23 rfl (w.heap.size + 1) 25 i0 (.agg #[.int .i64 (0), .int .i64 (0)]) 2 16 Tryz.underlying23 hi hz0 hz1 hz2 rfl (by decide) _ _ _ rfl HLt.out ⟨gg, 0, none⟩ k cc (intsV (flat (piece false F l k))) rfl HLn.out (World.ownsRow.cells (World.ownsRow.alloc HOz.out _) rfl) (flatV_one _) (by unfold maxLen; omega) (by omega) (by simp; omega) ?_; intro v' wz hown' hgrow _ _; replace hSw := hSw.grown hgrow (by simp; omega) (fun k hk => by have := Option.some.inj hk; dsimp only at this; omega); refine hK.out _ _ hSw (fun _ => ?_); clear hK K)
        refine wpAnyH_take (i := 9) (v := ?_) rfl (by kernel_rfl) (by kernel_rfl) (by kernel_rfl) (fun _ _ _ h => h) (Or.inl ⟨by rfl, ?_⟩) hSw ?_
        rotate_left
        focus (intro w0 hS0; clear hS0; go_simp; try with_reducible rfl)
        refine wpAnyH_done (by kernel_rfl) ?_ _
        have HB5 := Lib.hid (HB.out.trans hSw)
        obtain ⟨g2, cap2, rfl, _, _⟩ := World.ownsRow.form hown' (by omega)
        have HVv := Lib.hid (Vecs.join (l := [(X, Y)]) (m := piece false F l k) hown' (by rw [HHk.out]; rfl))
        clear hown' hgrow hSw
        rw [← HUk.out, Nat.add_comm 1 k] at HVv
        go_wp2
        go_roundw
        case rel => exact ⟨k + 1, g2, cap2, by omega, by rw [Nat.add_comm], by go_num, HVv, HB5.out⟩
        case measure => simp [intOf]; omega
      · obtain rfl : k = l.length := by omega
        have i2 : ¬ ((l.length : Nat) : Int) < (l.length : Int) := by omega
        have hI := HV.out
        rw [HPd.out] at hI
        have HI := Lib.hid (hI.lower (Nat.le_succ _))
        clear hI HV
        go_wp2
        go_returns
        exact ⟨_, rfl, HI.out, hBw⟩
end Go.Proofs.YtgaeibibeekclaaGreatDoor

/- PolygonMove: the model's exported function. -/
namespace Go.Proofs.YtgaeibibeekclaaGreatDoor
open Go.RowKit

theorem moveL_len (a b c d : Int) (l : List V2) : (moveL a b c d l).length = l.length := by unfold moveL; split <;> simp
set_option maxHeartbeats 4000000 in
theorem specPolygonMove_any (v : Value) (l : List V2) (p q r s : Int) (w : World) (hl : ReadsVecs w v l) :
    Calls Tryz.prog 16 #[v, .agg #[.int .i64 (p), .int .i64 (q), .int .i64 (r), .int .i64 (s)]] w (GivesVecsOk w (MoveL l p q r s) (MoveB l p q r s && polyB (moveL p q r s l))) := by
  have HI := Lib.hid (fun w' (hb : Below w.heap.size w w') => specPolygonIn_any v l w' (hl.below hb))
  have HV := Lib.hid (fun w' => specMatIn_any p q r s w')
  have hE := Lib.hid (fun w' => Vecs.empty w')
  have HMv := Lib.hid (fun w' (hb : Below w.heap.size w w') (hK : polyB l = true) (hM : matB p q r s = true) => l6gMove_any v l p q r s w' (hl.below hb) (by have := poly_len hK; omega) (by have := poly_len hK; omega) hM (fun i => by have := poly_small hK i; exact ⟨sz_of (by omega), sz_of (by omega)⟩))
  have HDn := Lib.hid (fun v' b' w' (hI : Vecs w' b' v' (moveL p q r s l)) (hn : l.length ≤ 1000) => l6gDone_any v' (moveL p q r s l) w' (hI.reads (by rw [moveL_len]; omega)))
  unfold TidyS GivesVecsOk at HDn
  obtain ⟨a, c, rfl, _⟩ := hl
  unfold GivesVecsOk MoveL
  have HT : Hid (MoveB l p q r s = (polyB l && matB p q r s)) := rfl
  generalize hTB : MoveB l p q r s = TB at *
  clear hTB
  generalize moveL p q r s l = L at *
  cases hb : polyB l
  · have hTB : TB = false := by rw [HT.out, hb]; rfl
    subst hTB
    rw [hb] at HI
    clear HV HT hb HMv HDn
    go_enter Tryz.func16, Tryz.ntmps16
    go_wp2_with fail
    refine Calls.mono (HI.out _ (by go_grown)) ?_
    rintro e w1 ⟨rfl, hb1⟩
    have hB := belowTo (a := w) (by go_grown) hb1
    have HE := Lib.hid ((hE.out w1).lower hB.size)
    have hs := hB.size
    clear hb1
    go_wp2
    go_returns
    exact ⟨_, rfl, HE.out, by go_grown⟩
  · have h3 := poly_len hb
    cases hv : matB p q r s
    · have hTB : TB = false := by rw [HT.out, hb, hv]; rfl
      subst hTB
      rw [hb] at HI
      rw [hv] at HV
      clear HT hb h3 hv HMv HDn
      go_enter Tryz.func16, Tryz.ntmps16
      go_wp2_with fail
      refine Calls.mono (HI.out _ (by go_grown)) ?_
      rintro e w1 ⟨rfl, hb1⟩
      have hB := belowTo (a := w) (by go_grown) hb1
      have c0 : w1.cell? ⟨w.heap.size, 0, none⟩ = some (.int .i64 p) := (hb1.cell (p := ⟨w.heap.size, 0, none⟩) (by simp)).trans (by simp)
      have c1 : w1.cell? ⟨w.heap.size, 1, none⟩ = some (.int .i64 q) := (hb1.cell (p := ⟨w.heap.size, 1, none⟩) (by simp)).trans (by simp)
      have c2 : w1.cell? ⟨w.heap.size, 2, none⟩ = some (.int .i64 r) := (hb1.cell (p := ⟨w.heap.size, 2, none⟩) (by simp)).trans (by simp)
      have c3 : w1.cell? ⟨w.heap.size, 3, none⟩ = some (.int .i64 s) := (hb1.cell (p := ⟨w.heap.size, 3, none⟩) (by simp)).trans (by simp)
      clear hb1
      go_wp2_with fail
      refine Calls.mono (HV.out _) ?_
      rintro e w2 ⟨rfl, hb2⟩
      have hB2 := belowTo hB hb2
      have HE := Lib.hid ((hE.out w2).lower hB2.size)
      have hs := hB2.size
      clear hb2 hB c0 c1 c2 c3
      go_wp2
      go_returns
      exact ⟨_, rfl, HE.out, by go_grown⟩
    · have hTB : TB = true := by rw [HT.out, hb, hv]; rfl
      subst hTB
      rw [hb] at HI
      rw [hv] at HV
      have HM2 := Lib.hid (fun w' hq => HMv.out w' hq hb hv)
      have HD2 := Lib.hid (fun v' b' w' hI => HDn.out v' b' w' hI (by omega))
      unfold GivesVecs at HM2
      clear HT hb h3 hv HMv HDn
      rw [Bool.true_and]
      generalize gV (polyB L) (tidyP L) = R at *
      generalize polyB L = P at *
      go_enter Tryz.func16, Tryz.ntmps16
      go_wp2_with fail
      refine Calls.mono (HI.out _ (by go_grown)) ?_
      rintro e w1 ⟨rfl, hb1⟩
      have hB := belowTo (a := w) (by go_grown) hb1
      have c0 : w1.cell? ⟨w.heap.size, 0, none⟩ = some (.int .i64 p) := (hb1.cell (p := ⟨w.heap.size, 0, none⟩) (by simp)).trans (by simp)
      have c1 : w1.cell? ⟨w.heap.size, 1, none⟩ = some (.int .i64 q) := (hb1.cell (p := ⟨w.heap.size, 1, none⟩) (by simp)).trans (by simp)
      have c2 : w1.cell? ⟨w.heap.size, 2, none⟩ = some (.int .i64 r) := (hb1.cell (p := ⟨w.heap.size, 2, none⟩) (by simp)).trans (by simp)
      have c3 : w1.cell? ⟨w.heap.size, 3, none⟩ = some (.int .i64 s) := (hb1.cell (p := ⟨w.heap.size, 3, none⟩) (by simp)).trans (by simp)
      clear hb1
      go_wp2_with fail
      refine Calls.mono (HV.out _) ?_
      rintro e w2 ⟨rfl, hb2⟩
      have hB2 := belowTo hB hb2
      replace c1 := (hb2.cell (p := ⟨w.heap.size, 1, none⟩) (cell_lt c0)).trans c1
      replace c2 := (hb2.cell (p := ⟨w.heap.size, 2, none⟩) (cell_lt c0)).trans c2
      replace c3 := (hb2.cell (p := ⟨w.heap.size, 3, none⟩) (cell_lt c0)).trans c3
      replace c0 := (hb2.cell (p := ⟨w.heap.size, 0, none⟩) (cell_lt c0)).trans c0
      clear hb2 hB
      go_wp2_with fail
      refine Calls.mono (HM2.out _ hB2) ?_
      rintro e w3 ⟨v3, rfl, I3, hb3⟩
      have hB3 := belowTo hB2 hb3
      have HD3 := Lib.hid (HD2.out _ _ w3 I3)
      have hs := hB3.size
      clear hb3 I3 hB2 c0 c1 c2 c3
      go_wp2_with fail
      refine Calls.mono HD3.out ?_
      rintro e w4 ⟨v4, rfl, I4, hb4⟩
      have HB := Lib.hid (belowTo hB3 hb4)
      have HI4 := Lib.hid (I4.lower hs)
      clear hb4 I4
      go_wp2
      go_returns
      exact ⟨_, rfl, HI4.out, HB.out⟩
end Go.Proofs.YtgaeibibeekclaaGreatDoor
