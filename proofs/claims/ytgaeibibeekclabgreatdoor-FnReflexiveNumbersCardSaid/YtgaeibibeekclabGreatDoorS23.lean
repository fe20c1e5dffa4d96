import Derived.Test.YtgaeibibeekclabGreatDoorProg
import Derived.Test.YtgaeibibeekclabGreatDoorS01
import Derived.Test.YtgaeibibeekclabGreatDoorS03
import Derived.Test.YtgaeibibeekclabGreatDoorS04
import Derived.Test.YtgaeibibeekclabGreatDoorS06
import Derived.Test.YtgaeibibeekclabGreatDoorS07
import Derived.Test.YtgaeibibeekclabGreatDoorS08
import Derived.Test.YtgaeibibeekclabGreatDoorS13
import Derived.Test.YtgaeibibeekclabGreatDoorS14
import Derived.Test.YtgaeibibeekclabGreatDoorS18
import Derived.WalkKit
import Derived.LaidEql
import Derived.Stop.Asserts
import Derived.RowKitTokens
import Derived.Handy
import Derived.WalkSpells
import Derived.WalkLawsBesides
import Derived.Deep.QuietTactic
import Derived.BigQuiet
import Derived.Lib.Hide
import Derived.Deep.RegionHeld3
import Derived.Deep.DeepCutAuto
import Derived.Deep.AppendLies
import Derived.Laws.OwnMore
import Derived.Laws.MakeOwn
import Derived.OwnWalk
import Derived.WalkSmall
import Derived.Maps.AppendAt
import Derived.RangeFuncBox
import Derived.RegionTactic
import Derived.ChangeAlike
import Derived.RangeFuncNested
import Derived.StillTail
import Derived.OrdersIn
import Derived.AtR
import Derived.RangeFuncBound
import Derived.RangeFuncCalls
import Derived.RangeFuncLeaves
import Derived.Shelf.Abstract
import Derived.OwnWalkIn
import Derived.TacticsInMore
import Derived.LoopNIn
import Derived.LoopIn
import Derived.LaidEqlPtr
import Derived.BigRegion
import Derived.Laws.StructEq
import Derived.StillTailTactics
namespace Go.Proofs.YtgaeibibeekclabGreatDoor
open Go.RowKit
theorem way_nz {l : List V2} (h : polyB l = true) (i : Nat) : ¬ ((wayZ l i).1 = 0 ∧ (wayZ l i).2 = 0) := by
  rintro ⟨h1, h2⟩
  have t : 0 < detV (wayZ l i) (wayZ l (i + 1)) := (poly_conv h).turn i
  unfold detV detZ at t
  rw [h1, h2] at t
  omega
theorem way_vec {l : List V2} (h : polyB l = true) (i : Nat) : vecB (wayZ l i).1 (wayZ l i).2 = true := vec_of (by have := way_small (allK_all (poly_in h).2.1 (by have := poly_len h; omega)) i; omega)
/-- the vectors on the edges -/
def edgeZ (l : List V2) (k : Nat) : Int := sumZ (fun i => gcdZ (wayZ l i).1 (wayZ l i).2) k
theorem edge_bnd {l : List V2} (h : polyB l = true) : ∀ k, 0 ≤ edgeZ l k ∧ edgeZ l k ≤ 1000 * k := by
  intro k
  induction k with
  | zero => exact ⟨Int.le_refl _, Int.le_refl _⟩
  | succ k ih =>
    have := szs (way_vec h k)
    have a := gcdZ_le (n := 1000) this.1 this.2
    have b := gcdZ_nonneg (wayZ l k).1 (wayZ l k).2
    unfold edgeZ at *
    rw [show sumZ (fun i => gcdZ (wayZ l i).1 (wayZ l i).2) (k + 1) = sumZ (fun i => gcdZ (wayZ l i).1 (wayZ l i).2) k + gcdZ (wayZ l k).1 (wayZ l k).2 from rfl]
    omega
set_option maxRecDepth 100000 in
set_option maxHeartbeats 16000000 in
theorem edge_any (v : Value) (l : List V2) (w : World) (h : ReadsVecs w v l) (hp : polyB l = true) :
    Calls Tryz.prog 47 #[v] w fun e w' => e = .returned (.int .i64 (edgeZ l l.length)) ∧ Below w.heap.size w w' := by
  have h30 := poly_len hp
  have h0 : 0 < l.length := by omega
  have HWy := Lib.hid (fun w' (hb : Below w.heap.size w w') => ways_any v l w' (h.below hb) h0 (by omega) (fun i => by have := poly_small hp i; unfold big; omega))
  have HWc := Lib.hid (fun i => cyc_ways h0 i)
  have HWs := Lib.hid (fun i => szs (way_vec hp i))
  have HWl := Lib.hid (waysL_len l)
  have HEb := Lib.hid (fun k => edge_bnd hp k)
  have HSu : Hid (∀ k, edgeZ l (k + 1) = edgeZ l k + gcdZ (wayZ l k).1 (wayZ l k).2) := fun _ => rfl
  have HS0 : Hid (edgeZ l 0 = 0) := rfl
  have HGb := Lib.hid (fun k => (gcdZ_nonneg (wayZ l k).1 (wayZ l k).2))
  obtain ⟨a, c, rfl, _⟩ := h
  generalize edgeZ l = Q at *
  clear hp
  go_enter Tryz.func47, Tryz.ntmps47
  go_wp2_with fail
  refine Calls.mono (HWy.out _ (by go_grown)) ?_
  rintro e W1 ⟨v1, rfl, hI, hb1⟩
  have HB1 := Lib.hid (show Below w.heap.size w W1 from belowTo (by go_grown) hb1)
  obtain ⟨bw, ow, wc, rfl, _, _, hbw, hws⟩ := (hI.reads (by rw [waysL_len]; omega)).open (by rw [waysL_len]; exact h0)
  have HWS := Lib.hid hws
  clear hb1 hI hws HWy
  have hsW := HB1.out.size
  have hwl := HWl.out
  generalize hn : (waysL l).length = n at *
  subst hwl
  clear hn
  go_wp2
  go_loopw [3, 9] (fun s3 s wr => ∃ k : Nat, k ≤ l.length ∧ s3 = .int .i64 (Q k) ∧ s = .int .i64 k ∧ Below W1.heap.size W1 wr) (fun _ s _ => l.length - (intOf s).toNat)
  case atStart => exact ⟨0, Nat.zero_le _, by rw [HS0.out], rfl, Below.refl _ _⟩
  case round =>
    obtain ⟨k, hk, rfl, rfl, hB⟩ := hrel
    have i1 : (0 : Int) ≤ (k : Int) := by omega
    by_cases hlt : k < l.length
    · have i2 : (k : Int) < (l.length : Int) := by omega
      obtain ⟨d0, d1⟩ := HWS.out wr hB k hlt
      rw [HWc.out k] at d0 d1
      have b1 := HWs.out k
      have e1 := HEb.out k
      have e2 := HEb.out (k + 1)
      have HSk := Lib.hid (HSu.out k)
      have e3 := HSu.out k
      generalize wayZ l k = U at *
      obtain ⟨u1, u2⟩ := U
      dsimp only at d0 d1 b1 HSk e3
      have HG := Lib.hid (fun w' => commonDivisor_any u1 u2 w' b1.1 b1.2)
      generalize gcdZ u1 u2 = g at *
      have q1 : IntKind.i64.wrap (Q k + g) = Q k + g := by rw [IntKind.wrap_i64]; omega
      have hs := hB.size
      clear HWs HEb HSu HS0 HGb HWc HWS e1 e2 e3 b1
      go_wp2_with fail
      refine Calls.mono (HG.out _) ?_
      rintro e w2 ⟨rfl, hb2⟩
      have hBk := hB.trans ((belowTo (a := wr) (by go_grown) hb2).mono hs)
      clear hb2 HG
      go_wp2
      go_roundw
      case rel => exact ⟨k + 1, by omega, by rw [HSk.out], by go_num, hBk⟩
      case measure => simp [intOf]; omega
    · obtain rfl : k = l.length := by omega
      have i2 : ¬ ((l.length : Nat) : Int) < (l.length : Int) := by omega
      go_wp2
      go_returns
      exact ⟨rfl, HB1.out.trans (hB.mono hsW)⟩
theorem poly_allV {l : List V2} (h : polyB l = true) : allV l = true := allV_good (fun k _ => poly_vec h k)
set_option maxHeartbeats 4000000 in
theorem polyArea_any (v : Value) (l : List V2) (w : World) (h : ReadsVecs w v l) (hp : polyB l = true) :
    Calls Tryz.prog 49 #[v] w fun e w' => e = .returned (.int .i64 (areaZ l)) ∧ Below w.heap.size w w' := by
  have h30 := poly_len hp
  have HA := Lib.hid (area_any v l w h (by omega) (by omega) (poly_allV hp))
  obtain ⟨a, c, rfl, _⟩ := h
  generalize areaZ l = z at *
  clear hp
  go_enter Tryz.func49, Tryz.ntmps49
  go_wp2_with fail
  refine Calls.mono HA.out ?_
  rintro e w1 ⟨rfl, hb1⟩
  go_wp2
  go_returns
  exact ⟨rfl, hb1⟩
theorem poly_nums {l : List V2} (h : polyB l = true) : (-2000000000 ≤ areaZ l ∧ areaZ l ≤ 2000000000) ∧ 0 ≤ edgeZ l l.length ∧ edgeZ l l.length ≤ 30000 := by
  have h30 := poly_len h
  have a := area_bnd (poly_allV h) (by omega) (k := l.length) (by omega)
  have b := edge_bnd h l.length
  exact ⟨a, b.1, by omega⟩
end Go.Proofs.YtgaeibibeekclabGreatDoor
namespace Go.Proofs.YtgaeibibeekclabGreatDoor
open Go.RowKit
set_option maxHeartbeats 1000000 in
theorem l1DetBig_any (x1 y1 x2 y2 : Int) (w : World) (h1 : big 800000 x1 y1) (h2 : big 800000 x2 y2) :
    Calls Tryz.prog 70 #[.agg #[.int .i64 (x1), .int .i64 (y1)], .agg #[.int .i64 (x2), .int .i64 (y2)]] w fun e w' => e = .returned (.int .i64 (detZ x1 y1 x2 y2)) ∧ Below w.heap.size w w' := by
  obtain ⟨_, _⟩ := mul_big h1.1 h2.2
  obtain ⟨_, _⟩ := mul_big h1.2 h2.1
  clear h1 h2
  go_enter Tryz.func70, Tryz.ntmps70
  go_wp2
  go_returns
  exact ⟨rfl, by go_grown⟩
/-- the least determinant -/
def leastZ (l : List V2) (z : V2) : Nat → Int
  | 0 => sideZ (cyc l) 0 z
  | k + 1 => min (leastZ l z k) (sideZ (cyc l) (k + 1) z)
theorem least_iff {l : List V2} {z : V2} {s : Int} : ∀ k, s ≤ leastZ l z k ↔ ∀ i, i ≤ k → s ≤ sideZ (cyc l) i z := by
  intro k
  induction k with
  | zero =>
    constructor
    · intro h i hi
      obtain rfl : i = 0 := by omega
      exact h
    · intro h; exact h 0 (Nat.le_refl _)
  | succ k ih =>
    have e : leastZ l z (k + 1) = min (leastZ l z k) (sideZ (cyc l) (k + 1) z) := rfl
    constructor
    · intro h i hi
      by_cases c : i = k + 1
      · rw [c]; omega
      · exact ih.1 (by omega) i (by omega)
    · intro h
      have a := ih.2 (fun i hi => h i (by omega))
      have b := h (k + 1) (Nat.le_refl _)
      omega
set_option maxRecDepth 100000 in
set_option maxHeartbeats 32000000 in
theorem l6gLeast_any (v : Value) (l : List V2) (x y : Int) (w : World) (h : ReadsVecs w v l) (hp : polyB l = true) (hv : vecB x y = true) :
    Calls Tryz.prog 37 #[v, .agg #[.int .i64 (x), .int .i64 (y)]] w fun e w' => e = .returned (.int .i64 (leastZ l (x, y) (l.length - 1))) ∧ Below w.heap.size w w' := by
  have h30 := poly_len hp
  have h0 : 0 < l.length := by omega
  obtain ⟨bb, off, vc, rfl, _, _, hbv, hvs⟩ := h.open h0
  have HVS := Lib.hid hvs
  have HMb := Lib.hid (fun i => poly_small hp i)
  have hxy := szs hv
  obtain ⟨K, hK⟩ : ∃ K, K = l.length - 1 := ⟨_, rfl⟩
  rw [← hK]
  have HL0 : Hid (leastZ l (x, y) 0 = detZ ((cyc l 1).1 - (cyc l 0).1) ((cyc l 1).2 - (cyc l 0).2) (x - (cyc l 0).1) (y - (cyc l 0).2)) := rfl
  have HLs : Hid (∀ k, leastZ l (x, y) (k + 1) = min (leastZ l (x, y) k) (detZ ((cyc l (k + 1 + 1)).1 - (cyc l (k + 1)).1) ((cyc l (k + 1 + 1)).2 - (cyc l (k + 1)).2) (x - (cyc l (k + 1)).1) (y - (cyc l (k + 1)).2))) := fun _ => rfl
  clear h hp hv hvs
  generalize leastZ l (x, y) = Q at *
  obtain ⟨W0, hW0⟩ : ∃ W0, W0 = w.alloc (.cells #[.int .i64 x, .int .i64 y] 55) := ⟨_, rfl⟩
  have a0 : W0.cell? ⟨w.heap.size, 0, none⟩ = some (.int .i64 x) := by rw [hW0]; simp
  have a1 : W0.cell? ⟨w.heap.size, 1, none⟩ = some (.int .i64 y) := by rw [hW0]; simp
  have hB0 : Below w.heap.size w W0 := by rw [hW0]; go_grown
  have HB0 := Lib.hid hB0
  have HA0 := Lib.hid a0
  have HA1 := Lib.hid a1
  obtain ⟨d0, d1⟩ := HVS.out W0 hB0 0 h0
  obtain ⟨d2, d3⟩ := HVS.out W0 hB0 1 (by omega)
  have b0 := HMb.out 0
  have b1 := HMb.out 1
  have HL0' := Lib.hid HL0.out
  generalize cyc l 0 = V at d0 d1 b0 HL0'
  generalize cyc l 1 = U at d2 d3 b1 HL0'
  obtain ⟨x1, y1⟩ := V
  obtain ⟨x2, y2⟩ := U
  dsimp only at d0 d1 d2 d3 HL0' b0 b1
  have B0 : big 400000 x1 y1 := by unfold big; omega
  have B1 : big 400000 x2 y2 := by unfold big; omega
  have B2 : big 400000 x y := by unfold big; omega
  have B3 : big 800000 (x2 - x1) (y2 - y1) := by unfold big; omega
  have B4 : big 800000 (x - x1) (y - y1) := by unfold big; omega
  have HD := Lib.hid (fun w' => l1DetBig_any (x2 - x1) (y2 - y1) (x - x1) (y - y1) w' B3 B4)
  have n1 : (1 : Int) < (l.length : Int) := by omega
  have n0 : (0 : Int) < (l.length : Int) := by omega
  have n1' : 1 < l.length := by omega
  have tt0 := cell_lt d0
  have tt1 := cell_lt a0
  clear b0 b1 B3 B4 HL0
  simp only [Nat.zero_mul, Nat.add_zero, Nat.one_mul] at d0 d1 d2 d3
  go_enter Tryz.func37, Tryz.ntmps37
  go_upto_region 1 with fail
  rw [← hW0]
  clear hW0
  go_region_held3 (fun w' => w'.cell? ⟨bb, off, none⟩ = some (.int .i64 (x1)) ∧ w'.cell? ⟨bb, off + 1, none⟩ = some (.int .i64 (y1)) ∧ w'.cell? ⟨bb, off + 2, none⟩ = some (.int .i64 (x2)) ∧ w'.cell? ⟨bb, off + 2 + 1, none⟩ = some (.int .i64 (y2)) ∧ w'.cell? ⟨w.heap.size, 0, none⟩ = some (.int .i64 (x)) ∧ w'.cell? ⟨w.heap.size, 1, none⟩ = some (.int .i64 (y)) ∧ Below (w.heap.size) W0 w') ((go_split_ands; refine ⟨by (first | (with_reducible assumption) | (go_keep; done) | (go_cell; done) | (go_simp; done) | (simp [*]; done)), by (first | (with_reducible assumption) | (go_keep; done) | (go_cell; done) | (go_simp; done) | (simp [*]; done)), by (first | (with_reducible assumption) | (go_keep; done) | (go_cell; done) | (go_simp; done) | (simp [*]; done)), by (first | (with_reducible assumption) | (go_keep; done) | (go_cell; done) | (go_simp; done) | (simp [*]; done)), by (first | (with_reducible assumption) | (go_keep; done) | (go_cell; done) | (go_simp; done) | (simp [*]; done)), by (first | (with_reducible assumption) | (go_keep; done) | (go_cell; done) | (go_simp; done) | (simp [*]; done)), by first | (with_reducible assumption) | (go_grown; done)⟩)) (first | (go_at_call 52; go_call (l6gWay_any _ _ _ _ _ (by assumption) (by assumption)) as e w1 ⟨rfl, hb0⟩; go_split_ands; have q0 : w1.cell? ⟨bb, off, none⟩ = some (.int .i64 (x1)) := (hb0.cell (p := ⟨bb, off, none⟩) (by first | (with_reducible assumption) | (go_size; done) | (simp; omega))).trans (by first | (with_reducible assumption) | (go_keep; done) | (go_cell; done) | (go_simp; done) | (simp [*]; done)); have q1 : w1.cell? ⟨bb, off + 1, none⟩ = some (.int .i64 (y1)) := (hb0.cell (p := ⟨bb, off + 1, none⟩) (by first | (with_reducible assumption) | (go_size; done) | (simp; omega))).trans (by first | (with_reducible assumption) | (go_keep; done) | (go_cell; done) | (go_simp; done) | (simp [*]; done)); have q2 : w1.cell? ⟨bb, off + 2, none⟩ = some (.int .i64 (x2)) := (hb0.cell (p := ⟨bb, off + 2, none⟩) (by first | (with_reducible assumption) | (go_size; done) | (simp; omega))).trans (by first | (with_reducible assumption) | (go_keep; done) | (go_cell; done) | (go_simp; done) | (simp [*]; done)); have q3 : w1.cell? ⟨bb, off + 2 + 1, none⟩ = some (.int .i64 (y2)) := (hb0.cell (p := ⟨bb, off + 2 + 1, none⟩) (by first | (with_reducible assumption) | (go_size; done) | (simp; omega))).trans (by first | (with_reducible assumption) | (go_keep; done) | (go_cell; done) | (go_simp; done) | (simp [*]; done)); have q4 : w1.cell? ⟨w.heap.size, 0, none⟩ = some (.int .i64 (x)) := (hb0.cell (p := ⟨w.heap.size, 0, none⟩) (by first | (with_reducible assumption) | (go_size; done) | (simp; omega))).trans (by first | (with_reducible assumption) | (go_keep; done) | (go_cell; done) | (go_simp; done) | (simp [*]; done)); have q5 : w1.cell? ⟨w.heap.size, 1, none⟩ = some (.int .i64 (y)) := (hb0.cell (p := ⟨w.heap.size, 1, none⟩) (by first | (with_reducible assumption) | (go_size; done) | (simp; omega))).trans (by first | (with_reducible assumption) | (go_keep; done) | (go_cell; done) | (go_simp; done) | (simp [*]; done)); have hs0 : bb < w1.heap.size := Nat.lt_of_lt_of_le (by first | (with_reducible assumption) | (go_size; done) | (simp; omega)) hb0.size; have hs1 : w.heap.size < w1.heap.size := Nat.lt_of_lt_of_le (by first | (with_reducible assumption) | (go_size; done) | (simp; omega)) hb0.size; have hT : Below (w.heap.size) W0 w1 := Below.trans (by first | (with_reducible assumption) | (go_grown; done)) (hb0.mono (by first | (with_reducible assumption) | (go_size; done) | (simp; omega) | omega)); have hTs := hT.size; (try have hT2 : Below W0.heap.size W0 w1 := belowTo (by first | (with_reducible assumption) | (go_grown; done)) hb0); clear hb0) | (go_at_call 70; go_call (HD.out _) as e w1 ⟨rfl, hb0⟩; go_split_ands; have q0 : w1.cell? ⟨bb, off, none⟩ = some (.int .i64 (x1)) := (hb0.cell (p := ⟨bb, off, none⟩) (by first | (with_reducible assumption) | (go_size; done) | (simp; omega))).trans (by first | (with_reducible assumption) | (go_keep; done) | (go_cell; done) | (go_simp; done) | (simp [*]; done)); have q1 : w1.cell? ⟨bb, off + 1, none⟩ = some (.int .i64 (y1)) := (hb0.cell (p := ⟨bb, off + 1, none⟩) (by first | (with_reducible assumption) | (go_size; done) | (simp; omega))).trans (by first | (with_reducible assumption) | (go_keep; done) | (go_cell; done) | (go_simp; done) | (simp [*]; done)); have q2 : w1.cell? ⟨bb, off + 2, none⟩ = some (.int .i64 (x2)) := (hb0.cell (p := ⟨bb, off + 2, none⟩) (by first | (with_reducible assumption) | (go_size; done) | (simp; omega))).trans (by first | (with_reducible assumption) | (go_keep; done) | (go_cell; done) | (go_simp; done) | (simp [*]; done)); have q3 : w1.cell? ⟨bb, off + 2 + 1, none⟩ = some (.int .i64 (y2)) := (hb0.cell (p := ⟨bb, off + 2 + 1, none⟩) (by first | (with_reducible assumption) | (go_size; done) | (simp; omega))).trans (by first | (with_reducible assumption) | (go_keep; done) | (go_cell; done) | (go_simp; done) | (simp [*]; done)); have q4 : w1.cell? ⟨w.heap.size, 0, none⟩ = some (.int .i64 (x)) := (hb0.cell (p := ⟨w.heap.size, 0, none⟩) (by first | (with_reducible assumption) | (go_size; done) | (simp; omega))).trans (by first | (with_reducible assumption) | (go_keep; done) | (go_cell; done) | (go_simp; done) | (simp [*]; done)); have q5 : w1.cell? ⟨w.heap.size, 1, none⟩ = some (.int .i64 (y)) := (hb0.cell (p := ⟨w.heap.size, 1, none⟩) (by first | (with_reducible assumption) | (go_size; done) | (simp; omega))).trans (by first | (with_reducible assumption) | (go_keep; done) | (go_cell; done) | (go_simp; done) | (simp [*]; done)); have hs0 : bb < w1.heap.size := Nat.lt_of_lt_of_le (by first | (with_reducible assumption) | (go_size; done) | (simp; omega)) hb0.size; have hs1 : w.heap.size < w1.heap.size := Nat.lt_of_lt_of_le (by first | (with_reducible assumption) | (go_size; done) | (simp; omega)) hb0.size; have hT : Below (w.heap.size) W0 w1 := Below.trans (by first | (with_reducible assumption) | (go_grown; done)) (hb0.mono (by first | (with_reducible assumption) | (go_size; done) | (simp; omega) | omega)); have hTs := hT.size; (try have hT2 : Below W0.heap.size W0 w1 := belowTo (by first | (with_reducible assumption) | (go_grown; done)) hb0); clear hb0))
  rw [← HL0'.out]
  have hB1 := HB0.out.trans hT
  clear hT hTs B0 B1 d0 d1 d2 d3 HL0' HD tt0 tt1
  have ha0 : w1.cell? ⟨w.heap.size, 0, none⟩ = some (.int .i64 x) := by assumption
  have ha1 : w1.cell? ⟨w.heap.size, 1, none⟩ = some (.int .i64 y) := by assumption
  have HA0 := Lib.hid ha0
  have HA1 := Lib.hid ha1
  have hwz : w.heap.size < w1.heap.size := cell_lt ha0
  clear ha0 ha1
  generalize w1 = W1 at *
  go_wp2
  go_loopw [5, 6] (fun s5 s6 wr => ∃ k : Nat, k + 1 ≤ l.length ∧ s5 = .int .i64 (Q k) ∧ s6 = .int .i64 ((k + 1 : Nat) : Int) ∧ Below W1.heap.size W1 wr) (fun _ s6 _ => l.length - (intOf s6).toNat)
  case atStart => exact ⟨0, (by omega), rfl, rfl, Below.refl _ _⟩
  case round =>
    obtain ⟨k, hk, rfl, rfl, hB⟩ := hrel
    have hBw := hB1.trans (hB.mono hB1.size)
    have i1 : (0 : Int) ≤ ((k + 1 : Nat) : Int) := by omega
    by_cases hlt : k + 1 < l.length
    · have i2 : ((k + 1 : Nat) : Int) < (l.length : Int) := by omega
      have hq : (k + 1 + 1) % l.length < l.length := Nat.mod_lt _ h0
      have j3 : (0 : Int) ≤ (((k + 1 + 1) % l.length : Nat) : Int) := by omega
      have j4 : (((k + 1 + 1) % l.length : Nat) : Int) < (l.length : Int) := by omega
      have j5 : ¬ (l.length : Int) = 0 := by omega
      have j6 : ((l.length : Int) == 0) = false := by simpa using j5
      have j7 : ¬ l.length = 0 := by omega
      have t2 := next_is (k + 1) l.length
      have q0 : IntKind.i64.wrap (((k + 1 : Nat) : Int) + 1) = ((k + 1 : Nat) : Int) + 1 := by rw [IntKind.wrap_i64]; omega
      obtain ⟨d0, d1⟩ := HVS.out wr hBw (k + 1) hlt
      obtain ⟨d2, d3⟩ := HVS.out wr hBw _ hq
      rw [cyc_mod] at d2 d3
      have a1 := (hB.cell (p := ⟨w.heap.size, 1, none⟩) hwz).trans HA1.out
      have a0 := (hB.cell (p := ⟨w.heap.size, 0, none⟩) hwz).trans HA0.out
      have b0 := HMb.out (k + 1)
      have b1 := HMb.out (k + 1 + 1)
      have HLk := Lib.hid (HLs.out k)
      generalize cyc l (k + 1) = V at *
      generalize cyc l (k + 1 + 1) = U at *
      obtain ⟨x1, y1⟩ := V
      obtain ⟨x2, y2⟩ := U
      dsimp only at d0 d1 d2 d3 HLk b0 b1
      generalize hkk : k + 1 = k1 at *
      generalize (k1 + 1) % l.length = q at *
      have B0 : big 400000 x1 y1 := by unfold big; omega
      have B1 : big 400000 x2 y2 := by unfold big; omega
      have B3 : big 800000 (x2 - x1) (y2 - y1) := by unfold big; omega
      have B4 : big 800000 (x - x1) (y - y1) := by unfold big; omega
      have HD := Lib.hid (fun w' => l1DetBig_any (x2 - x1) (y2 - y1) (x - x1) (y - y1) w' B3 B4)
      generalize hDD : detZ (x2 - x1) (y2 - y1) (x - x1) (y - y1) = D at HD HLk
      have tt0 := cell_lt d0
      have tt1 := cell_lt d2
      have tt2 := cell_lt a0
      have HQk := Lib.hid (rfl : Q k = Q k)
      generalize hQk : Q k = QK at *
      have HKK := Lib.hid hkk
      have hs := hB.size
      clear hDD b0 b1 B3 B4 HMb HLs HVS HA0 HA1 hkk hQk HQk
      go_wp2
      go_region_held3 (fun w' => w'.cell? ⟨bb, off + k1 * 2, none⟩ = some (.int .i64 (x1)) ∧ w'.cell? ⟨bb, off + k1 * 2 + 1, none⟩ = some (.int .i64 (y1)) ∧ w'.cell? ⟨bb, off + q * 2, none⟩ = some (.int .i64 (x2)) ∧ w'.cell? ⟨bb, off + q * 2 + 1, none⟩ = some (.int .i64 (y2)) ∧ w'.cell? ⟨w.heap.size, 0, none⟩ = some (.int .i64 (x)) ∧ w'.cell? ⟨w.heap.size, 1, none⟩ = some (.int .i64 (y)) ∧ Below (W1.heap.size) wr w') ((go_split_ands; refine ⟨by (first | (with_reducible assumption) | (go_keep; done) | (go_cell; done) | (go_simp; done) | (simp [*]; done)), by (first | (with_reducible assumption) | (go_keep; done) | (go_cell; done) | (go_simp; done) | (simp [*]; done)), by (first | (with_reducible assumption) | (go_keep; done) | (go_cell; done) | (go_simp; done) | (simp [*]; done)), by (first | (with_reducible assumption) | (go_keep; done) | (go_cell; done) | (go_simp; done) | (simp [*]; done)), by (first | (with_reducible assumption) | (go_keep; done) | (go_cell; done) | (go_simp; done) | (simp [*]; done)), by (first | (with_reducible assumption) | (go_keep; done) | (go_cell; done) | (go_simp; done) | (simp [*]; done)), by first | (with_reducible assumption) | (go_grown; done)⟩)) (first | (go_at_call 52; go_call (l6gWay_any _ _ _ _ _ (by assumption) (by assumption)) as e w1 ⟨rfl, hb0⟩; go_split_ands; have q0 : w1.cell? ⟨bb, off + k1 * 2, none⟩ = some (.int .i64 (x1)) := (hb0.cell (p := ⟨bb, off + k1 * 2, none⟩) (by first | (with_reducible assumption) | (go_size; done) | (simp; omega))).trans (by first | (with_reducible assumption) | (go_keep; done) | (go_cell; done) | (go_simp; done) | (simp [*]; done)); have q1 : w1.cell? ⟨bb, off + k1 * 2 + 1, none⟩ = some (.int .i64 (y1)) := (hb0.cell (p := ⟨bb, off + k1 * 2 + 1, none⟩) (by first | (with_reducible assumption) | (go_size; done) | (simp; omega))).trans (by first | (with_reducible assumption) | (go_keep; done) | (go_cell; done) | (go_simp; done) | (simp [*]; done)); have q2 : w1.cell? ⟨bb, off + q * 2, none⟩ = some (.int .i64 (x2)) := (hb0.cell (p := ⟨bb, off + q * 2, none⟩) (by first | (with_reducible assumption) | (go_size; done) | (simp; omega))).trans (by first | (with_reducible assumption) | (go_keep; done) | (go_cell; done) | (go_simp; done) | (simp [*]; done)); have q3 : w1.cell? ⟨bb, off + q * 2 + 1, none⟩ = some (.int .i64 (y2)) := (hb0.cell (p := ⟨bb, off + q * 2 + 1, none⟩) (by first | (with_reducible assumption) | (go_size; done) | (simp; omega))).trans (by first | (with_reducible assumption) | (go_keep; done) | (go_cell; done) | (go_simp; done) | (simp [*]; done)); have q4 : w1.cell? ⟨w.heap.size, 0, none⟩ = some (.int .i64 (x)) := (hb0.cell (p := ⟨w.heap.size, 0, none⟩) (by first | (with_reducible assumption) | (go_size; done) | (simp; omega))).trans (by first | (with_reducible assumption) | (go_keep; done) | (go_cell; done) | (go_simp; done) | (simp [*]; done)); have q5 : w1.cell? ⟨w.heap.size, 1, none⟩ = some (.int .i64 (y)) := (hb0.cell (p := ⟨w.heap.size, 1, none⟩) (by first | (with_reducible assumption) | (go_size; done) | (simp; omega))).trans (by first | (with_reducible assumption) | (go_keep; done) | (go_cell; done) | (go_simp; done) | (simp [*]; done)); have hs0 : bb < w1.heap.size := Nat.lt_of_lt_of_le (by first | (with_reducible assumption) | (go_size; done) | (simp; omega)) hb0.size; have hs1 : w.heap.size < w1.heap.size := Nat.lt_of_lt_of_le (by first | (with_reducible assumption) | (go_size; done) | (simp; omega)) hb0.size; have hT : Below (W1.heap.size) wr w1 := Below.trans (by first | (with_reducible assumption) | (go_grown; done)) (hb0.mono (by first | (with_reducible assumption) | (go_size; done) | (simp; omega) | omega)); have hTs := hT.size; (try have hT2 : Below wr.heap.size wr w1 := belowTo (by first | (with_reducible assumption) | (go_grown; done)) hb0); clear hb0) | (go_at_call 70; go_call (HD.out _) as e w1 ⟨rfl, hb0⟩; go_split_ands; have q0 : w1.cell? ⟨bb, off + k1 * 2, none⟩ = some (.int .i64 (x1)) := (hb0.cell (p := ⟨bb, off + k1 * 2, none⟩) (by first | (with_reducible assumption) | (go_size; done) | (simp; omega))).trans (by first | (with_reducible assumption) | (go_keep; done) | (go_cell; done) | (go_simp; done) | (simp [*]; done)); have q1 : w1.cell? ⟨bb, off + k1 * 2 + 1, none⟩ = some (.int .i64 (y1)) := (hb0.cell (p := ⟨bb, off + k1 * 2 + 1, none⟩) (by first | (with_reducible assumption) | (go_size; done) | (simp; omega))).trans (by first | (with_reducible assumption) | (go_keep; done) | (go_cell; done) | (go_simp; done) | (simp [*]; done)); have q2 : w1.cell? ⟨bb, off + q * 2, none⟩ = some (.int .i64 (x2)) := (hb0.cell (p := ⟨bb, off + q * 2, none⟩) (by first | (with_reducible assumption) | (go_size; done) | (simp; omega))).trans (by first | (with_reducible assumption) | (go_keep; done) | (go_cell; done) | (go_simp; done) | (simp [*]; done)); have q3 : w1.cell? ⟨bb, off + q * 2 + 1, none⟩ = some (.int .i64 (y2)) := (hb0.cell (p := ⟨bb, off + q * 2 + 1, none⟩) (by first | (with_reducible assumption) | (go_size; done) | (simp; omega))).trans (by first | (with_reducible assumption) | (go_keep; done) | (go_cell; done) | (go_simp; done) | (simp [*]; done)); have q4 : w1.cell? ⟨w.heap.size, 0, none⟩ = some (.int .i64 (x)) := (hb0.cell (p := ⟨w.heap.size, 0, none⟩) (by first | (with_reducible assumption) | (go_size; done) | (simp; omega))).trans (by first | (with_reducible assumption) | (go_keep; done) | (go_cell; done) | (go_simp; done) | (simp [*]; done)); have q5 : w1.cell? ⟨w.heap.size, 1, none⟩ = some (.int .i64 (y)) := (hb0.cell (p := ⟨w.heap.size, 1, none⟩) (by first | (with_reducible assumption) | (go_size; done) | (simp; omega))).trans (by first | (with_reducible assumption) | (go_keep; done) | (go_cell; done) | (go_simp; done) | (simp [*]; done)); have hs0 : bb < w1.heap.size := Nat.lt_of_lt_of_le (by first | (with_reducible assumption) | (go_size; done) | (simp; omega)) hb0.size; have hs1 : w.heap.size < w1.heap.size := Nat.lt_of_lt_of_le (by first | (with_reducible assumption) | (go_size; done) | (simp; omega)) hb0.size; have hT : Below (W1.heap.size) wr w1 := Below.trans (by first | (with_reducible assumption) | (go_grown; done)) (hb0.mono (by first | (with_reducible assumption) | (go_size; done) | (simp; omega) | omega)); have hTs := hT.size; (try have hT2 : Below wr.heap.size wr w1 := belowTo (by first | (with_reducible assumption) | (go_grown; done)) hb0); clear hb0))
      have hBk := hB.trans hT
      clear hT hTs B0 B1 d0 d1 d2 d3
      go_wp2
      all_goals
        go_roundw
        case rel => exact ⟨k + 1, by have := HKK.out; omega, by rw [HKK.out, HLk.out]; congr 1; split <;> omega, by have := HKK.out; go_num, hBk⟩
        case measure => have := HKK.out; simp [intOf]; omega
    · have i2 : ¬ ((k + 1 : Nat) : Int) < (l.length : Int) := by omega
      obtain rfl : k = K := by omega
      go_wp2
      go_returns
      exact ⟨rfl, hBw⟩
end Go.Proofs.YtgaeibibeekclabGreatDoor
