import Derived.Test.YtgaeibibeekclabGreatDoorProg
import Derived.Test.YtgaeibibeekclabGreatDoorS01
import Derived.Test.YtgaeibibeekclabGreatDoorS06
import Derived.Test.YtgaeibibeekclabGreatDoorS07
import Derived.Test.YtgaeibibeekclabGreatDoorS08
import Derived.Test.YtgaeibibeekclabGreatDoorS13
import Derived.Test.YtgaeibibeekclabGreatDoorS14
import Derived.Test.YtgaeibibeekclabGreatDoorS23
import Derived.Test.YtgaeibibeekclabGreatDoorS51
import Derived.WalkKit
import Derived.LaidEql
import Derived.Stop.Asserts
import Derived.RowKitTokens
import Derived.Handy
import Derived.WalkSpells
import Derived.WalkLawsBesides
import Derived.Deep.QuietTactic
import Derived.BigQuiet
import Derived.Lib.Hide
import Derived.Deep.RegionHeld3
import Derived.Deep.DeepCutAuto
import Derived.Deep.AppendLies
import Derived.Laws.OwnMore
import Derived.Laws.MakeOwn
import Derived.OwnWalk
import Derived.WalkSmall
import Derived.Maps.AppendAt
import Derived.RangeFuncBox
import Derived.RegionTactic
import Derived.ChangeAlike
import Derived.RangeFuncNested
import Derived.StillTail
import Derived.OrdersIn
import Derived.AtR
import Derived.RangeFuncBound
import Derived.RangeFuncCalls
import Derived.RangeFuncLeaves
import Derived.Shelf.Abstract
import Derived.OwnWalkIn
import Derived.TacticsInMore
import Derived.LoopNIn
import Derived.LoopIn
import Derived.LaidEqlPtr
import Derived.BigRegion
import Derived.Laws.StructEq
import Derived.StillTailTactics
namespace Go.Proofs.YtgaeibibeekclabGreatDoor
open Go.RowKit
/-- the inner vectors, by Pick's formula -/
def innerZ (l : List V2) : Int := (areaZ l - edgeZ l l.length + 2).tdiv 2
set_option maxHeartbeats 4000000 in
theorem inner_any (v : Value) (l : List V2) (w : World) (h : ReadsVecs w v l) (hp : polyB l = true) :
    Calls Tryz.prog 40 #[v] w fun e w' => e = .returned (.int .i64 (innerZ l)) ∧ Below w.heap.size w w' := by
  have HA := Lib.hid (polyArea_any v l w h hp)
  have HE := Lib.hid (fun w' (hb : Below w.heap.size w w') => edge_any v l w' (h.below hb) hp)
  obtain ⟨⟨n1, n2⟩, n3, n4⟩ := poly_nums hp
  have HZ : Hid (innerZ l = (areaZ l - edgeZ l l.length + 2).tdiv 2) := rfl
  obtain ⟨a, c, rfl, _⟩ := h
  generalize areaZ l = z at *
  generalize edgeZ l l.length = g at *
  clear hp
  go_enter Tryz.func40, Tryz.ntmps40
  go_wp2_with fail
  refine Calls.mono HA.out ?_
  rintro e w1 ⟨rfl, hb1⟩
  go_wp2_with fail
  refine Calls.mono (HE.out _ hb1) ?_
  rintro e w2 ⟨rfl, hb2⟩
  have hb := belowTo hb1 hb2
  clear hb1 hb2
  have q1 : IntKind.i64.wrap (z - g) = z - g := by rw [IntKind.wrap_i64]; omega
  have q2 : IntKind.i64.wrap (z - g + 2) = z - g + 2 := by rw [IntKind.wrap_i64]; omega
  have q3 : IntKind.i64.wrap ((z - g + 2).tdiv 2) = (z - g + 2).tdiv 2 := by have := tdiv_bd (x := z - g + 2) (m := 2) (n := 3000000000) (by omega); rw [IntKind.wrap_i64]; omega
  go_wp2
  go_returns
  exact ⟨by rw [HZ.out]; rfl, hb⟩
end Go.Proofs.YtgaeibibeekclabGreatDoor
namespace Go.Proofs.YtgaeibibeekclabGreatDoor
open Go.RowKit
set_option maxHeartbeats 4000000 in
theorem polygonInner_any (v : Value) (l : List V2) (w : World) (h : ReadsVecs w v l) (hg : EtOk w) :
    Calls Tryz.prog 11 #[v] w fun e w' => e = .returned (.tuple #[.int .i64 (gate (polyB l) (innerZ l)), .bool (polyB l)]) ∧ Below w.heap.size w w' := by
  have HC := Lib.hid (polyCheck_any v l w h)
  have H0 := Lib.hid (fun w' (hb : Below w.heap.size w w') (hp : polyB l = true) => inner_any v l w' (h.below hb) hp)
  obtain ⟨a, c, rfl, _⟩ := h
  generalize innerZ l = z at *
  cases hk : polyB l
  · rw [hk] at HC
    clear hk H0
    go_enter Tryz.func11, Tryz.ntmps11
    go_wp2_with fail
    refine Calls.mono HC.out ?_
    rintro e w1 ⟨⟨s, rfl⟩, hb1⟩
    go_wp2_with fail
    refine Calls.mono (none_hit s _ (hg.below hb1)) ?_
    rintro e w2 ⟨rfl, hb2⟩
    have hb := belowTo hb1 hb2
    clear hb1 hb2
    go_wp2
    go_returns
    exact ⟨rfl, hb⟩
  · rw [hk] at HC
    have HK := Lib.hid hk
    clear hk
    have HC2 := Lib.hid (HC.out.mono (fun e w' h => (⟨h.1, h.2⟩ : e = .returned .nilIface ∧ Below w.heap.size w w')))
    clear HC
    go_enter Tryz.func11, Tryz.ntmps11
    go_wp2_with fail
    refine Calls.mono HC2.out ?_
    rintro e w1 ⟨rfl, hb⟩
    go_wp2_with fail
    refine Calls.mono (none_nil _) ?_
    rintro e w2 ⟨rfl, hb2⟩
    replace hb := belowTo hb hb2
    clear hb2
    go_wp2_with fail
    refine Calls.mono (H0.out _ hb HK.out) ?_
    rintro e w3 ⟨rfl, hb3⟩
    replace hb := belowTo hb hb3
    clear hb3
    go_wp2
    go_returns
    exact ⟨rfl, hb⟩
end Go.Proofs.YtgaeibibeekclabGreatDoor
namespace Go.Proofs.YtgaeibibeekclabGreatDoor
open Go.RowKit
def mnI (f : Nat → Int) : Nat → Int
  | 0 => 100
  | k + 1 => min (mnI f k) (f k)
def mxI (f : Nat → Int) : Nat → Int
  | 0 => -100
  | k + 1 => max (mxI f k) (f k)
def xsZ (l : List V2) (i : Nat) : Int := (cyc l i).1
def ysZ (l : List V2) (i : Nat) : Int := (cyc l i).2
/-- how many vectors of the box there are whose least determinant is at least s -/
def cntZ (l : List V2) (s : Int) : Int :=
  sumI (fun a => colN (cyc l) l.length s (mnI (xsZ l) l.length + a) (mnI (ysZ l) l.length) (mxI (ysZ l) l.length - mnI (ysZ l) l.length + 1).toNat) (mxI (xsZ l) l.length - mnI (xsZ l) l.length + 1).toNat
theorem col_bnd (p : Nat → P2) (n : Nat) (s x b : Int) (H : Nat) : 0 ≤ colN p n s x b H ∧ colN p n s x b H ≤ H := by
  unfold colN
  induction H with
  | zero => exact ⟨Int.le_refl _, Int.le_refl _⟩
  | succ H ih => rw [sumI_succ]; split <;> omega
end Go.Proofs.YtgaeibibeekclabGreatDoor
namespace Go.Proofs.YtgaeibibeekclabGreatDoor
open Go.RowKit
theorem sumI_Z (f : Nat → Int) (n : Nat) : sumI f n = sumZ f n := by
  induction n with
  | zero => rfl
  | succ n ih => rw [sumI_succ, ih]; rfl
theorem mn_le (f : Nat → Int) : ∀ k i, i < k → mnI f k ≤ f i := by
  intro k
  induction k with
  | zero => omega
  | succ k ih =>
    intro i hi
    unfold mnI
    by_cases e : i = k
    · rw [e]; omega
    · have := ih i (by omega); omega
theorem mx_le (f : Nat → Int) : ∀ k i, i < k → f i ≤ mxI f k := by
  intro k
  induction k with
  | zero => omega
  | succ k ih =>
    intro i hi
    unfold mxI
    by_cases e : i = k
    · rw [e]; omega
    · have := ih i (by omega); omega
theorem mn_at {f : Nat → Int} (h : ∀ i, f i ≤ 100) : ∀ k, 0 < k → ∃ i, i < k ∧ f i = mnI f k := by
  intro k
  induction k with
  | zero => omega
  | succ k ih =>
    intro _
    unfold mnI
    by_cases h0 : k = 0
    · subst h0
      have := h 0
      exact ⟨0, by omega, by unfold mnI; omega⟩
    · obtain ⟨i, hi, e⟩ := ih (by omega)
      rcases Int.lt_or_le (f k) (mnI f k) with c | c
      · exact ⟨k, by omega, by omega⟩
      · exact ⟨i, by omega, by omega⟩
theorem mx_at {f : Nat → Int} (h : ∀ i, -100 ≤ f i) : ∀ k, 0 < k → ∃ i, i < k ∧ f i = mxI f k := by
  intro k
  induction k with
  | zero => omega
  | succ k ih =>
    intro _
    unfold mxI
    by_cases h0 : k = 0
    · subst h0
      have := h 0
      exact ⟨0, by omega, by unfold mxI; omega⟩
    · obtain ⟨i, hi, e⟩ := ih (by omega)
      rcases Int.lt_or_le (mxI f k) (f k) with c | c
      · exact ⟨k, by omega, by omega⟩
      · exact ⟨i, by omega, by omega⟩
theorem cnt_pick {l : List V2} (h : polyB l = true) : 2 * cntZ l 0 = areaZ l + edgeZ l l.length + 2 ∧ 2 * cntZ l 1 = areaZ l - edgeZ l l.length + 2 := by
  have h3 := poly_len h
  have hc := poly_conv h
  have hx : ∀ i, -100 ≤ xsZ l i ∧ xsZ l i ≤ 100 := fun i => (poly_small h i).1
  have hy : ∀ i, -100 ≤ ysZ l i ∧ ysZ l i ≤ 100 := fun i => (poly_small h i).2
  have xm : ∀ i, xsZ l (i % l.length) = xsZ l i := fun i => by unfold xsZ; rw [cyc_mod]
  have ym : ∀ i, ysZ l (i % l.length) = ysZ l i := fun i => by unfold ysZ; rw [cyc_mod]
  have x0 : ∀ i, mnI (xsZ l) l.length ≤ xsZ l i := fun i => by rw [← xm]; exact mn_le _ _ _ (Nat.mod_lt _ (by omega))
  have x1 : ∀ i, xsZ l i ≤ mxI (xsZ l) l.length := fun i => by rw [← xm]; exact mx_le _ _ _ (Nat.mod_lt _ (by omega))
  have y0 : ∀ i, mnI (ysZ l) l.length ≤ ysZ l i := fun i => by rw [← ym]; exact mn_le _ _ _ (Nat.mod_lt _ (by omega))
  have y1 : ∀ i, ysZ l i ≤ mxI (ysZ l) l.length := fun i => by rw [← ym]; exact mx_le _ _ _ (Nat.mod_lt _ (by omega))
  obtain ⟨i0, _, e0⟩ := mn_at (fun i => (hx i).2) l.length (by omega)
  obtain ⟨i1, _, e1⟩ := mx_at (fun i => (hx i).1) l.length (by omega)
  have w0 := x0 i1
  have v0 := y0 0
  have v1 := y1 0
  have hb : InBox (cyc l) (mnI (ysZ l) l.length) (mxI (ysZ l) l.length - mnI (ysZ l) l.length + 1).toNat := fun k => by
    have a := y0 k
    have b := y1 k
    unfold ysZ at *
    omega
  have hh := pick_all hc hb (x0 := mnI (xsZ l) l.length) (W := (mxI (xsZ l) l.length - mnI (xsZ l) l.length).toNat) (fun k => by
    have a := x0 k
    have b := x1 k
    unfold xsZ at *
    omega) ⟨i0, e0⟩ ⟨i1, by
    unfold xsZ at *
    omega⟩
  have eA : areaI (cyc l) l.length = areaZ l := sumI_Z _ _
  have eE : edgeI (cyc l) l.length = edgeZ l l.length := sumI_Z _ _
  have eW : (mxI (xsZ l) l.length - mnI (xsZ l) l.length + 1).toNat = (mxI (xsZ l) l.length - mnI (xsZ l) l.length).toNat + 1 := by omega
  rw [eA, eE] at hh
  unfold cntZ
  rw [eW]
  exact hh
theorem inner_cnt {l : List V2} (h : polyB l = true) : cntZ l 1 = innerZ l ∧ cntZ l 0 = innerZ l + edgeZ l l.length := by
  obtain ⟨a, b⟩ := cnt_pick h
  have e : innerZ l = cntZ l 1 := by
    unfold innerZ
    rw [show areaZ l - edgeZ l l.length + 2 = cntZ l 1 * 2 by omega]
    exact Int.mul_tdiv_cancel _ (by omega)
  omega
end Go.Proofs.YtgaeibibeekclabGreatDoor
