import Derived.Test.YtgaeibibeekclabGreatDoorProg
import Derived.Test.YtgaeibibeekclabGreatDoorS01
import Derived.Test.YtgaeibibeekclabGreatDoorS04
import Derived.Test.YtgaeibibeekclabGreatDoorS06
import Derived.Test.YtgaeibibeekclabGreatDoorS07
import Derived.Test.YtgaeibibeekclabGreatDoorS13
import Derived.Test.YtgaeibibeekclabGreatDoorS14
import Derived.WalkKit
import Derived.LaidEql
import Derived.Stop.Asserts
import Derived.RowKitTokens
import Derived.Handy
import Derived.WalkSpells
import Derived.WalkLawsBesides
import Derived.Deep.QuietTactic
import Derived.BigQuiet
import Derived.Lib.Hide
import Derived.Deep.RegionHeld3
import Derived.Deep.DeepCutAuto
import Derived.Deep.AppendLies
import Derived.Laws.OwnMore
import Derived.Laws.MakeOwn
import Derived.OwnWalk
import Derived.Maps.AppendAt
import Derived.RangeFuncBox
import Derived.RegionTactic
import Derived.ChangeAlike
import Derived.RangeFuncNested
import Derived.StillTail
import Derived.OrdersIn
import Derived.AtR
import Derived.RangeFuncBound
import Derived.RangeFuncCalls
import Derived.RangeFuncLeaves
import Derived.Shelf.Abstract
import Derived.OwnWalkIn
import Derived.TacticsInMore
import Derived.LoopNIn
import Derived.LoopIn
import Derived.Shelf.SlSortCmp.WholeK
import Derived.LaidEqlPtr
import Derived.BigRegion
import Derived.Laws.StructEq
import Derived.Laws.IdiomCopy
namespace Go.Proofs.YtgaeibibeekclabGreatDoor
open Go.RowKit
theorem undrawn {w : World} {d : Nat} (h : w.drew.drawn ≤ d) : w.drawn ≤ d := Nat.le_of_succ_le h
theorem grow_of {w w' : World} (h : Below w.heap.size w w') (hd : w.drawn ≤ w'.drawn) : ∃ q os, w' = Go.Sort.grow (w.drewN q) os := by
  refine ⟨w'.drawn - w.drawn, w'.heap.extract w.heap.size w'.heap.size, ?_⟩
  have hh : w'.heap = w.heap ++ w'.heap.extract w.heap.size w'.heap.size := by
    apply Array.ext_getElem?
    intro i
    by_cases hi : i < w.heap.size
    · rw [Array.getElem?_append_left hi]
      exact h.block i hi
    · rw [Array.getElem?_append_right (by omega)]
      rw [Array.getElem?_extract]
      have hs := h.size
      by_cases h2 : i < w'.heap.size
      · rw [if_pos (by omega)]
        congr 1
        omega
      · rw [if_neg (by omega)]
        exact Array.getElem?_eq_none (by omega)
  obtain ⟨heap, tape, drawn, os, output⟩ := w
  obtain ⟨heap', tape', drawn', os', output'⟩ := w'
  have h1 := h.os
  have h2 := h.tape
  have h3 := h.output
  dsimp only at *
  subst h1 h2 h3
  unfold Go.Sort.grow World.drewN
  congr 1
  dsimp only
  omega
end Go.Proofs.YtgaeibibeekclabGreatDoor
namespace Go.Proofs.YtgaeibibeekclabGreatDoor
open Go.RowKit
def cmpZ (a b : Int) : Int := if a < b then -1 else if b < a then 1 else 0
def orZ (a b : Int) : Int := if a = 0 then b else a
def cmpN (u v : V2) : Int := orZ (cmpZ u.1 v.1) (cmpZ u.2 v.2)
set_option maxHeartbeats 1000000 in
theorem isNaN_g (x : Int) (w : World) : Calls Tryz.prog 141 #[.int .i64 x] w fun e w' => e = .returned (.bool false) ∧ w' = w := by
  go_enter Tryz.func141, Tryz.ntmps141
  go_wp2
  go_returns
  exact ⟨rfl, rfl⟩
set_option maxHeartbeats 2000000 in
theorem compare_g (x y : Int) (w : World) : Calls Tryz.prog 118 #[.int .i64 x, .int .i64 y] w fun e w' => e = .returned (.int .i64 (cmpZ x y)) ∧ w' = w := by
  have HX := Lib.hid (fun w' => isNaN_g x w')
  have HY := Lib.hid (fun w' => isNaN_g y w')
  unfold cmpZ
  by_cases h1 : x < y
  · rw [if_pos h1]
    go_enter Tryz.func118, Tryz.ntmps118
    go_wp2_with fail
    refine Calls.mono (HX.out _) ?_
    rintro e w1 ⟨rfl, rfl⟩
    go_wp2_with fail
    refine Calls.mono (HY.out _) ?_
    rintro e w1 ⟨rfl, rfl⟩
    go_wp2
    go_returns
    exact ⟨rfl, rfl⟩
  · rw [if_neg h1]
    by_cases h2 : y < x
    · rw [if_pos h2]
      go_enter Tryz.func118, Tryz.ntmps118
      go_wp2_with fail
      refine Calls.mono (HX.out _) ?_
      rintro e w1 ⟨rfl, rfl⟩
      go_wp2_with fail
      refine Calls.mono (HY.out _) ?_
      rintro e w1 ⟨rfl, rfl⟩
      go_wp2
      go_returns
      exact ⟨rfl, rfl⟩
    · rw [if_neg h2]
      go_enter Tryz.func118, Tryz.ntmps118
      go_wp2_with fail
      refine Calls.mono (HX.out _) ?_
      rintro e w1 ⟨rfl, rfl⟩
      go_wp2_with fail
      refine Calls.mono (HY.out _) ?_
      rintro e w1 ⟨rfl, rfl⟩
      go_wp2
      go_returns
      exact ⟨rfl, rfl⟩
set_option maxHeartbeats 2000000 in
theorem or_g (B : Nat) (a b : Int) (w : World) (c0 : w.cell? ⟨B, 0, none⟩ = some (.int .i64 a)) (c1 : w.cell? ⟨B, 1, none⟩ = some (.int .i64 b)) :
    Calls Tryz.prog 117 #[.slice (some ⟨B, 0, none⟩) 2 2] w fun e w' => e = .returned (.int .i64 (orZ a b)) ∧ w' = w := by
  unfold orZ
  by_cases h : a = 0
  · subst h
    rw [if_pos rfl]
    by_cases h2 : b = 0
    · subst h2
      go_enter Tryz.func117, Tryz.ntmps117
      go_wp2
      refine wp_loop_rounds 3 ?_
      rw [rounds_succ]
      go_wp2_with fail
      rw [rounds_succ]
      go_wp2_with fail
      rw [rounds_succ]
      go_wp2
      go_returns
      exact ⟨rfl, rfl⟩
    · have hb : (b == 0) = false := by simpa using h2
      go_enter Tryz.func117, Tryz.ntmps117
      go_wp2
      refine wp_loop_rounds 3 ?_
      rw [rounds_succ]
      go_wp2_with fail
      rw [rounds_succ]
      go_wp2
      go_returns
      exact ⟨rfl, rfl⟩
  · rw [if_neg h]
    have ha : (a == 0) = false := by simpa using h
    go_enter Tryz.func117, Tryz.ntmps117
    go_wp2
    refine wp_loop_rounds 3 ?_
    rw [rounds_succ]
    go_wp2
    go_returns
    exact ⟨rfl, rfl⟩
set_option maxHeartbeats 8000000 in
theorem byNumbers_g (u v : V2) (w : World) :
    Calls Tryz.prog 81 #[.agg #[.int .i64 u.1, .int .i64 u.2], .agg #[.int .i64 v.1, .int .i64 v.2]] w fun e w' => e = .returned (.int .i64 (cmpN u v)) ∧ Below w.heap.size w w' ∧ w.drawn ≤ w'.drawn := by
  obtain ⟨x1, y1⟩ := u
  obtain ⟨x2, y2⟩ := v
  have HC := Lib.hid (fun a b w' => compare_g a b w')
  have HO := Lib.hid (fun B a b w' c0 c1 => or_g B a b w' c0 c1)
  have HZ : Hid (cmpN (x1, y1) (x2, y2) = orZ (cmpZ x1 x2) (cmpZ y1 y2)) := rfl
  have HCx := Lib.hid (fun w' => HC.out x1 x2 w')
  have HCy := Lib.hid (fun w' => HC.out y1 y2 w')
  clear HC
  dsimp only
  generalize cmpN (x1, y1) (x2, y2) = Z at *
  generalize cmpZ x1 x2 = P at *
  generalize cmpZ y1 y2 = Q at *
  have HOk := Lib.hid (fun B w' c0 c1 => HO.out B P Q w' c0 c1)
  generalize orZ P Q = O at *
  clear HO
  obtain ⟨W0, hW0⟩ : ∃ W0, W0 = ((w.alloc (.cells #[.int .i64 x1, .int .i64 y1] 55)).alloc (.cells #[.int .i64 x2, .int .i64 y2] 55)) := ⟨_, rfl⟩
  have a0 : W0.cell? ⟨w.heap.size, 0, none⟩ = some (.int .i64 x1) := by rw [hW0]; simp
  have a1 : W0.cell? ⟨w.heap.size, 1, none⟩ = some (.int .i64 y1) := by rw [hW0]; simp
  have b0 : W0.cell? ⟨w.heap.size + 1, 0, none⟩ = some (.int .i64 x2) := by rw [hW0]; simp
  have b1 : W0.cell? ⟨w.heap.size + 1, 1, none⟩ = some (.int .i64 y2) := by rw [hW0]; simp
  have hB0 : Below w.heap.size w W0 := by rw [hW0]; go_grown
  have hD0 : w.drawn ≤ W0.drawn := by rw [hW0]; exact Nat.le_refl _
  have t0 := World.block_lt_of_cell? W0 _ a0
  have t1 := World.block_lt_of_cell? W0 _ b0
  go_enter Tryz.func81, Tryz.ntmps81
  go_upto_region 1 with fail
  rw [← hW0]
  clear hW0
  refine wp_region_any (by kernel_rfl) ?_
  try (change wpAny _ _ _ _ _ _ _ (World.drew _))
  refine wpAny_of_held (S := fun w' => Below (W0.heap.size) W0 w') _ _ _ _ ?_
  have hSw : Below (W0.heap.size) W0 (World.drew W0) := by go_grown
  generalize hwd : World.drew W0 = wd at hSw ⊢
  refine wpAnyH_take (i := 0) (v := ?_) rfl (by kernel_rfl) (by kernel_rfl) (by kernel_rfl) (fun _ _ _ h => h) (Or.inl ⟨by rfl, ?_⟩) hSw ?_
  rotate_left
  focus (intro w0 hS0; clear hS0; go_simp; try with_reducible rfl)
  refine wpAnyH_take (i := 1) (v := ?_) rfl (by kernel_rfl) (by kernel_rfl) (by kernel_rfl) (fun _ _ _ h => h) (Or.inl ⟨by rfl, ?_⟩) hSw ?_
  rotate_left
  focus (intro w0 hS0; have c0 := (hS0.cell (p := ⟨w.heap.size, 0, none⟩) t0).trans a0; have c1 := (hS0.cell (p := ⟨w.heap.size, 1, none⟩) t0).trans a1; have c2 := (hS0.cell (p := ⟨w.heap.size + 1, 0, none⟩) t1).trans b0; have c3 := (hS0.cell (p := ⟨w.heap.size + 1, 1, none⟩) t1).trans b1; clear hS0; go_simp; try with_reducible rfl)
  refine wpAnyH_take (i := 2) (v := ?_) rfl (by kernel_rfl) (by kernel_rfl) (by kernel_rfl) (fun _ _ _ h => h) (Or.inl ⟨by rfl, ?_⟩) hSw ?_
  rotate_left
  focus (intro w0 hS0; clear hS0; go_simp; try with_reducible rfl)
  refine wpAnyH_take (i := 3) (v := ?_) rfl (by kernel_rfl) (by kernel_rfl) (by kernel_rfl) (fun _ _ _ h => h) (Or.inl ⟨by rfl, ?_⟩) hSw ?_
  rotate_left
  focus (intro w0 hS0; have c0 := (hS0.cell (p := ⟨w.heap.size, 0, none⟩) t0).trans a0; have c1 := (hS0.cell (p := ⟨w.heap.size, 1, none⟩) t0).trans a1; have c2 := (hS0.cell (p := ⟨w.heap.size + 1, 0, none⟩) t1).trans b0; have c3 := (hS0.cell (p := ⟨w.heap.size + 1, 1, none⟩) t1).trans b1; clear hS0; go_simp; try with_reducible rfl)
  refine wpAnyH_take (i := 5) (v := ?_) rfl (by kernel_rfl) (by kernel_rfl) (by kernel_rfl) (fun _ _ _ h => h) (Or.inl ⟨by rfl, ?_⟩) hSw ?_
  rotate_left
  focus (intro w0 hS0; clear hS0; go_simp; try with_reducible rfl)
  refine wpAnyH_take (i := 6) (v := ?_) rfl (by kernel_rfl) (by kernel_rfl) (by kernel_rfl) (fun _ _ _ h => h) (Or.inl ⟨by rfl, ?_⟩) hSw ?_
  rotate_left
  focus (intro w0 hS0; have c0 := (hS0.cell (p := ⟨w.heap.size, 0, none⟩) t0).trans a0; have c1 := (hS0.cell (p := ⟨w.heap.size, 1, none⟩) t0).trans a1; have c2 := (hS0.cell (p := ⟨w.heap.size + 1, 0, none⟩) t1).trans b0; have c3 := (hS0.cell (p := ⟨w.heap.size + 1, 1, none⟩) t1).trans b1; clear hS0; go_simp; try with_reducible rfl)
  refine wpAnyH_take (i := 7) (v := ?_) rfl (by kernel_rfl) (by kernel_rfl) (by kernel_rfl) (fun _ _ _ h => h) (Or.inl ⟨by rfl, ?_⟩) hSw ?_
  rotate_left
  focus (intro w0 hS0; clear hS0; go_simp; try with_reducible rfl)
  refine wpAnyH_take (i := 8) (v := ?_) rfl (by kernel_rfl) (by kernel_rfl) (by kernel_rfl) (fun _ _ _ h => h) (Or.inl ⟨by rfl, ?_⟩) hSw ?_
  rotate_left
  focus (intro w0 hS0; have c0 := (hS0.cell (p := ⟨w.heap.size, 0, none⟩) t0).trans a0; have c1 := (hS0.cell (p := ⟨w.heap.size, 1, none⟩) t0).trans a1; have c2 := (hS0.cell (p := ⟨w.heap.size + 1, 0, none⟩) t1).trans b0; have c3 := (hS0.cell (p := ⟨w.heap.size + 1, 1, none⟩) t1).trans b1; clear hS0; go_simp; try with_reducible rfl)
  refine wpAnyH_ready (rs := [4]) (by kernel_rfl) (by simp) (AllReadyH.cons rfl (fun K hK => ?_) (AllReadyH.nil))
  go_simp
  (refine Calls.mono (HCx.out _) ?_; rintro e w1 ⟨rfl, hq⟩; subst hq; refine hK.out _ _ hSw (fun _ => ?_); clear hK K)
  refine wpAnyH_ready (rs := [9]) (by kernel_rfl) (by simp) (AllReadyH.cons rfl (fun K hK => ?_) (AllReadyH.nil))
  go_simp
  (refine Calls.mono (HCy.out _) ?_; rintro e w2 ⟨rfl, hq⟩; subst hq; refine hK.out _ _ hSw (fun _ => ?_); clear hK K)
  refine wpAnyH_ready (rs := [10]) (by kernel_rfl) (by simp) (AllReadyH.cons rfl (fun K hK => ?_) (AllReadyH.nil))
  go_simp
  (replace hSw := hSw.alloc hSw.size (.cells #[.int .i64 P, .int .i64 Q] 3); refine hK.out _ _ hSw (fun _ => ?_); clear hK K)
  refine wpAnyH_ready (rs := [11]) (by kernel_rfl) (by simp) (AllReadyH.cons rfl (fun K hK => ?_) (AllReadyH.nil))
  go_simp
  (refine Calls.mono (HOk.out _ _ (by simp) (by simp)) ?_; rintro e w4 ⟨rfl, hq⟩; subst hq; refine hK.out _ _ hSw (fun _ => ?_); clear hK K)
  refine wpAnyH_take (i := 12) (v := ?_) rfl (by kernel_rfl) (by kernel_rfl) (by kernel_rfl) (fun _ _ _ h => h) (Or.inl ⟨by rfl, ?_⟩) hSw ?_
  rotate_left
  focus (intro w0 hS0; clear hS0; go_simp; try with_reducible rfl)
  refine wpAnyH_done (by kernel_rfl) ?_ _
  subst hwd
  have hB1 := belowTo hB0 hSw
  go_wp2
  go_returns
  exact ⟨by rw [HZ.out]; rfl, by go_grown, Nat.le_trans hD0 (undrawn (Nat.le_refl _))⟩
end Go.Proofs.YtgaeibibeekclabGreatDoor
namespace Go.Proofs.YtgaeibibeekclabGreatDoor
open Go.RowKit
theorem run_neV (x1 y1 x2 y2 : Int) (w : World) : (binOp .neq 55 (.agg #[.int .i64 (x1), .int .i64 (y1)]) (.agg #[.int .i64 (x2), .int .i64 (y2)])).run Tryz.prog w = .ok (.bool (!(decide (x1 = x2) && decide (y1 = y2)))) w := by
  have hS : Tryz.prog.underlying 55 = some (.struct (Tryz.prog.fieldsOf 55)) := by kernel_rfl
  have hp : Tryz.prog.stoodInHeld 55 = false := by kernel_rfl
  have u3 := Tryz.underlying3
  have a3 := Tryz.isAgg3
  have z3 := Tryz.sizeOf3
  rw [run_neq_struct, show (10000 : Nat) = 9999 + 1 from rfl, run_equalIn_agg w 9999 55 _ _ hS hp]
  simp only [Program.fieldsOf, Tryz.underlying55]
  go_simp
  by_cases h1 : x1 = x2 <;> by_cases h2 : y1 = y2 <;> simp [h1, h2]
theorem guardV : Tryz.prog.eqGuardType Tryz.prog.depth 55 = false := by kernel_rfl
end Go.Proofs.YtgaeibibeekclabGreatDoor
namespace Go.Proofs.YtgaeibibeekclabGreatDoor
open Go.RowKit
theorem below_setCells (B g : Nat) (hg : B ≤ g) : ∀ (vs : List Value) (o : Nat) (w : World), Below B w (w.setCells g o vs)
  | [], _, w => Below.refl _ _
  | v :: r, o, w => by
    rw [World.setCells]
    exact ((Below.refl B w).setCell (p := ⟨g, o, none⟩) hg v).trans (below_setCells B g hg r (o + 1) _)
/-- n vectors in block g, from its first cell on -/
def RowC (W : World) (g : Nat) (c : Nat → V2) (n : Nat) : Prop :=
  ∀ j, j < n → (W.cell? ⟨g, j * 2, none⟩ = some (.int .i64 (c j).1) ∧ W.cell? ⟨g, j * 2 + 1, none⟩ = some (.int .i64 (c j).2)) ∧ W.frozen? ⟨g, j * 2, none⟩ = false ∧ W.frozen? ⟨g, j * 2 + 1, none⟩ = false
theorem RowC.reads {W : World} {g : Nat} {c : Nat → V2} {n cap : Nat} {o : List V2} (h : RowC W g c n) (hg : g < W.heap.size) (ho : o.length ≤ n) (hn : n ≤ 1048576) (hc : n ≤ cap) (e : ∀ j, j < o.length → c j = cyc o j) : ReadsVecs W (.slice (some ⟨g, 0, none⟩) o.length cap) o :=
  ⟨_, cap, rfl, by omega, by omega, fun _ => ⟨g, 0, rfl, hg, fun j hj => by
    rw [Nat.zero_add, ← e j hj]
    exact (h j (by omega)).1⟩⟩
theorem take_cyc {l : List V2} {m : Nat} (h : m < l.length) : l.take (m + 1) = l.take m ++ [cyc l m] := by
  rw [List.take_add_one, cyc_get h]
  rfl
theorem Vecs.rowC {w : World} {b g c : Nat} {l : List V2} (h : Vecs w b (.slice (some ⟨g, 0, none⟩) l.length c) l) : RowC w g (cyc l) l.length := by
  intro j hj
  obtain ⟨e1, e2⟩ := flat_get l j hj
  have h' : w.ownsRow b 55 2 (.slice (some ⟨g, 0, none⟩) l.length c) l.length (intsV (flat l)) := h
  rw [← e1, ← e2]
  exact ⟨⟨VRow.cell h (j * 2) (by omega), VRow.cell h (j * 2 + 1) (by omega)⟩, World.ownsRow.frozenAt h' (j * 2), World.ownsRow.frozenAt h' (j * 2 + 1)⟩
end Go.Proofs.YtgaeibibeekclabGreatDoor
namespace Go.Proofs.YtgaeibibeekclabGreatDoor
open Go.RowKit
/-- the primitive vector of a way, turned -/
def primW (u : V2) : V2 := (u.1.tdiv (gcdZ u.1 u.2), u.2.tdiv (gcdZ u.1 u.2))
def nrmZ (l : List V2) (i : Nat) : V2 := (-(primW (wayZ l i)).2, (primW (wayZ l i)).1)
def nrmL (l : List V2) : List V2 := (List.range l.length).map (nrmZ l)
theorem nrm_len (l : List V2) : (nrmL l).length = l.length := by simp [nrmL]
theorem nrmZ_mod (l : List V2) (i : Nat) : nrmZ l (i % l.length) = nrmZ l i := by unfold nrmZ; rw [wayZ_mod]
theorem cyc_nrm {l : List V2} (h : 0 < l.length) (i : Nat) : cyc (nrmL l) i = nrmZ l i := by
  have hi := Nat.mod_lt i h
  unfold cyc
  rw [nrm_len, ← nrmZ_mod l i]
  simp [nrmL, hi]
theorem prim_parts {x y : Int} (h : ¬ (x = 0 ∧ y = 0)) : 1 ≤ gcdZ x y ∧ x = gcdZ x y * x.tdiv (gcdZ x y) ∧ y = gcdZ x y * y.tdiv (gcdZ x y) ∧ gcdZ (x.tdiv (gcdZ x y)) (y.tdiv (gcdZ x y)) = 1 := by
  have hp := gcdZ_pos h
  have d1 : gcdZ x y ∣ x := by unfold gcdZ; exact Int.ofNat_dvd_left.2 (Nat.gcd_dvd_left _ _)
  have d2 : gcdZ x y ∣ y := by unfold gcdZ; exact Int.ofNat_dvd_left.2 (Nat.gcd_dvd_right _ _)
  have e1 := Int.mul_tdiv_cancel' d1
  have e2 := Int.mul_tdiv_cancel' d2
  refine ⟨hp, e1.symm, e2.symm, ?_⟩
  have hg : gcdZ (gcdZ x y * x.tdiv (gcdZ x y)) (gcdZ x y * y.tdiv (gcdZ x y)) = gcdZ x y * gcdZ (x.tdiv (gcdZ x y)) (y.tdiv (gcdZ x y)) := by
    generalize x.tdiv (gcdZ x y) = a
    generalize y.tdiv (gcdZ x y) = b
    have h0 : (0 : Int) ≤ gcdZ x y := by omega
    generalize gcdZ x y = g at *
    unfold gcdZ
    rw [Int.natAbs_mul, Int.natAbs_mul, Nat.gcd_mul_left, Int.natCast_mul]
    congr 1
    omega
  rw [e1, e2] at hg
  have : gcdZ x y * gcdZ (x.tdiv (gcdZ x y)) (y.tdiv (gcdZ x y)) = gcdZ x y * 1 := by omega
  exact Int.eq_of_mul_eq_mul_left (by omega) this
theorem way_nz' {l : List V2} (h : polyB l = true) (i : Nat) : ¬ ((wayZ l i).1 = 0 ∧ (wayZ l i).2 = 0) := by
  rintro ⟨h1, h2⟩
  have t : 0 < detV (wayZ l i) (wayZ l (i + 1)) := (poly_conv h).turn i
  unfold detV detZ at t
  rw [h1, h2] at t
  omega
theorem cnt_turn {f : Nat → Bool} {n : Nat} (h : f n = f 0) : cnt (fun i => f (i + 1)) (List.range n) = cnt f (List.range n) := by
  have a : cnt f (List.range (n + 1)) = cnt f (List.range n) + (if f n then 1 else 0) := by rw [List.range_succ, cnt_snoc]
  have b : cnt f (List.range (n + 1)) = (if f 0 then 1 else 0) + cnt (fun i => f (i + 1)) (List.range n) := by
    unfold cnt
    rw [List.range_succ_eq_map, List.countP_cons, List.countP_map]
    have : (f ∘ Nat.succ) = fun i => f (i + 1) := rfl
    rw [this]
    omega
  rw [h] at a
  omega
theorem cnt_rot {f : Nat → Bool} {n : Nat} (h : ∀ i, f (i + n) = f i) : ∀ K, cnt (fun i => f (K + i)) (List.range n) = cnt f (List.range n) := by
  intro K
  induction K with
  | zero => simp
  | succ K ih =>
    rw [← ih, ← cnt_turn (f := fun i => f (K + i)) (by show f (K + n) = f (K + 0); rw [h]; rfl)]
    congr 1
    funext i
    congr 1
    omega
theorem all_rot {f : Nat → Bool} {n : Nat} (hn : 0 < n) (h : ∀ i, f (i + n) = f i) (K : Nat) : (List.range n).all (fun i => f (K + i)) = (List.range n).all f := by
  have hm : ∀ i, f (i % n) = f i := by
    have : ∀ k i, f (i + n * k) = f i := by
      intro k
      induction k with
      | zero => intro i; rfl
      | succ k ih => intro i; rw [Nat.mul_succ, ← Nat.add_assoc, h, ih]
    intro i
    have e := this (i / n) (i % n)
    rw [Nat.mod_add_div] at e
    exact e.symm
  rw [Bool.eq_iff_iff, List.all_eq_true, List.all_eq_true]
  constructor
  · intro a k hk
    have hk := List.mem_range.1 hk
    have q := a ((k + n - K % n) % n) (List.mem_range.2 (Nat.mod_lt _ hn))
    rw [← hm] at q
    have hK := Nat.mod_lt K hn
    have hd := Nat.div_add_mod K n
    have e : (K + (k + n - K % n) % n) % n = k := by
      rw [Nat.add_mod_mod, show K + (k + n - K % n) = k + n * (K / n + 1) by rw [Nat.mul_succ]; omega, Nat.add_mul_mod_self_left, Nat.mod_eq_of_lt hk]
    rwa [e] at q
  · intro a k _
    rw [← hm]
    exact a _ (List.mem_range.2 (Nat.mod_lt _ hn))
theorem rot_mem {l : List V2} {K : Nat} (x : V2) : x ∈ rot K l ↔ x ∈ l := by
  unfold rot
  rw [List.mem_append]
  constructor
  · rintro (h | h)
    · exact List.mem_of_mem_drop h
    · exact List.mem_of_mem_take h
  · intro h
    have := List.take_append_drop K l
    rw [← this] at h
    exact (List.mem_append.1 h).symm
end Go.Proofs.YtgaeibibeekclabGreatDoor
