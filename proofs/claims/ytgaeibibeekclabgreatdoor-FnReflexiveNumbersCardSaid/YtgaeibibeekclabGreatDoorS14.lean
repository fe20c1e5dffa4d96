import Derived.Test.YtgaeibibeekclabGreatDoorProg
import Derived.Test.YtgaeibibeekclabGreatDoorS01
import Derived.Test.YtgaeibibeekclabGreatDoorS03
import Derived.Test.YtgaeibibeekclabGreatDoorS04
import Derived.Test.YtgaeibibeekclabGreatDoorS06
import Derived.Test.YtgaeibibeekclabGreatDoorS07
import Derived.Test.YtgaeibibeekclabGreatDoorS13
import Derived.WalkKit
import Derived.LaidEql
import Derived.Stop.Asserts
import Derived.RowKitTokens
import Derived.Handy
import Derived.WalkSpells
import Derived.WalkLawsBesides
import Derived.Deep.QuietTactic
import Derived.BigQuiet
import Derived.Lib.Hide
import Derived.Deep.RegionHeld3
import Derived.Deep.DeepCutAuto
import Derived.Deep.AppendLies
import Derived.Laws.OwnMore
import Derived.Laws.MakeOwn
import Derived.OwnWalk
import Derived.Maps.AppendAt
import Derived.RangeFuncBox
import Derived.RegionTactic
import Derived.ChangeAlike
import Derived.RangeFuncNested
import Derived.StillTail
import Derived.OrdersIn
import Derived.AtR
import Derived.RangeFuncBound
import Derived.RangeFuncCalls
import Derived.RangeFuncLeaves
import Derived.Shelf.Abstract
import Derived.OwnWalkIn
import Derived.TacticsInMore
import Derived.LoopNIn
import Derived.LoopIn
import Derived.LaidEqlPtr
import Derived.BigRegion
namespace Go.Proofs.YtgaeibibeekclabGreatDoor
open Go.RowKit
def cnrN (a : Int) : Bool := decide (-100 ≤ a) && decide (a ≤ 100)
def cnrV (u : V2) : Bool := cnrN u.1 && cnrN u.2
theorem cnr_in {u : V2} (h : cnrV u = true) : (-100 ≤ u.1 ∧ u.1 ≤ 100) ∧ -100 ≤ u.2 ∧ u.2 ≤ 100 := by
  simpa [cnrV, cnrN, and_assoc] using h
/-- the way from a corner to the next one -/
def wayZ (l : List V2) (i : Nat) : V2 := ((cyc l (i + 1)).1 - (cyc l i).1, (cyc l (i + 1)).2 - (cyc l i).2)
def waysL (l : List V2) : List V2 := (List.range l.length).map (wayZ l)
theorem waysL_len (l : List V2) : (waysL l).length = l.length := by simp [waysL]
theorem wayZ_mod (l : List V2) (i : Nat) : wayZ l (i % l.length) = wayZ l i := by
  have e : cyc l (i % l.length + 1) = cyc l (i + 1) := by
    rw [← cyc_mod l (i % l.length + 1), ← cyc_mod l (i + 1), Nat.add_mod, Nat.mod_mod, ← Nat.add_mod]
  unfold wayZ
  rw [e, cyc_mod]
theorem cyc_ways {l : List V2} (h : 0 < l.length) (i : Nat) : cyc (waysL l) i = wayZ l i := by
  have hi := Nat.mod_lt i h
  unfold cyc
  rw [waysL_len, ← wayZ_mod l i]
  simp [waysL, hi]
def bendB (l : List V2) (i : Nat) : Bool := decide (0 < detV (wayZ l i) (wayZ l (i + 1)))
def prng (l : List V2) : Bool := decide (3 ≤ l.length) && decide (l.length ≤ 30)
def allK (l : List V2) : Bool := (List.range l.length).all fun i => cnrV (cyc l i)
def allB (l : List V2) : Bool := (List.range l.length).all (bendB l)
/-- what is a polygon -/
def polyB (l : List V2) : Bool := prng l && (allK l && (allB l && oneBack (waysL l)))
theorem poly_in {l : List V2} (h : polyB l = true) : prng l = true ∧ allK l = true ∧ allB l = true ∧ oneBack (waysL l) = true := by simpa [polyB] using h
theorem prng_in {l : List V2} (h : prng l = true) : 3 ≤ l.length ∧ l.length ≤ 30 := by simpa [prng] using h
theorem poly_len {l : List V2} (h : polyB l = true) : 3 ≤ l.length ∧ l.length ≤ 30 := prng_in (poly_in h).1
theorem poly_short {l : List V2} (h : l.length < 3 ∨ 30 < l.length) : polyB l = false := by
  have : prng l = false := by unfold prng; simp; omega
  simp [polyB, this]
theorem allK_at {l : List V2} (h : allK l = true) (h0 : 0 < l.length) (i : Nat) : cnrV (cyc l i) = true := by
  have := List.all_eq_true.1 h (i % l.length) (List.mem_range.2 (Nat.mod_lt _ h0))
  rwa [cyc_mod] at this
theorem allK_not {l : List V2} {i : Nat} (hi : i < l.length) (h : cnrV (cyc l i) = false) : allK l = false := by
  unfold allK
  rw [List.all_eq_false]
  exact ⟨i, List.mem_range.2 hi, by rw [h]; decide⟩
theorem allK_of {l : List V2} (h : ∀ i, i < l.length → cnrV (cyc l i) = true) : allK l = true := List.all_eq_true.2 (fun i hi => h i (List.mem_range.1 hi))
theorem allB_not {l : List V2} {i : Nat} (hi : i < l.length) (h : bendB l i = false) : allB l = false := by
  unfold allB
  rw [List.all_eq_false]
  exact ⟨i, List.mem_range.2 hi, by rw [h]; decide⟩
theorem allB_of {l : List V2} (h : ∀ i, i < l.length → bendB l i = true) : allB l = true := List.all_eq_true.2 (fun i hi => h i (List.mem_range.1 hi))
theorem poly_notK {l : List V2} {i : Nat} (hi : i < l.length) (h : cnrV (cyc l i) = false) : polyB l = false := by simp [polyB, allK_not hi h]
theorem poly_notB {l : List V2} {i : Nat} (hi : i < l.length) (h : bendB l i = false) : polyB l = false := by simp [polyB, allB_not hi h]
theorem poly_is {l : List V2} (hr : prng l = true) (hk : ∀ i, i < l.length → cnrV (cyc l i) = true) (hb : ∀ i, i < l.length → bendB l i = true) : polyB l = oneBack (waysL l) := by
  unfold polyB
  rw [hr, allK_of hk, allB_of hb]
  simp
theorem poly_small {l : List V2} (h : polyB l = true) (i : Nat) : (-100 ≤ (cyc l i).1 ∧ (cyc l i).1 ≤ 100) ∧ -100 ≤ (cyc l i).2 ∧ (cyc l i).2 ≤ 100 :=
  cnr_in (allK_at (poly_in h).2.1 (by have := poly_len h; omega) i)
theorem vec_of {x y : Int} (h : (-1000 ≤ x ∧ x ≤ 1000) ∧ -1000 ≤ y ∧ y ≤ 1000) : vecB x y = true := by
  unfold vecB szB
  simp
  omega
theorem poly_vec {l : List V2} (h : polyB l = true) (i : Nat) : vecB (cyc l i).1 (cyc l i).2 = true := vec_of (by have := poly_small h i; omega)
theorem way_small {l : List V2} (hk : ∀ i, cnrV (cyc l i) = true) (i : Nat) : (-200 ≤ (wayZ l i).1 ∧ (wayZ l i).1 ≤ 200) ∧ -200 ≤ (wayZ l i).2 ∧ (wayZ l i).2 ≤ 200 := by
  have a := cnr_in (hk i)
  have b := cnr_in (hk (i + 1))
  unfold wayZ
  dsimp only
  omega
theorem allK_all {l : List V2} (h : allK l = true) (h0 : 0 < l.length) : ∀ i, cnrV (cyc l i) = true := allK_at h h0
theorem bk_ways {l : List V2} (h : 0 < l.length) (i : Nat) : bkB (waysL l) i = aheadB (wayZ l (i + 1)).1 (wayZ l (i + 1)).2 (wayZ l i).1 (wayZ l i).2 := by
  unfold bkB aheadV
  rw [cyc_ways h, cyc_ways h]
theorem ahd_ahead {a b : V2} (h : ahdV a b) : aheadV a b = true := by
  unfold aheadV aheadB
  unfold ahdV uppV lowV at h
  rcases h with ⟨h1, h2⟩ | ⟨h1, h2, h3⟩ | ⟨h1, h2, h3⟩
  · have k1 : backB a.1 a.2 = false := by unfold backB; simp; omega
    have k2 : backB b.1 b.2 = true := by unfold backB; simp; omega
    rw [k1, k2]
    rfl
  · have k1 : backB a.1 a.2 = false := by unfold backB; simp; omega
    have k2 : backB b.1 b.2 = false := by unfold backB; simp; omega
    rw [k1, k2]
    exact decide_eq_true h3
  · have k1 : backB a.1 a.2 = true := by unfold backB; simp; omega
    have k2 : backB b.1 b.2 = true := by unfold backB; simp; omega
    rw [k1, k2]
    exact decide_eq_true h3
theorem one_alone {p : Nat → Bool} : ∀ {n : Nat}, cnt p (List.range n) = 1 → ∃ b, b < n ∧ ∀ i, i < n → i ≠ b → p i = false := by
  intro n
  induction n with
  | zero => intro h; simp [cnt] at h
  | succ n ih =>
    intro h
    rw [List.range_succ, cnt_snoc] at h
    cases hp : p n
    · rw [hp] at h
      obtain ⟨b, hb, hq⟩ := ih (by simpa using h)
      refine ⟨b, by omega, fun i hi hne => ?_⟩
      by_cases e : i = n
      · rw [e]; exact hp
      · exact hq i (by omega) hne
    · rw [hp] at h
      have h0 : cnt p (List.range n) = 0 := by simpa using h
      refine ⟨n, by omega, fun i hi hne => ?_⟩
      unfold cnt at h0
      rw [List.countP_eq_zero] at h0
      have := h0 i (List.mem_range.2 (by omega))
      simpa using this
/-- directions that are in a list once round -/
theorem round_of {u : List V2} (h0 : 0 < u.length) (ht : ∀ i, i < u.length → 0 < detV (cyc u i) (cyc u (i + 1))) (h1 : oneBack u = true) : RoundV u.length (cyc u) where
  per := cyc_add u
  turn := fun i => by
    have := ht (i % u.length) (Nat.mod_lt _ h0)
    rw [cyc_mod] at this
    have e : cyc u (i % u.length + 1) = cyc u (i + 1) := by
      rw [← cyc_mod u (i % u.length + 1), ← cyc_mod u (i + 1), Nat.add_mod, Nat.mod_mod, ← Nat.add_mod]
    rw [e] at this
    exact this
  once := by
    have : cnt (bkB u) (List.range u.length) = 1 := by simpa [oneBack] using h1
    obtain ⟨b, hb, hq⟩ := one_alone this
    refine ⟨b, hb, fun i hi hne hk => ?_⟩
    have k := hq i hi hne
    unfold bkB at k
    rw [ahd_ahead hk] at k
    cases k
theorem poly_round {l : List V2} (h : polyB l = true) : RoundV l.length (fun i => subV (cyc l (i + 1)) (cyc l i)) := by
  have h3 := poly_len h
  obtain ⟨_, _, hb, ho⟩ := poly_in h
  have h0 : 0 < l.length := by omega
  have r := round_of (u := waysL l) (by rw [waysL_len]; exact h0) (fun i hi => by
    rw [waysL_len] at hi
    have := List.all_eq_true.1 hb i (List.mem_range.2 hi)
    rw [cyc_ways h0, cyc_ways h0]
    simpa [bendB] using this) ho
  rw [waysL_len] at r
  have e : cyc (waysL l) = fun i => subV (cyc l (i + 1)) (cyc l i) := funext fun i => by rw [cyc_ways h0]; rfl
  rwa [e] at r
/-- a polygon is convex -/
theorem poly_convP {l : List V2} (h : polyB l = true) : ConvP l.length (cyc l) := ⟨(poly_len h).1, cyc_add l, poly_round h⟩
theorem poly_conv {l : List V2} (h : polyB l = true) : ConvS l.length (cyc l) := (poly_convP h).conv
def big (n x y : Int) : Prop := (-n ≤ x ∧ x ≤ n) ∧ -n ≤ y ∧ y ≤ n
theorem mul_big {a b : Int} (ha : -800000 ≤ a ∧ a ≤ 800000) (hb : -800000 ≤ b ∧ b ≤ 800000) : -640000000000 ≤ a * b ∧ a * b ≤ 640000000000 := by
  have h1 := Int.mul_nonneg (show 0 ≤ a + 800000 by omega) (show 0 ≤ b + 800000 by omega)
  have h2 := Int.mul_nonneg (show 0 ≤ 800000 - a by omega) (show 0 ≤ 800000 - b by omega)
  have h3 := Int.mul_nonneg (show 0 ≤ a + 800000 by omega) (show 0 ≤ 800000 - b by omega)
  have h4 := Int.mul_nonneg (show 0 ≤ 800000 - a by omega) (show 0 ≤ b + 800000 by omega)
  simp only [Int.add_mul, Int.mul_add, Int.sub_mul, Int.mul_sub] at h1 h2 h3 h4
  omega
end Go.Proofs.YtgaeibibeekclabGreatDoor
namespace Go.Proofs.YtgaeibibeekclabGreatDoor
open Go.RowKit
/-- does the way by three vectors bend at the second one -/
def bendV (a b c : V2) : Bool := decide (0 < detZ (b.1 - a.1) (b.2 - a.2) (c.1 - b.1) (c.2 - b.2))
set_option maxHeartbeats 1000000 in
theorem inCorner_any (x y : Int) (w : World) :
    Calls Tryz.prog 72 #[.agg #[.int .i64 (x), .int .i64 (y)]] w fun e w' => e = .returned (.bool (cnrV (x, y))) ∧ Below w.heap.size w w' := by
  go_enter Tryz.func72, Tryz.ntmps72
  go_wp2
  all_goals go_returns
  all_goals refine ⟨?_, by go_grown⟩
  all_goals (refine ret_bool ?_; rw [Bool.eq_iff_iff]; simp [cnrV, cnrN]; try omega)
set_option maxHeartbeats 1000000 in
theorem minusBig_any (x1 y1 x2 y2 : Int) (w : World) (h1 : big 400000 x1 y1) (h2 : big 400000 x2 y2) :
    Calls Tryz.prog 110 #[.agg #[.int .i64 (x1), .int .i64 (y1)], .agg #[.int .i64 (x2), .int .i64 (y2)]] w fun e w' => e = .returned (.agg #[.int .i64 (x1 - x2), .int .i64 (y1 - y2)]) ∧ Below w.heap.size w w' := by
  obtain ⟨⟨_, _⟩, _, _⟩ := h1
  obtain ⟨⟨_, _⟩, _, _⟩ := h2
  go_enter Tryz.func110, Tryz.ntmps110
  go_wp2
  go_returns
  exact ⟨rfl, by go_grown⟩
set_option maxHeartbeats 1000000 in
theorem detBig_any (x1 y1 x2 y2 : Int) (w : World) (h1 : big 800000 x1 y1) (h2 : big 800000 x2 y2) :
    Calls Tryz.prog 111 #[.agg #[.int .i64 (x1), .int .i64 (y1)], .agg #[.int .i64 (x2), .int .i64 (y2)]] w fun e w' => e = .returned (.int .i64 (detZ x1 y1 x2 y2)) ∧ Below w.heap.size w w' := by
  obtain ⟨_, _⟩ := mul_big h1.1 h2.2
  obtain ⟨_, _⟩ := mul_big h1.2 h2.1
  clear h1 h2
  go_enter Tryz.func111, Tryz.ntmps111
  go_wp2
  go_returns
  exact ⟨rfl, by go_grown⟩
set_option linter.unusedSimpArgs false in
set_option maxHeartbeats 8000000 in
theorem bends_any (x1 y1 x2 y2 x3 y3 : Int) (w : World) (h1 : big 400000 x1 y1) (h2 : big 400000 x2 y2) (h3 : big 400000 x3 y3) :
    Calls Tryz.prog 73 #[.agg #[.int .i64 (x1), .int .i64 (y1)], .agg #[.int .i64 (x2), .int .i64 (y2)], .agg #[.int .i64 (x3), .int .i64 (y3)]] w fun e w' => e = .returned (.bool (bendV (x1, y1) (x2, y2) (x3, y3))) ∧ Below w.heap.size w w' := by
  have d1 : big 800000 (x2 - x1) (y2 - y1) := by unfold big at *; omega
  have d2 : big 800000 (x3 - x2) (y3 - y2) := by unfold big at *; omega
  have HD := Lib.hid (fun w' => detBig_any (x2 - x1) (y2 - y1) (x3 - x2) (y3 - y2) w' d1 d2)
  have HZ : Hid (bendV (x1, y1) (x2, y2) (x3, y3) = decide (0 < detZ (x2 - x1) (y2 - y1) (x3 - x2) (y3 - y2))) := rfl
  clear d1 d2
  generalize bendV (x1, y1) (x2, y2) (x3, y3) = K at *
  generalize detZ (x2 - x1) (y2 - y1) (x3 - x2) (y3 - y2) = z at *
  go_enter Tryz.func73, Tryz.ntmps73
  go_upto_region 1 with fail
  obtain ⟨W0, hW⟩ : ∃ W9, W9 = ((w.alloc (.cells #[.int .i64 x1, .int .i64 y1] 55)).alloc (.cells #[.int .i64 x2, .int .i64 y2] 55)).alloc (.cells #[.int .i64 x3, .int .i64 y3] 55) := ⟨_, rfl⟩; have c0 : W0.cell? ⟨w.heap.size, 0, none⟩ = some (.int .i64 (x1)) := (by rw [hW]; first | (simp; done) | (rw [World.cell?_alloc_lt _ _ ⟨_, _, none⟩ (by simp only [World.size_alloc]; omega)]; simp; done) | (rw [World.cell?_alloc_at _ _ _ _ (by simp only [World.size_alloc])]; simp)); have c1 : W0.cell? ⟨w.heap.size, 1, none⟩ = some (.int .i64 (y1)) := (by rw [hW]; first | (simp; done) | (rw [World.cell?_alloc_lt _ _ ⟨_, _, none⟩ (by simp only [World.size_alloc]; omega)]; simp; done) | (rw [World.cell?_alloc_at _ _ _ _ (by simp only [World.size_alloc])]; simp)); have c2 : W0.cell? ⟨w.heap.size + 1, 0, none⟩ = some (.int .i64 (x2)) := (by rw [hW]; first | (simp; done) | (rw [World.cell?_alloc_lt _ _ ⟨_, _, none⟩ (by simp only [World.size_alloc]; omega)]; simp; done) | (rw [World.cell?_alloc_at _ _ _ _ (by simp only [World.size_alloc])]; simp)); have c3 : W0.cell? ⟨w.heap.size + 1, 1, none⟩ = some (.int .i64 (y2)) := (by rw [hW]; first | (simp; done) | (rw [World.cell?_alloc_lt _ _ ⟨_, _, none⟩ (by simp only [World.size_alloc]; omega)]; simp; done) | (rw [World.cell?_alloc_at _ _ _ _ (by simp only [World.size_alloc])]; simp)); have c4 : W0.cell? ⟨w.heap.size + 1 + 1, 0, none⟩ = some (.int .i64 (x3)) := (by rw [hW]; first | (simp; done) | (rw [World.cell?_alloc_lt _ _ ⟨_, _, none⟩ (by simp only [World.size_alloc]; omega)]; simp; done) | (rw [World.cell?_alloc_at _ _ _ _ (by simp only [World.size_alloc])]; simp)); have c5 : W0.cell? ⟨w.heap.size + 1 + 1, 1, none⟩ = some (.int .i64 (y3)) := (by rw [hW]; first | (simp; done) | (rw [World.cell?_alloc_lt _ _ ⟨_, _, none⟩ (by simp only [World.size_alloc]; omega)]; simp; done) | (rw [World.cell?_alloc_at _ _ _ _ (by simp only [World.size_alloc])]; simp)); have z0 : W0.frozen? ⟨w.heap.size, 0, none⟩ = false := (by rw [hW]; first | (simp; done) | (rw [World.frozen?_alloc_old _ _ ⟨_, _, none⟩ (by simp only [World.size_alloc]; omega)]; simp; done) | (rw [World.frozen?_alloc_at _ _ _ _ (by simp only [World.size_alloc])])); have z1 : W0.frozen? ⟨w.heap.size, 1, none⟩ = false := (by rw [hW]; first | (simp; done) | (rw [World.frozen?_alloc_old _ _ ⟨_, _, none⟩ (by simp only [World.size_alloc]; omega)]; simp; done) | (rw [World.frozen?_alloc_at _ _ _ _ (by simp only [World.size_alloc])])); have z2 : W0.frozen? ⟨w.heap.size + 1, 0, none⟩ = false := (by rw [hW]; first | (simp; done) | (rw [World.frozen?_alloc_old _ _ ⟨_, _, none⟩ (by simp only [World.size_alloc]; omega)]; simp; done) | (rw [World.frozen?_alloc_at _ _ _ _ (by simp only [World.size_alloc])])); have z3 : W0.frozen? ⟨w.heap.size + 1, 1, none⟩ = false := (by rw [hW]; first | (simp; done) | (rw [World.frozen?_alloc_old _ _ ⟨_, _, none⟩ (by simp only [World.size_alloc]; omega)]; simp; done) | (rw [World.frozen?_alloc_at _ _ _ _ (by simp only [World.size_alloc])])); have z4 : W0.frozen? ⟨w.heap.size + 1 + 1, 0, none⟩ = false := (by rw [hW]; first | (simp; done) | (rw [World.frozen?_alloc_old _ _ ⟨_, _, none⟩ (by simp only [World.size_alloc]; omega)]; simp; done) | (rw [World.frozen?_alloc_at _ _ _ _ (by simp only [World.size_alloc])])); have z5 : W0.frozen? ⟨w.heap.size + 1 + 1, 1, none⟩ = false := (by rw [hW]; first | (simp; done) | (rw [World.frozen?_alloc_old _ _ ⟨_, _, none⟩ (by simp only [World.size_alloc]; omega)]; simp; done) | (rw [World.frozen?_alloc_at _ _ _ _ (by simp only [World.size_alloc])])); have hB0 : Below w.heap.size w W0 := (by rw [hW]; go_grown); have hs0 : w.heap.size < W0.heap.size := (by rw [hW]; simp only [World.size_alloc]; omega); have hs1 : w.heap.size + 1 < W0.heap.size := (by rw [hW]; simp only [World.size_alloc]; omega); have hs2 : w.heap.size + 1 + 1 < W0.heap.size := (by rw [hW]; simp only [World.size_alloc]; omega); rw [← hW]; clear hW
  go_region_held3 (fun w' => w'.cell? ⟨w.heap.size, 0, none⟩ = some (.int .i64 (x1)) ∧ w'.cell? ⟨w.heap.size, 1, none⟩ = some (.int .i64 (y1)) ∧ w'.cell? ⟨w.heap.size + 1, 0, none⟩ = some (.int .i64 (x2)) ∧ w'.cell? ⟨w.heap.size + 1, 1, none⟩ = some (.int .i64 (y2)) ∧ w'.cell? ⟨w.heap.size + 1 + 1, 0, none⟩ = some (.int .i64 (x3)) ∧ w'.cell? ⟨w.heap.size + 1 + 1, 1, none⟩ = some (.int .i64 (y3)) ∧ Below W0.heap.size W0 w') ((refine (fun hS => ⟨(hS.cell (p := ⟨w.heap.size, 0, none⟩) hs0).trans c0, (hS.cell (p := ⟨w.heap.size, 1, none⟩) hs0).trans c1, (hS.cell (p := ⟨w.heap.size + 1, 0, none⟩) hs1).trans c2, (hS.cell (p := ⟨w.heap.size + 1, 1, none⟩) hs1).trans c3, (hS.cell (p := ⟨w.heap.size + 1 + 1, 0, none⟩) hs2).trans c4, (hS.cell (p := ⟨w.heap.size + 1 + 1, 1, none⟩) hs2).trans c5, hS⟩) (?_ : Below W0.heap.size W0 _); first | (go_grown; done))) (first | (go_at_call 110; go_call (minusBig_any _ _ _ _ _ (by assumption) (by assumption)) as e w1 ⟨rfl, hb0⟩; have hT : Below W0.heap.size W0 w1 := belowTo (by go_split_ands; assumption) hb0; have hTs := hT.size; (first | have hb1 := belowTo (by assumption) hb0 | have hb1 := hb0); obtain ⟨hc1, hf1⟩ := bcell hb1; have hz1 := bsize hb1; have hbs := hb0.size; (try simp only [World.size_alloc, World.size_drew, Nat.add_one_le_iff] at hbs); (try have t1 : W0.heap.size < w1.heap.size := (by omega)); (try have t2 : ¬ W0.heap.size = w1.heap.size := (by omega)); (try have t3 : ¬ w1.heap.size = W0.heap.size := (by omega))) | (go_at_call 111; go_call (HD.out _) as e w1 ⟨rfl, hb0⟩; have hT : Below W0.heap.size W0 w1 := belowTo (by go_split_ands; assumption) hb0; have hTs := hT.size; (first | have hb1 := belowTo (by assumption) hb0 | have hb1 := hb0); obtain ⟨hc1, hf1⟩ := bcell hb1; have hz1 := bsize hb1; have hbs := hb0.size; (try simp only [World.size_alloc, World.size_drew, Nat.add_one_le_iff] at hbs); (try have t1 : W0.heap.size < w1.heap.size := (by omega)); (try have t2 : ¬ W0.heap.size = w1.heap.size := (by omega)); (try have t3 : ¬ w1.heap.size = W0.heap.size := (by omega))))
  go_wp2
  go_returns
  exact ⟨by rw [HZ.out]; rfl, belowTo hB0.drew hb1⟩
theorem mod_is (i n : Nat) : Int.tmod (i : Int) (n : Int) = ((i % n : Nat) : Int) := Int.ofNat_tmod i n
set_option maxHeartbeats 4000000 in
theorem at_any' (v : Value) (l : List V2) (i : Nat) (w : World) (h : ReadsVecs w v l) (h0 : 0 < l.length) :
    Calls Tryz.prog 74 #[v, .int .i64 (i : Int)] w fun e w' => e = .returned (.agg #[.int .i64 ((cyc l i).1), .int .i64 ((cyc l i).2)]) ∧ Below w.heap.size w w' := by
  obtain ⟨bv, ov, vc, rfl, _, _, hbv, hvs⟩ := h.open h0
  have hq : i % l.length < l.length := Nat.mod_lt _ h0
  obtain ⟨d0, d1⟩ := hvs (w.alloc (.cells #[.int .i64 0, .int .i64 0] 55)) (by go_grown) _ hq
  rw [cyc_mod] at d0 d1
  have t2 := mod_is i l.length
  have j3 : (0 : Int) ≤ ((i % l.length : Nat) : Int) := by omega
  have j4 : ((i % l.length : Nat) : Int) < (l.length : Int) := by omega
  have j5 : ¬ (l.length : Int) = 0 := by omega
  have j6 : ((l.length : Int) == 0) = false := by simpa using j5
  have j7 : ¬ l.length = 0 := by omega
  clear hvs h
  generalize cyc l i = V at *
  generalize i % l.length = q at *
  generalize l.length = n at *
  obtain ⟨x, y⟩ := V
  dsimp only at d0 d1 ⊢
  go_enter Tryz.func74, Tryz.ntmps74
  go_wp2
  go_returns
  exact ⟨rfl, by go_grown⟩
set_option maxRecDepth 100000 in
set_option maxHeartbeats 8000000 in
theorem ways_any (v : Value) (l : List V2) (w : World) (h : ReadsVecs w v l) (h0 : 0 < l.length) (hm : l.length ≤ 1000) (hk : ∀ i, big 200000 (cyc l i).1 (cyc l i).2) :
    Calls Tryz.prog 76 #[v] w (GivesVecs w (waysL l)) := by
  obtain ⟨i0, hi, hz0, hz1, hz2⟩ := info_parts infoVec
  have HAt := Lib.hid (fun i w' (hb : Below w.heap.size w w') => at_any' v l i w' (h.below hb) h0)
  obtain ⟨bv, ov, vc, rfl, _, _, hbv, hvs⟩ := h.open h0
  have HVS := Lib.hid hvs
  have HK := Lib.hid hk
  have HX : Hid (∀ k, (List.range (k + 1)).map (wayZ l) = (List.range k).map (wayZ l) ++ [wayZ l k]) := fun k => by simp [List.range_succ]
  have HW : Hid (∀ k, wayZ l k = ((cyc l (k + 1)).1 - (cyc l k).1, (cyc l (k + 1)).2 - (cyc l k).2)) := fun _ => rfl
  have HZ : Hid (waysL l = (List.range l.length).map (wayZ l)) := rfl
  clear h hvs hk
  go_enter Tryz.func76, Tryz.ntmps76
  go_wp2
  go_loopw [3, 8] (fun s3 s8 wr => ∃ k : Nat, k ≤ l.length ∧ s8 = .int .i64 k ∧ Hid (Vecs wr w.heap.size s3 ((List.range k).map (wayZ l))) ∧ Below w.heap.size w wr) (fun _ s8 _ => l.length - (intOf s8).toNat)
  case atStart => exact ⟨0, Nat.zero_le _, rfl, Vecs.nil _ _, Below.refl _ _⟩
  case round =>
    obtain ⟨k, hk, rfl, HI, hB⟩ := hrel
    have i1 : (0 : Int) ≤ (k : Int) := by omega
    by_cases hlt : k < l.length
    · have i2 : (k : Int) < (l.length : Int) := by omega
      obtain ⟨c0, c1⟩ := HVS.out wr hB k hlt
      have HAk := Lib.hid (HAt.out (k + 1))
      have k0 := HK.out k
      have k1 := HK.out (k + 1)
      have HXk := Lib.hid (HX.out k)
      rw [HW.out k] at HXk
      have hkl : ((List.range k).map (wayZ l)).length = k := by simp
      have q0 : IntKind.i64.wrap ((k : Int) + 1) = ((k + 1 : Nat) : Int) := by rw [IntKind.wrap_i64]; omega
      generalize cyc l k = V at *
      generalize cyc l (k + 1) = U at *
      obtain ⟨x1, y1⟩ := V
      obtain ⟨x2, y2⟩ := U
      dsimp only at c0 c1 k0 k1 HAk HXk
      have HM := Lib.hid (fun w' => minusBig_any x2 y2 x1 y1 w' (by unfold big at *; omega) (by unfold big at *; omega))
      have hs := hB.size
      clear HK HX HW HVS HAt k0 k1
      go_wp2_with fail
      have hA2 : Below wr.heap.size wr (wr.alloc (.cells #[.int .i64 x1, .int .i64 y1] 55)) := by go_grown
      have e0 : (wr.alloc (.cells #[.int .i64 x1, .int .i64 y1] 55)).cell? ⟨wr.heap.size, 0, none⟩ = some (.int .i64 x1) := by simp
      have e1 : (wr.alloc (.cells #[.int .i64 x1, .int .i64 y1] 55)).cell? ⟨wr.heap.size, 1, none⟩ = some (.int .i64 y1) := by simp
      have hB2 := hB.trans (hA2.mono hs)
      replace HI := Lib.hid (HI.out.below hA2)
      obtain ⟨B3, hB3⟩ : ∃ B3, B3 = wr.heap.size := ⟨_, rfl⟩
      rw [← hB3] at e0 e1 ⊢
      generalize (wr.alloc (.cells #[.int .i64 x1, .int .i64 y1] 55)) = W3 at *
      clear hA2 hB3 c0 c1 hs hB
      have hs3 := hB2.size
      have t0 := cell_lt e0
      refine wp_region_any (by kernel_rfl) ?_
      try (change wpAny _ _ _ _ _ _ _ (World.drew _))
      refine wpAny_take (i := 0) (v := ?_) rfl (by kernel_rfl) (by kernel_rfl) (by kernel_rfl) (fun _ _ _ h => h) (Or.inl ⟨by rfl, ?_⟩) ?_
      rotate_left
      focus (intro w0; go_simp; try with_reducible rfl)
      refine wpAny_take (i := 1) (v := ?_) rfl (by kernel_rfl) (by kernel_rfl) (by kernel_rfl) (fun _ _ _ h => h) (Or.inl ⟨by rfl, ?_⟩) ?_
      rotate_left
      focus (intro w0; go_simp; try with_reducible rfl)
      refine wpAny_take (i := 2) (v := ?_) rfl (by kernel_rfl) (by kernel_rfl) (by kernel_rfl) (fun _ _ _ h => h) (Or.inl ⟨by rfl, ?_⟩) ?_
      rotate_left
      focus (intro w0; go_simp; try with_reducible rfl)
      refine wpAny_take (i := 3) (v := ?_) rfl (by kernel_rfl) (by kernel_rfl) (by kernel_rfl) (fun _ _ _ h => h) (Or.inl ⟨by rfl, ?_⟩) ?_
      rotate_left
      focus (intro w0; go_simp; try with_reducible rfl)
      refine wpAny_ready (rs := [4, 5]) (by kernel_rfl) (by simp) (AllReady.cons rfl (fun K hK => ?_) (AllReady.cons rfl (fun K hK => ?_) (AllReady.nil)))
      focus
        go_simp
        (refine Calls.mono (HAk.out _ (hB2.trans (by go_grown))) ?_; rintro e w1 ⟨rfl, hb1⟩; replace hb1 := undrew hb1; replace e0 := (hb1.cell (p := ⟨B3, 0, none⟩) t0).trans e0; replace e1 := (hb1.cell (p := ⟨B3, 1, none⟩) t0).trans e1; replace t0 := cell_lt e0)
        refine hK _ _ ?_
        clear hK K
        refine wpAny_ready (rs := [5]) (by kernel_rfl) (by simp) (AllReady.cons rfl (fun K hK => ?_) (AllReady.nil))
        go_simp
        refine hK _ _ ?_
        clear hK K
        refine wpAny_ready (rs := [6]) (by kernel_rfl) (by simp) (AllReady.cons rfl (fun K hK => ?_) (AllReady.nil))
        go_simp
        (refine Calls.mono (HM.out _) ?_; rintro e w2 ⟨rfl, hb2⟩)
        refine hK _ _ ?_
        clear hK K
        refine wpAny_ready (rs := [7]) (by kernel_rfl) (by simp) (AllReady.cons rfl (fun K hK => ?_) (AllReady.nil))
        go_simp
        refine hK _ _ ?_
        clear hK K
        refine wpAny_seq 8 rfl (by kernel_rfl) ?_
        simp only [List.drop_succ_cons, List.drop_zero]
      rotate_left 1
      focus
        go_simp
        refine hK _ _ ?_
        clear hK K
        refine wpAny_ready (rs := [4]) (by kernel_rfl) (by simp) (AllReady.cons rfl (fun K hK => ?_) (AllReady.nil))
        go_simp
        (refine Calls.mono (HAk.out _ (hB2.trans (by go_grown))) ?_; rintro e w1 ⟨rfl, hb1⟩; replace hb1 := undrew hb1; replace e0 := (hb1.cell (p := ⟨B3, 0, none⟩) t0).trans e0; replace e1 := (hb1.cell (p := ⟨B3, 1, none⟩) t0).trans e1; replace t0 := cell_lt e0)
        refine hK _ _ ?_
        clear hK K
        refine wpAny_ready (rs := [6]) (by kernel_rfl) (by simp) (AllReady.cons rfl (fun K hK => ?_) (AllReady.nil))
        go_simp
        (refine Calls.mono (HM.out _) ?_; rintro e w2 ⟨rfl, hb2⟩)
        refine hK _ _ ?_
        clear hK K
        refine wpAny_ready (rs := [7]) (by kernel_rfl) (by simp) (AllReady.cons rfl (fun K hK => ?_) (AllReady.nil))
        go_simp
        refine hK _ _ ?_
        clear hK K
        refine wpAny_seq 8 rfl (by kernel_rfl) ?_
        simp only [List.drop_succ_cons, List.drop_zero]
      all_goals
        have hb3 := belowTo hb1 hb2
        have hB4 := hB2.trans (hb3.mono hs3)
        have hown := HI.out.below hb3
        unfold Vecs VRow at hown
        rw [hkl] at hown
        have hbs := hB4.size
        clear hb1 hb2 hb3 e0 e1 t0
        go_wp2_with (at_builtin; refine wpList_append_own_at _ rfl _ _ 23 rfl w.heap.size 55 i0 (.agg #[.int .i64 (0), .int .i64 (0)]) 2 16 Tryz.underlying23 hi hz0 hz1 hz2 rfl (by decide) _ _ _ rfl (hown.alloc _) ⟨_, 0, none⟩ 1 1 [.int .i64 (x2 - x1), .int .i64 (y2 - y1)] rfl rfl ?c1 ?c2 ?c3 ?c4 ?c5 ?_)
        case c1 =>
          intro j u hj
          match j, hj with
          | 0, hj => simp at hj; subst hj; simp [Addr.add]
          | 1, hj => simp at hj; subst hj; simp [Addr.add]
        case c2 => intro u hu; simp at hu; rcases hu with rfl | rfl <;> rfl
        case c3 => unfold maxLen; omega
        case c4 => omega
        case c5 => simp; omega
        intro v' w4 hown' hgrow _ _
        have hB5 := (hB4.alloc hbs _).grown hgrow (by simp; omega) (fun k hk => (hown.lt k hk).1)
        have HVv := Lib.hid (Vecs.snoc (l := (List.range k).map (wayZ l)) hkl.symm hown')
        rw [← HXk.out] at HVv
        clear hown' hgrow hown hB4 HI hkl hbs
        go_wp2
        go_roundw
        case rel => exact ⟨k + 1, by omega, by go_num, HVv, hB5⟩
        case measure => simp [intOf]; omega
    · obtain rfl : k = l.length := by omega
      have i2 : ¬ ((l.length : Nat) : Int) < (l.length : Int) := by omega
      have HI2 := Lib.hid HI.out
      rw [← HZ.out] at HI2
      clear HI
      go_wp2
      go_returns
      exact ⟨_, rfl, HI2.out, hB⟩
theorem inCornerV (V : V2) (w : World) :
    Calls Tryz.prog 72 #[.agg #[.int .i64 (V.1), .int .i64 (V.2)]] w fun e w' => e = .returned (.bool (cnrV V)) ∧ Below w.heap.size w w' := inCorner_any V.1 V.2 w
theorem bendsV (U V T : V2) (w : World) (h1 : big 400000 U.1 U.2) (h2 : big 400000 V.1 V.2) (h3 : big 400000 T.1 T.2) :
    Calls Tryz.prog 73 #[.agg #[.int .i64 (U.1), .int .i64 (U.2)], .agg #[.int .i64 (V.1), .int .i64 (V.2)], .agg #[.int .i64 (T.1), .int .i64 (T.2)]] w fun e w' => e = .returned (.bool (bendV U V T)) ∧ Below w.heap.size w w' := bends_any _ _ _ _ _ _ w h1 h2 h3
end Go.Proofs.YtgaeibibeekclabGreatDoor
namespace Go.Proofs.YtgaeibibeekclabGreatDoor
open Go.RowKit
def PolyEnd (b : Bool) (e : Ending) : Prop := if b then e = .returned .nilIface else IsNone e
def polyErr : Value := .iface 81 (.agg #[.string ⟨#[112, 111, 108, 121, 103, 111, 110]⟩])
theorem polyErr_none : IsNone (.returned polyErr) := ⟨_, rfl⟩
theorem polyEnd_no {b : Bool} (h : b = false) : PolyEnd b (.returned polyErr) := by rw [h]; exact polyErr_none
theorem polyEnd_yes {b : Bool} (h : b = true) : PolyEnd b (.returned .nilIface) := by rw [h]; rfl
theorem bend_is (l : List V2) (i : Nat) : bendV (cyc l i) (cyc l (i + 1)) (cyc l (i + 2)) = bendB l i := rfl
theorem big_cnr {u : V2} (h : cnrV u = true) : big 400000 u.1 u.2 := by
  have := cnr_in h
  unfold big
  omega
set_option maxHeartbeats 4000000 in
theorem polyCheck_small (v : Value) (l : List V2) (w : World) (h : ReadsVecs w v l) (hs : l.length < 3 ∨ 30 < l.length) :
    Calls Tryz.prog 39 #[v] w fun e w' => PolyEnd (polyB l) e ∧ Below w.heap.size w w' := by
  have HE := Lib.hid (polyEnd_no (poly_short hs))
  obtain ⟨a, c, rfl, _, _, _⟩ := h
  unfold polyErr at HE
  generalize polyB l = K at *
  by_cases h3 : l.length < 3
  · have j1 : (l.length : Int) < 3 := by omega
    go_enter Tryz.func39, Tryz.ntmps39
    go_wp2
    go_returns
    exact ⟨HE.out, by go_grown⟩
  · have j1 : ¬ (l.length : Int) < 3 := by omega
    have j2 : 30 < (l.length : Int) := by omega
    have j3 : decide ((l.length : Int) < 3) = false := by simpa using j1
    go_enter Tryz.func39, Tryz.ntmps39
    go_wp2
    go_returns
    exact ⟨HE.out, by go_grown⟩
set_option maxRecDepth 100000 in
set_option maxHeartbeats 16000000 in
theorem polyCheck_any (v : Value) (l : List V2) (w : World) (h : ReadsVecs w v l) :
    Calls Tryz.prog 39 #[v] w fun e w' => PolyEnd (polyB l) e ∧ Below w.heap.size w w' := by
  by_cases hr : 3 ≤ l.length ∧ l.length ≤ 30
  case neg => exact polyCheck_small v l w h (by omega)
  case pos =>
    have h0 : 0 < l.length := by omega
    have HAt := Lib.hid (fun i w' (hb : Below w.heap.size w w') => at_any' v l i w' (h.below hb) h0)
    have HWy := Lib.hid (fun w' (hb : Below w.heap.size w w') hk => ways_any v l w' (h.below hb) h0 (by omega) hk)
    have HRo := Lib.hid (fun v' b' w' (hI : Vecs w' b' v' (waysL l)) hv => rounds_any v' (waysL l) w' (hI.reads (by rw [waysL_len]; omega)) (by rw [waysL_len]; exact h0) (by rw [waysL_len]; omega) hv)
    obtain ⟨bv, ov, vc, rfl, _, _, hbv, hvs⟩ := h.open h0
    have HVS := Lib.hid hvs
    have HCn := Lib.hid (fun V w' => inCornerV V w')
    have HNK := Lib.hid (fun i h1 h2 => polyEnd_no (poly_notK (l := l) (i := i) h1 h2))
    have HNB := Lib.hid (fun i h1 h2 => polyEnd_no (poly_notB (l := l) (i := i) h1 h2))
    have HIs := Lib.hid (fun hk hb => poly_is (l := l) (by unfold prng; simp; omega) hk hb)
    have HBi := Lib.hid (fun i => bend_is l i)
    have HWs := Lib.hid (fun (hk : ∀ i, cnrV (cyc l i) = true) i => way_small hk i)
    have HWc := Lib.hid (fun i => cyc_ways h0 i)
    have HOn : Hid (oneBack (waysL l) = (cnt (bkB (waysL l)) (List.range (waysL l).length) == 1)) := rfl
    have HAll : Hid ((∀ j, j < l.length → cnrV (cyc l j) = true) → ∀ i, cnrV (cyc l i) = true) := fun hq i => by
      have := hq (i % l.length) (Nat.mod_lt _ h0)
      rwa [cyc_mod] at this
    have j1 : ¬ (l.length : Int) < 3 := by omega
    have j1' : decide ((l.length : Int) < 3) = false := by simpa using j1
    have j2 : ¬ 30 < (l.length : Int) := by omega
    have j2' : decide (30 < (l.length : Int)) = false := by simpa using j2
    unfold polyErr at HNK HNB
    generalize polyB l = K at *
    clear h hvs
    go_enter Tryz.func39, Tryz.ntmps39
    go_wp2
    go_loopw [19] (fun s wr => ∃ k : Nat, k ≤ l.length ∧ s = .int .i64 k ∧ Hid (∀ j, j < k → cnrV (cyc l j) = true) ∧ Below w.heap.size w wr) (fun s _ => l.length - (intOf s).toNat)
    case atStart => exact ⟨0, Nat.zero_le _, rfl, fun j hj => by omega, Below.refl _ _⟩
    case round =>
      obtain ⟨k, hk, rfl, HE, hB⟩ := hrel
      have i1 : (0 : Int) ≤ (k : Int) := by omega
      by_cases hlt : k < l.length
      · have i2 : (k : Int) < (l.length : Int) := by omega
        obtain ⟨c0, c1⟩ := HVS.out wr hB k hlt
        have HB := Lib.hid (fun h => HNK.out k hlt h)
        have HE2 : Hid (cnrV (cyc l k) = true → ∀ j, j < k + 1 → cnrV (cyc l j) = true) := fun h j h2 => by
          by_cases e : j = k
          · subst e; exact h
          · exact HE.out j (by omega)
        have HCk := Lib.hid (fun w' => HCn.out (cyc l k) w')
        have hs := hB.size
        generalize hz : cnrV (cyc l k) = z at HB HE2 HCk
        clear hz
        generalize cyc l k = V at *
        obtain ⟨x, y⟩ := V
        dsimp only at c0 c1 HCk
        clear HE HNK HNB HIs HBi HWs HWc HVS HWy HRo HAt HOn
        go_wp2_with fail
        refine Calls.mono (HCk.out _) ?_
        rintro e w2 ⟨rfl, hb2⟩
        have hA : Below w.heap.size w w2 := hB.trans (Below.mono (belowTo (a := wr) (by go_grown) hb2) hs)
        clear hb2 HCk
        cases z
        · go_wp2
          go_returns
          exact ⟨HB.out (by simp), hA⟩
        · go_wp2
          go_roundw
          case rel => exact ⟨k + 1, by omega, by go_num, HE2.out (by simp), hA⟩
          case measure => simp [intOf]; omega
      · obtain rfl : k = l.length := by omega
        have i2 : ¬ ((l.length : Nat) : Int) < (l.length : Int) := by omega
        have HKa := Lib.hid (HAll.out HE.out)
        have HKb := Lib.hid HE.out
        clear HE HNK HCn HAll
        go_wp2
        go_loopw [31] (fun s wx => ∃ k : Nat, k ≤ l.length ∧ s = .int .i64 k ∧ Hid (∀ j, j < k → bendB l j = true) ∧ Below w.heap.size w wx) (fun s _ => l.length - (intOf s).toNat)
        case atStart => exact ⟨0, Nat.zero_le _, rfl, fun j hj => by omega, hB⟩
        case round =>
          clear hB
          obtain ⟨k, hk, rfl, HE, hB⟩ := hrel
          have i1 : (0 : Int) ≤ (k : Int) := by omega
          by_cases hlt : k < l.length
          · have i2 : (k : Int) < (l.length : Int) := by omega
            obtain ⟨c0, c1⟩ := HVS.out _ hB k hlt
            have HB := Lib.hid (fun h => HNB.out k hlt h)
            have HE2 : Hid (bendB l k = true → ∀ j, j < k + 1 → bendB l j = true) := fun h j h2 => by
              by_cases e : j = k
              · subst e; exact h
              · exact HE.out j (by omega)
            have HA1 := Lib.hid (HAt.out (k + 1))
            have HA2 := Lib.hid (HAt.out (k + 2))
            have b0 := big_cnr (HKa.out k)
            have b1 := big_cnr (HKa.out (k + 1))
            have b2 := big_cnr (HKa.out (k + 2))
            have HBd := Lib.hid (fun w' => bendsV _ _ _ w' b0 b1 b2)
            rw [HBi.out k] at HBd
            have q0 : IntKind.i64.wrap ((k : Int) + 1) = ((k + 1 : Nat) : Int) := by rw [IntKind.wrap_i64]; omega
            have q1 : IntKind.i64.wrap ((k : Int) + 2) = ((k + 2 : Nat) : Int) := by rw [IntKind.wrap_i64]; omega
            generalize hz : bendB l k = z at HB HE2 HBd
            clear hz b0 b1 b2
            generalize cyc l k = V at *
            generalize cyc l (k + 1) = U at *
            generalize cyc l (k + 2) = T at *
            obtain ⟨x1, y1⟩ := V
            obtain ⟨x2, y2⟩ := U
            obtain ⟨x3, y3⟩ := T
            dsimp only at c0 c1 HA1 HA2 HBd
            have hs := hB.size
            clear HE HNB HIs HBi HWs HWc HVS HWy HRo HAt HOn HKa HKb
            go_wp2_with fail
            have hA2 : Below wr.heap.size wr (wr.alloc (.cells #[.int .i64 x1, .int .i64 y1] 55)) := by go_grown
            have e0 : (wr.alloc (.cells #[.int .i64 x1, .int .i64 y1] 55)).cell? ⟨wr.heap.size, 0, none⟩ = some (.int .i64 x1) := by simp
            have e1 : (wr.alloc (.cells #[.int .i64 x1, .int .i64 y1] 55)).cell? ⟨wr.heap.size, 1, none⟩ = some (.int .i64 y1) := by simp
            have hB2 := hB.trans (hA2.mono hs)
            obtain ⟨B3, hB3⟩ : ∃ B3, B3 = wr.heap.size := ⟨_, rfl⟩
            rw [← hB3] at e0 e1 ⊢
            generalize (wr.alloc (.cells #[.int .i64 x1, .int .i64 y1] 55)) = W3 at *
            clear hA2 hB3 c0 c1 hs hB
            have hs3 := hB2.size
            have t0 := cell_lt e0
            have hb1 := Below.refl W3.heap.size W3
            have hb := hb1
            refine wp_region_any (by kernel_rfl) ?_
            try (change wpAny _ _ _ _ _ _ _ (World.drew _))
            refine wpAny_take (i := 1) (v := ?_) rfl (by kernel_rfl) (by kernel_rfl) (by kernel_rfl) (fun _ _ _ h => h) (Or.inl ⟨by rfl, ?_⟩) ?_
            rotate_left
            focus (intro w0; go_simp; try with_reducible rfl)
            refine wpAny_take (i := 2) (v := ?_) rfl (by kernel_rfl) (by kernel_rfl) (by kernel_rfl) (fun _ _ _ h => h) (Or.inl ⟨by rfl, ?_⟩) ?_
            rotate_left
            focus (intro w0; go_simp; try with_reducible rfl)
            refine wpAny_take (i := 3) (v := ?_) rfl (by kernel_rfl) (by kernel_rfl) (by kernel_rfl) (fun _ _ _ h => h) (Or.inl ⟨by rfl, ?_⟩) ?_
            rotate_left
            focus (intro w0; go_simp; try with_reducible rfl)
            refine wpAny_take (i := 5) (v := ?_) rfl (by kernel_rfl) (by kernel_rfl) (by kernel_rfl) (fun _ _ _ h => h) (Or.inl ⟨by rfl, ?_⟩) ?_
            rotate_left
            focus (intro w0; go_simp; try with_reducible rfl)
            refine wpAny_take (i := 6) (v := ?_) rfl (by kernel_rfl) (by kernel_rfl) (by kernel_rfl) (fun _ _ _ h => h) (Or.inl ⟨by rfl, ?_⟩) ?_
            rotate_left
            focus (intro w0; go_simp; try with_reducible rfl)
            refine wpAny_take (i := 7) (v := ?_) rfl (by kernel_rfl) (by kernel_rfl) (by kernel_rfl) (fun _ _ _ h => h) (Or.inl ⟨by rfl, ?_⟩) ?_
            rotate_left
            focus (intro w0; go_simp; try with_reducible rfl)
            refine wpAny_ready (rs := [0, 4]) (by kernel_rfl) (by simp) (AllReady.cons rfl (fun K hK => ?_) (AllReady.cons rfl (fun K hK => ?_) (AllReady.nil)))
            focus
              go_simp
              refine hK _ _ ?_
              clear hK K
              refine wpAny_ready (rs := [4]) (by kernel_rfl) (by simp) (AllReady.cons rfl (fun K hK => ?_) (AllReady.nil))
              go_simp
              (refine Calls.mono (HA1.out _ (hB2.trans (by go_grown))) ?_; rintro e w1 ⟨rfl, hb1⟩; replace hb1 := undrew hb1; replace e0 := (hb1.cell (p := ⟨B3, 0, none⟩) t0).trans e0; replace e1 := (hb1.cell (p := ⟨B3, 1, none⟩) t0).trans e1; have t1 := Nat.lt_of_lt_of_le t0 hb1.size; have hBa := hB2.trans (hb1.mono hs3))
              refine hK _ _ ?_
              clear hK K
              refine wpAny_ready (rs := [8]) (by kernel_rfl) (by simp) (AllReady.cons rfl (fun K hK => ?_) (AllReady.nil))
              go_simp
              (refine Calls.mono (HA2.out _ hBa) ?_; rintro e w2 ⟨rfl, hb2⟩; replace e0 := (hb2.cell (p := ⟨B3, 0, none⟩) t1).trans e0; replace e1 := (hb2.cell (p := ⟨B3, 1, none⟩) t1).trans e1; have hBb := belowTo hBa hb2)
              refine hK _ _ ?_
              clear hK K
              refine wpAny_ready (rs := [9]) (by kernel_rfl) (by simp) (AllReady.cons rfl (fun K hK => ?_) (AllReady.nil))
              go_simp
              (refine Calls.mono (HBd.out _) ?_; rintro e w4 ⟨rfl, hb4⟩; have hBc := belowTo hBb hb4)
              refine hK _ _ ?_
              clear hK K
              refine wpAny_take (i := 10) (v := ?_) rfl (by kernel_rfl) (by kernel_rfl) (by kernel_rfl) (fun _ _ _ h => h) (Or.inl ⟨by rfl, ?_⟩) ?_
              rotate_left
              focus (intro w0; go_simp; try with_reducible rfl)
              refine wpAny_seq 11 rfl (by kernel_rfl) ?_
              simp only [List.drop_succ_cons, List.drop_zero]
            rotate_left 1
            focus
              go_simp
              (refine Calls.mono (HA1.out _ (hB2.trans (by go_grown))) ?_; rintro e w1 ⟨rfl, hb1⟩; replace hb1 := undrew hb1; replace e0 := (hb1.cell (p := ⟨B3, 0, none⟩) t0).trans e0; replace e1 := (hb1.cell (p := ⟨B3, 1, none⟩) t0).trans e1; have t1 := Nat.lt_of_lt_of_le t0 hb1.size; have hBa := hB2.trans (hb1.mono hs3))
              refine hK _ _ ?_
              clear hK K
              refine wpAny_ready (rs := [0, 8]) (by kernel_rfl) (by simp) (AllReady.cons rfl (fun K hK => ?_) (AllReady.cons rfl (fun K hK => ?_) (AllReady.nil)))
              focus
                go_simp
                refine hK _ _ ?_
                clear hK K
                refine wpAny_ready (rs := [8]) (by kernel_rfl) (by simp) (AllReady.cons rfl (fun K hK => ?_) (AllReady.nil))
                go_simp
                (refine Calls.mono (HA2.out _ hBa) ?_; rintro e w2 ⟨rfl, hb2⟩; replace e0 := (hb2.cell (p := ⟨B3, 0, none⟩) t1).trans e0; replace e1 := (hb2.cell (p := ⟨B3, 1, none⟩) t1).trans e1; have hBb := belowTo hBa hb2)
                refine hK _ _ ?_
                clear hK K
                refine wpAny_ready (rs := [9]) (by kernel_rfl) (by simp) (AllReady.cons rfl (fun K hK => ?_) (AllReady.nil))
                go_simp
                (refine Calls.mono (HBd.out _) ?_; rintro e w4 ⟨rfl, hb4⟩; have hBc := belowTo hBb hb4)
                refine hK _ _ ?_
                clear hK K
                refine wpAny_take (i := 10) (v := ?_) rfl (by kernel_rfl) (by kernel_rfl) (by kernel_rfl) (fun _ _ _ h => h) (Or.inl ⟨by rfl, ?_⟩) ?_
                rotate_left
                focus (intro w0; go_simp; try with_reducible rfl)
                refine wpAny_seq 11 rfl (by kernel_rfl) ?_
                simp only [List.drop_succ_cons, List.drop_zero]
              rotate_left 1
              focus
                go_simp
                (refine Calls.mono (HA2.out _ hBa) ?_; rintro e w2 ⟨rfl, hb2⟩; replace e0 := (hb2.cell (p := ⟨B3, 0, none⟩) t1).trans e0; replace e1 := (hb2.cell (p := ⟨B3, 1, none⟩) t1).trans e1; have hBb := belowTo hBa hb2)
                refine hK _ _ ?_
                clear hK K
                refine wpAny_ready (rs := [0]) (by kernel_rfl) (by simp) (AllReady.cons rfl (fun K hK => ?_) (AllReady.nil))
                go_simp
                refine hK _ _ ?_
                clear hK K
                refine wpAny_ready (rs := [9]) (by kernel_rfl) (by simp) (AllReady.cons rfl (fun K hK => ?_) (AllReady.nil))
                go_simp
                (refine Calls.mono (HBd.out _) ?_; rintro e w4 ⟨rfl, hb4⟩; have hBc := belowTo hBb hb4)
                refine hK _ _ ?_
                clear hK K
                refine wpAny_take (i := 10) (v := ?_) rfl (by kernel_rfl) (by kernel_rfl) (by kernel_rfl) (fun _ _ _ h => h) (Or.inl ⟨by rfl, ?_⟩) ?_
                rotate_left
                focus (intro w0; go_simp; try with_reducible rfl)
                refine wpAny_seq 11 rfl (by kernel_rfl) ?_
                simp only [List.drop_succ_cons, List.drop_zero]
            all_goals
              clear hb1 hb2 hb4 e0 e1 t0 t1 hBa hBb
              cases z
              · go_wp2
                go_returns
                exact ⟨HB.out (by simp), hBc⟩
              · go_wp2
                go_roundw
                case rel => exact ⟨k + 1, by omega, by go_num, HE2.out (by simp), hBc⟩
                case measure => simp [intOf]; omega
          · obtain rfl : k = l.length := by omega
            have i2 : ¬ ((l.length : Nat) : Int) < (l.length : Int) := by omega
            have HPo := Lib.hid (HIs.out HKb.out HE.out)
            have HWx := Lib.hid (HWy.out _ hB (fun i => by have := cnr_in (HKa.out i); unfold big; omega))
            have HVw : Hid (allVec (waysL l)) := fun i => by
              rw [HWc.out i]
              exact vec_of (by have := HWs.out HKa.out i; omega)
            clear HE HNB HIs HBi HWs HWc HVS HWy HAt HKa HKb
            go_wp2_with fail
            refine Calls.mono HWx.out ?_
            rintro e w1 ⟨v1, rfl, hI, hb1⟩
            have HRy := Lib.hid (HRo.out _ _ _ hI HVw.out)
            have hBa := belowTo hB hb1
            clear hI hb1 HRo HWx
            rw [HOn.out] at HPo
            generalize cnt (bkB (waysL l)) (List.range (waysL l).length) = q at *
            go_wp2_with fail
            refine Calls.mono HRy.out ?_
            rintro e w2 ⟨rfl, hb2⟩
            have hBb := belowTo hBa hb2
            clear hb2 hBa HRy
            by_cases hq : q = 1
            · have h1 : (q : Int) = 1 := by omega
              have HE := Lib.hid (polyEnd_yes (HPo.out.trans (by simpa using hq)))
              clear hq
              go_wp2
              go_returns
              exact ⟨HE.out, hBb⟩
            · have h1 : ¬ (q : Int) = 1 := by omega
              have HE := Lib.hid (polyEnd_no (HPo.out.trans (by simpa using hq)))
              unfold polyErr at HE
              clear hq
              go_wp2
              go_returns
              exact ⟨HE.out, hBb⟩
end Go.Proofs.YtgaeibibeekclabGreatDoor
namespace Go.Proofs.YtgaeibibeekclabGreatDoor
open Go.RowKit
theorem polyEnd_of {b : Bool} {e : Ending} (h : PolyEnd b e) : (b = true ∧ e = .returned .nilIface) ∨ (b = false ∧ IsNone e) := by
  cases b
  · exact .inr ⟨rfl, h⟩
  · exact .inl ⟨rfl, h⟩
end Go.Proofs.YtgaeibibeekclabGreatDoor
