import Derived.Test.YtgaeibibeekclabGreatDoorProg
import Derived.Test.YtgaeibibeekclabGreatDoorS01
import Derived.Test.YtgaeibibeekclabGreatDoorS03
import Derived.Test.YtgaeibibeekclabGreatDoorS04
import Derived.Test.YtgaeibibeekclabGreatDoorS06
import Derived.Test.YtgaeibibeekclabGreatDoorS07
import Derived.WalkKit
import Derived.LaidEql
import Derived.Stop.Asserts
import Derived.RowKitTokens
import Derived.Handy
import Derived.WalkSpells
import Derived.WalkLawsBesides
import Derived.Deep.QuietTactic
import Derived.BigQuiet
import Derived.Lib.Hide
import Derived.Deep.RegionHeld3
import Derived.Deep.DeepCutAuto
import Derived.Deep.AppendLies
import Derived.Laws.OwnMore
import Derived.Laws.MakeOwn
import Derived.OwnWalk
import Derived.Maps.AppendAt
import Derived.RangeFuncBox
import Derived.RegionTactic
import Derived.ChangeAlike
import Derived.RangeFuncNested
import Derived.StillTail
import Derived.OrdersIn
import Derived.AtR
import Derived.RangeFuncBound
import Derived.RangeFuncCalls
import Derived.RangeFuncLeaves
import Derived.Shelf.Abstract
import Derived.OwnWalkIn
import Derived.TacticsInMore
import Derived.LoopNIn
import Derived.LoopIn
import Derived.LaidEqlPtr
import Derived.BigRegion
import Derived.Deep.RegionHeld
import Derived.WalkSmall
import Derived.Laws.StructEq
namespace Go.Proofs.YtgaeibibeekclabGreatDoor
open Go.RowKit Go.Shelf
attribute [local go_sem] Oper.semAt_some
end Go.Proofs.YtgaeibibeekclabGreatDoor
namespace Go.Proofs.YtgaeibibeekclabGreatDoor
open Go.RowKit Go.Shelf
attribute [local go_sem] Oper.semAt_some
/-- the first index at which p holds, among n -/
def firstI (p : Nat → Bool) (n : Nat) : Nat := ((List.range n).takeWhile (fun i => !p i)).length
theorem first_is {p : Nat → Bool} {n k : Nat} (hk : k < n) (hp : p k = true) (h : ∀ i, i < k → p i = false) : firstI p n = k := by
  unfold firstI
  have e : List.range n = List.range k ++ k :: (List.range n).drop (k + 1) := by
    have e1 : List.range k ++ [k] = (List.range n).take (k + 1) := by rw [List.take_range, Nat.min_eq_left (by omega), List.range_succ]
    rw [List.append_cons, e1, List.take_append_drop]
  rw [e, List.takeWhile_append_of_pos (fun i hi => by rw [h i (List.mem_range.1 hi)]; rfl), List.takeWhile_cons_of_neg (by rw [hp]; decide), List.append_nil, List.length_range]
end Go.Proofs.YtgaeibibeekclabGreatDoor
namespace Go.Proofs.YtgaeibibeekclabGreatDoor
open Go.RowKit Go.Shelf
attribute [local go_sem] Oper.semAt_some
end Go.Proofs.YtgaeibibeekclabGreatDoor
namespace Go.Proofs.YtgaeibibeekclabGreatDoor
open Go.RowKit Go.Shelf
attribute [local go_sem] Oper.semAt_some
end Go.Proofs.YtgaeibibeekclabGreatDoor
namespace Go.Proofs.YtgaeibibeekclabGreatDoor
open Go.RowKit
/-- a list, or none -/
def gV {α : Type} (b : Bool) (l : List α) : List α := if b then l else []
theorem gV_len {α : Type} {b : Bool} {l : List α} {n : Nat} (h : b = true → l.length ≤ n) : (gV b l).length ≤ n := by
  cases b
  · exact Nat.zero_le _
  · exact h rfl
def idxB (l : List V2) (i : Int) : Bool := decide (0 ≤ i) && decide (i < (l.length : Int))
theorem idx_in {l : List V2} {i : Int} (h : idxB l i = true) : ∃ m : Nat, i = m ∧ m < l.length := by
  have h' : 0 ≤ i ∧ i < (l.length : Int) := by simpa [idxB] using h
  exact ⟨i.toNat, by omega, by omega⟩
end Go.Proofs.YtgaeibibeekclabGreatDoor
namespace Go.Proofs.YtgaeibibeekclabGreatDoor
open Go.RowKit
set_option maxHeartbeats 1000000 in
theorem l3Next_any (a : Option Addr) (n c k : Nat) (w : World) (hk : k < n) (hn : n ≤ 4611686018427387904) :
    Calls Tryz.prog 122 #[.slice a n c, .int .i64 k] w fun e w' => e = .returned (.int .i64 ((k + 1) % n : Nat)) ∧ w = w' := by
  have hT := next_is k n
  have j1 : ¬ (n : Int) = 0 := by omega
  have j2 : ((n : Int) == 0) = false := by simpa using j1
  have j3 := Nat.mod_lt (k + 1) (show n > 0 by omega)
  have j4 : (0 : Int) ≤ (((k + 1) % n : Nat) : Int) := by omega
  have j5 : (((k + 1) % n : Nat) : Int) ≤ 4611686018427387904 := by omega
  generalize (((k + 1) % n : Nat) : Int) = z at *
  go_enter Tryz.func122, Tryz.ntmps122
  go_wp2
  go_returns
  exact ⟨rfl, rfl⟩
theorem con_prim {l : List V2} {i : Nat} (h1 : primB (cyc l i).1 (cyc l i).2 = true) (h2 : primB (cyc l (i + 1)).1 (cyc l (i + 1)).2 = true) : conB l i = posB (cyc l i).1 (cyc l i).2 (cyc l (i + 1)).1 (cyc l (i + 1)).2 := by
  simp [conB, coneB, h1, h2]
theorem fanIs {l : List V2} (hr : rng l = true) (h : ∀ i, i < l.length → conB l i = true) : fanB l = oneBack l := by
  have : allC l = true := List.all_eq_true.2 (fun i hi => h i (List.mem_range.1 hi))
  unfold fanB
  rw [hr, this]
  simp
theorem fanNot {l : List V2} {i : Nat} (hi : i < l.length) (h : conB l i = false) : fanB l = false := by
  have : allC l = false := by
    unfold allC
    rw [List.all_eq_false]
    exact ⟨i, List.mem_range.2 hi, by rw [h]; decide⟩
  unfold fanB
  rw [this]
  simp
theorem cnt_range (p : Nat → Bool) (k : Nat) : cnt p (List.range (k + 1)) = cnt p (List.range k) + (if p k then 1 else 0) := by
  rw [List.range_succ, cnt_snoc]
set_option maxHeartbeats 8000000 in
theorem specFanIn_any (v : Value) (l : List V2) (w : World) (hl : ReadsVecs w v l) :
    Calls Tryz.prog 91 #[v] w fun e w' => e = .returned (.bool (fanB l)) ∧ Below w.heap.size w w' := by
  by_cases hr : 3 ≤ l.length ∧ l.length ≤ 20
  case neg =>
    have hf : fanB l = false := by
      have : rng l = false := by unfold rng; simp; omega
      simp [fanB, this]
    rw [hf]
    obtain ⟨a, c, rfl, hc, hm, _⟩ := hl
    have hk : (decide ((3 : Int) ≤ (l.length : Int)) && decide ((l.length : Int) ≤ 20)) = false := by simp; omega
    have HK := Lib.hid (fun w' => l6In_any (l.length : Int) 3 20 w')
    rw [hk] at HK
    clear hk hr
    go_enter Tryz.func91, Tryz.ntmps91
    go_wp2_with fail
    refine Calls.mono (HK.out _) ?_
    rintro e w1 ⟨rfl, rfl⟩
    go_wp2
    go_returns
    exact ⟨rfl, Below.refl _ _⟩
  case pos =>
    obtain ⟨bb, off, c, rfl, hc, hm, hbb, hcs⟩ := hl.open (by omega)
    have HC := Lib.hid hcs
    have hk : (decide ((3 : Int) ≤ (l.length : Int)) && decide ((l.length : Int) ≤ 20)) = true := by simp; omega
    have HK := Lib.hid (fun w' => l6In_any (l.length : Int) 3 20 w')
    rw [hk] at HK
    have hrg : rng l = true := by unfold rng; simp; omega
    have HI := Lib.hid (fun h => fanIs (l := l) hrg h)
    have HN := Lib.hid (fun i h1 h2 => fanNot (l := l) (i := i) h1 h2)
    have HNX := Lib.hid (fun k (h : k < l.length) w' => l3Next_any (some ⟨bb, off, none⟩) l.length c k w' h (by omega))
    have HO : Hid (oneBack l = (cnt (bkB l) (List.range l.length) == 1)) := rfl
    have h20 := hr.2
    have h3 := hr.1
    obtain ⟨n, hn⟩ : ∃ n, n = l.length := ⟨_, rfl⟩
    have HL := Lib.hid hn
    rw [← hn] at hc hm h20 h3 HI HK HNX HO ⊢
    rw [← hn] at HC HN
    clear hcs hk hr hrg hn hl
    go_enter Tryz.func91, Tryz.ntmps91
    go_wp2_with fail
    refine Calls.mono (HK.out _) ?_
    rintro e w1 ⟨rfl, rfl⟩
    go_wp2
    go_loopw [3] (fun i wr => ∃ k : Nat, k ≤ n ∧ i = .int .i64 k ∧ Hid (∀ j, j < k → primB (cyc l j).1 (cyc l j).2 = true) ∧ Below w.heap.size w wr) (fun i _ => n - (intOf i).toNat)
    case atStart => exact ⟨0, Nat.zero_le _, rfl, fun j hj => by omega, Below.refl _ _⟩
    case round =>
      obtain ⟨k, hk, rfl, hp, hB⟩ := hrel
      have i1 : (0 : Int) ≤ (k : Int) := by omega
      by_cases hlt : k < n
      · obtain ⟨c1, c2⟩ := HC.out wr hB k hlt
        have i2 : (k : Int) < (n : Int) := by omega
        have hbl := Nat.lt_of_lt_of_le hbb hB.size
        have HP := Lib.hid (fun w' => l2Primitive_any (cyc l k).1 (cyc l k).2 w')
        cases hq : primB (cyc l k).1 (cyc l k).2
        · rw [hq] at HP
          have HF : Hid (fanB l = false) := HN.out k hlt (by simp [conB, coneB, hq])
          clear hq
          generalize (cyc l k).1 = x at c1 HP
          generalize (cyc l k).2 = y at c2 HP
          go_wp2_with fail
          refine Calls.mono (HP.out _) ?_
          rintro e w2 ⟨rfl, hb2⟩
          go_wp2
          go_returns
          exact ⟨by rw [HF.out]; rfl, belowTo hB hb2⟩
        · rw [hq] at HP
          have HPk : Hid (∀ j, j < k + 1 → primB (cyc l j).1 (cyc l j).2 = true) := fun j hj => by
            by_cases e : j = k
            · subst e; exact hq
            · exact hp.out j (by omega)
          clear hq
          generalize (cyc l k).1 = x at c1 HP
          generalize (cyc l k).2 = y at c2 HP
          go_wp2_with fail
          refine Calls.mono (HP.out _) ?_
          rintro e w2 ⟨rfl, hb2⟩
          go_wp2
          go_roundw
          case rel => exact ⟨k + 1, by omega, by go_num, HPk, belowTo hB hb2⟩
          case measure => simp [intOf]; omega
      · obtain rfl : k = n := by omega
        have i2 : ¬ (k : Int) < (k : Int) := by omega
        have HPR : Hid (∀ i, primB (cyc l i).1 (cyc l i).2 = true) := fun i => by
          have := hp.out (i % l.length) (by have e := HL.out; have := Nat.mod_lt i (show l.length > 0 by omega); omega)
          rwa [cyc_mod] at this
        clear hp
        go_wp2
        go_loopw [4, 5] (fun b i wx => ∃ j : Nat, j ≤ k ∧ i = .int .i64 j ∧ b = .int .i64 (cnt (bkB l) (List.range j) : Nat) ∧ Hid (∀ q, q < j → conB l q = true) ∧ Below w.heap.size w wx) (fun _ i _ => k - (intOf i).toNat)
        case atStart => exact ⟨0, Nat.zero_le _, rfl, rfl, fun j hj => by omega, hB⟩
        case round =>
          obtain ⟨j, hj, rfl, rfl, hp, hB⟩ := hrel
          have i1 : (0 : Int) ≤ (j : Int) := by omega
          by_cases hlt : j < k
          · have hjn : (j + 1) % k < k := Nat.mod_lt _ (by omega)
            obtain ⟨d1, d2⟩ := HC.out wr hB _ hjn
            have ey : cyc l ((j + 1) % k) = cyc l (j + 1) := by rw [HL.out]; exact cyc_mod l (j + 1)
            rw [ey] at d1 d2
            have HX := Lib.hid (HNX.out j hlt)
            have i2 : (j : Int) < (k : Int) := by omega
            have i3 : (0 : Int) ≤ (((j + 1) % k : Nat) : Int) := by omega
            have i4 : (((j + 1) % k : Nat) : Int) < (k : Int) := by omega
            generalize (j + 1) % k = m at *
            have hbl := Nat.lt_of_lt_of_le hbb hB.size
            have p1 := HPR.out j
            have p2 := HPR.out (j + 1)
            obtain ⟨v1, o1⟩ := prim_in p1
            obtain ⟨v2, o2⟩ := prim_in p2
            have HD := Lib.hid (fun w' => l1Det_any _ _ _ _ w' v1 v2)
            have HA := Lib.hid (fun w' => l1Ahead_any _ _ _ _ w' v2 v1 (one_nz o2) (one_nz o1))
            have HCn := Lib.hid (con_prim p1 p2)
            have HS := Lib.hid (cnt_range (bkB l) j)
            have HBk : Hid (bkB l j = aheadB (cyc l (j + 1)).1 (cyc l (j + 1)).2 (cyc l j).1 (cyc l j).2) := rfl
            have hcl : ((cnt (bkB l) (List.range j) : Nat) : Int) ≤ 1000 := by have := cnt_le (bkB l) (List.range j); rw [List.length_range] at this; omega
            have hc0 : (0 : Int) ≤ ((cnt (bkB l) (List.range j) : Nat) : Int) := by omega
            have HB := Lib.hid hB
            have HPZ : Hid (posB (cyc l j).1 (cyc l j).2 (cyc l (j + 1)).1 (cyc l (j + 1)).2 = decide (0 < detZ (cyc l j).1 (cyc l j).2 (cyc l (j + 1)).1 (cyc l (j + 1)).2)) := rfl
            clear p1 p2 v1 v2 o1 o2 ey hjn
            generalize hz : (cyc l (j + 1)) = z at d1 d2 HD HA HCn HBk HPZ
            obtain ⟨x2, y2⟩ := z
            generalize hz1 : (cyc l j) = z1 at HD HA HCn HBk HPZ
            obtain ⟨x1, y1⟩ := z1
            dsimp only at d1 d2 HD HA HCn HBk HPZ
            have HZ := Lib.hid hz1
            clear hz hz1
            generalize detZ x1 y1 x2 y2 = dd at HD HPZ
            generalize aheadB x2 y2 x1 y1 = kk at HA HBk
            go_wp2_with fail
            refine Calls.mono (HX.out _) ?_
            rintro e w1 ⟨rfl, rfl⟩
            have hAl : Below w.heap.size w (wr.alloc (.cells #[.int .i64 x2, .int .i64 y2] 55)) := hB.alloc hB.size _
            obtain ⟨c1, c2⟩ := HC.out _ hAl j hlt
            rw [HZ.out] at c1 c2
            dsimp only at c1 c2
            go_wp2
            have hw2 : Below wr.heap.size wr (wr.alloc (.cells #[.int .i64 x2, .int .i64 y2] 55)).drew := by go_grown
            refine wp_region_any (by kernel_rfl) ?_
            try (change wpAny _ _ _ _ _ _ _ (World.drew _))
            refine wpAny_take (i := 0) (v := ?_) rfl (by kernel_rfl) (by kernel_rfl) (by kernel_rfl) (fun _ _ _ h => h) (Or.inl ⟨by rfl, ?_⟩) ?_
            rotate_left
            focus (intro w0; go_simp; try with_reducible rfl)
            refine wpAny_take (i := 1) (v := ?_) rfl (by kernel_rfl) (by kernel_rfl) (by kernel_rfl) (fun _ _ _ h => h) (Or.inl ⟨by rfl, ?_⟩) ?_
            rotate_left
            focus (intro w0; go_simp; try with_reducible rfl)
            refine wpAny_take (i := 2) (v := ?_) rfl (by kernel_rfl) (by kernel_rfl) (by kernel_rfl) (fun _ _ _ h => h) (Or.inl ⟨by rfl, ?_⟩) ?_
            rotate_left
            focus (intro w0; go_simp; try with_reducible rfl)
            refine wpAny_ready (rs := [3, 4]) (by kernel_rfl) (by simp) (AllReady.cons rfl (fun K hK => ?_) (AllReady.cons rfl (fun K hK => ?_) (AllReady.nil)))
            focus
              go_simp
              refine hK _ _ ?_
              clear hK K
              refine wpAny_ready (rs := [4]) (by kernel_rfl) (by simp) (AllReady.cons rfl (fun K hK => ?_) (AllReady.nil))
              go_simp
              refine hK _ _ ?_
              clear hK K
              refine wpAny_seq 5 rfl (by kernel_rfl) ?_
              simp only [List.drop_succ_cons, List.drop_zero]
            rotate_left 1
            focus
              go_simp
              refine hK _ _ ?_
              clear hK K
              refine wpAny_ready (rs := [3]) (by kernel_rfl) (by simp) (AllReady.cons rfl (fun K hK => ?_) (AllReady.nil))
              go_simp
              refine hK _ _ ?_
              clear hK K
              refine wpAny_seq 5 rfl (by kernel_rfl) ?_
              simp only [List.drop_succ_cons, List.drop_zero]
            all_goals
              go_wp2_with fail
              refine Calls.mono (HD.out _) ?_
              rintro e w2 ⟨rfl, hb2⟩
              have n0 : w2.cell? ⟨wr.heap.size, 0, none⟩ = some (.int .i64 x2) := (hb2.cell (p := ⟨wr.heap.size, 0, none⟩) (by simp)).trans (by simp)
              have n1 : w2.cell? ⟨wr.heap.size, 1, none⟩ = some (.int .i64 y2) := (hb2.cell (p := ⟨wr.heap.size, 1, none⟩) (by simp)).trans (by simp)
              have nl : wr.heap.size < w2.heap.size := Nat.lt_of_lt_of_le (by simp) hb2.size
              have hb3 : Below wr.heap.size wr w2 := belowTo hw2 hb2
              have hB2 := belowTo hB hb3
              obtain ⟨e1, e2⟩ := HC.out _ hB2 j hlt
              rw [HZ.out] at e1 e2
              dsimp only at e1 e2
              have hbl2 := Nat.lt_of_lt_of_le hbl hb3.size
              clear c1 c2 d1 d2 hb2 hb3 hw2 hAl
              by_cases hdd : dd ≤ 0
              · have HF : Hid (fanB l = false) := HN.out j hlt (HCn.out.trans (HPZ.out.trans (by simp; omega)))
                go_wp2
                go_returns
                exact ⟨by rw [HF.out]; rfl, hB2⟩
              · have HQ : Hid (∀ q, q < j + 1 → conB l q = true) := fun q hq => by
                  by_cases e : q = j
                  · subst e
                    exact HCn.out.trans (HPZ.out.trans (by simp; omega))
                  · exact hp.out q (by omega)
                go_wp2
                refine wp_region_any (by kernel_rfl) ?_
                try (change wpAny _ _ _ _ _ _ _ (World.drew _))
                refine wpAny_take (i := 1) (v := ?_) rfl (by kernel_rfl) (by kernel_rfl) (by kernel_rfl) (fun _ _ _ h => h) (Or.inl ⟨by rfl, ?_⟩) ?_
                rotate_left
                focus (intro w0; go_simp; try with_reducible rfl)
                refine wpAny_take (i := 2) (v := ?_) rfl (by kernel_rfl) (by kernel_rfl) (by kernel_rfl) (fun _ _ _ h => h) (Or.inl ⟨by rfl, ?_⟩) ?_
                rotate_left
                focus (intro w0; go_simp; try with_reducible rfl)
                refine wpAny_take (i := 3) (v := ?_) rfl (by kernel_rfl) (by kernel_rfl) (by kernel_rfl) (fun _ _ _ h => h) (Or.inl ⟨by rfl, ?_⟩) ?_
                rotate_left
                focus (intro w0; go_simp; try with_reducible rfl)
                refine wpAny_ready (rs := [0, 4]) (by kernel_rfl) (by simp) (AllReady.cons rfl (fun K hK => ?_) (AllReady.cons rfl (fun K hK => ?_) (AllReady.nil)))
                focus
                  go_simp
                  refine hK _ _ ?_
                  clear hK K
                  refine wpAny_ready (rs := [4]) (by kernel_rfl) (by simp) (AllReady.cons rfl (fun K hK => ?_) (AllReady.nil))
                  go_simp
                  refine hK _ _ ?_
                  clear hK K
                  refine wpAny_seq 5 rfl (by kernel_rfl) ?_
                  simp only [List.drop_succ_cons, List.drop_zero]
                rotate_left 1
                focus
                  go_simp
                  refine hK _ _ ?_
                  clear hK K
                  refine wpAny_ready (rs := [0]) (by kernel_rfl) (by simp) (AllReady.cons rfl (fun K hK => ?_) (AllReady.nil))
                  go_simp
                  refine hK _ _ ?_
                  clear hK K
                  refine wpAny_seq 5 rfl (by kernel_rfl) ?_
                  simp only [List.drop_succ_cons, List.drop_zero]
                all_goals
                  go_wp2_with fail
                  refine Calls.mono (HA.out _) ?_
                  rintro e w4 ⟨rfl, hb4⟩
                  have hB4 := belowTo hB2 (undrew hb4)
                  clear hb4
                  rw [HBk.out] at HS
                  cases kk
                  · have HS2 : Hid (((cnt (bkB l) (List.range j) : Nat) : Int) = ((cnt (bkB l) (List.range (j + 1)) : Nat) : Int)) := by rw [HS.out]; rfl
                    go_wp2
                    go_roundw
                    case rel =>
                      exact ⟨j + 1, by omega, by go_num, by rw [HS2.out], HQ, hB4⟩
                    case measure => simp [intOf]; omega
                  · have HS2 : Hid (((cnt (bkB l) (List.range j) : Nat) : Int) + 1 = ((cnt (bkB l) (List.range (j + 1)) : Nat) : Int)) := by rw [HS.out]; rfl
                    go_wp2
                    go_roundw
                    case rel =>
                      exact ⟨j + 1, by omega, by go_num, by rw [← HS2.out], HQ, hB4⟩
                    case measure => simp [intOf]; omega
          · obtain rfl : j = k := by omega
            have i2 : ¬ (j : Int) < (j : Int) := by omega
            have HF : Hid (fanB l = (cnt (bkB l) (List.range j) == 1)) := (HI.out hp.out).trans HO.out
            clear hp
            generalize cnt (bkB l) (List.range j) = q at *
            by_cases hq : q = 1
            · subst hq
              go_wp2
              go_returns
              exact ⟨by rw [HF.out]; rfl, hB⟩
            · have hq2 : ¬ (q : Int) = 1 := by omega
              have hq3 : (q == 1) = false := by simpa using hq
              have HF2 : Hid (fanB l = false) := HF.out.trans hq3
              have hq4 : ((q : Int) == 1) = false := by simpa using hq2
              clear HF hq hq3
              go_wp2
              go_returns
              exact ⟨by rw [HF2.out]; rfl, hB⟩
end Go.Proofs.YtgaeibibeekclabGreatDoor
namespace Go.Proofs.YtgaeibibeekclabGreatDoor
open Go.RowKit
theorem smNot {l : List V2} {i : Nat} (hi : i < l.length) (h : smB l i = false) : allS l = false := by
  unfold allS
  rw [List.all_eq_false]
  exact ⟨i, List.mem_range.2 hi, by rw [h]; decide⟩
set_option maxHeartbeats 8000000 in
theorem l3Smooth_any (v : Value) (l : List V2) (w : World) (hl : ReadsVecs w v l) (h0 : 0 < l.length) (hv : allVec l) :
    Calls Tryz.prog 126 #[v] w fun e w' => e = .returned (.bool (allS l)) ∧ Below w.heap.size w w' := by
  obtain ⟨bb, off, c, rfl, hc, hm, hbb, hcs⟩ := hl.open h0
  have HC := Lib.hid hcs
  have HI : Hid ((∀ i, i < l.length → smB l i = true) → allS l = true) := fun h => List.all_eq_true.2 (fun i hi => h i (List.mem_range.1 hi))
  have HN := Lib.hid (fun i h1 h2 => smNot (l := l) (i := i) h1 h2)
  have HNX := Lib.hid (fun k (h : k < l.length) w' => l3Next_any (some ⟨bb, off, none⟩) l.length c k w' h (by omega))
  have HV := Lib.hid hv
  obtain ⟨n, hn⟩ : ∃ n, n = l.length := ⟨_, rfl⟩
  have HL := Lib.hid hn
  rw [← hn] at hc hm HI HNX h0 ⊢
  rw [← hn] at HC HN
  clear hcs hn hl hv
  go_enter Tryz.func126, Tryz.ntmps126
  go_wp2
  go_loopw [3] (fun i wr => ∃ j : Nat, j ≤ n ∧ i = .int .i64 j ∧ Hid (∀ q, q < j → smB l q = true) ∧ Below w.heap.size w wr) (fun i _ => n - (intOf i).toNat)
  case atStart => exact ⟨0, Nat.zero_le _, rfl, fun j hj => by omega, Below.refl _ _⟩
  case round =>
    obtain ⟨j, hj, rfl, hp, hB⟩ := hrel
    have i1 : (0 : Int) ≤ (j : Int) := by omega
    by_cases hlt : j < n
    · obtain ⟨c1, c2⟩ := HC.out wr hB j hlt
      have hjn : (j + 1) % n < n := Nat.mod_lt _ (by omega)
      obtain ⟨d1, d2⟩ := HC.out wr hB _ hjn
      have ey : cyc l ((j + 1) % n) = cyc l (j + 1) := by rw [HL.out]; exact cyc_mod l (j + 1)
      rw [ey] at d1 d2
      have HX := Lib.hid (HNX.out j hlt)
      have i2 : (j : Int) < (n : Int) := by omega
      have i3 : (0 : Int) ≤ (((j + 1) % n : Nat) : Int) := by omega
      have i4 : (((j + 1) % n : Nat) : Int) < (n : Int) := by omega
      generalize (j + 1) % n = m at *
      have hbl := Nat.lt_of_lt_of_le hbb hB.size
      have HD := Lib.hid (fun w' => l1Det_any _ _ _ _ w' (HV.out j) (HV.out (j + 1)))
      have HS : Hid (smB l j = (detZ (cyc l j).1 (cyc l j).2 (cyc l (j + 1)).1 (cyc l (j + 1)).2 == 1)) := rfl
      clear ey hjn
      generalize (cyc l (j + 1)) = z at d1 d2 HD HS
      obtain ⟨x2, y2⟩ := z
      generalize (cyc l j) = z1 at c1 c2 HD HS
      obtain ⟨x1, y1⟩ := z1
      dsimp only at c1 c2 d1 d2 HD HS
      generalize detZ x1 y1 x2 y2 = dd at HD HS
      go_wp2
      refine wp_region_any (by kernel_rfl) ?_
      try (change wpAny _ _ _ _ _ _ _ (World.drew _))
      refine wpAny_take (i := 0) (v := ?_) rfl (by kernel_rfl) (by kernel_rfl) (by kernel_rfl) (fun _ _ _ h => h) (Or.inl ⟨by rfl, ?_⟩) ?_
      rotate_left
      focus (intro w0; go_simp; try with_reducible rfl)
      refine wpAny_take (i := 1) (v := ?_) rfl (by kernel_rfl) (by kernel_rfl) (by kernel_rfl) (fun _ _ _ h => h) (Or.inl ⟨by rfl, ?_⟩) ?_
      rotate_left
      focus (intro w0; go_simp; try with_reducible rfl)
      refine wpAny_take (i := 2) (v := ?_) rfl (by kernel_rfl) (by kernel_rfl) (by kernel_rfl) (fun _ _ _ h => h) (Or.inl ⟨by rfl, ?_⟩) ?_
      rotate_left
      focus (intro w0; go_simp; try with_reducible rfl)
      refine wpAny_take (i := 4) (v := ?_) rfl (by kernel_rfl) (by kernel_rfl) (by kernel_rfl) (fun _ _ _ h => h) (Or.inl ⟨by rfl, ?_⟩) ?_
      rotate_left
      focus (intro w0; go_simp; try with_reducible rfl)
      refine wpAny_take (i := 5) (v := ?_) rfl (by kernel_rfl) (by kernel_rfl) (by kernel_rfl) (fun _ _ _ h => h) (Or.inl ⟨by rfl, ?_⟩) ?_
      rotate_left
      focus (intro w0; go_simp; try with_reducible rfl)
      refine wpAny_take (i := 6) (v := ?_) rfl (by kernel_rfl) (by kernel_rfl) (by kernel_rfl) (fun _ _ _ h => h) (Or.inl ⟨by rfl, ?_⟩) ?_
      rotate_left
      focus (intro w0; go_simp; try with_reducible rfl)
      refine wpAny_ready (rs := [3, 7]) (by kernel_rfl) (by simp) (AllReady.cons rfl (fun K hK => ?_) (AllReady.cons rfl (fun K hK => ?_) (AllReady.nil)))
      focus
        go_simp
        refine hK _ _ ?_
        clear hK K
        refine wpAny_ready (rs := [7]) (by kernel_rfl) (by simp) (AllReady.cons rfl (fun K hK => ?_) (AllReady.nil))
        go_simp
        (refine Calls.mono (HX.out _) ?_; rintro e w1 ⟨rfl, rfl⟩)
        refine hK _ _ ?_
        clear hK K
        refine wpAny_take (i := 8) (v := ?_) rfl (by kernel_rfl) (by kernel_rfl) (by kernel_rfl) (fun _ _ _ h => h) (Or.inl ⟨by rfl, ?_⟩) ?_
        rotate_left
        focus (intro w0; go_simp; try with_reducible rfl)
        refine wpAny_ready (rs := [9]) (by kernel_rfl) (by simp) (AllReady.cons rfl (fun K hK => ?_) (AllReady.nil))
        go_simp
        refine hK _ _ ?_
        clear hK K
        refine wpAny_seq 10 rfl (by kernel_rfl) ?_
        simp only [List.drop_succ_cons, List.drop_zero]
      rotate_left 1
      focus
        go_simp
        (refine Calls.mono (HX.out _) ?_; rintro e w1 ⟨rfl, rfl⟩)
        refine hK _ _ ?_
        clear hK K
        refine wpAny_take (i := 8) (v := ?_) rfl (by kernel_rfl) (by kernel_rfl) (by kernel_rfl) (fun _ _ _ h => h) (Or.inl ⟨by rfl, ?_⟩) ?_
        rotate_left
        focus (intro w0; go_simp; try with_reducible rfl)
        refine wpAny_ready (rs := [3, 9]) (by kernel_rfl) (by simp) (AllReady.cons rfl (fun K hK => ?_) (AllReady.cons rfl (fun K hK => ?_) (AllReady.nil)))
        focus
          go_simp
          refine hK _ _ ?_
          clear hK K
          refine wpAny_ready (rs := [9]) (by kernel_rfl) (by simp) (AllReady.cons rfl (fun K hK => ?_) (AllReady.nil))
          go_simp
          refine hK _ _ ?_
          clear hK K
          refine wpAny_seq 10 rfl (by kernel_rfl) ?_
          simp only [List.drop_succ_cons, List.drop_zero]
        rotate_left 1
        focus
          go_simp
          refine hK _ _ ?_
          clear hK K
          refine wpAny_ready (rs := [3]) (by kernel_rfl) (by simp) (AllReady.cons rfl (fun K hK => ?_) (AllReady.nil))
          go_simp
          refine hK _ _ ?_
          clear hK K
          refine wpAny_seq 10 rfl (by kernel_rfl) ?_
          simp only [List.drop_succ_cons, List.drop_zero]
      all_goals
        go_wp2_with fail
        refine Calls.mono (HD.out _) ?_
        rintro e w4 ⟨rfl, hb4⟩
        have hB4 := belowTo hB (undrew hb4)
        clear hb4
        by_cases hdd : dd = 1
        · have HQ : Hid (∀ q, q < j + 1 → smB l q = true) := fun q hq => by
            by_cases e : q = j
            · subst e
              exact HS.out.trans (by simpa using hdd)
            · exact hp.out q (by omega)
          go_wp2
          go_roundw
          case rel => exact ⟨j + 1, by omega, by go_num, HQ, hB4⟩
          case measure => simp [intOf]; omega
        · have hdf : (dd == 1) = false := by simpa using hdd
          have HF : Hid (allS l = false) := HN.out j hlt (HS.out.trans hdf)
          clear hdf
          go_wp2
          go_returns
          exact ⟨by rw [HF.out]; rfl, hB4⟩
    · obtain rfl : j = n := by omega
      have i2 : ¬ (j : Int) < (j : Int) := by omega
      have HF := Lib.hid (HI.out hp.out)
      clear hp
      go_wp2
      go_returns
      exact ⟨by rw [HF.out]; rfl, hB⟩
set_option maxHeartbeats 4000000 in
theorem specFanSmooth_any (v : Value) (l : List V2) (w : World) (hl : ReadsVecs w v l) :
    Calls Tryz.prog 95 #[v] w fun e w' => e = .returned (.bool (smoothB l)) ∧ Below w.heap.size w w' := by
  have HF := Lib.hid (specFanIn_any v l w hl)
  unfold smoothB
  cases hf : fanB l
  · rw [hf] at HF
    clear hf hl
    go_enter Tryz.func95, Tryz.ntmps95
    go_wp2_with fail
    refine Calls.mono HF.out ?_
    rintro e w1 ⟨rfl, hb1⟩
    go_wp2
    go_returns
    exact ⟨rfl, hb1⟩
  · rw [hf] at HF
    have HS := Lib.hid (fun w' (hb : Below w.heap.size w w') => l3Smooth_any v l w' (hl.below hb) (by have := fan_len hf; omega) (fan_vec hf))
    generalize allS l = k at HS
    clear hf hl
    go_enter Tryz.func95, Tryz.ntmps95
    go_wp2_with fail
    refine Calls.mono HF.out ?_
    rintro e w1 ⟨rfl, hb1⟩
    go_wp2_with fail
    refine Calls.mono (HS.out _ hb1) ?_
    rintro e w2 ⟨rfl, hb2⟩
    have hB := belowTo hb1 hb2
    clear hb1 hb2
    go_wp2
    go_returns
    exact ⟨rfl, hB⟩
set_option maxHeartbeats 4000000 in
theorem l3Cone_any (v : Value) (l : List V2) (k : Nat) (w : World) (hl : ReadsVecs w v l) (hk : k < l.length) :
    Calls Tryz.prog 156 #[v, .int .i64 k] w fun e w' => e = .returned (.agg #[.int .i64 ((cyc l k).1), .int .i64 ((cyc l k).2), .int .i64 ((cyc l (k + 1)).1), .int .i64 ((cyc l (k + 1)).2)]) ∧ Below w.heap.size w w' := by
  obtain ⟨bb, off, c, rfl, hc, hm, hbb, hcs⟩ := hl.open (by omega)
  obtain ⟨c1, c2⟩ := hcs w (Below.refl _ _) k hk
  have hjn : (k + 1) % l.length < l.length := Nat.mod_lt _ (by omega)
  obtain ⟨d1, d2⟩ := hcs w (Below.refl _ _) _ hjn
  rw [cyc_mod] at d1 d2
  have HX := Lib.hid (fun w' => l3Next_any (some ⟨bb, off, none⟩) l.length c k w' hk (by omega))
  have i1 : (0 : Int) ≤ (k : Int) := by omega
  have i2 : (k : Int) < (l.length : Int) := by omega
  have i3 : (0 : Int) ≤ (((k + 1) % l.length : Nat) : Int) := by omega
  have i4 : (((k + 1) % l.length : Nat) : Int) < (l.length : Int) := by omega
  generalize (k + 1) % l.length = m at *
  generalize l.length = n at *
  generalize cyc l (k + 1) = z at *
  obtain ⟨x2, y2⟩ := z
  generalize cyc l k = z1 at *
  obtain ⟨x1, y1⟩ := z1
  dsimp only at c1 c2 d1 d2 ⊢
  clear hcs hl
  go_enter Tryz.func156, Tryz.ntmps156
  go_wp2
  refine wp_region_any (by kernel_rfl) ?_
  try (change wpAny _ _ _ _ _ _ _ (World.drew _))
  refine wpAny_take (i := 0) (v := ?_) rfl (by kernel_rfl) (by kernel_rfl) (by kernel_rfl) (fun _ _ _ h => h) (Or.inl ⟨by rfl, ?_⟩) ?_
  rotate_left
  focus (intro w0; go_simp; try with_reducible rfl)
  refine wpAny_take (i := 1) (v := ?_) rfl (by kernel_rfl) (by kernel_rfl) (by kernel_rfl) (fun _ _ _ h => h) (Or.inl ⟨by rfl, ?_⟩) ?_
  rotate_left
  focus (intro w0; go_simp; try with_reducible rfl)
  refine wpAny_take (i := 2) (v := ?_) rfl (by kernel_rfl) (by kernel_rfl) (by kernel_rfl) (fun _ _ _ h => h) (Or.inl ⟨by rfl, ?_⟩) ?_
  rotate_left
  focus (intro w0; go_simp; try with_reducible rfl)
  refine wpAny_take (i := 4) (v := ?_) rfl (by kernel_rfl) (by kernel_rfl) (by kernel_rfl) (fun _ _ _ h => h) (Or.inl ⟨by rfl, ?_⟩) ?_
  rotate_left
  focus (intro w0; go_simp; try with_reducible rfl)
  refine wpAny_take (i := 5) (v := ?_) rfl (by kernel_rfl) (by kernel_rfl) (by kernel_rfl) (fun _ _ _ h => h) (Or.inl ⟨by rfl, ?_⟩) ?_
  rotate_left
  focus (intro w0; go_simp; try with_reducible rfl)
  refine wpAny_take (i := 6) (v := ?_) rfl (by kernel_rfl) (by kernel_rfl) (by kernel_rfl) (fun _ _ _ h => h) (Or.inl ⟨by rfl, ?_⟩) ?_
  rotate_left
  focus (intro w0; go_simp; try with_reducible rfl)
  refine wpAny_ready (rs := [3, 7]) (by kernel_rfl) (by simp) (AllReady.cons rfl (fun K hK => ?_) (AllReady.cons rfl (fun K hK => ?_) (AllReady.nil)))
  focus
    go_simp
    refine hK _ _ ?_
    clear hK K
    refine wpAny_ready (rs := [7]) (by kernel_rfl) (by simp) (AllReady.cons rfl (fun K hK => ?_) (AllReady.nil))
    go_simp
    (refine Calls.mono (HX.out _) ?_; rintro e w1 ⟨rfl, rfl⟩)
    refine hK _ _ ?_
    clear hK K
    refine wpAny_take (i := 8) (v := ?_) rfl (by kernel_rfl) (by kernel_rfl) (by kernel_rfl) (fun _ _ _ h => h) (Or.inl ⟨by rfl, ?_⟩) ?_
    rotate_left
    focus (intro w0; go_simp; try with_reducible rfl)
    refine wpAny_ready (rs := [9]) (by kernel_rfl) (by simp) (AllReady.cons rfl (fun K hK => ?_) (AllReady.nil))
    go_simp
    refine hK _ _ ?_
    clear hK K
    refine wpAny_seq 10 rfl (by kernel_rfl) ?_
    simp only [List.drop_succ_cons, List.drop_zero]
  rotate_left 1
  focus
    go_simp
    (refine Calls.mono (HX.out _) ?_; rintro e w1 ⟨rfl, rfl⟩)
    refine hK _ _ ?_
    clear hK K
    refine wpAny_take (i := 8) (v := ?_) rfl (by kernel_rfl) (by kernel_rfl) (by kernel_rfl) (fun _ _ _ h => h) (Or.inl ⟨by rfl, ?_⟩) ?_
    rotate_left
    focus (intro w0; go_simp; try with_reducible rfl)
    refine wpAny_ready (rs := [3, 9]) (by kernel_rfl) (by simp) (AllReady.cons rfl (fun K hK => ?_) (AllReady.cons rfl (fun K hK => ?_) (AllReady.nil)))
    focus
      go_simp
      refine hK _ _ ?_
      clear hK K
      refine wpAny_ready (rs := [9]) (by kernel_rfl) (by simp) (AllReady.cons rfl (fun K hK => ?_) (AllReady.nil))
      go_simp
      refine hK _ _ ?_
      clear hK K
      refine wpAny_seq 10 rfl (by kernel_rfl) ?_
      simp only [List.drop_succ_cons, List.drop_zero]
    rotate_left 1
    focus
      go_simp
      refine hK _ _ ?_
      clear hK K
      refine wpAny_ready (rs := [3]) (by kernel_rfl) (by simp) (AllReady.cons rfl (fun K hK => ?_) (AllReady.nil))
      go_simp
      refine hK _ _ ?_
      clear hK K
      refine wpAny_seq 10 rfl (by kernel_rfl) ?_
      simp only [List.drop_succ_cons, List.drop_zero]
  all_goals go_wp2
  all_goals refine bodyPost_ret (by simp [results, Tryz.results156, go_sem, *]; try rfl) rfl ?_
  all_goals exact ⟨rfl, by go_grown⟩
end Go.Proofs.YtgaeibibeekclabGreatDoor
namespace Go.Proofs.YtgaeibibeekclabGreatDoor
open Go.RowKit
theorem cyc_piece {l : List V2} {s m q : Nat} (hq : q < m) (h : s + m ≤ l.length) : cyc ((l.drop s).take m) q = cyc l (s + q) := by
  rw [cyc_lt (by simp; omega), cyc_lt (by omega), List.getElem?_take_of_lt hq, List.getElem?_drop]
theorem piece_cells {wr : World} {l : List V2} {bb off s m : Nat} (hc : ∀ j, j < l.length → wr.cell? ⟨bb, off + j * 2, none⟩ = some (.int .i64 (cyc l j).1) ∧ wr.cell? ⟨bb, off + j * 2 + 1, none⟩ = some (.int .i64 (cyc l j).2)) (h : s + m ≤ l.length) :
    ∀ j u, (intsV (flat ((l.drop s).take m)))[j]? = some u → wr.cell? ((⟨bb, off + s * 2, none⟩ : Addr).add j) = some u := by
  intro j u hj
  have hml : ((l.drop s).take m).length = m := by simp; omega
  have hlen : j < (flat ((l.drop s).take m)).length := by
    have := (List.getElem?_eq_some_iff.1 hj).1
    simpa [intsV] using this
  have hj2 : j < 2 * m := by rw [flat_len, hml] at hlen; exact hlen
  rw [intsV_get _ _ hlen] at hj
  obtain ⟨e1, e2⟩ := flat_get ((l.drop s).take m) (j / 2) (by rw [hml]; omega)
  rw [cyc_piece (by omega) h] at e1 e2
  obtain ⟨c1, c2⟩ := hc (s + j / 2) (by omega)
  rcases Nat.mod_two_eq_zero_or_one j with h0 | h0
  · have : j / 2 * 2 = j := by omega
    rw [this] at e1
    rw [e1] at hj
    rw [← hj, ← c1]
    rw [show (⟨bb, off + s * 2, none⟩ : Addr).add j = ⟨bb, off + (s + j / 2) * 2, none⟩ from by unfold Addr.add; split <;> simp <;> omega]
  · have : j / 2 * 2 + 1 = j := by omega
    rw [this] at e2
    rw [e2] at hj
    rw [← hj, ← c2]
    rw [show (⟨bb, off + s * 2, none⟩ : Addr).add j = ⟨bb, off + (s + j / 2) * 2 + 1, none⟩ from by unfold Addr.add; split <;> simp <;> omega]
theorem piece_one (l : List Int) : ∀ u ∈ intsV l, u.oneCell' = true := by
  intro u hu
  simp [intsV] at hu
  obtain ⟨a, _, rfl⟩ := hu
  rfl
theorem piece_len {l : List V2} {s m : Nat} (h : s + m ≤ l.length) : (intsV (flat ((l.drop s).take m))).length = m * 2 := by
  have hml : ((l.drop s).take m).length = m := by simp; omega
  simp [intsV, flat_len, hml]
  omega
theorem Vecs.empty (w : World) : Vecs (w.alloc (.cells #[] 55)) w.heap.size (.slice (some ⟨w.heap.size, 0, none⟩) 0 0) [] :=
  World.ownsRow_made w #[] 0 (Nat.le_refl _) (by simp [maxLen]) rfl
theorem Vecs.join {w : World} {base n : Nat} {v : Value} {l m : List V2} (h : w.ownsRow base 55 2 v n (intsV (flat l) ++ intsV (flat m))) (hn : n = l.length + m.length) : Vecs w base v (l ++ m) := by
  unfold Vecs VRow
  rw [flat_app, List.length_append, ← hn]
  have : intsV (flat l ++ flat m) = intsV (flat l) ++ intsV (flat m) := by simp [intsV]
  rw [this]
  exact h
end Go.Proofs.YtgaeibibeekclabGreatDoor
namespace Go.Proofs.YtgaeibibeekclabGreatDoor
open Go.RowKit
theorem mul_le {a b A B : Int} (ha : -A ≤ a ∧ a ≤ A) (hb : -B ≤ b ∧ b ≤ B) : -(A * B) ≤ a * b ∧ a * b ≤ A * B := by
  have h : (a * b).natAbs ≤ (A * B).natAbs := by
    rw [Int.natAbs_mul, Int.natAbs_mul]
    exact Nat.mul_le_mul (by omega) (by omega)
  have h2 : 0 ≤ A * B := Int.mul_nonneg (by omega) (by omega)
  omega
def gz (d : List Int) (j : Nat) : Int := d[j]?.getD 0
theorem gz_out {d : List Int} {j : Nat} (h : d.length ≤ j) : gz d j = 0 := by simp [gz, h]
theorem gz_mem {d : List Int} {j : Nat} (h : j < d.length) : gz d j ∈ d := by
  unfold gz
  rw [List.getElem?_eq_getElem h]
  exact List.getElem_mem _
/-- all numbers are at most M in size -/
def bnd (M : Int) (d : List Int) : Prop := ∀ j, -M ≤ gz d j ∧ gz d j ≤ M
def cfB (n : Int) : Bool := decide (-100 ≤ n) && decide (n ≤ 100)
theorem cfB_in {n : Int} (h : cfB n = true) : -100 ≤ n ∧ n ≤ 100 := by simpa [cfB] using h
def cfsB (d : List Int) : Bool := d.all cfB
theorem cfs_bad {d : List Int} {k : Nat} (hk : k < d.length) (h : cfB (gz d k) = false) : cfsB d = false := by
  unfold cfsB
  rw [List.all_eq_false]
  exact ⟨_, gz_mem hk, by rw [h]; decide⟩
theorem cfs_good {d : List Int} (h : ∀ k, k < d.length → cfB (gz d k) = true) : cfsB d = true := by
  unfold cfsB
  rw [List.all_eq_true]
  intro x hx
  obtain ⟨i, hi, rfl⟩ := List.mem_iff_getElem.1 hx
  have := h i hi
  unfold gz at this
  rwa [List.getElem?_eq_getElem hi] at this
theorem cfs_bnd {d : List Int} (h : cfsB d = true) : bnd 100 d := by
  intro j
  by_cases hj : j < d.length
  · exact cfB_in (List.all_eq_true.1 h _ (gz_mem hj))
  · rw [gz_out (by omega)]
    omega
theorem bnd_mono {M M' : Int} {d : List Int} (h : bnd M d) (hM : M ≤ M') : bnd M' d := fun j => by have := h j; omega
def divB (l : List V2) (d : List Int) : Bool := smoothB l && (decide (d.length = l.length) && cfsB d)
theorem div_in {l : List V2} {d : List Int} (h : divB l d = true) : smoothB l = true ∧ d.length = l.length ∧ cfsB d = true := by simpa [divB] using h
theorem div_bnd {l : List V2} {d : List Int} (h : divB l d = true) : bnd 100 d := cfs_bnd (div_in h).2.2
theorem smooth_len {l : List V2} (h : smoothB l = true) : 3 ≤ l.length ∧ l.length ≤ 20 := fan_len (smooth_in h).1
def sumZ (f : Nat → Int) : Nat → Int
  | 0 => 0
  | k + 1 => sumZ f k + f k
theorem sumZ_bnd {f : Nat → Int} {M : Int} (h : ∀ i, -M ≤ f i ∧ f i ≤ M) (k : Nat) : -((k : Int) * M) ≤ sumZ f k ∧ sumZ f k ≤ (k : Int) * M := by
  induction k with
  | zero => simp [sumZ]
  | succ k ih =>
    have := h k
    unfold sumZ
    rw [show ((k + 1 : Nat) : Int) * M = (k : Int) * M + M by rw [Int.natCast_add, Int.add_mul]; simp]
    omega
theorem dot_flip (a b c d : Int) : dotZ a b c d = dotZ c d a b := by unfold dotZ; rw [Int.mul_comm a, Int.mul_comm b]
end Go.Proofs.YtgaeibibeekclabGreatDoor
namespace Go.Proofs.YtgaeibibeekclabGreatDoor
open Go.RowKit
theorem ReadsInts.open {w : World} {v : Value} {d : List Int} (h : ReadsInts w v d) (h0 : 0 < d.length) : ∃ bb off c, v = .slice (some ⟨bb, off, none⟩) d.length c ∧ d.length ≤ 1152921504606846976 ∧ bb < w.heap.size ∧
    ∀ wr, Below w.heap.size w wr → ∀ j, j < d.length → wr.cell? ⟨bb, off + j, none⟩ = some (.int .i64 (gz d j)) := by
  obtain ⟨a, c, rfl, hm, hcell⟩ := h
  obtain ⟨bb, off, rfl, hb, hcs⟩ := hcell h0
  exact ⟨bb, off, c, rfl, hm, hb, fun wr hw j hj => (hw.cell (p := ⟨bb, off + j, none⟩) hb).trans (hcs j hj)⟩
theorem ReadsInts.len {w : World} {v : Value} {d : List Int} (h : ReadsInts w v d) : ∃ a c, v = .slice a d.length c ∧ d.length ≤ 1152921504606846976 := by
  obtain ⟨a, c, rfl, hm, _⟩ := h
  exact ⟨a, c, rfl, hm⟩
end Go.Proofs.YtgaeibibeekclabGreatDoor
namespace Go.Proofs.YtgaeibibeekclabGreatDoor
open Go.RowKit
theorem div_len {l : List V2} {d : List Int} (h : divB l d = true) : 3 ≤ l.length ∧ l.length ≤ 20 := smooth_len (div_in h).1
theorem div_smooth {l : List V2} {d : List Int} (h : divB l d = true) : Smooth l := smooth_all (div_in h).1
end Go.Proofs.YtgaeibibeekclabGreatDoor
namespace Go.Proofs.YtgaeibibeekclabGreatDoor
open Go.RowKit
/-- the sum of a ray and the next one -/
def blowP (l : List V2) (i : Nat) : V2 := ((cyc l i).1 + (cyc l (i + 1)).1, (cyc l i).2 + (cyc l (i + 1)).2)
def blowL {α : Type} (l : List α) (i : Nat) (p : α) : List α := l.take (i + 1) ++ [p] ++ l.drop (i + 1)
theorem blowL_len {α : Type} {l : List α} {i : Nat} {p : α} (h : i < l.length) : (blowL l i p).length = l.length + 1 := by
  simp [blowL]
  omega
def blowB (l : List V2) (i : Int) : Bool := idxB l i && fanB (blowL l i.toNat (blowP l i.toNat))
end Go.Proofs.YtgaeibibeekclabGreatDoor
namespace Go.Proofs.YtgaeibibeekclabGreatDoor
open Go.RowKit
/-- where a vector is -/
def whZ (l : List V2) (a : V2) : Nat := firstI (fun i => inC l i a) l.length
theorem whZ_lt {l : List V2} (h : fanB l = true) (a : V2) : whZ l a < l.length := by
  obtain ⟨i, hi, hc⟩ := fan_covers h a
  unfold whZ firstI
  have h1 := (List.takeWhile_prefix (fun i => !inC l i a) (l := List.range l.length)).length_le
  rw [List.length_range] at h1
  rcases Nat.lt_or_ge ((List.range l.length).takeWhile (fun i => !inC l i a)).length l.length with h2 | h2
  · exact h2
  · have e : (List.range l.length).takeWhile (fun i => !inC l i a) = List.range l.length := (List.takeWhile_prefix _).eq_of_length (by rw [List.length_range]; omega)
    have h3 := List.all_takeWhile (p := fun i => !inC l i a) (l := List.range l.length)
    rw [e] at h3
    have h4 := List.all_eq_true.1 h3 i (List.mem_range.2 hi)
    rw [hc] at h4
    cases h4
/-- the bound of a vector -/
def bndZ (l : List V2) (d : List Int) (a : V2) : Int := detV a (cyc l (whZ l a + 1)) * gz d (whZ l a) + detV (cyc l (whZ l a)) a * gz d ((whZ l a + 1) % l.length)
theorem det_small {a b : V2} (ha : vecB a.1 a.2 = true) (hb : vecB b.1 b.2 = true) : -2000000 ≤ detV a b ∧ detV a b ≤ 2000000 := by
  unfold detV detZ
  have h1 := szs ha
  have h2 := szs hb
  have m1 := mul_le h1.1 h2.2
  have m2 := mul_le h1.2 h2.1
  omega
theorem bnd_terms {l : List V2} {d : List Int} {a : V2} (hv : allVec l) (ha : vecB a.1 a.2 = true) (hd : bnd 100 d) :
    (-200000000 ≤ detV a (cyc l (whZ l a + 1)) * gz d (whZ l a) ∧ detV a (cyc l (whZ l a + 1)) * gz d (whZ l a) ≤ 200000000) ∧ -200000000 ≤ detV (cyc l (whZ l a)) a * gz d ((whZ l a + 1) % l.length) ∧ detV (cyc l (whZ l a)) a * gz d ((whZ l a + 1) % l.length) ≤ 200000000 := by
  have m1 := mul_le (det_small ha (hv (whZ l a + 1))) (hd (whZ l a))
  have m2 := mul_le (det_small (hv (whZ l a)) ha) (hd ((whZ l a + 1) % l.length))
  omega
theorem bndZ_bnd {l : List V2} {d : List Int} {a : V2} (hv : allVec l) (ha : vecB a.1 a.2 = true) (hd : bnd 100 d) : -400000000 ≤ bndZ l d a ∧ bndZ l d a ≤ 400000000 := by
  have := bnd_terms hv ha hd
  unfold bndZ
  omega
/-- is m a section, or one whose products are more than they must be -/
def hasZ (l : List V2) (d : List Int) (m : V2) : Bool := (List.range l.length).all (fun i => decide (-gz d i ≤ dotZ m.1 m.2 (cyc l i).1 (cyc l i).2))
end Go.Proofs.YtgaeibibeekclabGreatDoor
namespace Go.Proofs.YtgaeibibeekclabGreatDoor
open Go.RowKit Go.Shelf
attribute [local go_sem] Oper.semAt_some
end Go.Proofs.YtgaeibibeekclabGreatDoor
namespace Go.Proofs.YtgaeibibeekclabGreatDoor
open Go.RowKit
def allV (l : List V2) : Bool := l.all (fun m => vecB m.1 m.2)
theorem allV_bad {l : List V2} {k : Nat} (hk : k < l.length) (h : vecB (cyc l k).1 (cyc l k).2 = false) : allV l = false := by
  unfold allV
  rw [List.all_eq_false]
  exact ⟨_, cyc_mem (by omega) k, by rw [h]; decide⟩
theorem allV_good {l : List V2} (h : ∀ k, k < l.length → vecB (cyc l k).1 (cyc l k).2 = true) : allV l = true := by
  unfold allV
  rw [List.all_eq_true]
  intro x hx
  obtain ⟨i, hi, rfl⟩ := List.mem_iff_getElem.1 hx
  have := h i hi
  unfold cyc at this
  rw [Nat.mod_eq_of_lt hi, List.getElem?_eq_getElem hi] at this
  exact this
theorem allV_at {l : List V2} (h : allV l = true) {k : Nat} (hk : k < l.length) : vecB (cyc l k).1 (cyc l k).2 = true := List.all_eq_true.1 h _ (cyc_mem (by omega) k)
def areaZ (l : List V2) : Int := sumZ (fun i => detV (cyc l i) (cyc l (i + 1))) l.length
theorem area_terms {l : List V2} (h : allV l = true) (h0 : 0 < l.length) (i : Nat) : -2000000 ≤ detV (cyc l i) (cyc l (i + 1)) ∧ detV (cyc l i) (cyc l (i + 1)) ≤ 2000000 := by
  have h1 := allV_at h (Nat.mod_lt i h0)
  have h2 := allV_at h (Nat.mod_lt (i + 1) h0)
  rw [cyc_mod] at h1 h2
  unfold detV detZ
  have a := szs h1
  have b := szs h2
  have m1 := mul_le a.1 b.2
  have m2 := mul_le a.2 b.1
  omega
theorem area_bnd {l : List V2} (h : allV l = true) (h0 : 0 < l.length) {k : Nat} (hk : k ≤ 1000) : -2000000000 ≤ sumZ (fun i => detV (cyc l i) (cyc l (i + 1))) k ∧ sumZ (fun i => detV (cyc l i) (cyc l (i + 1))) k ≤ 2000000000 := by
  have := sumZ_bnd (area_terms h h0) k
  omega
def CornPost (l : List V2) (w : World) (e : Ending) (w' : World) : Prop := ((allV l = true ∧ e = .returned .nilIface) ∨ (allV l = false ∧ IsNone e)) ∧ Below w.heap.size w w'
set_option maxHeartbeats 8000000 in
theorem cornCheck_any (v : Value) (l : List V2) (w : World) (h : ReadsVecs w v l) (h0 : 0 < l.length) (hm : l.length ≤ 1000) :
    Calls Tryz.prog 191 #[v] w (CornPost l w) := by
  obtain ⟨bv, ov, vc, rfl, _, _, hbv, hvs⟩ := h.open h0
  have HVS := Lib.hid hvs
  have HBad := Lib.hid (fun k hk hz => allV_bad (l := l) (k := k) hk hz)
  have HGood := Lib.hid (fun h => allV_good (l := l) h)
  have HKp := Lib.hid (fun x y w' (h : vecB x y = true) => check_in x y w' h)
  have HKn := Lib.hid (fun x y w' (h : vecB x y = false) => check_out x y w' h)
  clear h hvs
  unfold CornPost
  generalize allV l = K at *
  go_enter Tryz.func191, Tryz.ntmps191
  go_wp2
  go_loopw [8] (fun s wr => ∃ k : Nat, k ≤ l.length ∧ s = .int .i64 k ∧ Hid (∀ j, j < l.length → j < k → vecB (cyc l j).1 (cyc l j).2 = true) ∧ Below w.heap.size w wr) (fun s _ => l.length - (intOf s).toNat)
  case atStart => exact ⟨0, Nat.zero_le _, rfl, fun j _ hj => by omega, Below.refl _ _⟩
  case round =>
    obtain ⟨k, hk, rfl, HE, hB⟩ := hrel
    have i1 : (0 : Int) ≤ (k : Int) := by omega
    by_cases hlt : k < l.length
    · have i2 : (k : Int) < (l.length : Int) := by omega
      obtain ⟨c0, c1⟩ := HVS.out wr hB k hlt
      have HB := Lib.hid (fun h => HBad.out k hlt h)
      have HE2 : Hid (vecB (cyc l k).1 (cyc l k).2 = true → ∀ j, j < l.length → j < k + 1 → vecB (cyc l j).1 (cyc l j).2 = true) := fun h j h1 h2 => by
        by_cases e : j = k
        · subst e; exact h
        · exact HE.out j h1 (by omega)
      have hs := hB.size
      generalize cyc l k = V at HB HE2 c0 c1
      obtain ⟨x, y⟩ := V
      dsimp only at HB HE2 c0 c1
      cases hz : vecB x y
      · have HK := Lib.hid (fun w' => HKn.out x y w' hz)
        have HF := Lib.hid (HB.out hz)
        clear hz HE HE2 HB HVS
        go_wp2_with fail
        refine Calls.mono (HK.out _) ?_
        rintro e w2 ⟨rfl, hb2⟩
        have hA : Below w.heap.size w w2 := hB.trans (Below.mono (belowTo (a := wr) (by go_grown) hb2) hs)
        clear hb2
        go_wp2
        go_returns
        exact ⟨.inr ⟨HF.out, ⟨_, rfl⟩⟩, hA⟩
      · have HK := Lib.hid (fun w' => HKp.out x y w' hz)
        have HE3 := Lib.hid (HE2.out hz)
        clear hz HE HE2 HB HVS
        go_wp2_with fail
        refine Calls.mono (HK.out _) ?_
        rintro e w2 ⟨rfl, hb2⟩
        have hA : Below w.heap.size w w2 := hB.trans (Below.mono (belowTo (a := wr) (by go_grown) hb2) hs)
        clear hb2
        go_wp2
        go_roundw
        case rel => exact ⟨k + 1, by omega, by go_num, HE3, hA⟩
        case measure => simp [intOf]; omega
    · obtain rfl : k = l.length := by omega
      have i2 : ¬ ((l.length : Nat) : Int) < (l.length : Int) := by omega
      have HT2 := Lib.hid (HGood.out (fun j hj => HE.out j hj hj))
      go_wp2
      go_returns
      exact ⟨.inl ⟨HT2.out, rfl⟩, hB⟩
set_option maxRecDepth 100000 in
set_option maxHeartbeats 8000000 in
theorem area_any (v : Value) (l : List V2) (w : World) (h : ReadsVecs w v l) (h0 : 0 < l.length) (hm : l.length ≤ 1000) (ha : allV l = true) :
    Calls Tryz.prog 83 #[v] w fun e w' => e = .returned (.int .i64 (areaZ l)) ∧ Below w.heap.size w w' := by
  obtain ⟨bv, ov, vc, rfl, _, _, hbv, hvs⟩ := h.open h0
  have HVS := Lib.hid hvs
  have HA := Lib.hid (fun k hk => allV_at (l := l) ha (k := k) hk)
  have HD := Lib.hid (fun x1 y1 x2 y2 w' h1 h2 => det_any x1 y1 x2 y2 w' h1 h2)
  have HT := Lib.hid (fun i => area_terms ha h0 i)
  have HBd := Lib.hid (fun k (hk : k ≤ 1000) => area_bnd ha h0 hk)
  have HSu : Hid (∀ k, sumZ (fun i => detV (cyc l i) (cyc l (i + 1))) (k + 1) = sumZ (fun i => detV (cyc l i) (cyc l (i + 1))) k + detV (cyc l k) (cyc l (k + 1))) := fun _ => rfl
  have H00 : Hid (sumZ (fun i => detV (cyc l i) (cyc l (i + 1))) 0 = 0) := rfl
  unfold areaZ
  generalize sumZ (fun i => detV (cyc l i) (cyc l (i + 1))) = S at *
  clear h hvs ha
  go_enter Tryz.func83, Tryz.ntmps83
  go_wp2
  go_loopw [3, 8] (fun s3 s8 wr => ∃ k : Nat, k ≤ l.length ∧ s3 = .int .i64 (S k) ∧ s8 = .int .i64 k ∧ Below w.heap.size w wr) (fun _ s8 _ => l.length - (intOf s8).toNat)
  case atStart => exact ⟨0, Nat.zero_le _, by rw [H00.out], rfl, Below.refl _ _⟩
  case round =>
    obtain ⟨k, hk, rfl, rfl, hB⟩ := hrel
    have i1 : (0 : Int) ≤ (k : Int) := by omega
    by_cases hlt : k < l.length
    · have i2 : (k : Int) < (l.length : Int) := by omega
      have hq : (k + 1) % l.length < l.length := Nat.mod_lt _ h0
      have j3 : (0 : Int) ≤ (((k + 1) % l.length : Nat) : Int) := by omega
      have j4 : (((k + 1) % l.length : Nat) : Int) < (l.length : Int) := by omega
      have j5 : ¬ (l.length : Int) = 0 := by omega
      have j6 : ((l.length : Int) == 0) = false := by simpa using j5
      have j7 : ¬ l.length = 0 := by omega
      have t2 := next_is k l.length
      obtain ⟨c0, c1⟩ := HVS.out wr hB k hlt
      obtain ⟨d0, d1⟩ := HVS.out wr hB _ hq
      rw [cyc_mod] at d0 d1
      have v0 := HA.out k hlt
      have v1 := HA.out _ hq
      rw [cyc_mod] at v1
      have b1 := HBd.out k (by omega)
      have b2 := HT.out k
      have HSk := Lib.hid (HSu.out k)
      unfold detV at HSk b2
      have HDk := Lib.hid (fun w' => HD.out _ _ _ _ w' v0 v1)
      have q0 : IntKind.i64.wrap ((k : Int) + 1) = (k : Int) + 1 := by rw [IntKind.wrap_i64]; omega
      generalize hz : detZ (cyc l k).1 (cyc l k).2 (cyc l (k + 1)).1 (cyc l (k + 1)).2 = z at HSk b2 HDk
      have q1 : IntKind.i64.wrap (S k + z) = S k + z := by rw [IntKind.wrap_i64]; omega
      generalize cyc l k = V at *
      generalize cyc l (k + 1) = U at *
      obtain ⟨x1, y1⟩ := V
      obtain ⟨x2, y2⟩ := U
      dsimp only at c0 c1 d0 d1 HDk
      generalize (k + 1) % l.length = q at *
      have hs := hB.size
      have t0 := cell_lt c0
      have t1 := cell_lt d0
      clear hz v0 v1 HA HD HT HBd HSu H00 HVS b1 b2
      go_wp2_with fail
      have hA2 : Below wr.heap.size wr (wr.alloc (.cells #[.int .i64 x1, .int .i64 y1] 55)) := by go_grown
      have e0 : (wr.alloc (.cells #[.int .i64 x1, .int .i64 y1] 55)).cell? ⟨wr.heap.size, 0, none⟩ = some (.int .i64 x1) := by simp
      have e1 : (wr.alloc (.cells #[.int .i64 x1, .int .i64 y1] 55)).cell? ⟨wr.heap.size, 1, none⟩ = some (.int .i64 y1) := by simp
      replace d1 := (hA2.cell (p := ⟨bv, ov + q * 2 + 1, none⟩) t1).trans d1
      replace d0 := (hA2.cell (p := ⟨bv, ov + q * 2, none⟩) t1).trans d0
      have hB2 := hB.trans (hA2.mono hs)
      obtain ⟨B3, hB3⟩ : ∃ B3, B3 = wr.heap.size := ⟨_, rfl⟩
      rw [← hB3] at e0 e1 ⊢
      generalize (wr.alloc (.cells #[.int .i64 x1, .int .i64 y1] 55)) = W3 at *
      clear hA2 hB3 c0 c1 t0 t1
      have hs3 := hB2.size
      have t0 := cell_lt e0
      have t1 := cell_lt d0
      go_region_held3 (fun w' => w'.cell? ⟨B3, 0, none⟩ = some (.int .i64 (x1)) ∧ w'.cell? ⟨B3, 1, none⟩ = some (.int .i64 (y1)) ∧ w'.cell? ⟨bv, ov + q * 2, none⟩ = some (.int .i64 (x2)) ∧ w'.cell? ⟨bv, ov + q * 2 + 1, none⟩ = some (.int .i64 (y2)) ∧ Below (w.heap.size) W3 w') ((go_split_ands; refine ⟨by (first | (with_reducible assumption) | (go_keep; done) | (go_cell; done) | (go_simp; done) | (simp [*]; done)), by (first | (with_reducible assumption) | (go_keep; done) | (go_cell; done) | (go_simp; done) | (simp [*]; done)), by (first | (with_reducible assumption) | (go_keep; done) | (go_cell; done) | (go_simp; done) | (simp [*]; done)), by (first | (with_reducible assumption) | (go_keep; done) | (go_cell; done) | (go_simp; done) | (simp [*]; done)), by first | (with_reducible assumption) | (go_grown; done)⟩)) (first | (go_at_call 111; go_call (HDk.out _) as e w1 ⟨rfl, hb0⟩; go_split_ands; have q0 : w1.cell? ⟨B3, 0, none⟩ = some (.int .i64 (x1)) := (hb0.cell (p := ⟨B3, 0, none⟩) (by first | (with_reducible assumption) | (go_size; done) | (simp; omega))).trans (by first | (with_reducible assumption) | (go_keep; done) | (go_cell; done) | (go_simp; done) | (simp [*]; done)); have q1 : w1.cell? ⟨B3, 1, none⟩ = some (.int .i64 (y1)) := (hb0.cell (p := ⟨B3, 1, none⟩) (by first | (with_reducible assumption) | (go_size; done) | (simp; omega))).trans (by first | (with_reducible assumption) | (go_keep; done) | (go_cell; done) | (go_simp; done) | (simp [*]; done)); have q2 : w1.cell? ⟨bv, ov + q * 2, none⟩ = some (.int .i64 (x2)) := (hb0.cell (p := ⟨bv, ov + q * 2, none⟩) (by first | (with_reducible assumption) | (go_size; done) | (simp; omega))).trans (by first | (with_reducible assumption) | (go_keep; done) | (go_cell; done) | (go_simp; done) | (simp [*]; done)); have q3 : w1.cell? ⟨bv, ov + q * 2 + 1, none⟩ = some (.int .i64 (y2)) := (hb0.cell (p := ⟨bv, ov + q * 2 + 1, none⟩) (by first | (with_reducible assumption) | (go_size; done) | (simp; omega))).trans (by first | (with_reducible assumption) | (go_keep; done) | (go_cell; done) | (go_simp; done) | (simp [*]; done)); have hs0 : B3 < w1.heap.size := Nat.lt_of_lt_of_le (by first | (with_reducible assumption) | (go_size; done) | (simp; omega)) hb0.size; have hs1 : bv < w1.heap.size := Nat.lt_of_lt_of_le (by first | (with_reducible assumption) | (go_size; done) | (simp; omega)) hb0.size; have hT : Below (w.heap.size) W3 w1 := Below.trans (by first | (with_reducible assumption) | (go_grown; done)) (hb0.mono (by first | (with_reducible assumption) | (go_size; done) | (simp; omega) | omega)); have hTs := hT.size; (try have hT2 : Below W3.heap.size W3 w1 := belowTo (by first | (with_reducible assumption) | (go_grown; done)) hb0); clear hb0))
      have hBk := hB2.trans hT
      go_wp2
      go_roundw
      case rel => exact ⟨k + 1, by omega, by rw [HSk.out], by go_num, hBk⟩
      case measure => simp [intOf]; omega
    · obtain rfl : k = l.length := by omega
      have i2 : ¬ ((l.length : Nat) : Int) < (l.length : Int) := by omega
      go_wp2
      go_returns
      exact ⟨rfl, hB⟩
end Go.Proofs.YtgaeibibeekclabGreatDoor
namespace Go.Proofs.YtgaeibibeekclabGreatDoor
open Go.RowKit
theorem cyc_same {a b : List V2} (hl : a.length = b.length) : a = b ↔ ∀ j, j < a.length → cyc a j = cyc b j := by
  refine ⟨fun h j _ => by rw [h], fun h => List.ext_getElem hl fun j h1 h2 => ?_⟩
  have := h j h1
  rw [cyc_lt h1, cyc_lt h2] at this
  simpa [h1, h2] using this
theorem run_neDiff (x y z u : Int) (w : World) (h : ¬ (x = z ∧ y = u)) : (binOp .neq 55 (.agg #[.int .i64 (x), .int .i64 (y)]) (.agg #[.int .i64 (z), .int .i64 (u)])).run Tryz.prog w = .ok (.bool true) w := by
  have hS : Tryz.prog.underlying 55 = some (.struct (Tryz.prog.fieldsOf 55)) := by kernel_rfl
  have hp : Tryz.prog.stoodInHeld 55 = false := by kernel_rfl
  have u3 := Tryz.underlying3
  have a3 := Tryz.isAgg3
  have z3 := Tryz.sizeOf3
  rw [run_neq_struct, show (10000 : Nat) = 9999 + 1 from rfl, run_equalIn_agg w 9999 55 _ _ hS hp]
  simp only [Program.fieldsOf, Tryz.underlying55]
  by_cases hx : x = z
  · have hy : (y == u) = false := by simpa using fun e => h ⟨hx, e⟩
    subst hx
    go_simp
  · have hx : (x == z) = false := by simpa using hx
    go_simp
set_option maxHeartbeats 4000000 in
theorem sameVecs_any (v1 v2 : Value) (l1 l2 : List V2) (w : World) (h1 : ReadsVecs w v1 l1) (h2 : ReadsVecs w v2 l2) :
    Calls Tryz.prog 16 #[v1, v2] w fun e w' => e = .returned (.bool (decide (l1 = l2))) ∧ Below w.heap.size w w' := by
  by_cases he : l1.length = l2.length
  · by_cases h0 : l1.length = 0
    · have e1 := List.eq_nil_of_length_eq_zero h0
      have e2 := List.eq_nil_of_length_eq_zero (he ▸ h0)
      subst e1 e2
      obtain ⟨a, c, rfl, _⟩ := h1
      obtain ⟨a2, c2, rfl, _⟩ := h2
      exact sameVecs_nil a a2 c c2 w
    · obtain ⟨b1, o1, c1, rfl, _, m1, s1, q1⟩ := h1.open (by omega)
      obtain ⟨b2, o2, c2, rfl, _, m2, s2, q2⟩ := h2.open (by omega)
      have H1 := Lib.hid q1
      have H2 := Lib.hid q2
      have HS := Lib.hid (cyc_same he)
      rw [← he] at H2 ⊢
      obtain ⟨n, hn⟩ : ∃ n, n = l1.length := ⟨_, rfl⟩
      rw [← hn] at H1 H2 HS ⊢
      have hm : n ≤ 576460752303423488 := by omega
      obtain ⟨bd, hbd⟩ : ∃ bd, bd = decide (l1 = l2) := ⟨_, rfl⟩
      rw [← hbd]
      have HBD := Lib.hid hbd
      clear q1 q2 h1 h2 hn he h0 m1 m2 hbd
      go_enter Tryz.func16, Tryz.ntmps16
      go_wp2
      go_loopw [5] (fun i wr => ∃ k : Nat, k ≤ n ∧ i = .int .i64 k ∧ (∀ j, j < k → cyc l1 j = cyc l2 j) ∧ Below w.heap.size w wr) (fun i _ => n - (intOf i).toNat)
      case atStart => exact ⟨0, Nat.zero_le _, rfl, fun j hj => by omega, Below.refl _ _⟩
      case round =>
        obtain ⟨k, hk, rfl, hj, hB⟩ := hrel
        by_cases hlt : k < n
        · obtain ⟨c1, c2⟩ := H1.out wr hB k hlt
          obtain ⟨c3, c4⟩ := H2.out wr hB k hlt
          have HJ : Hid (∀ j, j < k → cyc l1 j = cyc l2 j) := hj
          have i1 : (0 : Int) ≤ (k : Int) := by omega
          have i2 : (k : Int) < (n : Int) := by omega
          clear H1 H2 hj
          by_cases hz : cyc l1 k = cyc l2 k
          · have HZ := Lib.hid hz
            rw [← hz] at c3 c4
            generalize cyc l1 k = z at c1 c2 c3 c4
            obtain ⟨x, y⟩ := z
            dsimp only at c1 c2 c3 c4
            have qe := fun w' => run_neSame x y w'
            clear hz
            go_wp2_with fail
            go_quiet (fail)
            go_wp2
            go_roundw
            case rel => exact ⟨k + 1, by omega, by go_num, fun j hj' => by rcases Nat.lt_succ_iff_lt_or_eq.1 hj' with h | h; exact HJ.out j h; exact h ▸ HZ.out, below_drewN hB _⟩
            case measure => simp [intOf]; omega
          · have hne : ¬ l1 = l2 := fun h => hz (HS.out.1 h k hlt)
            obtain rfl : bd = false := HBD.out.trans (decide_eq_false hne)
            clear HS HJ hne HBD
            generalize cyc l1 k = z1 at c1 c2 hz
            generalize cyc l2 k = z2 at c3 c4 hz
            obtain ⟨x, y⟩ := z1
            obtain ⟨z, u⟩ := z2
            dsimp only at c1 c2 c3 c4
            have qe := fun w' => run_neDiff x y z u w' (fun h => hz (by rw [h.1, h.2]))
            clear hz
            go_wp2_with fail
            go_quiet (fail)
            go_wp2
            go_returns
            exact ⟨rfl, below_drewN hB _⟩
        · obtain rfl : k = n := by omega
          obtain rfl : bd = true := HBD.out.trans (decide_eq_true (HS.out.2 hj))
          clear HS H1 H2 hj HBD
          go_wp2
          go_returns
          exact ⟨rfl, hB⟩
  · obtain ⟨a, c, rfl, _, m1, x1⟩ := h1
    obtain ⟨a2, c2, rfl, _, m2, x2⟩ := h2
    clear x1 x2
    have hd : decide (l1 = l2) = false := decide_eq_false (fun h => he (by rw [h]))
    rw [hd]
    have i1 : ((l1.length : Int) == (l2.length : Int)) = false := by simp; omega
    generalize l1.length = n1 at *
    generalize l2.length = n2 at *
    clear hd
    go_enter Tryz.func16, Tryz.ntmps16
    go_wp2
    go_returns
    exact ⟨rfl, Below.refl _ _⟩
theorem sameVecs_eq (v1 v2 : Value) (l : List V2) (w : World) (h1 : ReadsVecs w v1 l) (h2 : ReadsVecs w v2 l) :
    Calls Tryz.prog 16 #[v1, v2] w fun e w' => e = .returned (.bool true) ∧ Below w.heap.size w w' := by
  have h := sameVecs_any v1 v2 l l w h1 h2
  rw [decide_eq_true (rfl : l = l)] at h
  exact h
end Go.Proofs.YtgaeibibeekclabGreatDoor
