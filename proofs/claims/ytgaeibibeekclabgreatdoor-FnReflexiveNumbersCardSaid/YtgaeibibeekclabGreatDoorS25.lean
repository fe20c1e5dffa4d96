import Derived.Test.YtgaeibibeekclabGreatDoorProg
import Derived.Test.YtgaeibibeekclabGreatDoorS01
import Derived.Test.YtgaeibibeekclabGreatDoorS03
import Derived.Test.YtgaeibibeekclabGreatDoorS04
import Derived.Test.YtgaeibibeekclabGreatDoorS06
import Derived.Test.YtgaeibibeekclabGreatDoorS07
import Derived.Test.YtgaeibibeekclabGreatDoorS08
import Derived.Test.YtgaeibibeekclabGreatDoorS13
import Derived.Test.YtgaeibibeekclabGreatDoorS14
import Derived.Test.YtgaeibibeekclabGreatDoorS15
import Derived.Test.YtgaeibibeekclabGreatDoorS18
import Derived.Test.YtgaeibibeekclabGreatDoorS19
import Derived.Test.YtgaeibibeekclabGreatDoorS22
import Derived.Test.YtgaeibibeekclabGreatDoorS23
import Derived.Test.YtgaeibibeekclabGreatDoorS24
import Derived.WalkKit
import Derived.LaidEql
import Derived.Stop.Asserts
import Derived.RowKitTokens
import Derived.Handy
import Derived.WalkSpells
import Derived.WalkLawsBesides
import Derived.Deep.QuietTactic
import Derived.BigQuiet
import Derived.Lib.Hide
import Derived.Deep.RegionHeld3
import Derived.Deep.DeepCutAuto
import Derived.Deep.AppendLies
import Derived.Laws.OwnMore
import Derived.Laws.MakeOwn
import Derived.OwnWalk
import Derived.WalkSmall
import Derived.Maps.AppendAt
import Derived.RangeFuncBox
import Derived.RegionTactic
import Derived.ChangeAlike
import Derived.RangeFuncNested
import Derived.StillTail
import Derived.OrdersIn
import Derived.AtR
import Derived.RangeFuncBound
import Derived.RangeFuncCalls
import Derived.RangeFuncLeaves
import Derived.Shelf.Abstract
import Derived.OwnWalkIn
import Derived.TacticsInMore
import Derived.LoopNIn
import Derived.LoopIn
import Derived.LaidEqlPtr
import Derived.BigRegion
import Derived.Laws.StructEq
import Derived.Shelf.SlSortCmp.WholeK
import Derived.Laws.IdiomCopy
import Derived.Shelf.SlGeneric
import Derived.Shelf.SlSortCmp.NoneTotal
import Derived.Shelf.SlicesE.Clone
import Derived.Shelf.SlicesQ.Reverse
import Derived.Ground.SlsfProg
import Derived.Ground.SlgnProg
import Derived.Deep.RegionLaw
import Derived.ArgAppend
import Derived.StillTailTactics
import Derived.Laws.EntriesVeiled
namespace Go.Proofs.YtgaeibibeekclabGreatDoor
open Go.RowKit
set_option maxRecDepth 100000 in
set_option maxHeartbeats 16000000 in
theorem l7In_any (v : Value) (l : List V2) (w : World) (h : ReadsVecs w v l) (hp : polyB l = true) :
    Calls Tryz.prog 38 #[v] w fun e w' => e = .returned (.bool (allR l)) ∧ Below w.heap.size w w' := by
  have h30 := poly_len hp
  have h0 : 0 < l.length := by omega
  obtain ⟨bb, off, vc, rfl, _, _, hbv, hvs⟩ := h.open h0
  have HVS := Lib.hid hvs
  have HMb := Lib.hid (fun i => poly_small hp i)
  have HN := Lib.hid (fun i h1 h2 => allR_not (l := l) (i := i) h1 h2)
  have HY := Lib.hid (fun h1 => allR_of (l := l) h1)
  have HSi : Hid (∀ i, reflK l i = decide (detZ (cyc l i).1 (cyc l i).2 (cyc l (i + 1)).1 (cyc l (i + 1)).2 = gcdZ ((cyc l (i + 1)).1 - (cyc l i).1) ((cyc l (i + 1)).2 - (cyc l i).2))) := fun _ => rfl
  generalize allR l = K at *
  clear h hvs hp
  go_enter Tryz.func38, Tryz.ntmps38
  go_wp2
  go_loopw [3] (fun s wr => ∃ k : Nat, k ≤ l.length ∧ s = .int .i64 k ∧ Hid (∀ j, j < k → reflK l j = true) ∧ Below w.heap.size w wr) (fun s _ => l.length - (intOf s).toNat)
  case atStart => exact ⟨0, Nat.zero_le _, rfl, fun j hj => by omega, Below.refl _ _⟩
  case round =>
    obtain ⟨k, hk, rfl, HE, hB⟩ := hrel
    have i1 : (0 : Int) ≤ (k : Int) := by omega
    by_cases hlt : k < l.length
    · have i2 : (k : Int) < (l.length : Int) := by omega
      have hq : (k + 1) % l.length < l.length := Nat.mod_lt _ h0
      have j3 : (0 : Int) ≤ (((k + 1) % l.length : Nat) : Int) := by omega
      have j4 : (((k + 1) % l.length : Nat) : Int) < (l.length : Int) := by omega
      have j5 : ¬ (l.length : Int) = 0 := by omega
      have j6 : ((l.length : Int) == 0) = false := by simpa using j5
      have j7 : ¬ l.length = 0 := by omega
      have t2 := next_is k l.length
      have q0 : IntKind.i64.wrap ((k : Int) + 1) = (k : Int) + 1 := by rw [IntKind.wrap_i64]; omega
      obtain ⟨d0, d1⟩ := HVS.out wr hB k hlt
      obtain ⟨d2, d3⟩ := HVS.out wr hB _ hq
      rw [cyc_mod] at d2 d3
      have HNk := Lib.hid (fun h => HN.out k hlt h)
      have HE2 : Hid (reflK l k = true → ∀ j, j < k + 1 → reflK l j = true) := fun h j h2 => by
        by_cases e : j = k
        · subst e; exact h
        · exact HE.out j (by omega)
      have b0 := HMb.out k
      have b1 := HMb.out (k + 1)
      have HSk := Lib.hid (HSi.out k)
      generalize hz : reflK l k = z at HNk HE2 HSk
      clear hz
      generalize cyc l k = V at *
      generalize cyc l (k + 1) = U at *
      obtain ⟨x1, y1⟩ := V
      obtain ⟨x2, y2⟩ := U
      dsimp only at d0 d1 d2 d3 HSk b0 b1
      generalize (k + 1) % l.length = q at *
      have HW1 := Lib.hid (fun w' => l6gWay_any x1 y1 x2 y2 w' (by unfold big; omega) (by unfold big; omega))
      have HG := Lib.hid (fun w' => l1Gcd_any (x2 - x1) (y2 - y1) w' (by omega) (by omega))
      have HD := Lib.hid (fun w' => l1DetBig_any x1 y1 x2 y2 w' (by unfold big; omega) (by unfold big; omega))
      generalize gcdZ (x2 - x1) (y2 - y1) = G at *
      generalize detZ x1 y1 x2 y2 = D at *
      have hs := hB.size
      clear HMb HSi HVS HE HN HY b0 b1
      go_wp2_with fail
      have hA2 : Below wr.heap.size wr (wr.alloc (.cells #[.int .i64 x2, .int .i64 y2] 55)) := by go_grown
      have e0 : (wr.alloc (.cells #[.int .i64 x2, .int .i64 y2] 55)).cell? ⟨wr.heap.size, 0, none⟩ = some (.int .i64 x2) := by simp
      have e1 : (wr.alloc (.cells #[.int .i64 x2, .int .i64 y2] 55)).cell? ⟨wr.heap.size, 1, none⟩ = some (.int .i64 y2) := by simp
      replace d1 := (hA2.cell (p := ⟨bb, off + k * 2 + 1, none⟩) (cell_lt d0)).trans d1
      replace d0 := (hA2.cell (p := ⟨bb, off + k * 2, none⟩) (cell_lt d0)).trans d0
      have hB2 := hB.trans (hA2.mono hs)
      obtain ⟨B3, hB3⟩ : ∃ B3, B3 = wr.heap.size := ⟨_, rfl⟩
      rw [← hB3] at e0 e1 ⊢
      generalize (wr.alloc (.cells #[.int .i64 x2, .int .i64 y2] 55)) = W3 at *
      clear hA2 hB3 d2 d3 hs hB
      refine wp_region_any (by kernel_rfl) ?_
      try (change wpAny _ _ _ _ _ _ _ (World.drew _))
      refine wpAny_of_held (S := fun w' => Below (W3.heap.size) W3 w') _ _ _ _ ?_
      have hSw : Below (W3.heap.size) W3 (World.drew W3) := by go_grown
      generalize World.drew W3 = wd at hSw ⊢
      refine wpAnyH_take (i := 0) (v := ?_) rfl (by kernel_rfl) (by kernel_rfl) (by kernel_rfl) (fun _ _ _ h => h) (Or.inl ⟨by rfl, ?_⟩) hSw ?_
      rotate_left
      focus (intro w0 hS0; clear hS0; go_simp; try with_reducible rfl)
      refine wpAnyH_take (i := 1) (v := ?_) rfl (by kernel_rfl) (by kernel_rfl) (by kernel_rfl) (fun _ _ _ h => h) (Or.inl ⟨by rfl, ?_⟩) hSw ?_
      rotate_left
      focus (intro w0 hS0; clear hS0; go_simp; try with_reducible rfl)
      refine wpAnyH_take (i := 2) (v := ?_) rfl (by kernel_rfl) (by kernel_rfl) (by kernel_rfl) (fun _ _ _ h => h) (Or.inl ⟨by rfl, ?_⟩) hSw ?_
      rotate_left
      focus (intro w0 hS0; clear hS0; go_simp; try with_reducible rfl)
      refine wpAnyH_take (i := 3) (v := ?_) rfl (by kernel_rfl) (by kernel_rfl) (by kernel_rfl) (fun _ _ _ h => h) (Or.inl ⟨by rfl, ?_⟩) hSw ?_
      rotate_left
      focus (intro w0 hS0; have c0 := (hS0.cell (p := ⟨bb, off + k * 2, none⟩) (cell_lt d0)).trans d0; have c1 := (hS0.cell (p := ⟨bb, off + k * 2 + 1, none⟩) (cell_lt d0)).trans d1; have c2 := (hS0.cell (p := ⟨B3, 0, none⟩) (cell_lt e0)).trans e0; have c3 := (hS0.cell (p := ⟨B3, 1, none⟩) (cell_lt e0)).trans e1; clear hS0; go_simp; try with_reducible rfl)
      refine wpAnyH_take (i := 4) (v := ?_) rfl (by kernel_rfl) (by kernel_rfl) (by kernel_rfl) (fun _ _ _ h => h) (Or.inl ⟨by rfl, ?_⟩) hSw ?_
      rotate_left
      focus (intro w0 hS0; have c0 := (hS0.cell (p := ⟨bb, off + k * 2, none⟩) (cell_lt d0)).trans d0; have c1 := (hS0.cell (p := ⟨bb, off + k * 2 + 1, none⟩) (cell_lt d0)).trans d1; have c2 := (hS0.cell (p := ⟨B3, 0, none⟩) (cell_lt e0)).trans e0; have c3 := (hS0.cell (p := ⟨B3, 1, none⟩) (cell_lt e0)).trans e1; clear hS0; go_simp; try with_reducible rfl)
      refine wpAnyH_ready (rs := [5, 6]) (by kernel_rfl) (by simp) (AllReadyH.cons rfl (fun K hK => ?_) (AllReadyH.cons rfl (fun K hK => ?_) (AllReadyH.nil)))
      focus
        go_simp
        (refine Calls.mono (HW1.out _) ?_; rintro e w4 ⟨rfl, hbX⟩;  replace hSw := belowTo hSw hbX; refine hK.out _ _ hSw (fun _ => ?_); clear hK K hbX)
        refine wpAnyH_ready (rs := [6]) (by kernel_rfl) (by simp) (AllReadyH.cons rfl (fun K hK => ?_) (AllReadyH.nil))
        go_simp
        (have hSa : Below W3.heap.size W3 (w4.alloc (.cells #[.int .i64 0, .int .i64 0] 55)) := hSw.alloc hSw.size _; have Bay0 : (w4.alloc (.cells #[.int .i64 0, .int .i64 0] 55)).cell? ⟨w4.heap.size, 0, none⟩ = some (.int .i64 0) := (by simp); have Bay1 : (w4.alloc (.cells #[.int .i64 0, .int .i64 0] 55)).cell? ⟨w4.heap.size, 1, none⟩ = some (.int .i64 0) := (by simp); have Bayf : ∀ o, (w4.alloc (.cells #[.int .i64 0, .int .i64 0] 55)).frozen? ⟨w4.heap.size, o, none⟩ = false := (fun o => by simp); have Baya := hSw.size; replace hSw := hSa; clear hSa; refine hK.out _ _ hSw (fun _ => ?_); clear hK K; generalize w4.alloc (.cells #[.int .i64 0, .int .i64 0] 55) = wa at *; generalize w4.heap.size = Ba at *)
        refine wpAnyH_ready (rs := [7]) (by kernel_rfl) (by simp) (AllReadyH.cons rfl (fun K hK => ?_) (AllReadyH.nil))
        go_simp
        (have z0 := Bayf 0; have z1 := Bayf 1; have g0 : ((wa.setCell ⟨Ba, 0, none⟩ (.int .i64 (x2 - x1))).setCell ⟨Ba, 1, none⟩ (.int .i64 (y2 - y1))).cell? ⟨Ba, 0, none⟩ = some (.int .i64 (x2 - x1)) := (by first | (go_cell; done) | (go_simp; done) | (simp; done)); have g1 : ((wa.setCell ⟨Ba, 0, none⟩ (.int .i64 (x2 - x1))).setCell ⟨Ba, 1, none⟩ (.int .i64 (y2 - y1))).cell? ⟨Ba, 1, none⟩ = some (.int .i64 (y2 - y1)) := (by first | (go_cell; done) | (go_simp; done) | (simp; done)); have hSE : Below W3.heap.size W3 ((wa.setCell ⟨Ba, 0, none⟩ (.int .i64 (x2 - x1))).setCell ⟨Ba, 1, none⟩ (.int .i64 (y2 - y1))) := (hSw.setCell (p := ⟨Ba, 0, none⟩) Baya _).setCell (p := ⟨Ba, 1, none⟩) Baya _; refine hK.out _ _ hSE (fun _ => ?_); clear hK K hSw Bay0 Bay1 Bayf Baya z0 z1; generalize ((wa.setCell ⟨Ba, 0, none⟩ (.int .i64 (x2 - x1))).setCell ⟨Ba, 1, none⟩ (.int .i64 (y2 - y1))) = W5 at *)
        refine wpAnyH_done (by kernel_rfl) ?_ _
      rotate_left 1
      focus
        go_simp
        (have hSa : Below W3.heap.size W3 (wd.alloc (.cells #[.int .i64 0, .int .i64 0] 55)) := hSw.alloc hSw.size _; have Bay0 : (wd.alloc (.cells #[.int .i64 0, .int .i64 0] 55)).cell? ⟨wd.heap.size, 0, none⟩ = some (.int .i64 0) := (by simp); have Bay1 : (wd.alloc (.cells #[.int .i64 0, .int .i64 0] 55)).cell? ⟨wd.heap.size, 1, none⟩ = some (.int .i64 0) := (by simp); have Bayf : ∀ o, (wd.alloc (.cells #[.int .i64 0, .int .i64 0] 55)).frozen? ⟨wd.heap.size, o, none⟩ = false := (fun o => by simp); have Baya := hSw.size; replace hSw := hSa; clear hSa; refine hK.out _ _ hSw (fun _ => ?_); clear hK K; generalize wd.alloc (.cells #[.int .i64 0, .int .i64 0] 55) = wa at *; generalize wd.heap.size = Ba at *)
        refine wpAnyH_ready (rs := [5]) (by kernel_rfl) (by simp) (AllReadyH.cons rfl (fun K hK => ?_) (AllReadyH.nil))
        go_simp
        (refine Calls.mono (HW1.out _) ?_; rintro e w4 ⟨rfl, hbX⟩; replace Bay1 := (hbX.cell (p := ⟨Ba, 1, none⟩) (cell_lt Bay0)).trans Bay1; replace Bayf := (fun o => (hbX.frozen (p := ⟨Ba, o, none⟩) (cell_lt Bay0)).trans (Bayf o)); replace Bay0 := (hbX.cell (p := ⟨Ba, 0, none⟩) (cell_lt Bay0)).trans Bay0; replace hSw := belowTo hSw hbX; refine hK.out _ _ hSw (fun _ => ?_); clear hK K hbX)
        refine wpAnyH_ready (rs := [7]) (by kernel_rfl) (by simp) (AllReadyH.cons rfl (fun K hK => ?_) (AllReadyH.nil))
        go_simp
        (have z0 := Bayf 0; have z1 := Bayf 1; have g0 : ((w4.setCell ⟨Ba, 0, none⟩ (.int .i64 (x2 - x1))).setCell ⟨Ba, 1, none⟩ (.int .i64 (y2 - y1))).cell? ⟨Ba, 0, none⟩ = some (.int .i64 (x2 - x1)) := (by first | (go_cell; done) | (go_simp; done) | (simp; done)); have g1 : ((w4.setCell ⟨Ba, 0, none⟩ (.int .i64 (x2 - x1))).setCell ⟨Ba, 1, none⟩ (.int .i64 (y2 - y1))).cell? ⟨Ba, 1, none⟩ = some (.int .i64 (y2 - y1)) := (by first | (go_cell; done) | (go_simp; done) | (simp; done)); have hSE : Below W3.heap.size W3 ((w4.setCell ⟨Ba, 0, none⟩ (.int .i64 (x2 - x1))).setCell ⟨Ba, 1, none⟩ (.int .i64 (y2 - y1))) := (hSw.setCell (p := ⟨Ba, 0, none⟩) Baya _).setCell (p := ⟨Ba, 1, none⟩) Baya _; refine hK.out _ _ hSE (fun _ => ?_); clear hK K hSw Bay0 Bay1 Bayf Baya z0 z1; generalize ((w4.setCell ⟨Ba, 0, none⟩ (.int .i64 (x2 - x1))).setCell ⟨Ba, 1, none⟩ (.int .i64 (y2 - y1))) = W5 at *)
        refine wpAnyH_done (by kernel_rfl) ?_ _
      all_goals
        have hB5 := belowTo hB2 hSE
        replace d1 := (hSE.cell (p := ⟨bb, off + k * 2 + 1, none⟩) (cell_lt d0)).trans d1
        replace d0 := (hSE.cell (p := ⟨bb, off + k * 2, none⟩) (cell_lt d0)).trans d0
        replace e1 := (hSE.cell (p := ⟨B3, 1, none⟩) (cell_lt e0)).trans e1
        replace e0 := (hSE.cell (p := ⟨B3, 0, none⟩) (cell_lt e0)).trans e0
        clear hSE hB2
        have s0 := cell_lt d0
        have s1 := cell_lt e0
        have s2 := cell_lt g0
        have hs5 := hB5.size
        go_wp2_with fail
        go_region_held3 (fun w' => w'.cell? ⟨bb, off + k * 2, none⟩ = some (.int .i64 (x1)) ∧ w'.cell? ⟨bb, off + k * 2 + 1, none⟩ = some (.int .i64 (y1)) ∧ w'.cell? ⟨B3, 0, none⟩ = some (.int .i64 (x2)) ∧ w'.cell? ⟨B3, 1, none⟩ = some (.int .i64 (y2)) ∧ w'.cell? ⟨Ba, 0, none⟩ = some (.int .i64 (x2 - x1)) ∧ w'.cell? ⟨Ba, 1, none⟩ = some (.int .i64 (y2 - y1)) ∧ Below W5.heap.size W5 w') ((go_split_ands; refine ⟨by (first | (with_reducible assumption) | (go_keep; done) | (go_cell; done) | (go_simp; done) | (simp [*]; done)), by (first | (with_reducible assumption) | (go_keep; done) | (go_cell; done) | (go_simp; done) | (simp [*]; done)), by (first | (with_reducible assumption) | (go_keep; done) | (go_cell; done) | (go_simp; done) | (simp [*]; done)), by (first | (with_reducible assumption) | (go_keep; done) | (go_cell; done) | (go_simp; done) | (simp [*]; done)), by (first | (with_reducible assumption) | (go_keep; done) | (go_cell; done) | (go_simp; done) | (simp [*]; done)), by (first | (with_reducible assumption) | (go_keep; done) | (go_cell; done) | (go_simp; done) | (simp [*]; done)), by first | (with_reducible assumption) | (go_grown; done)⟩)) (first | (go_at_call 70; go_call (HD.out _) as e w1 ⟨rfl, hb0⟩; go_split_ands; have q0 : w1.cell? ⟨bb, off + k * 2, none⟩ = some (.int .i64 (x1)) := (hb0.cell (p := ⟨bb, off + k * 2, none⟩) (by first | (with_reducible assumption) | (go_size; done) | (simp; omega))).trans (by first | (with_reducible assumption) | (go_keep; done) | (go_cell; done) | (go_simp; done) | (simp [*]; done)); have q1 : w1.cell? ⟨bb, off + k * 2 + 1, none⟩ = some (.int .i64 (y1)) := (hb0.cell (p := ⟨bb, off + k * 2 + 1, none⟩) (by first | (with_reducible assumption) | (go_size; done) | (simp; omega))).trans (by first | (with_reducible assumption) | (go_keep; done) | (go_cell; done) | (go_simp; done) | (simp [*]; done)); have q2 : w1.cell? ⟨B3, 0, none⟩ = some (.int .i64 (x2)) := (hb0.cell (p := ⟨B3, 0, none⟩) (by first | (with_reducible assumption) | (go_size; done) | (simp; omega))).trans (by first | (with_reducible assumption) | (go_keep; done) | (go_cell; done) | (go_simp; done) | (simp [*]; done)); have q3 : w1.cell? ⟨B3, 1, none⟩ = some (.int .i64 (y2)) := (hb0.cell (p := ⟨B3, 1, none⟩) (by first | (with_reducible assumption) | (go_size; done) | (simp; omega))).trans (by first | (with_reducible assumption) | (go_keep; done) | (go_cell; done) | (go_simp; done) | (simp [*]; done)); have q4 : w1.cell? ⟨Ba, 0, none⟩ = some (.int .i64 (x2 - x1)) := (hb0.cell (p := ⟨Ba, 0, none⟩) (by first | (with_reducible assumption) | (go_size; done) | (simp; omega))).trans (by first | (with_reducible assumption) | (go_keep; done) | (go_cell; done) | (go_simp; done) | (simp [*]; done)); have q5 : w1.cell? ⟨Ba, 1, none⟩ = some (.int .i64 (y2 - y1)) := (hb0.cell (p := ⟨Ba, 1, none⟩) (by first | (with_reducible assumption) | (go_size; done) | (simp; omega))).trans (by first | (with_reducible assumption) | (go_keep; done) | (go_cell; done) | (go_simp; done) | (simp [*]; done)); have hs0 : bb < w1.heap.size := Nat.lt_of_lt_of_le (by first | (with_reducible assumption) | (go_size; done) | (simp; omega)) hb0.size; have hs1 : B3 < w1.heap.size := Nat.lt_of_lt_of_le (by first | (with_reducible assumption) | (go_size; done) | (simp; omega)) hb0.size; have hs2 : Ba < w1.heap.size := Nat.lt_of_lt_of_le (by first | (with_reducible assumption) | (go_size; done) | (simp; omega)) hb0.size; have hT : Below W5.heap.size W5 w1 := belowTo (by first | (with_reducible assumption) | (go_grown; done)) hb0; have hTs := hT.size; clear hb0) | (go_at_call 53; go_call (HG.out _) as e w1 ⟨rfl, hb0⟩; go_split_ands; have q0 : w1.cell? ⟨bb, off + k * 2, none⟩ = some (.int .i64 (x1)) := (hb0.cell (p := ⟨bb, off + k * 2, none⟩) (by first | (with_reducible assumption) | (go_size; done) | (simp; omega))).trans (by first | (with_reducible assumption) | (go_keep; done) | (go_cell; done) | (go_simp; done) | (simp [*]; done)); have q1 : w1.cell? ⟨bb, off + k * 2 + 1, none⟩ = some (.int .i64 (y1)) := (hb0.cell (p := ⟨bb, off + k * 2 + 1, none⟩) (by first | (with_reducible assumption) | (go_size; done) | (simp; omega))).trans (by first | (with_reducible assumption) | (go_keep; done) | (go_cell; done) | (go_simp; done) | (simp [*]; done)); have q2 : w1.cell? ⟨B3, 0, none⟩ = some (.int .i64 (x2)) := (hb0.cell (p := ⟨B3, 0, none⟩) (by first | (with_reducible assumption) | (go_size; done) | (simp; omega))).trans (by first | (with_reducible assumption) | (go_keep; done) | (go_cell; done) | (go_simp; done) | (simp [*]; done)); have q3 : w1.cell? ⟨B3, 1, none⟩ = some (.int .i64 (y2)) := (hb0.cell (p := ⟨B3, 1, none⟩) (by first | (with_reducible assumption) | (go_size; done) | (simp; omega))).trans (by first | (with_reducible assumption) | (go_keep; done) | (go_cell; done) | (go_simp; done) | (simp [*]; done)); have q4 : w1.cell? ⟨Ba, 0, none⟩ = some (.int .i64 (x2 - x1)) := (hb0.cell (p := ⟨Ba, 0, none⟩) (by first | (with_reducible assumption) | (go_size; done) | (simp; omega))).trans (by first | (with_reducible assumption) | (go_keep; done) | (go_cell; done) | (go_simp; done) | (simp [*]; done)); have q5 : w1.cell? ⟨Ba, 1, none⟩ = some (.int .i64 (y2 - y1)) := (hb0.cell (p := ⟨Ba, 1, none⟩) (by first | (with_reducible assumption) | (go_size; done) | (simp; omega))).trans (by first | (with_reducible assumption) | (go_keep; done) | (go_cell; done) | (go_simp; done) | (simp [*]; done)); have hs0 : bb < w1.heap.size := Nat.lt_of_lt_of_le (by first | (with_reducible assumption) | (go_size; done) | (simp; omega)) hb0.size; have hs1 : B3 < w1.heap.size := Nat.lt_of_lt_of_le (by first | (with_reducible assumption) | (go_size; done) | (simp; omega)) hb0.size; have hs2 : Ba < w1.heap.size := Nat.lt_of_lt_of_le (by first | (with_reducible assumption) | (go_size; done) | (simp; omega)) hb0.size; have hT : Below W5.heap.size W5 w1 := belowTo (by first | (with_reducible assumption) | (go_grown; done)) hb0; have hTs := hT.size; clear hb0))
        have hBk := hB5.trans (hT.mono hs5)
        by_cases hq2 : D = G
        · have HF := Lib.hid (HE2.out (by rw [HSk.out]; simpa using hq2))
          clear HSk HNk HE2
          go_wp2
          go_roundw
          case rel => exact ⟨k + 1, by omega, by go_num, HF.out, hBk⟩
          case measure => simp [intOf]; omega
        · have HF := Lib.hid (HNk.out (by rw [HSk.out]; simpa using hq2))
          clear HSk HNk HE2
          go_wp2
          go_returns
          exact ⟨by rw [HF.out]; rfl, hBk⟩
    · obtain rfl : k = l.length := by omega
      have i2 : ¬ ((l.length : Nat) : Int) < (l.length : Int) := by omega
      have HF := Lib.hid (HY.out HE.out)
      go_wp2
      go_returns
      exact ⟨by rw [HF.out]; rfl, hB⟩
theorem least_refl {l : List V2} (h : polyB l = true) (hr : allR l = true) : decide (0 < leastZ l (0, 0) (l.length - 1)) = true := by
  have h0 : 0 < l.length := by have := poly_len h; omega
  rw [decide_eq_true_iff]
  have := (least_iff (l := l) (z := (0, 0)) (s := 1) (l.length - 1)).2 (fun i _ => by
    have q := refl_inner (l := l) (by unfold reflB; rw [h, hr]; rfl) i
    unfold detV detZ at q
    unfold sideZ dtV wyV subV
    dsimp only
    have e : ((cyc l (i + 1)).1 - (cyc l i).1) * (0 - (cyc l i).2) - ((cyc l (i + 1)).2 - (cyc l i).2) * (0 - (cyc l i).1) = (cyc l i).1 * (cyc l (i + 1)).2 - (cyc l i).2 * (cyc l (i + 1)).1 := by grind
    rw [e]
    omega)
  omega
set_option maxHeartbeats 4000000 in
theorem specReflexiveIn_any (v : Value) (l : List V2) (w : World) (h : ReadsVecs w v l) :
    Calls Tryz.prog 10 #[v] w fun e w' => e = .returned (.bool (reflB l)) ∧ Below w.heap.size w w' := by
  have HC := Lib.hid (fun w' (hb : Below w.heap.size w w') => specPolygonIn_any v l w' (h.below hb))
  have HL := Lib.hid (fun w' (hb : Below w.heap.size w w') hp => l6gLeast_any v l 0 0 w' (h.below hb) hp (by decide))
  have HI := Lib.hid (fun w' (hb : Below w.heap.size w w') hp => l7In_any v l w' (h.below hb) hp)
  have HZ := Lib.hid (fun hp hr => least_refl (l := l) hp hr)
  obtain ⟨a, c, rfl, _⟩ := h
  unfold reflB
  generalize leastZ l (0, 0) (l.length - 1) = D at *
  generalize allR l = K at *
  cases hk : polyB l
  · rw [hk] at HC
    clear hk HL HZ HI
    go_enter Tryz.func10, Tryz.ntmps10
    go_wp2_with fail
    refine Calls.mono (HC.out _ (by go_grown)) ?_
    rintro e w1 ⟨rfl, hb1⟩
    have hb : Below w.heap.size w w1 := belowTo (by go_grown) hb1
    clear hb1
    go_wp2
    go_returns
    exact ⟨rfl, hb⟩
  · rw [hk] at HC
    have HL2 := Lib.hid (fun w' hb => HL.out w' hb hk)
    have HI2 := Lib.hid (fun w' hb => HI.out w' hb hk)
    have HZ2 := Lib.hid (fun hr => HZ.out hk hr)
    clear hk HL HZ HI
    by_cases hd : 0 < D
    · go_enter Tryz.func10, Tryz.ntmps10
      go_wp2_with fail
      refine Calls.mono (HC.out _ (by go_grown)) ?_
      rintro e w1 ⟨rfl, hb1⟩
      have hb : Below w.heap.size w w1 := belowTo (by go_grown) hb1
      clear hb1
      go_wp2_with fail
      refine Calls.mono (HL2.out _ hb) ?_
      rintro e w2 ⟨rfl, hb2⟩
      replace hb := belowTo hb hb2
      clear hb2
      go_wp2_with fail
      refine Calls.mono (HI2.out _ hb) ?_
      rintro e w3 ⟨rfl, hb3⟩
      replace hb := belowTo hb hb3
      clear hb3
      go_wp2
      go_returns
      exact ⟨by cases K <;> rfl, hb⟩
    · have hK : K = false := by
        cases K
        · rfl
        · have := HZ2.out rfl
          simp at this
          omega
      subst hK
      go_enter Tryz.func10, Tryz.ntmps10
      go_wp2_with fail
      refine Calls.mono (HC.out _ (by go_grown)) ?_
      rintro e w1 ⟨rfl, hb1⟩
      have hb : Below w.heap.size w w1 := belowTo (by go_grown) hb1
      clear hb1
      go_wp2_with fail
      refine Calls.mono (HL2.out _ hb) ?_
      rintro e w2 ⟨rfl, hb2⟩
      replace hb := belowTo hb hb2
      clear hb2
      go_wp2
      go_returns
      exact ⟨rfl, hb⟩
end Go.Proofs.YtgaeibibeekclabGreatDoor
namespace Go.Proofs.YtgaeibibeekclabGreatDoor
open Go.RowKit
theorem nrm_snocD (l : List V2) (k : Nat) : (List.range (k + 1)).map (nrmZ l) = (List.range k).map (nrmZ l) ++ [nrmZ l k] := by simp [List.range_succ]
theorem nz_ofD {x y : Int} (h : ¬ (x = 0 ∧ y = 0)) : nzB x y = true := by
  cases k : nzB x y
  · exact (h (by simpa [nzB] using k)).elim
  · rfl
set_option maxRecDepth 100000 in
set_option maxHeartbeats 32000000 in
theorem l7Dual_any (v : Value) (l : List V2) (w : World) (h : ReadsVecs w v l) (hk : polyB l = true) :
    Calls Tryz.prog 45 #[v] w (GivesVecs w (tidyP (nrmL l))) := by
  obtain ⟨i0, hi, hz0, hz1, hz2⟩ := info_parts infoVec
  have hE := Vecs.empty w
  have h30 := poly_len hk
  have h0 : 0 < l.length := by omega
  obtain ⟨bb, off, vc, rfl, _, _, hbv, hvs⟩ := h.open h0
  have HVS := Lib.hid hvs
  have HMb := Lib.hid (fun i => poly_small hk i)
  have HWv := Lib.hid (fun i => way_vec hk i)
  have HWn := Lib.hid (fun i => nz_ofD (way_nz hk i))
  have HX := Lib.hid (fun k => nrm_snocD l k)
  have HWz : Hid (∀ i, wayZ l i = ((cyc l (i + 1)).1 - (cyc l i).1, (cyc l (i + 1)).2 - (cyc l i).2)) := fun _ => rfl
  have HNz : Hid (∀ k, nrmZ l k = (-((wayZ l k).2.tdiv (gcdZ (wayZ l k).1 (wayZ l k).2)), (wayZ l k).1.tdiv (gcdZ (wayZ l k).1 (wayZ l k).2))) := fun _ => rfl
  have HZ : Hid (nrmL l = (List.range l.length).map (nrmZ l)) := rfl
  have HLn := Lib.hid (nrm_len l)
  have HFo := Lib.hid (fun v' w' hV => l6gTidy_any v' (nrmL l) w' hV (by rw [nrm_len]; exact h0) (by rw [nrm_len]; omega))
  have HE1 := Lib.hid hE
  generalize tidyP (nrmL l) = R at *
  generalize nrmL l = N at *
  clear h hvs hk hE
  go_enter Tryz.func45, Tryz.ntmps45
  go_wp2
  go_loopw [3, 4] (fun s4 s5 wr => ∃ k : Nat, k ≤ l.length ∧ s5 = .int .i64 k ∧ Hid (Vecs wr w.heap.size s4 ((List.range k).map (nrmZ l))) ∧ Below w.heap.size w wr) (fun _ s5 _ => l.length - (intOf s5).toNat)
  case atStart => exact ⟨0, Nat.zero_le _, rfl, HE1.out, by go_grown⟩
  case round =>
    obtain ⟨k, hk, rfl, HI, hB⟩ := hrel
    have i1 : (0 : Int) ≤ (k : Int) := by omega
    by_cases hlt : k < l.length
    · have i2 : (k : Int) < (l.length : Int) := by omega
      have hq : (k + 1) % l.length < l.length := Nat.mod_lt _ h0
      have j3 : (0 : Int) ≤ (((k + 1) % l.length : Nat) : Int) := by omega
      have j4 : (((k + 1) % l.length : Nat) : Int) < (l.length : Int) := by omega
      have j5 : ¬ (l.length : Int) = 0 := by omega
      have j6 : ((l.length : Int) == 0) = false := by simpa using j5
      have j7 : ¬ l.length = 0 := by omega
      have t2 := next_is k l.length
      have q0 : IntKind.i64.wrap ((k : Int) + 1) = (k : Int) + 1 := by rw [IntKind.wrap_i64]; omega
      obtain ⟨d0, d1⟩ := HVS.out wr hB k hlt
      obtain ⟨d2, d3⟩ := HVS.out wr hB _ hq
      rw [cyc_mod] at d2 d3
      have b0 := HMb.out k
      have b1 := HMb.out (k + 1)
      have hv := HWv.out k
      have hnz := HWn.out k
      have HXk := Lib.hid (HX.out k)
      rw [HNz.out k] at HXk
      rw [HWz.out k] at hv hnz HXk
      have hkl : ((List.range k).map (nrmZ l)).length = k := by simp
      generalize cyc l k = V at *
      generalize cyc l (k + 1) = U at *
      obtain ⟨x1, y1⟩ := V
      obtain ⟨x2, y2⟩ := U
      dsimp only at d0 d1 d2 d3 HXk b0 b1 hv hnz
      generalize (k + 1) % l.length = q at *
      have HW1 := Lib.hid (fun w' => l6gWay_any x1 y1 x2 y2 w' (by unfold big; omega) (by unfold big; omega))
      have HP := Lib.hid (fun w' => l1Primitive_any (x2 - x1) (y2 - y1) w' hv hnz)
      obtain ⟨c1, c2⟩ := szs hv
      have p1 := tdiv_bd (m := gcdZ (x2 - x1) (y2 - y1)) c1
      have p2 := tdiv_bd (m := gcdZ (x2 - x1) (y2 - y1)) c2
      generalize (x2 - x1).tdiv (gcdZ (x2 - x1) (y2 - y1)) = px at *
      generalize (y2 - y1).tdiv (gcdZ (x2 - x1) (y2 - y1)) = py at *
      have q1 : IntKind.i64.wrap (-py) = -py := by rw [IntKind.wrap_i64]; omega
      clear HMb HWv HWn HX HNz HWz HVS b0 b1 hv hnz c1 c2 p1 p2
      go_wp2
      refine wp_region_any (by kernel_rfl) ?_
      try (change wpAny _ _ _ _ _ _ _ (World.drew _))
      refine wpAny_of_held (S := fun w' => Below (wr.heap.size) wr w') _ _ _ _ ?_
      have hSw : Below (wr.heap.size) wr (World.drew wr) := by go_grown
      generalize World.drew wr = wd at hSw ⊢
      refine wpAnyH_take (i := 0) (v := ?_) rfl (by kernel_rfl) (by kernel_rfl) (by kernel_rfl) (fun _ _ _ h => h) (Or.inl ⟨by rfl, ?_⟩) hSw ?_
      rotate_left
      focus (intro w0 hS0; clear hS0; go_simp; try with_reducible rfl)
      refine wpAnyH_take (i := 1) (v := ?_) rfl (by kernel_rfl) (by kernel_rfl) (by kernel_rfl) (fun _ _ _ h => h) (Or.inl ⟨by rfl, ?_⟩) hSw ?_
      rotate_left
      focus (intro w0 hS0; clear hS0; go_simp; try with_reducible rfl)
      refine wpAnyH_take (i := 2) (v := ?_) rfl (by kernel_rfl) (by kernel_rfl) (by kernel_rfl) (fun _ _ _ h => h) (Or.inl ⟨by rfl, ?_⟩) hSw ?_
      rotate_left
      focus (intro w0 hS0; clear hS0; go_simp; try with_reducible rfl)
      refine wpAnyH_take (i := 3) (v := ?_) rfl (by kernel_rfl) (by kernel_rfl) (by kernel_rfl) (fun _ _ _ h => h) (Or.inl ⟨by rfl, ?_⟩) hSw ?_
      rotate_left
      focus (intro w0 hS0; have c0 := (hS0.cell (p := ⟨bb, off + k * 2, none⟩) (cell_lt d0)).trans d0; have c1 := (hS0.cell (p := ⟨bb, off + k * 2 + 1, none⟩) (cell_lt d0)).trans d1; have c2 := (hS0.cell (p := ⟨bb, off + q * 2, none⟩) (cell_lt d2)).trans d2; have c3 := (hS0.cell (p := ⟨bb, off + q * 2 + 1, none⟩) (cell_lt d2)).trans d3; clear hS0; go_simp; try with_reducible rfl)
      refine wpAnyH_take (i := 4) (v := ?_) rfl (by kernel_rfl) (by kernel_rfl) (by kernel_rfl) (fun _ _ _ h => h) (Or.inl ⟨by rfl, ?_⟩) hSw ?_
      rotate_left
      focus (intro w0 hS0; clear hS0; go_simp; try with_reducible rfl)
      refine wpAnyH_take (i := 5) (v := ?_) rfl (by kernel_rfl) (by kernel_rfl) (by kernel_rfl) (fun _ _ _ h => h) (Or.inl ⟨by rfl, ?_⟩) hSw ?_
      rotate_left
      focus (intro w0 hS0; clear hS0; go_simp; try with_reducible rfl)
      refine wpAnyH_take (i := 6) (v := ?_) rfl (by kernel_rfl) (by kernel_rfl) (by kernel_rfl) (fun _ _ _ h => h) (Or.inl ⟨by rfl, ?_⟩) hSw ?_
      rotate_left
      focus (intro w0 hS0; clear hS0; go_simp; try with_reducible rfl)
      refine wpAnyH_take (i := 7) (v := ?_) rfl (by kernel_rfl) (by kernel_rfl) (by kernel_rfl) (fun _ _ _ h => h) (Or.inl ⟨by rfl, ?_⟩) hSw ?_
      rotate_left
      focus (intro w0 hS0; clear hS0; go_simp; try with_reducible rfl)
      refine wpAnyH_take (i := 8) (v := ?_) rfl (by kernel_rfl) (by kernel_rfl) (by kernel_rfl) (fun _ _ _ h => h) (Or.inl ⟨by rfl, ?_⟩) hSw ?_
      rotate_left
      focus (intro w0 hS0; clear hS0; go_simp; try with_reducible rfl)
      refine wpAnyH_take (i := 9) (v := ?_) rfl (by kernel_rfl) (by kernel_rfl) (by kernel_rfl) (fun _ _ _ h => h) (Or.inl ⟨by rfl, ?_⟩) hSw ?_
      rotate_left
      focus (intro w0 hS0; clear hS0; go_simp; try with_reducible rfl)
      refine wpAnyH_take (i := 10) (v := ?_) rfl (by kernel_rfl) (by kernel_rfl) (by kernel_rfl) (fun _ _ _ h => h) (Or.inl ⟨by rfl, ?_⟩) hSw ?_
      rotate_left
      focus (intro w0 hS0; clear hS0; go_simp; try with_reducible rfl)
      refine wpAnyH_take (i := 11) (v := ?_) rfl (by kernel_rfl) (by kernel_rfl) (by kernel_rfl) (fun _ _ _ h => h) (Or.inl ⟨by rfl, ?_⟩) hSw ?_
      rotate_left
      focus (intro w0 hS0; have c0 := (hS0.cell (p := ⟨bb, off + k * 2, none⟩) (cell_lt d0)).trans d0; have c1 := (hS0.cell (p := ⟨bb, off + k * 2 + 1, none⟩) (cell_lt d0)).trans d1; have c2 := (hS0.cell (p := ⟨bb, off + q * 2, none⟩) (cell_lt d2)).trans d2; have c3 := (hS0.cell (p := ⟨bb, off + q * 2 + 1, none⟩) (cell_lt d2)).trans d3; clear hS0; go_simp; try with_reducible rfl)
      refine wpAnyH_ready (rs := [12, 14]) (by kernel_rfl) (by simp) (AllReadyH.cons rfl (fun K hK => ?_) (AllReadyH.cons rfl (fun K hK => ?_) (AllReadyH.nil)))
      focus
        go_simp
        (refine Calls.mono (HW1.out _) ?_; rintro e w4 ⟨rfl, hbX⟩;  replace hSw := belowTo hSw hbX; refine hK.out _ _ hSw (fun _ => ?_); clear hK K hbX)
        refine wpAnyH_ready (rs := [13, 14]) (by kernel_rfl) (by simp) (AllReadyH.cons rfl (fun K hK => ?_) (AllReadyH.cons rfl (fun K hK => ?_) (AllReadyH.nil)))
        focus
          go_simp
          (refine Calls.mono (HP.out _) ?_; rintro e w6 ⟨rfl, hbX⟩;  replace hSw := belowTo hSw hbX; refine hK.out _ _ hSw (fun _ => ?_); clear hK K hbX)
          refine wpAnyH_ready (rs := [14]) (by kernel_rfl) (by simp) (AllReadyH.cons rfl (fun K hK => ?_) (AllReadyH.nil))
          go_simp
          (have hSa : Below wr.heap.size wr (w6.alloc (.cells #[.int .i64 0, .int .i64 0] 55)) := hSw.alloc hSw.size _; have Bay0 : (w6.alloc (.cells #[.int .i64 0, .int .i64 0] 55)).cell? ⟨w6.heap.size, 0, none⟩ = some (.int .i64 0) := (by simp); have Bay1 : (w6.alloc (.cells #[.int .i64 0, .int .i64 0] 55)).cell? ⟨w6.heap.size, 1, none⟩ = some (.int .i64 0) := (by simp); have Bayf : ∀ o, (w6.alloc (.cells #[.int .i64 0, .int .i64 0] 55)).frozen? ⟨w6.heap.size, o, none⟩ = false := (fun o => by simp); have Baya := hSw.size; replace hSw := hSa; clear hSa; refine hK.out _ _ hSw (fun _ => ?_); clear hK K; generalize w6.alloc (.cells #[.int .i64 0, .int .i64 0] 55) = wa at *; generalize w6.heap.size = Ba at *)
          refine wpAnyH_ready (rs := [15]) (by kernel_rfl) (by simp) (AllReadyH.cons rfl (fun K hK => ?_) (AllReadyH.nil))
          go_simp
          (have z0 := Bayf 0; have z1 := Bayf 1; have g0 : ((wa.setCell ⟨Ba, 0, none⟩ (.int .i64 (px))).setCell ⟨Ba, 1, none⟩ (.int .i64 (py))).cell? ⟨Ba, 0, none⟩ = some (.int .i64 (px)) := (by first | (go_cell; done) | (go_simp; done) | (simp; done)); have g1 : ((wa.setCell ⟨Ba, 0, none⟩ (.int .i64 (px))).setCell ⟨Ba, 1, none⟩ (.int .i64 (py))).cell? ⟨Ba, 1, none⟩ = some (.int .i64 (py)) := (by first | (go_cell; done) | (go_simp; done) | (simp; done)); have hSE : Below wr.heap.size wr ((wa.setCell ⟨Ba, 0, none⟩ (.int .i64 (px))).setCell ⟨Ba, 1, none⟩ (.int .i64 (py))) := (hSw.setCell (p := ⟨Ba, 0, none⟩) Baya _).setCell (p := ⟨Ba, 1, none⟩) Baya _; refine hK.out _ _ hSE (fun _ => ?_); clear hK K hSw Bay0 Bay1 Bayf Baya z0 z1; generalize ((wa.setCell ⟨Ba, 0, none⟩ (.int .i64 (px))).setCell ⟨Ba, 1, none⟩ (.int .i64 (py))) = W5 at *)
          refine wpAnyH_done (by kernel_rfl) ?_ _
        rotate_left 1
        focus
          go_simp
          (have hSa : Below wr.heap.size wr (w4.alloc (.cells #[.int .i64 0, .int .i64 0] 55)) := hSw.alloc hSw.size _; have Bay0 : (w4.alloc (.cells #[.int .i64 0, .int .i64 0] 55)).cell? ⟨w4.heap.size, 0, none⟩ = some (.int .i64 0) := (by simp); have Bay1 : (w4.alloc (.cells #[.int .i64 0, .int .i64 0] 55)).cell? ⟨w4.heap.size, 1, none⟩ = some (.int .i64 0) := (by simp); have Bayf : ∀ o, (w4.alloc (.cells #[.int .i64 0, .int .i64 0] 55)).frozen? ⟨w4.heap.size, o, none⟩ = false := (fun o => by simp); have Baya := hSw.size; replace hSw := hSa; clear hSa; refine hK.out _ _ hSw (fun _ => ?_); clear hK K; generalize w4.alloc (.cells #[.int .i64 0, .int .i64 0] 55) = wa at *; generalize w4.heap.size = Ba at *)
          refine wpAnyH_ready (rs := [13]) (by kernel_rfl) (by simp) (AllReadyH.cons rfl (fun K hK => ?_) (AllReadyH.nil))
          go_simp
          (refine Calls.mono (HP.out _) ?_; rintro e w6 ⟨rfl, hbX⟩; replace Bay1 := (hbX.cell (p := ⟨Ba, 1, none⟩) (cell_lt Bay0)).trans Bay1; replace Bayf := (fun o => (hbX.frozen (p := ⟨Ba, o, none⟩) (cell_lt Bay0)).trans (Bayf o)); replace Bay0 := (hbX.cell (p := ⟨Ba, 0, none⟩) (cell_lt Bay0)).trans Bay0; replace hSw := belowTo hSw hbX; refine hK.out _ _ hSw (fun _ => ?_); clear hK K hbX)
          refine wpAnyH_ready (rs := [15]) (by kernel_rfl) (by simp) (AllReadyH.cons rfl (fun K hK => ?_) (AllReadyH.nil))
          go_simp
          (have z0 := Bayf 0; have z1 := Bayf 1; have g0 : ((w6.setCell ⟨Ba, 0, none⟩ (.int .i64 (px))).setCell ⟨Ba, 1, none⟩ (.int .i64 (py))).cell? ⟨Ba, 0, none⟩ = some (.int .i64 (px)) := (by first | (go_cell; done) | (go_simp; done) | (simp; done)); have g1 : ((w6.setCell ⟨Ba, 0, none⟩ (.int .i64 (px))).setCell ⟨Ba, 1, none⟩ (.int .i64 (py))).cell? ⟨Ba, 1, none⟩ = some (.int .i64 (py)) := (by first | (go_cell; done) | (go_simp; done) | (simp; done)); have hSE : Below wr.heap.size wr ((w6.setCell ⟨Ba, 0, none⟩ (.int .i64 (px))).setCell ⟨Ba, 1, none⟩ (.int .i64 (py))) := (hSw.setCell (p := ⟨Ba, 0, none⟩) Baya _).setCell (p := ⟨Ba, 1, none⟩) Baya _; refine hK.out _ _ hSE (fun _ => ?_); clear hK K hSw Bay0 Bay1 Bayf Baya z0 z1; generalize ((w6.setCell ⟨Ba, 0, none⟩ (.int .i64 (px))).setCell ⟨Ba, 1, none⟩ (.int .i64 (py))) = W5 at *)
          refine wpAnyH_done (by kernel_rfl) ?_ _
      rotate_left 2
      focus
        go_simp
        (have hSa : Below wr.heap.size wr (wd.alloc (.cells #[.int .i64 0, .int .i64 0] 55)) := hSw.alloc hSw.size _; have Bay0 : (wd.alloc (.cells #[.int .i64 0, .int .i64 0] 55)).cell? ⟨wd.heap.size, 0, none⟩ = some (.int .i64 0) := (by simp); have Bay1 : (wd.alloc (.cells #[.int .i64 0, .int .i64 0] 55)).cell? ⟨wd.heap.size, 1, none⟩ = some (.int .i64 0) := (by simp); have Bayf : ∀ o, (wd.alloc (.cells #[.int .i64 0, .int .i64 0] 55)).frozen? ⟨wd.heap.size, o, none⟩ = false := (fun o => by simp); have Baya := hSw.size; replace hSw := hSa; clear hSa; refine hK.out _ _ hSw (fun _ => ?_); clear hK K; generalize wd.alloc (.cells #[.int .i64 0, .int .i64 0] 55) = wa at *; generalize wd.heap.size = Ba at *)
        refine wpAnyH_ready (rs := [12]) (by kernel_rfl) (by simp) (AllReadyH.cons rfl (fun K hK => ?_) (AllReadyH.nil))
        go_simp
        (refine Calls.mono (HW1.out _) ?_; rintro e w4 ⟨rfl, hbX⟩; replace Bay1 := (hbX.cell (p := ⟨Ba, 1, none⟩) (cell_lt Bay0)).trans Bay1; replace Bayf := (fun o => (hbX.frozen (p := ⟨Ba, o, none⟩) (cell_lt Bay0)).trans (Bayf o)); replace Bay0 := (hbX.cell (p := ⟨Ba, 0, none⟩) (cell_lt Bay0)).trans Bay0; replace hSw := belowTo hSw hbX; refine hK.out _ _ hSw (fun _ => ?_); clear hK K hbX)
        refine wpAnyH_ready (rs := [13]) (by kernel_rfl) (by simp) (AllReadyH.cons rfl (fun K hK => ?_) (AllReadyH.nil))
        go_simp
        (refine Calls.mono (HP.out _) ?_; rintro e w6 ⟨rfl, hbX⟩; replace Bay1 := (hbX.cell (p := ⟨Ba, 1, none⟩) (cell_lt Bay0)).trans Bay1; replace Bayf := (fun o => (hbX.frozen (p := ⟨Ba, o, none⟩) (cell_lt Bay0)).trans (Bayf o)); replace Bay0 := (hbX.cell (p := ⟨Ba, 0, none⟩) (cell_lt Bay0)).trans Bay0; replace hSw := belowTo hSw hbX; refine hK.out _ _ hSw (fun _ => ?_); clear hK K hbX)
        refine wpAnyH_ready (rs := [15]) (by kernel_rfl) (by simp) (AllReadyH.cons rfl (fun K hK => ?_) (AllReadyH.nil))
        go_simp
        (have z0 := Bayf 0; have z1 := Bayf 1; have g0 : ((w6.setCell ⟨Ba, 0, none⟩ (.int .i64 (px))).setCell ⟨Ba, 1, none⟩ (.int .i64 (py))).cell? ⟨Ba, 0, none⟩ = some (.int .i64 (px)) := (by first | (go_cell; done) | (go_simp; done) | (simp; done)); have g1 : ((w6.setCell ⟨Ba, 0, none⟩ (.int .i64 (px))).setCell ⟨Ba, 1, none⟩ (.int .i64 (py))).cell? ⟨Ba, 1, none⟩ = some (.int .i64 (py)) := (by first | (go_cell; done) | (go_simp; done) | (simp; done)); have hSE : Below wr.heap.size wr ((w6.setCell ⟨Ba, 0, none⟩ (.int .i64 (px))).setCell ⟨Ba, 1, none⟩ (.int .i64 (py))) := (hSw.setCell (p := ⟨Ba, 0, none⟩) Baya _).setCell (p := ⟨Ba, 1, none⟩) Baya _; refine hK.out _ _ hSE (fun _ => ?_); clear hK K hSw Bay0 Bay1 Bayf Baya z0 z1; generalize ((w6.setCell ⟨Ba, 0, none⟩ (.int .i64 (px))).setCell ⟨Ba, 1, none⟩ (.int .i64 (py))) = W5 at *)
        refine wpAnyH_done (by kernel_rfl) ?_ _
      all_goals
        have hB5 := belowTo hB hSE
        have hown := HI.out.below hSE
        unfold Vecs VRow at hown
        rw [hkl] at hown
        have hbs := hB5.size
        clear hSE d0 d1 d2 d3
        go_wp2_with (at_builtin; refine wpList_append_own_at _ rfl _ _ 23 rfl w.heap.size 55 i0 (.agg #[.int .i64 (0), .int .i64 (0)]) 2 16 Tryz.underlying23 hi hz0 hz1 hz2 rfl (by decide) _ _ _ rfl (hown.alloc _) ⟨_, 0, none⟩ 1 1 [.int .i64 (-py), .int .i64 px] rfl rfl ?c1 ?c2 ?c3 ?c4 ?c5 ?_)
        case c1 =>
          intro j u hj
          match j, hj with
          | 0, hj => simp at hj; subst hj; simp [Addr.add]
          | 1, hj => simp at hj; subst hj; simp [Addr.add]
        case c2 => intro u hu; simp at hu; rcases hu with rfl | rfl <;> rfl
        case c3 => unfold maxLen; omega
        case c4 => omega
        case c5 => simp; omega
        intro v' w4 hown' hgrow _ _
        have hB6 := (hB5.alloc hbs _).grown hgrow (by simp; omega) (fun k hk => (hown.lt k hk).1)
        have HVv := Lib.hid (Vecs.snoc (l := (List.range k).map (nrmZ l)) hkl.symm hown')
        rw [← HXk.out] at HVv
        clear hown' hgrow hown hB5 HI hkl hbs g0 g1
        go_wp2
        go_roundw
        case rel => exact ⟨k + 1, by omega, by go_num, HVv, hB6⟩
        case measure => simp [intOf]; omega
    · obtain rfl : k = l.length := by omega
      have i2 : ¬ ((l.length : Nat) : Int) < (l.length : Int) := by omega
      have hV := HI.out
      rw [← HZ.out] at hV
      have HC4 := Lib.hid (HFo.out _ wr (hV.reads (by rw [HLn.out]; omega)))
      clear hV HFo HI
      go_wp2_with fail
      refine Calls.mono HC4.out ?_
      rintro e5 w5 ⟨v5, rfl, hV5, hb5⟩
      have HV5 := Lib.hid (hV5.lower hB.size)
      have hB6 := belowTo hB hb5
      clear hV5 hb5 HC4
      go_wp2
      go_returns
      exact ⟨_, rfl, HV5.out, hB6⟩
/-- the dual, and whether it is a polygon -/
def dulB (l : List V2) : Bool := reflB l && polyB (nrmL l)
def dulL (l : List V2) : List V2 := gV (dulB l) (tidyP (nrmL l))
set_option maxHeartbeats 4000000 in
theorem specReflexiveDual_any (v : Value) (l : List V2) (w : World) (h : ReadsVecs w v l) :
    Calls Tryz.prog 15 #[v] w (GivesVecsOk w (dulL l) (dulB l)) := by
  have HC := Lib.hid (specReflexiveIn_any v l w h)
  have HD := Lib.hid (fun w' (hb : Below w.heap.size w w') (hr : reflB l = true) => l7Dual_any v l w' (h.below hb) (refl_in hr).1)
  have HO := Lib.hid (fun v' b' w' (hI : Vecs w' b' v' (tidyP (nrmL l))) (hm : (tidyP (nrmL l)).length ≤ 576460752303423488) => l6gDone_any v' (tidyP (nrmL l)) w' (hI.reads hm))
  have hE := Lib.hid (fun w' => Vecs.empty w')
  have hm := h
  obtain ⟨a, c, rfl, _, hm, _⟩ := hm
  have HLe : Hid ((tidyP (nrmL l)).length ≤ 576460752303423488) := by show _ ≤ _; rw [tidyP_len, nrm_len]; exact hm
  clear h
  unfold dulL dulB
  unfold TidyS at HO
  cases hr : reflB l
  · rw [hr] at HC
    clear hr HD HO HLe hm
    go_enter Tryz.func15, Tryz.ntmps15
    go_wp2_with fail
    refine Calls.mono HC.out ?_
    rintro e w1 ⟨rfl, hb1⟩
    have hs1 := hb1.size
    have HE := Lib.hid ((hE.out w1).lower hs1)
    go_wp2
    go_returns
    exact ⟨_, rfl, HE.out, by go_grown⟩
  · rw [hr] at HC
    have hc := tidy_convS (dual_conv hr)
    rw [hc.2, tidyP_poly] at HO
    have HD2 := Lib.hid (fun w' hb => HD.out w' hb hr)
    clear hr HD hc hm hE
    rw [Bool.true_and]
    generalize polyB (nrmL l) = K at *
    generalize tidyP (nrmL l) = R at *
    go_enter Tryz.func15, Tryz.ntmps15
    go_wp2_with fail
    refine Calls.mono HC.out ?_
    rintro e w1 ⟨rfl, hb1⟩
    have hs1 := hb1.size
    go_wp2_with fail
    refine Calls.mono (HD2.out _ hb1) ?_
    rintro e w2 ⟨v2, rfl, I2, hb2⟩
    have HO2 := Lib.hid (HO.out v2 _ w2 I2 HLe.out)
    have hb := belowTo hb1 hb2
    clear hb2 I2 HO
    go_wp2_with fail
    refine Calls.mono HO2.out ?_
    rintro e w3 ⟨v3, rfl, I3, hb3⟩
    have HI3 := Lib.hid (I3.lower hb.size)
    replace hb := belowTo hb hb3
    clear hb3 I3 HO2
    go_wp2
    go_returns
    exact ⟨_, rfl, HI3.out, hb⟩
end Go.Proofs.YtgaeibibeekclabGreatDoor
namespace Go.Proofs.YtgaeibibeekclabGreatDoor
open Go.RowKit
def cZ (l : List V2) (i : Nat) : Int := dtV (stepV l i) (stepV l (i + 1))
theorem pn_len {l : List V2} (h : reflB l = true) : 3 ≤ l.length := (poly_len (refl_in h).1).1
theorem pn_way {l : List V2} (h : reflB l = true) (i : Nat) : wayZ (nrmL l) i = (cZ l i * (cyc l (i + 1)).2, cZ l i * -(cyc l (i + 1)).1) := by
  have h0 : 0 < l.length := by have := pn_len h; omega
  obtain ⟨a, b⟩ := (refl_V h).turn i
  unfold wayZ cZ
  rw [cyc_nrm h0, cyc_nrm h0, Int.mul_neg]
  have e : ∀ k, nrmZ l k = (-(stepV l k).2, (stepV l k).1) := fun _ => rfl
  rw [e, e]
  refine Prod.ext ?_ ?_ <;> dsimp only <;> omega
theorem pn_prim {l : List V2} (h : reflB l = true) (i : Nat) : gcdZ (cyc l (i + 1)).2 (-(cyc l (i + 1)).1) = 1 := by
  have a := gcd_det (a := cyc l (i + 1)) (b := stepV l i) ((refl_V h).one' i)
  unfold gcdZ at *
  rw [Int.natAbs_neg, Nat.gcd_comm]
  exact a
theorem pn_gcd {l : List V2} (h : reflB l = true) (i : Nat) : gcdZ (wayZ (nrmL l) i).1 (wayZ (nrmL l) i).2 = cZ l i := by
  rw [pn_way h]
  dsimp only
  rw [pc_gcd (cZ l i) _ _ (Int.le_of_lt ((refl_V h).cpos i)), pn_prim h, Int.mul_one]
theorem pn_dul {l : List V2} (h : dulB l = true) : reflB l = true ∧ polyB (nrmL l) = true ∧ dulL l = tidyP (nrmL l) := by
  have h' := h
  unfold dulB at h'
  rw [Bool.and_eq_true] at h'
  exact ⟨h'.1, h'.2, by unfold dulL; rw [h]; rfl⟩
theorem pn_refl {l : List V2} (h : dulB l = true) : reflB (dulL l) = true := by
  obtain ⟨hr, hp, e⟩ := pn_dul h
  have h3 := pn_len hr
  rw [e]
  unfold reflB
  rw [tidyP_poly, hp, Bool.true_and]
  refine allR_of (fun i _ => ?_)
  unfold reflK
  refine decide_eq_true ?_
  have hK := leastK_le (nrmL l)
  unfold tidyP
  generalize leastAt (nrmL l) ((nrmL l).length - 1) = K at *
  rw [way_rot hK, cyc_rot hK, cyc_rot hK, pn_gcd hr, cyc_nrm (by omega), cyc_nrm (by omega)]
  show detV (nrmZ l (K + i)) (nrmZ l (K + i + 1)) = cZ l (K + i)
  unfold detV detZ cZ dtV nrmZ stepV
  dsimp only
  grind
theorem pn_len2 {l : List V2} (h : dulB l = true) : (dulL l).length = l.length := by rw [(pn_dul h).2.2, tidyP_len, nrm_len]
theorem pn_edg {l : List V2} : ((edgL l).length : Int) = edgeZ l l.length := by
  have key : ∀ k : Nat, ((bsN (blkL l) k : Nat) : Int) = edgeZ l k := by
    intro k
    induction k with
    | zero => rfl
    | succ k ih =>
      show ((bsN (blkL l) k + (blkL l k).length : Nat) : Int) = edgeZ l k + gcdZ (wayZ l k).1 (wayZ l k).2
      rw [Int.natCast_add, ih, blk_len]
      have := gcdZ_nonneg (wayZ l k).1 (wayZ l k).2
      unfold gN
      omega
  unfold edgL
  rw [fmap_len]
  exact key _
end Go.Proofs.YtgaeibibeekclabGreatDoor
