import Derived.Test.YtgaeibibeekclabGreatDoorProg
import Derived.Test.YtgaeibibeekclabGreatDoorS01
import Derived.Test.YtgaeibibeekclabGreatDoorS03
import Derived.Test.YtgaeibibeekclabGreatDoorS06
import Derived.Test.YtgaeibibeekclabGreatDoorS07
import Derived.Test.YtgaeibibeekclabGreatDoorS14
import Derived.WalkKit
import Derived.LaidEql
import Derived.Stop.Asserts
import Derived.RowKitTokens
import Derived.Handy
import Derived.WalkSpells
import Derived.WalkLawsBesides
import Derived.Deep.QuietTactic
import Derived.BigQuiet
import Derived.Lib.Hide
import Derived.Deep.RegionHeld3
import Derived.Deep.DeepCutAuto
import Derived.Deep.AppendLies
import Derived.Laws.OwnMore
import Derived.Laws.MakeOwn
import Derived.OwnWalk
import Derived.Maps.AppendAt
import Derived.RangeFuncBox
import Derived.RegionTactic
import Derived.ChangeAlike
import Derived.RangeFuncNested
import Derived.StillTail
import Derived.OrdersIn
import Derived.AtR
import Derived.RangeFuncBound
import Derived.RangeFuncCalls
import Derived.RangeFuncLeaves
import Derived.Shelf.Abstract
import Derived.OwnWalkIn
import Derived.TacticsInMore
import Derived.LoopNIn
import Derived.LoopIn
import Derived.LaidEqlPtr
import Derived.BigRegion
namespace Go.Proofs.YtgaeibibeekclabGreatDoor
open Go.RowKit
set_option maxHeartbeats 1000000 in
theorem l6gSmall_any (x y : Int) (w : World) :
    Calls Tryz.prog 69 #[.agg #[.int .i64 (x), .int .i64 (y)]] w fun e w' => e = .returned (.bool (cnrV (x, y))) ∧ Below w.heap.size w w' := by
  have HX := Lib.hid (fun w' => l6In_any x (-100) 100 w')
  have HY := Lib.hid (fun w' => l6In_any y (-100) 100 w')
  have HZ : Hid (cnrV (x, y) = ((decide (-100 ≤ x) && decide (x ≤ 100)) && (decide (-100 ≤ y) && decide (y ≤ 100)))) := rfl
  cases hx : (decide (-100 ≤ x) && decide (x ≤ 100))
  all_goals
    rw [hx] at HX HZ
    clear hx
    generalize (decide (-100 ≤ y) && decide (y ≤ 100)) = K at *
    generalize cnrV (x, y) = Z at *
    go_enter Tryz.func69, Tryz.ntmps69
    go_wp2_with fail
    refine Calls.mono (HX.out _) ?_
    rintro e w1 ⟨rfl, rfl⟩
    first
    | (go_wp2; go_returns; exact ⟨by rw [HZ.out]; rfl, by go_grown⟩)
    | (go_wp2_with fail; refine Calls.mono (HY.out _) ?_; rintro e w2 ⟨rfl, rfl⟩; go_wp2; go_returns; exact ⟨by rw [HZ.out]; rfl, by go_grown⟩)
set_option maxHeartbeats 1000000 in
theorem l6gWay_any (x1 y1 x2 y2 : Int) (w : World) (h1 : big 400000 x1 y1) (h2 : big 400000 x2 y2) :
    Calls Tryz.prog 52 #[.agg #[.int .i64 (x1), .int .i64 (y1)], .agg #[.int .i64 (x2), .int .i64 (y2)]] w fun e w' => e = .returned (.agg #[.int .i64 (x2 - x1), .int .i64 (y2 - y1)]) ∧ Below w.heap.size w w' := by
  obtain ⟨⟨_, _⟩, _, _⟩ := h1
  obtain ⟨⟨_, _⟩, _, _⟩ := h2
  go_enter Tryz.func52, Tryz.ntmps52
  go_wp2
  go_returns
  exact ⟨rfl, by go_grown⟩
theorem next2_is (k n : Nat) : Int.tmod ((k : Int) + 2) (n : Int) = (((k + 2) % n : Nat) : Int) := by
  rw [show ((k : Int) + 2) = ((k + 2 : Nat) : Int) by simp, Int.ofNat_tmod]
theorem nz_det {a b c d : Int} (h : 0 < detZ a b c d) : nzB a b = true ∧ nzB c d = true := by
  constructor
  · cases k : nzB a b
    · obtain ⟨h1, h2⟩ : a = 0 ∧ b = 0 := by simpa [nzB] using k
      rw [h1, h2] at h
      simp [detZ] at h
    · rfl
  · cases k : nzB c d
    · obtain ⟨h1, h2⟩ : c = 0 ∧ d = 0 := by simpa [nzB] using k
      rw [h1, h2] at h
      simp [detZ] at h
    · rfl
set_option maxRecDepth 100000 in
set_option maxHeartbeats 32000000 in
theorem specPolygonIn_any (v : Value) (l : List V2) (w : World) (hl : ReadsVecs w v l) :
    Calls Tryz.prog 36 #[v] w fun e w' => e = .returned (.bool (polyB l)) ∧ Below w.heap.size w w' := by
  by_cases hr : 3 ≤ l.length ∧ l.length ≤ 30
  case neg =>
    have hf : polyB l = false := poly_short (by omega)
    rw [hf]
    obtain ⟨a, c, rfl, hc, hm, _⟩ := hl
    have hk : (decide ((3 : Int) ≤ (l.length : Int)) && decide ((l.length : Int) ≤ 30)) = false := by simp; omega
    have HK := Lib.hid (fun w' => l6In_any (l.length : Int) 3 30 w')
    rw [hk] at HK
    clear hk hr
    go_enter Tryz.func36, Tryz.ntmps36
    go_wp2_with fail
    refine Calls.mono (HK.out _) ?_
    rintro e w1 ⟨rfl, rfl⟩
    go_wp2
    go_returns
    exact ⟨rfl, Below.refl _ _⟩
  case pos =>
    obtain ⟨bb, off, c, rfl, hc, hm, hbb, hcs⟩ := hl.open (by omega)
    have HC := Lib.hid hcs
    have hk : (decide ((3 : Int) ≤ (l.length : Int)) && decide ((l.length : Int) ≤ 30)) = true := by simp; omega
    have HK := Lib.hid (fun w' => l6In_any (l.length : Int) 3 30 w')
    rw [hk] at HK
    have h0 : 0 < l.length := by omega
    have HNK := Lib.hid (fun i h1 h2 => poly_notK (l := l) (i := i) h1 h2)
    have HNB := Lib.hid (fun i h1 h2 => poly_notB (l := l) (i := i) h1 h2)
    have HIs := Lib.hid (fun hk hb => poly_is (l := l) (by unfold prng; simp; omega) hk hb)
    have HAll : Hid ((∀ j, j < l.length → cnrV (cyc l j) = true) → ∀ i, cnrV (cyc l i) = true) := fun hq i => by
      have := hq (i % l.length) (Nat.mod_lt _ h0)
      rwa [cyc_mod] at this
    have HSm := Lib.hid (fun (V : V2) w' => l6gSmall_any V.1 V.2 w')
    have HBi : Hid (∀ i, bendB l i = decide (0 < detZ (wayZ l i).1 (wayZ l i).2 (wayZ l (i + 1)).1 (wayZ l (i + 1)).2)) := fun _ => rfl
    have HWz : Hid (∀ i, wayZ l i = ((cyc l (i + 1)).1 - (cyc l i).1, (cyc l (i + 1)).2 - (cyc l i).2)) := fun _ => rfl
    have HBk := Lib.hid (fun i => bk_ways h0 i)
    have HOn : Hid (oneBack (waysL l) = (cnt (bkB (waysL l)) (List.range l.length) == 1)) := by show _ = _; unfold oneBack; rw [waysL_len]
    have HCn := Lib.hid (fun k => cnt_next (bkB (waysL l)) k)
    have HLe : Hid (∀ k, cnt (bkB (waysL l)) (List.range k) ≤ k) := fun k => by have := cnt_le (bkB (waysL l)) (List.range k); rwa [List.length_range] at this
    have hcm := fun j => cyc_mod l j
    have HCm := Lib.hid hcm
    generalize polyB l = P at *
    generalize hn : l.length = n at *
    clear hcs hk hl hcm
    go_enter Tryz.func36, Tryz.ntmps36
    go_wp2_with fail
    refine Calls.mono (HK.out _) ?_
    rintro e w1 ⟨rfl, rfl⟩
    go_wp2
    go_loopw [4] (fun s wr => ∃ k : Nat, k ≤ n ∧ s = .int .i64 k ∧ Hid (∀ j, j < k → cnrV (cyc l j) = true) ∧ Below w.heap.size w wr) (fun s _ => n - (intOf s).toNat)
    case atStart => exact ⟨0, Nat.zero_le _, rfl, fun j hj => by omega, Below.refl _ _⟩
    case round =>
      obtain ⟨k, hk, rfl, HE, hB⟩ := hrel
      have i1 : (0 : Int) ≤ (k : Int) := by omega
      by_cases hlt : k < n
      · have i2 : (k : Int) < (n : Int) := by omega
        obtain ⟨c0, c1⟩ := HC.out wr hB k hlt
        have HB := Lib.hid (fun h => HNK.out k hlt h)
        have HE2 : Hid (cnrV (cyc l k) = true → ∀ j, j < k + 1 → cnrV (cyc l j) = true) := fun h j h2 => by
          by_cases e : j = k
          · subst e; exact h
          · exact HE.out j (by omega)
        have HCk : Hid (∀ w', Calls Tryz.prog 69 #[.agg #[.int .i64 ((cyc l k).1), .int .i64 ((cyc l k).2)]] w' fun e w'' => e = .returned (.bool (cnrV (cyc l k))) ∧ Below w'.heap.size w' w'') := fun w' => HSm.out (cyc l k) w'
        generalize hz : cnrV (cyc l k) = z at HB HE2 HCk
        clear hz
        generalize cyc l k = V at *
        obtain ⟨x, y⟩ := V
        dsimp only at c0 c1 HCk
        clear HE HNK HNB HIs HBi HC HSm HAll HWz HBk HOn HCn HLe HCm
        go_wp2_with fail
        refine Calls.mono (HCk.out _) ?_
        rintro e w2 ⟨rfl, hb2⟩
        have hA := belowTo hB hb2
        clear hb2 HCk
        cases z
        · go_wp2
          go_returns
          exact ⟨by rw [HB.out (by simp)]; rfl, hA⟩
        · go_wp2
          go_roundw
          case rel => exact ⟨k + 1, by omega, by go_num, HE2.out (by simp), hA⟩
          case measure => simp [intOf]; omega
      · obtain rfl : n = k := by omega
        have i2 : ¬ (n : Int) < (n : Int) := by omega
        clear i1 hk hlt
        have HKa := Lib.hid (HAll.out HE.out)
        have HKb := Lib.hid HE.out
        clear HE HNK HSm HAll
        go_wp2
        go_loopw [5, 6] (fun s5 s wx => ∃ j : Nat, j ≤ n ∧ s = .int .i64 j ∧ s5 = .int .i64 (cnt (bkB (waysL l)) (List.range j) : Nat) ∧ Hid (∀ q, q < j → bendB l q = true) ∧ Below w.heap.size w wx) (fun _ s _ => n - (intOf s).toNat)
        case atStart => exact ⟨0, Nat.zero_le _, rfl, rfl, fun j hj => by omega, hB⟩
        case round =>
          clear hB
          obtain ⟨k, hk, rfl, rfl, HE, hB⟩ := hrel
          have i1 : (0 : Int) ≤ (k : Int) := by omega
          by_cases hlt : k < n
          · have i2 : (k : Int) < (n : Int) := by omega
            have hq : (k + 1) % n < n := Nat.mod_lt _ h0
            have hr2 : (k + 2) % n < n := Nat.mod_lt _ h0
            have j3 : (0 : Int) ≤ (((k + 1) % n : Nat) : Int) := by omega
            have j4 : (((k + 1) % n : Nat) : Int) < (n : Int) := by omega
            have j3' : (0 : Int) ≤ (((k + 2) % n : Nat) : Int) := by omega
            have j4' : (((k + 2) % n : Nat) : Int) < (n : Int) := by omega
            have j5 : ¬ (n : Int) = 0 := by omega
            have j6 : ((n : Int) == 0) = false := by simpa using j5
            have j7 : ¬ n = 0 := by omega
            have t2 := next_is k n
            have t3 := next2_is k n
            obtain ⟨d0, d1⟩ := HC.out wr hB k hlt
            obtain ⟨d2, d3⟩ := HC.out wr hB _ hq
            obtain ⟨d4, d5⟩ := HC.out wr hB _ hr2
            rw [HCm.out] at d2 d3 d4 d5
            have HB := Lib.hid (fun h => HNB.out k hlt h)
            have HE2 : Hid (bendB l k = true → ∀ j, j < k + 1 → bendB l j = true) := fun h j h2 => by
              by_cases e : j = k
              · subst e; exact h
              · exact HE.out j (by omega)
            have b0 := cnr_in (HKa.out k)
            have b1 := cnr_in (HKa.out (k + 1))
            have b2 := cnr_in (HKa.out (k + 2))
            have HBik := Lib.hid (HBi.out k)
            have HBkk := Lib.hid (HBk.out k)
            have HS := Lib.hid (HCn.out k)
            rw [HWz.out k, HWz.out (k + 1)] at HBik HBkk
            have hcl : ((cnt (bkB (waysL l)) (List.range k) : Nat) : Int) ≤ 1000 := by have := HLe.out k; omega
            have hc0 : (0 : Int) ≤ ((cnt (bkB (waysL l)) (List.range k) : Nat) : Int) := by omega
            have q0 : IntKind.i64.wrap ((k : Int) + 1) = (k : Int) + 1 := by rw [IntKind.wrap_i64]; omega
            have q1 : IntKind.i64.wrap ((k : Int) + 2) = (k : Int) + 2 := by rw [IntKind.wrap_i64]; omega
            have dl := cell_lt d0
            generalize hzc : cnt (bkB (waysL l)) (List.range k) = C at *
            clear hzc
            generalize cyc l k = V at *
            generalize cyc l (k + 1) = U at *
            generalize cyc l (k + 1 + 1) = T at *
            generalize hbz : bendB l k = z at HB HE2 HBik
            generalize hbk : bkB (waysL l) k = y at HBkk HS
            clear hbz hbk
            obtain ⟨x1, y1⟩ := V
            obtain ⟨x2, y2⟩ := U
            obtain ⟨x3, y3⟩ := T
            dsimp only at d0 d1 d2 d3 d4 d5 HBik HBkk b0 b1 b2
            generalize (k + 1) % n = q at *
            generalize (k + 2) % n = r at *
            have HW1 := Lib.hid (fun w' => l6gWay_any x1 y1 x2 y2 w' (by unfold big; omega) (by unfold big; omega))
            have HW2 := Lib.hid (fun w' => l6gWay_any x2 y2 x3 y3 w' (by unfold big; omega) (by unfold big; omega))
            have v0 : vecB (x2 - x1) (y2 - y1) = true := vec_of (by omega)
            have v1 : vecB (x3 - x2) (y3 - y2) = true := vec_of (by omega)
            clear b0 b1 b2 HE HNB HIs HBi HC HWz HBk HOn HCn HLe HCm HKa HKb
            go_wp2
            refine wp_region_any (by kernel_rfl) ?_
            try (change wpAny _ _ _ _ _ _ _ (World.drew _))
            refine wpAny_of_held (S := fun w' => Below (wr.heap.size) wr w') _ _ _ _ ?_
            have hSw : Below (wr.heap.size) wr (World.drew wr) := by go_grown
            generalize World.drew wr = wd at hSw ⊢
            refine wpAnyH_take (i := 0) (v := ?_) rfl (by kernel_rfl) (by kernel_rfl) (by kernel_rfl) (fun _ _ _ h => h) (Or.inl ⟨by rfl, ?_⟩) hSw ?_
            rotate_left
            focus (intro w0 hS0; clear hS0; go_simp; try with_reducible rfl)
            refine wpAnyH_take (i := 1) (v := ?_) rfl (by kernel_rfl) (by kernel_rfl) (by kernel_rfl) (fun _ _ _ h => h) (Or.inl ⟨by rfl, ?_⟩) hSw ?_
            rotate_left
            focus (intro w0 hS0; clear hS0; go_simp; try with_reducible rfl)
            refine wpAnyH_take (i := 2) (v := ?_) rfl (by kernel_rfl) (by kernel_rfl) (by kernel_rfl) (fun _ _ _ h => h) (Or.inl ⟨by rfl, ?_⟩) hSw ?_
            rotate_left
            focus (intro w0 hS0; clear hS0; go_simp; try with_reducible rfl)
            refine wpAnyH_take (i := 3) (v := ?_) rfl (by kernel_rfl) (by kernel_rfl) (by kernel_rfl) (fun _ _ _ h => h) (Or.inl ⟨by rfl, ?_⟩) hSw ?_
            rotate_left
            focus (intro w0 hS0; have c0 := (hS0.cell (p := ⟨bb, off + k * 2, none⟩) dl).trans d0; have c1 := (hS0.cell (p := ⟨bb, off + k * 2 + 1, none⟩) dl).trans d1; have c2 := (hS0.cell (p := ⟨bb, off + q * 2, none⟩) dl).trans d2; have c3 := (hS0.cell (p := ⟨bb, off + q * 2 + 1, none⟩) dl).trans d3; clear hS0; go_simp; try with_reducible rfl)
            refine wpAnyH_take (i := 4) (v := ?_) rfl (by kernel_rfl) (by kernel_rfl) (by kernel_rfl) (fun _ _ _ h => h) (Or.inl ⟨by rfl, ?_⟩) hSw ?_
            rotate_left
            focus (intro w0 hS0; clear hS0; go_simp; try with_reducible rfl)
            refine wpAnyH_take (i := 5) (v := ?_) rfl (by kernel_rfl) (by kernel_rfl) (by kernel_rfl) (fun _ _ _ h => h) (Or.inl ⟨by rfl, ?_⟩) hSw ?_
            rotate_left
            focus (intro w0 hS0; clear hS0; go_simp; try with_reducible rfl)
            refine wpAnyH_take (i := 6) (v := ?_) rfl (by kernel_rfl) (by kernel_rfl) (by kernel_rfl) (fun _ _ _ h => h) (Or.inl ⟨by rfl, ?_⟩) hSw ?_
            rotate_left
            focus (intro w0 hS0; clear hS0; go_simp; try with_reducible rfl)
            refine wpAnyH_take (i := 7) (v := ?_) rfl (by kernel_rfl) (by kernel_rfl) (by kernel_rfl) (fun _ _ _ h => h) (Or.inl ⟨by rfl, ?_⟩) hSw ?_
            rotate_left
            focus (intro w0 hS0; clear hS0; go_simp; try with_reducible rfl)
            refine wpAnyH_take (i := 8) (v := ?_) rfl (by kernel_rfl) (by kernel_rfl) (by kernel_rfl) (fun _ _ _ h => h) (Or.inl ⟨by rfl, ?_⟩) hSw ?_
            rotate_left
            focus (intro w0 hS0; clear hS0; go_simp; try with_reducible rfl)
            refine wpAnyH_take (i := 9) (v := ?_) rfl (by kernel_rfl) (by kernel_rfl) (by kernel_rfl) (fun _ _ _ h => h) (Or.inl ⟨by rfl, ?_⟩) hSw ?_
            rotate_left
            focus (intro w0 hS0; clear hS0; go_simp; try with_reducible rfl)
            refine wpAnyH_take (i := 10) (v := ?_) rfl (by kernel_rfl) (by kernel_rfl) (by kernel_rfl) (fun _ _ _ h => h) (Or.inl ⟨by rfl, ?_⟩) hSw ?_
            rotate_left
            focus (intro w0 hS0; have c0 := (hS0.cell (p := ⟨bb, off + k * 2, none⟩) dl).trans d0; have c1 := (hS0.cell (p := ⟨bb, off + k * 2 + 1, none⟩) dl).trans d1; have c2 := (hS0.cell (p := ⟨bb, off + q * 2, none⟩) dl).trans d2; have c3 := (hS0.cell (p := ⟨bb, off + q * 2 + 1, none⟩) dl).trans d3; clear hS0; go_simp; try with_reducible rfl)
            refine wpAnyH_ready (rs := [11, 12]) (by kernel_rfl) (by simp) (AllReadyH.cons rfl (fun K hK => ?_) (AllReadyH.cons rfl (fun K hK => ?_) (AllReadyH.nil)))
            focus
              go_simp
              (refine Calls.mono (HW1.out _) ?_; rintro e w4 ⟨rfl, hbX⟩;  replace hSw := belowTo hSw hbX; refine hK.out _ _ hSw (fun _ => ?_); clear hK K hbX)
              refine wpAnyH_ready (rs := [12]) (by kernel_rfl) (by simp) (AllReadyH.cons rfl (fun K hK => ?_) (AllReadyH.nil))
              go_simp
              (have hSa : Below wr.heap.size wr (w4.alloc (.cells #[.int .i64 0, .int .i64 0] 55)) := hSw.alloc hSw.size _; have Bay0 : (w4.alloc (.cells #[.int .i64 0, .int .i64 0] 55)).cell? ⟨w4.heap.size, 0, none⟩ = some (.int .i64 0) := (by simp); have Bay1 : (w4.alloc (.cells #[.int .i64 0, .int .i64 0] 55)).cell? ⟨w4.heap.size, 1, none⟩ = some (.int .i64 0) := (by simp); have Bayf : ∀ o, (w4.alloc (.cells #[.int .i64 0, .int .i64 0] 55)).frozen? ⟨w4.heap.size, o, none⟩ = false := (fun o => by simp); have Baya := hSw.size; replace hSw := hSa; clear hSa; refine hK.out _ _ hSw (fun _ => ?_); clear hK K; generalize w4.alloc (.cells #[.int .i64 0, .int .i64 0] 55) = wa at *; generalize w4.heap.size = Ba at *)
              refine wpAnyH_ready (rs := [13]) (by kernel_rfl) (by simp) (AllReadyH.cons rfl (fun K hK => ?_) (AllReadyH.nil))
              go_simp
              (have z0 := Bayf 0; have z1 := Bayf 1; have g0 : ((wa.setCell ⟨Ba, 0, none⟩ (.int .i64 (x2 - x1))).setCell ⟨Ba, 1, none⟩ (.int .i64 (y2 - y1))).cell? ⟨Ba, 0, none⟩ = some (.int .i64 (x2 - x1)) := (by first | (go_cell; done) | (go_simp; done) | (simp; done)); have g1 : ((wa.setCell ⟨Ba, 0, none⟩ (.int .i64 (x2 - x1))).setCell ⟨Ba, 1, none⟩ (.int .i64 (y2 - y1))).cell? ⟨Ba, 1, none⟩ = some (.int .i64 (y2 - y1)) := (by first | (go_cell; done) | (go_simp; done) | (simp; done)); have hSE : Below wr.heap.size wr ((wa.setCell ⟨Ba, 0, none⟩ (.int .i64 (x2 - x1))).setCell ⟨Ba, 1, none⟩ (.int .i64 (y2 - y1))) := (hSw.setCell (p := ⟨Ba, 0, none⟩) Baya _).setCell (p := ⟨Ba, 1, none⟩) Baya _; refine hK.out _ _ hSE (fun _ => ?_); clear hK K hSw Bay0 Bay1 Bayf Baya z0 z1; generalize ((wa.setCell ⟨Ba, 0, none⟩ (.int .i64 (x2 - x1))).setCell ⟨Ba, 1, none⟩ (.int .i64 (y2 - y1))) = W5 at *)
              refine wpAnyH_done (by kernel_rfl) ?_ _
            rotate_left 1
            focus
              go_simp
              (have hSa : Below wr.heap.size wr (wd.alloc (.cells #[.int .i64 0, .int .i64 0] 55)) := hSw.alloc hSw.size _; have Bay0 : (wd.alloc (.cells #[.int .i64 0, .int .i64 0] 55)).cell? ⟨wd.heap.size, 0, none⟩ = some (.int .i64 0) := (by simp); have Bay1 : (wd.alloc (.cells #[.int .i64 0, .int .i64 0] 55)).cell? ⟨wd.heap.size, 1, none⟩ = some (.int .i64 0) := (by simp); have Bayf : ∀ o, (wd.alloc (.cells #[.int .i64 0, .int .i64 0] 55)).frozen? ⟨wd.heap.size, o, none⟩ = false := (fun o => by simp); have Baya := hSw.size; replace hSw := hSa; clear hSa; refine hK.out _ _ hSw (fun _ => ?_); clear hK K; generalize wd.alloc (.cells #[.int .i64 0, .int .i64 0] 55) = wa at *; generalize wd.heap.size = Ba at *)
              refine wpAnyH_ready (rs := [11]) (by kernel_rfl) (by simp) (AllReadyH.cons rfl (fun K hK => ?_) (AllReadyH.nil))
              go_simp
              (refine Calls.mono (HW1.out _) ?_; rintro e w4 ⟨rfl, hbX⟩; replace Bay1 := (hbX.cell (p := ⟨Ba, 1, none⟩) (cell_lt Bay0)).trans Bay1; replace Bayf := (fun o => (hbX.frozen (p := ⟨Ba, o, none⟩) (cell_lt Bay0)).trans (Bayf o)); replace Bay0 := (hbX.cell (p := ⟨Ba, 0, none⟩) (cell_lt Bay0)).trans Bay0; replace hSw := belowTo hSw hbX; refine hK.out _ _ hSw (fun _ => ?_); clear hK K hbX)
              refine wpAnyH_ready (rs := [13]) (by kernel_rfl) (by simp) (AllReadyH.cons rfl (fun K hK => ?_) (AllReadyH.nil))
              go_simp
              (have z0 := Bayf 0; have z1 := Bayf 1; have g0 : ((w4.setCell ⟨Ba, 0, none⟩ (.int .i64 (x2 - x1))).setCell ⟨Ba, 1, none⟩ (.int .i64 (y2 - y1))).cell? ⟨Ba, 0, none⟩ = some (.int .i64 (x2 - x1)) := (by first | (go_cell; done) | (go_simp; done) | (simp; done)); have g1 : ((w4.setCell ⟨Ba, 0, none⟩ (.int .i64 (x2 - x1))).setCell ⟨Ba, 1, none⟩ (.int .i64 (y2 - y1))).cell? ⟨Ba, 1, none⟩ = some (.int .i64 (y2 - y1)) := (by first | (go_cell; done) | (go_simp; done) | (simp; done)); have hSE : Below wr.heap.size wr ((w4.setCell ⟨Ba, 0, none⟩ (.int .i64 (x2 - x1))).setCell ⟨Ba, 1, none⟩ (.int .i64 (y2 - y1))) := (hSw.setCell (p := ⟨Ba, 0, none⟩) Baya _).setCell (p := ⟨Ba, 1, none⟩) Baya _; refine hK.out _ _ hSE (fun _ => ?_); clear hK K hSw Bay0 Bay1 Bayf Baya z0 z1; generalize ((w4.setCell ⟨Ba, 0, none⟩ (.int .i64 (x2 - x1))).setCell ⟨Ba, 1, none⟩ (.int .i64 (y2 - y1))) = W5 at *)
              refine wpAnyH_done (by kernel_rfl) ?_ _
            all_goals
              replace d3 := (hSE.cell (p := ⟨bb, off + q * 2 + 1, none⟩) (cell_lt d2)).trans d3
              replace d4 := (hSE.cell (p := ⟨bb, off + r * 2, none⟩) (cell_lt d2)).trans d4
              replace d5 := (hSE.cell (p := ⟨bb, off + r * 2 + 1, none⟩) (cell_lt d2)).trans d5
              replace d2 := (hSE.cell (p := ⟨bb, off + q * 2, none⟩) (cell_lt d2)).trans d2
              have hB5 := belowTo hB hSE
              clear hSE d0 d1 dl
              have hs5 := hB5.size
              go_wp2
              refine wp_region_any (by kernel_rfl) ?_
              try (change wpAny _ _ _ _ _ _ _ (World.drew _))
              refine wpAny_of_held (S := fun w' => Below (W5.heap.size) W5 w') _ _ _ _ ?_
              have hSw : Below (W5.heap.size) W5 (World.drew W5) := by go_grown
              generalize World.drew W5 = wd at hSw ⊢
              refine wpAnyH_take (i := 0) (v := ?_) rfl (by kernel_rfl) (by kernel_rfl) (by kernel_rfl) (fun _ _ _ h => h) (Or.inl ⟨by rfl, ?_⟩) hSw ?_
              rotate_left
              focus (intro w0 hS0; clear hS0; go_simp; try with_reducible rfl)
              refine wpAnyH_take (i := 1) (v := ?_) rfl (by kernel_rfl) (by kernel_rfl) (by kernel_rfl) (fun _ _ _ h => h) (Or.inl ⟨by rfl, ?_⟩) hSw ?_
              rotate_left
              focus (intro w0 hS0; clear hS0; go_simp; try with_reducible rfl)
              refine wpAnyH_take (i := 2) (v := ?_) rfl (by kernel_rfl) (by kernel_rfl) (by kernel_rfl) (fun _ _ _ h => h) (Or.inl ⟨by rfl, ?_⟩) hSw ?_
              rotate_left
              focus (intro w0 hS0; clear hS0; go_simp; try with_reducible rfl)
              refine wpAnyH_take (i := 3) (v := ?_) rfl (by kernel_rfl) (by kernel_rfl) (by kernel_rfl) (fun _ _ _ h => h) (Or.inl ⟨by rfl, ?_⟩) hSw ?_
              rotate_left
              focus (intro w0 hS0; clear hS0; go_simp; try with_reducible rfl)
              refine wpAnyH_take (i := 4) (v := ?_) rfl (by kernel_rfl) (by kernel_rfl) (by kernel_rfl) (fun _ _ _ h => h) (Or.inl ⟨by rfl, ?_⟩) hSw ?_
              rotate_left
              focus (intro w0 hS0; clear hS0; go_simp; try with_reducible rfl)
              refine wpAnyH_take (i := 5) (v := ?_) rfl (by kernel_rfl) (by kernel_rfl) (by kernel_rfl) (fun _ _ _ h => h) (Or.inl ⟨by rfl, ?_⟩) hSw ?_
              rotate_left
              focus (intro w0 hS0; clear hS0; go_simp; try with_reducible rfl)
              refine wpAnyH_take (i := 6) (v := ?_) rfl (by kernel_rfl) (by kernel_rfl) (by kernel_rfl) (fun _ _ _ h => h) (Or.inl ⟨by rfl, ?_⟩) hSw ?_
              rotate_left
              focus (intro w0 hS0; have c0 := (hS0.cell (p := ⟨bb, off + q * 2, none⟩) (cell_lt d2)).trans d2; have c1 := (hS0.cell (p := ⟨bb, off + q * 2 + 1, none⟩) (cell_lt d2)).trans d3; have c2 := (hS0.cell (p := ⟨bb, off + r * 2, none⟩) (cell_lt d2)).trans d4; have c3 := (hS0.cell (p := ⟨bb, off + r * 2 + 1, none⟩) (cell_lt d2)).trans d5; clear hS0; go_simp; try with_reducible rfl)
              refine wpAnyH_take (i := 7) (v := ?_) rfl (by kernel_rfl) (by kernel_rfl) (by kernel_rfl) (fun _ _ _ h => h) (Or.inl ⟨by rfl, ?_⟩) hSw ?_
              rotate_left
              focus (intro w0 hS0; clear hS0; go_simp; try with_reducible rfl)
              refine wpAnyH_take (i := 8) (v := ?_) rfl (by kernel_rfl) (by kernel_rfl) (by kernel_rfl) (fun _ _ _ h => h) (Or.inl ⟨by rfl, ?_⟩) hSw ?_
              rotate_left
              focus (intro w0 hS0; clear hS0; go_simp; try with_reducible rfl)
              refine wpAnyH_take (i := 9) (v := ?_) rfl (by kernel_rfl) (by kernel_rfl) (by kernel_rfl) (fun _ _ _ h => h) (Or.inl ⟨by rfl, ?_⟩) hSw ?_
              rotate_left
              focus (intro w0 hS0; clear hS0; go_simp; try with_reducible rfl)
              refine wpAnyH_take (i := 10) (v := ?_) rfl (by kernel_rfl) (by kernel_rfl) (by kernel_rfl) (fun _ _ _ h => h) (Or.inl ⟨by rfl, ?_⟩) hSw ?_
              rotate_left
              focus (intro w0 hS0; clear hS0; go_simp; try with_reducible rfl)
              refine wpAnyH_take (i := 11) (v := ?_) rfl (by kernel_rfl) (by kernel_rfl) (by kernel_rfl) (fun _ _ _ h => h) (Or.inl ⟨by rfl, ?_⟩) hSw ?_
              rotate_left
              focus (intro w0 hS0; clear hS0; go_simp; try with_reducible rfl)
              refine wpAnyH_take (i := 12) (v := ?_) rfl (by kernel_rfl) (by kernel_rfl) (by kernel_rfl) (fun _ _ _ h => h) (Or.inl ⟨by rfl, ?_⟩) hSw ?_
              rotate_left
              focus (intro w0 hS0; clear hS0; go_simp; try with_reducible rfl)
              refine wpAnyH_take (i := 13) (v := ?_) rfl (by kernel_rfl) (by kernel_rfl) (by kernel_rfl) (fun _ _ _ h => h) (Or.inl ⟨by rfl, ?_⟩) hSw ?_
              rotate_left
              focus (intro w0 hS0; have c0 := (hS0.cell (p := ⟨bb, off + q * 2, none⟩) (cell_lt d2)).trans d2; have c1 := (hS0.cell (p := ⟨bb, off + q * 2 + 1, none⟩) (cell_lt d2)).trans d3; have c2 := (hS0.cell (p := ⟨bb, off + r * 2, none⟩) (cell_lt d2)).trans d4; have c3 := (hS0.cell (p := ⟨bb, off + r * 2 + 1, none⟩) (cell_lt d2)).trans d5; clear hS0; go_simp; try with_reducible rfl)
              refine wpAnyH_ready (rs := [14, 15]) (by kernel_rfl) (by simp) (AllReadyH.cons rfl (fun K hK => ?_) (AllReadyH.cons rfl (fun K hK => ?_) (AllReadyH.nil)))
              focus
                go_simp
                (refine Calls.mono (HW2.out _) ?_; rintro e w6 ⟨rfl, hbX⟩;  replace hSw := belowTo hSw hbX; refine hK.out _ _ hSw (fun _ => ?_); clear hK K hbX)
                refine wpAnyH_ready (rs := [15]) (by kernel_rfl) (by simp) (AllReadyH.cons rfl (fun K hK => ?_) (AllReadyH.nil))
                go_simp
                (have hSa : Below W5.heap.size W5 (w6.alloc (.cells #[.int .i64 0, .int .i64 0] 55)) := hSw.alloc hSw.size _; have Bby0 : (w6.alloc (.cells #[.int .i64 0, .int .i64 0] 55)).cell? ⟨w6.heap.size, 0, none⟩ = some (.int .i64 0) := (by simp); have Bby1 : (w6.alloc (.cells #[.int .i64 0, .int .i64 0] 55)).cell? ⟨w6.heap.size, 1, none⟩ = some (.int .i64 0) := (by simp); have Bbyf : ∀ o, (w6.alloc (.cells #[.int .i64 0, .int .i64 0] 55)).frozen? ⟨w6.heap.size, o, none⟩ = false := (fun o => by simp); have Bbya := hSw.size; replace hSw := hSa; clear hSa; refine hK.out _ _ hSw (fun _ => ?_); clear hK K; generalize w6.alloc (.cells #[.int .i64 0, .int .i64 0] 55) = wa at *; generalize w6.heap.size = Bb at *)
                refine wpAnyH_ready (rs := [16]) (by kernel_rfl) (by simp) (AllReadyH.cons rfl (fun K hK => ?_) (AllReadyH.nil))
                go_simp
                (have z0 := Bbyf 0; have z1 := Bbyf 1; have m0 : ((wa.setCell ⟨Bb, 0, none⟩ (.int .i64 (x3 - x2))).setCell ⟨Bb, 1, none⟩ (.int .i64 (y3 - y2))).cell? ⟨Bb, 0, none⟩ = some (.int .i64 (x3 - x2)) := (by first | (go_cell; done) | (go_simp; done) | (simp; done)); have m1 : ((wa.setCell ⟨Bb, 0, none⟩ (.int .i64 (x3 - x2))).setCell ⟨Bb, 1, none⟩ (.int .i64 (y3 - y2))).cell? ⟨Bb, 1, none⟩ = some (.int .i64 (y3 - y2)) := (by first | (go_cell; done) | (go_simp; done) | (simp; done)); have hSE : Below W5.heap.size W5 ((wa.setCell ⟨Bb, 0, none⟩ (.int .i64 (x3 - x2))).setCell ⟨Bb, 1, none⟩ (.int .i64 (y3 - y2))) := (hSw.setCell (p := ⟨Bb, 0, none⟩) Bbya _).setCell (p := ⟨Bb, 1, none⟩) Bbya _; refine hK.out _ _ hSE (fun _ => ?_); clear hK K hSw Bby0 Bby1 Bbyf Bbya z0 z1; generalize ((wa.setCell ⟨Bb, 0, none⟩ (.int .i64 (x3 - x2))).setCell ⟨Bb, 1, none⟩ (.int .i64 (y3 - y2))) = W7 at *)
                refine wpAnyH_done (by kernel_rfl) ?_ _
              rotate_left 1
              focus
                go_simp
                (have hSa : Below W5.heap.size W5 (wd.alloc (.cells #[.int .i64 0, .int .i64 0] 55)) := hSw.alloc hSw.size _; have Bby0 : (wd.alloc (.cells #[.int .i64 0, .int .i64 0] 55)).cell? ⟨wd.heap.size, 0, none⟩ = some (.int .i64 0) := (by simp); have Bby1 : (wd.alloc (.cells #[.int .i64 0, .int .i64 0] 55)).cell? ⟨wd.heap.size, 1, none⟩ = some (.int .i64 0) := (by simp); have Bbyf : ∀ o, (wd.alloc (.cells #[.int .i64 0, .int .i64 0] 55)).frozen? ⟨wd.heap.size, o, none⟩ = false := (fun o => by simp); have Bbya := hSw.size; replace hSw := hSa; clear hSa; refine hK.out _ _ hSw (fun _ => ?_); clear hK K; generalize wd.alloc (.cells #[.int .i64 0, .int .i64 0] 55) = wa at *; generalize wd.heap.size = Bb at *)
                refine wpAnyH_ready (rs := [14]) (by kernel_rfl) (by simp) (AllReadyH.cons rfl (fun K hK => ?_) (AllReadyH.nil))
                go_simp
                (refine Calls.mono (HW2.out _) ?_; rintro e w6 ⟨rfl, hbX⟩; replace Bby1 := (hbX.cell (p := ⟨Bb, 1, none⟩) (cell_lt Bby0)).trans Bby1; replace Bbyf := (fun o => (hbX.frozen (p := ⟨Bb, o, none⟩) (cell_lt Bby0)).trans (Bbyf o)); replace Bby0 := (hbX.cell (p := ⟨Bb, 0, none⟩) (cell_lt Bby0)).trans Bby0; replace hSw := belowTo hSw hbX; refine hK.out _ _ hSw (fun _ => ?_); clear hK K hbX)
                refine wpAnyH_ready (rs := [16]) (by kernel_rfl) (by simp) (AllReadyH.cons rfl (fun K hK => ?_) (AllReadyH.nil))
                go_simp
                (have z0 := Bbyf 0; have z1 := Bbyf 1; have m0 : ((w6.setCell ⟨Bb, 0, none⟩ (.int .i64 (x3 - x2))).setCell ⟨Bb, 1, none⟩ (.int .i64 (y3 - y2))).cell? ⟨Bb, 0, none⟩ = some (.int .i64 (x3 - x2)) := (by first | (go_cell; done) | (go_simp; done) | (simp; done)); have m1 : ((w6.setCell ⟨Bb, 0, none⟩ (.int .i64 (x3 - x2))).setCell ⟨Bb, 1, none⟩ (.int .i64 (y3 - y2))).cell? ⟨Bb, 1, none⟩ = some (.int .i64 (y3 - y2)) := (by first | (go_cell; done) | (go_simp; done) | (simp; done)); have hSE : Below W5.heap.size W5 ((w6.setCell ⟨Bb, 0, none⟩ (.int .i64 (x3 - x2))).setCell ⟨Bb, 1, none⟩ (.int .i64 (y3 - y2))) := (hSw.setCell (p := ⟨Bb, 0, none⟩) Bbya _).setCell (p := ⟨Bb, 1, none⟩) Bbya _; refine hK.out _ _ hSE (fun _ => ?_); clear hK K hSw Bby0 Bby1 Bbyf Bbya z0 z1; generalize ((w6.setCell ⟨Bb, 0, none⟩ (.int .i64 (x3 - x2))).setCell ⟨Bb, 1, none⟩ (.int .i64 (y3 - y2))) = W7 at *)
                refine wpAnyH_done (by kernel_rfl) ?_ _
              all_goals
                replace g1 := (hSE.cell (p := ⟨Ba, 1, none⟩) (cell_lt g0)).trans g1
                replace g0 := (hSE.cell (p := ⟨Ba, 0, none⟩) (cell_lt g0)).trans g0
                have hB7 := belowTo hB5 hSE
                clear hSE d2 d3 d4 d5 hB5 hs5
                have HD := Lib.hid (fun w' => l1Det_any _ _ _ _ w' v0 v1)
                have HAh := Lib.hid (fun w' h => l1Ahead_any _ _ _ _ w' v1 v0 (nz_det h).2 (nz_det h).1)
                rw [← HBkk.out] at HAh
                generalize hD : detZ (x2 - x1) (y2 - y1) (x3 - x2) (y3 - y2) = D at HD HBik
                rw [hD] at HAh
                clear hD v0 v1 HBkk
                generalize x2 - x1 = ax at *
                generalize y2 - y1 = ay at *
                generalize x3 - x2 = bx at *
                generalize y3 - y2 = by' at *
                go_wp2_with fail
                refine Calls.mono (HD.out _) ?_
                rintro e w8 ⟨rfl, hb8⟩
                replace g1 := (hb8.cell (p := ⟨Ba, 1, none⟩) (cell_lt g0)).trans g1
                replace g0 := (hb8.cell (p := ⟨Ba, 0, none⟩) (cell_lt g0)).trans g0
                replace m1 := (hb8.cell (p := ⟨Bb, 1, none⟩) (cell_lt m0)).trans m1
                replace m0 := (hb8.cell (p := ⟨Bb, 0, none⟩) (cell_lt m0)).trans m0
                have hB8 := belowTo hB7 hb8
                clear hb8 hB7 HD
                cases z
                · have hD0 : D ≤ 0 := by have := HBik.out; simp at this; exact this
                  have HF := Lib.hid (HB.out (by simp))
                  clear HB HE2 HBik HAh
                  go_wp2
                  go_returns
                  exact ⟨by rw [HF.out]; rfl, hB8⟩
                · have hD0 : 0 < D := by have := HBik.out; simp at this; exact this
                  have hD1 : ¬ D ≤ 0 := by omega
                  have HA2 := Lib.hid (fun w' => HAh.out w' hD0)
                  have HF := Lib.hid (HE2.out (by simp))
                  clear HB HE2 HBik HAh
                  go_wp2_with fail
                  refine Calls.mono (HA2.out _) ?_
                  rintro e w9 ⟨rfl, hb9⟩
                  have hB9 := belowTo hB8 hb9
                  clear hb9 hB8 HA2 g0 g1 m0 m1
                  cases y
                  · go_wp2
                    go_roundw
                    case rel => exact ⟨k + 1, by omega, by go_num, by rw [show cnt (bkB (waysL l)) (List.range (k + 1)) = C from HS.out], HF.out, hB9⟩
                    case measure => simp [intOf]; omega
                  · go_wp2
                    go_roundw
                    case rel => exact ⟨k + 1, by omega, by go_num, by rw [show cnt (bkB (waysL l)) (List.range (k + 1)) = C + 1 from HS.out]; go_num, HF.out, hB9⟩
                    case measure => simp [intOf]; omega
          · obtain rfl : n = k := by omega
            have i2 : ¬ (n : Int) < (n : Int) := by omega
            have HPo := Lib.hid (HIs.out HKb.out HE.out)
            rw [HOn.out] at HPo
            clear HE HNB HIs HBi HWz HBk HOn HCn HLe HCm HKa HKb HC
            generalize cnt (bkB (waysL l)) (List.range n) = q at *
            go_wp2
            go_returns
            refine ⟨?_, hB⟩
            refine ret_bool ?_
            rw [HPo.out, Bool.eq_iff_iff]
            simp
            try omega
end Go.Proofs.YtgaeibibeekclabGreatDoor
