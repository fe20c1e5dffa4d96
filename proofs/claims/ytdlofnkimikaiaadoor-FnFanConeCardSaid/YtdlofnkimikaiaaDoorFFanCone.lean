/- FnFanCone: the walk. -/
import Derived.Test.YtdlofnkimikaiaaDoorUl
import Derived.Test.YtdlofnkimikaiaaDoorOa
import Derived.Test.YtdlofnkimikaiaaDoorSm
import Derived.Test.YtdlofnkimikaiaaDoorBx
import Derived.Test.YtdlofnkimikaiaaDoorSx
import Derived.Test.YtdlofnkimikaiaaDoorGz
import Derived.Test.YtdlofnkimikaiaaDoorHc
import Derived.Test.YtdlofnkimikaiaaDoorB4
import Derived.Test.YtdlofnkimikaiaaDoorB2
import Derived.Test.YtdlofnkimikaiaaDoorRg
namespace Go.Proofs.YtdlofnkimikaiaaDoor
open Go.RowKit

set_option maxRecDepth 100000 in
set_option maxHeartbeats 16000000 in
theorem fnFanCone_any (a : Option Addr) (len cap : Nat) (w : World) (h : Bytes w a len cap) (hg : EtOk w) :
    Calls Tryd.prog 7 #[.slice a len cap] w fun e w' => e = .returned (.bool true) ∧ Below w.heap.size w w' := by
  by_cases hlen : len ≤ 1048576
  case neg =>
    have j1 : (1048576 : Int) < (len : Int) := by omega
    clear h hg
    go_enter Tryd.func7, Tryd.ntmps7
    go_wp2
    go_returns
    exact ⟨rfl, by go_grown⟩
  case pos =>
  have j1 : (len : Int) ≤ 1048576 := by omega
  have HO := Lib.hid (drawFanCone_any w a len cap h)
  clear h
  go_enter Tryd.func7, Tryd.ntmps7
  go_wp2_with fail
  refine Calls.mono HO.out ?_
  rintro e w1 ⟨v, l, i, rfl, hV, h2, h20, hb1⟩
  have HG := Lib.hid (hg.below hb1)
  have Hf := Lib.hid hV
  have HB : Hid (Below w.heap.size w w1) := hb1
  clear hb1 HO hg hV
  cases hk : (fanB l && idxB l i)
  · have C1 : Hid (∀ (w' : World) (v0 : Value), ReadsVecs w' v0 (l) → EtOk w' → Calls Tryd.prog 28 #[v0, .int .i64 (i)] w' (fun e w'' => e = .returned (.tuple #[.agg #[.int .i64 (0), .int .i64 (0), .int .i64 (0), .int .i64 (0)], .bool false]) ∧ Below w'.heap.size w' w'')) := fun w' v0 h0 hg' => by
      have h := fanCone_any v0 l (i) w' h0 hg'
      rw [hk] at h
      exact h
    have C2 : Hid (∀ (w' : World) (v0 : Value), ReadsVecs w' v0 (l) → EtOk w' → Calls Tryd.prog 31 #[v0, .int .i64 (i)] w' (fun e w'' => e = .returned (.tuple #[.agg #[.int .i64 (0), .int .i64 (0), .int .i64 (0), .int .i64 (0)], .bool false]) ∧ Below w'.heap.size w' w'')) := fun w' v0 h0 hg' => by
      have h := specFanCone_any v0 l (i) w' h0
      rw [hk] at h
      exact h
    clear hk
    go_wp2_with fail
    refine Calls.mono (C1.out _ _ (Hf.out.below (by go_grown)) (HG.out.below (by go_grown))) ?_
    rintro e w2 ⟨rfl, hb2⟩
    have hB2 := belowTo (a := w1) (by go_grown) hb2
    replace Hf := Lib.hid (Hf.out.below hB2)
    replace HG := Lib.hid (HG.out.below hB2)
    replace HB := Lib.hid (belowTo HB.out hB2)
    clear hb2 hB2
    go_wp2_with fail
    refine Calls.mono (C2.out _ _ (Hf.out.below (by go_grown)) (HG.out.below (by go_grown))) ?_
    rintro e w3 ⟨rfl, hb3⟩
    have hB3 := belowTo (a := w2) (by go_grown) hb3
    replace Hf := Lib.hid (Hf.out.below hB3)
    have Hb1 : Hid (BoxAt w3 w2.heap.size [.int .i64 0, .int .i64 0, .int .i64 0, .int .i64 0]) := Lib.hid (BoxAt.below (BoxAt.made4 _ (.int .i64 0) (.int .i64 0) (.int .i64 0) (.int .i64 0) _) hb3)
    obtain ⟨mb10, mb11, mb12, mb13⟩ := Hb1.out.four
    have ltb1 := Hb1.out.1
    have neb1 := Nat.ne_of_lt ltb1
    replace HG := Lib.hid (HG.out.below hB3)
    replace HB := Lib.hid (belowTo HB.out hB3)
    clear hb3 hB3
    go_wp2
    go_returns
    exact ⟨rfl, by first | exact HB.out | (have hBx := HB.out; have hBs := hBx.size; go_grown)⟩
  · have C1 : Hid (∀ (w' : World) (v0 : Value), ReadsVecs w' v0 (l) → EtOk w' → Calls Tryd.prog 28 #[v0, .int .i64 (i)] w' (fun e w'' => e = .returned (.tuple #[.agg #[.int .i64 ((cyc l i.toNat).1), .int .i64 ((cyc l i.toNat).2), .int .i64 ((cyc l (i.toNat + 1)).1), .int .i64 ((cyc l (i.toNat + 1)).2)], .bool true]) ∧ Below w'.heap.size w' w'')) := fun w' v0 h0 hg' => by
      have h := fanCone_any v0 l (i) w' h0 hg'
      rw [hk] at h
      exact h
    have C2 : Hid (∀ (w' : World) (v0 : Value), ReadsVecs w' v0 (l) → EtOk w' → Calls Tryd.prog 31 #[v0, .int .i64 (i)] w' (fun e w'' => e = .returned (.tuple #[.agg #[.int .i64 ((cyc l i.toNat).1), .int .i64 ((cyc l i.toNat).2), .int .i64 ((cyc l (i.toNat + 1)).1), .int .i64 ((cyc l (i.toNat + 1)).2)], .bool true]) ∧ Below w'.heap.size w' w'')) := fun w' v0 h0 hg' => by
      have h := specFanCone_any v0 l (i) w' h0
      rw [hk] at h
      exact h
    rw [Bool.and_eq_true] at hk
    obtain ⟨q0, q1⟩ := hk
    obtain ⟨m, hm, hlt⟩ := idx_in q1
    subst hm
    rw [Int.toNat_natCast] at C1 C2
    have q2 := where_sum q0 hlt
    have q3 : coneB (cyc l m).1 (cyc l m).2 (cyc l (m + 1)).1 (cyc l (m + 1)).2 = true := fan_cone q0 m
    have q5 : vecB 0 0 = true := rfl
    have v1 := fan_vec q0 m
    have v2 := fan_vec q0 (m + 1)
    have C5 : Hid (∀ (w' : World),  EtOk w' → Calls Tryd.prog 34 #[.agg #[.int .i64 ((cyc l m).1), .int .i64 ((cyc l m).2), .int .i64 ((cyc l (m + 1)).1), .int .i64 ((cyc l (m + 1)).2)]] w' (fun e w'' => e = .returned (.bool (true)) ∧ Below w'.heap.size w' w'')) := fun w'  hg' => by
      have h := coneIn_any (cyc l m).1 (cyc l m).2 (cyc l (m + 1)).1 (cyc l (m + 1)).2 w' hg'
      rw [q3] at h
      exact h
    obtain ⟨fb, fo, fc, rfl, -, -, hfb, hfs⟩ := Hf.out.open (by omega)
    have Hg : Hid (CellsAt w1 fb (fo + m * 2) [.int .i64 (cyc l m).1, .int .i64 (cyc l m).2]) := ⟨hfb, fun i v hv => by
      obtain ⟨g0, g1⟩ := hfs w1 (Below.refl _ _) m hlt
      match i, hv with
      | 0, hv => simp at hv; subst hv; exact g0
      | 1, hv => simp at hv; subst hv; exact g1⟩
    clear hfs hfb
    have hlm : (m : Int) < (l.length : Int) := by omega
    have hm0 : (0 : Int) ≤ (m : Int) := by omega
    cases hk2 : vecB ((cyc l m).1 + (cyc l (m + 1)).1) ((cyc l m).2 + (cyc l (m + 1)).2)
    · have hadd : addOk (cyc l m).1 (cyc l m).2 (cyc l (m + 1)).1 (cyc l (m + 1)).2 = false := by unfold addOk; rw [hk2, Bool.and_false]
      have C3 : Hid (∀ (w' : World),  EtOk w' → Calls Tryd.prog 32 #[.agg #[.int .i64 ((cyc l m).1), .int .i64 ((cyc l m).2)], .agg #[.int .i64 ((cyc l (m + 1)).1), .int .i64 ((cyc l (m + 1)).2)]] w' (fun e w'' => e = .returned (.tuple #[.agg #[.int .i64 (0), .int .i64 (0)], .bool false]) ∧ Below w'.heap.size w' w'')) := fun w'  hg' => by
        have h := vecAdd_any (cyc l m).1 (cyc l m).2 (cyc l (m + 1)).1 (cyc l (m + 1)).2 w' hg'
        rw [hadd] at h
        exact h
      obtain ⟨Z, hZ⟩ : ∃ Z, Z = ((firstI (fun i => inC l i (0, 0)) l.length : Nat) : Int) := ⟨_, rfl⟩
      have C4 : Hid (∀ (w' : World) (v0 : Value), ReadsVecs w' v0 (l) → EtOk w' → Calls Tryd.prog 33 #[v0, .agg #[.int .i64 (0), .int .i64 (0)]] w' (fun e w'' => e = .returned (.tuple #[.int .i64 (Z), .bool (true)]) ∧ Below w'.heap.size w' w'')) := fun w' v0 h0 hg' => by
        have h := fanWhere_any v0 l 0 0 w' h0 hg'
        rw [q0, q5, Bool.and_true, ← hZ] at h
        exact h
      clear hZ
      clear q0 q1 q2 q3 q5 hk2 hadd v1 v2
      generalize (cyc l m).1 = a at *
      generalize (cyc l m).2 = b at *
      generalize (cyc l (m + 1)).1 = c at *
      generalize (cyc l (m + 1)).2 = d at *
      go_wp2_with fail
      refine Calls.mono (C1.out _ _ (Hf.out.below (by go_grown)) (HG.out.below (by go_grown))) ?_
      rintro e w2 ⟨rfl, hb2⟩
      have hB2 := belowTo (a := w1) (by go_grown) hb2
      replace Hf := Lib.hid (Hf.out.below hB2)
      replace Hg := Lib.hid (Hg.out.below hB2)
      replace HG := Lib.hid (HG.out.below hB2)
      replace HB := Lib.hid (belowTo HB.out hB2)
      clear hb2 hB2
      go_wp2_with fail
      refine Calls.mono (C2.out _ _ (Hf.out.below (by go_grown)) (HG.out.below (by go_grown))) ?_
      rintro e w3 ⟨rfl, hb3⟩
      have hB3 := belowTo (a := w2) (by go_grown) hb3
      replace Hf := Lib.hid (Hf.out.below hB3)
      replace Hg := Lib.hid (Hg.out.below hB3)
      have Hb1 : Hid (BoxAt w3 w2.heap.size [.int .i64 a, .int .i64 b, .int .i64 c, .int .i64 d]) := Lib.hid (BoxAt.below (BoxAt.made4 _ (.int .i64 a) (.int .i64 b) (.int .i64 c) (.int .i64 d) _) hb3)
      obtain ⟨mb10, mb11, mb12, mb13⟩ := Hb1.out.four
      have ltb1 := Hb1.out.1
      have neb1 := Nat.ne_of_lt ltb1
      replace HG := Lib.hid (HG.out.below hB3)
      replace HB := Lib.hid (belowTo HB.out hB3)
      clear hb3 hB3
      go_wp2_with fail
      refine Calls.mono (C3.out _   (HG.out.below (by go_grown))) ?_
      rintro e w4 ⟨rfl, hb4⟩
      have hB4 := belowTo (a := w3) (by go_grown) hb4
      replace Hf := Lib.hid (Hf.out.below hB4)
      replace Hg := Lib.hid (Hg.out.below hB4)
      clear mb10 mb11 mb12 mb13 ltb1 neb1
      replace Hb1 := Lib.hid (Hb1.out.below hB4)
      have Hb2 : Hid (BoxAt w4 w3.heap.size [.int .i64 a, .int .i64 b, .int .i64 c, .int .i64 d]) := Lib.hid (BoxAt.below (BoxAt.made4 _ (.int .i64 a) (.int .i64 b) (.int .i64 c) (.int .i64 d) _) hb4)
      obtain ⟨mb10, mb11, mb12, mb13⟩ := Hb1.out.four
      have ltb1 := Hb1.out.1
      have neb1 := Nat.ne_of_lt ltb1
      obtain ⟨mb20, mb21, mb22, mb23⟩ := Hb2.out.four
      have ltb2 := Hb2.out.1
      have neb2 := Nat.ne_of_lt ltb2
      replace HG := Lib.hid (HG.out.below hB4)
      replace HB := Lib.hid (belowTo HB.out hB4)
      clear hb4 hB4
      go_wp2_with fail
      refine Calls.mono (C4.out _ _ (Hf.out.below (by go_grown)) (HG.out.below (by go_grown))) ?_
      rintro e w5 ⟨rfl, hb5⟩
      have hB5 := belowTo (a := w4) (by go_grown) hb5
      replace Hf := Lib.hid (Hf.out.below hB5)
      replace Hg := Lib.hid (Hg.out.below hB5)
      clear mb10 mb11 mb12 mb13 ltb1 neb1
      replace Hb1 := Lib.hid (Hb1.out.below hB5)
      clear mb20 mb21 mb22 mb23 ltb2 neb2
      replace Hb2 := Lib.hid (Hb2.out.below hB5)
      have Hs : Hid (BoxAt w5 w4.heap.size [.int .i64 0, .int .i64 0]) := Lib.hid (BoxAt.below (BoxAt.made2 _ (.int .i64 0) (.int .i64 0) _) hb5)
      obtain ⟨mb10, mb11, mb12, mb13⟩ := Hb1.out.four
      have ltb1 := Hb1.out.1
      have neb1 := Nat.ne_of_lt ltb1
      obtain ⟨mb20, mb21, mb22, mb23⟩ := Hb2.out.four
      have ltb2 := Hb2.out.1
      have neb2 := Nat.ne_of_lt ltb2
      obtain ⟨ms0, ms1⟩ := Hs.out.two
      have lts := Hs.out.1
      have nes := Nat.ne_of_lt lts
      replace HG := Lib.hid (HG.out.below hB5)
      replace HB := Lib.hid (belowTo HB.out hB5)
      clear hb5 hB5
      have HC5 := Lib.hid (fun w' (hb : Below w5.heap.size w5 w') => C5.out w' (HG.out.below hb))
      have qs := fun w' => run_eqSame a b w'
      have gc0 : w5.cell? ⟨fb, fo + m * 2, none⟩ = some (.int .i64 a) := Hg.out.2 0 _ rfl
      have gc1 : w5.cell? ⟨fb, fo + m * 2 + 1, none⟩ = some (.int .i64 b) := Hg.out.2 1 _ rfl
      have hfbw := Hg.out.1
      clear C1 C2 C3 C4 C5 Hg Hf HG
      go_wp2
      refine wp_region_any (by kernel_rfl) ?_
      try (change wpAny _ _ _ _ _ _ _ (World.drew _))
      refine wpAny_of_held (S := fun w' => Below (w5.heap.size) w5 w') _ _ _ _ ?_
      have hSw : Below (w5.heap.size) w5 (World.drew w5) := by go_grown
      generalize World.drew w5 = wd at hSw ⊢
      refine wpAnyH_take (i := 0) (v := ?_) rfl (by kernel_rfl) (by kernel_rfl) (by kernel_rfl) (fun _ _ _ h => h) (Or.inl ⟨by rfl, ?_⟩) hSw ?_
      rotate_left
      focus (intro w0 hS0; have r0 := (hS0.cell (p := ⟨w2.heap.size, 0, none⟩) ltb1).trans mb10; have r1 := (hS0.cell (p := ⟨w2.heap.size, 1, none⟩) ltb1).trans mb11; have r2 := (hS0.cell (p := ⟨w2.heap.size, 2, none⟩) ltb1).trans mb12; have r3 := (hS0.cell (p := ⟨w2.heap.size, 3, none⟩) ltb1).trans mb13; have r4 := (hS0.cell (p := ⟨fb, fo + m * 2, none⟩) hfbw).trans gc0; have r5 := (hS0.cell (p := ⟨fb, fo + m * 2 + 1, none⟩) hfbw).trans gc1; clear hS0; go_simp; try with_reducible rfl)
      refine wpAnyH_ready (rs := [1]) (by kernel_rfl) (by simp) (AllReadyH.cons rfl (fun K hK => ?_) (AllReadyH.nil))
      go_simp
      (refine Calls.mono (HC5.out _ hSw) ?_; rintro e wa ⟨rfl, hbX⟩; replace hSw := belowTo hSw hbX; refine hK.out _ _ hSw (fun _ => ?_); clear hK K hbX)
      refine wpAnyH_take (i := 2) (v := ?_) rfl (by kernel_rfl) (by kernel_rfl) (by kernel_rfl) (fun _ _ _ h => h) (Or.inl ⟨by rfl, ?_⟩) hSw ?_
      rotate_left
      focus (intro w0 hS0; clear hS0; go_simp; try with_reducible rfl)
      refine wpAnyH_take (i := 3) (v := ?_) rfl (by kernel_rfl) (by kernel_rfl) (by kernel_rfl) (fun _ _ _ h => h) (Or.inl ⟨by kernel_rfl, ?_⟩) hSw ?_
      rotate_left
      focus (intro w0 hS0; clear hS0; go_simp; try with_reducible rfl)
      refine wpAnyH_take (i := 4) (v := ?_) rfl (by kernel_rfl) (by kernel_rfl) (by kernel_rfl) (fun _ _ _ h => h) (Or.inl ⟨by kernel_rfl, ?_⟩) hSw ?_
      rotate_left
      focus (intro w0 hS0; have r0 := (hS0.cell (p := ⟨w2.heap.size, 0, none⟩) ltb1).trans mb10; have r1 := (hS0.cell (p := ⟨w2.heap.size, 1, none⟩) ltb1).trans mb11; have r2 := (hS0.cell (p := ⟨w2.heap.size, 2, none⟩) ltb1).trans mb12; have r3 := (hS0.cell (p := ⟨w2.heap.size, 3, none⟩) ltb1).trans mb13; have r4 := (hS0.cell (p := ⟨fb, fo + m * 2, none⟩) hfbw).trans gc0; have r5 := (hS0.cell (p := ⟨fb, fo + m * 2 + 1, none⟩) hfbw).trans gc1; clear hS0; go_simp; try with_reducible rfl)
      refine wpAnyH_take (i := 5) (v := ?_) rfl (by kernel_rfl) (by kernel_rfl) (by kernel_rfl) (fun _ _ _ h => h) (Or.inl ⟨by kernel_rfl, ?_⟩) hSw ?_
      rotate_left
      focus (intro w0 hS0; clear hS0; go_simp; try with_reducible rfl)
      refine wpAnyH_take (i := 6) (v := ?_) rfl (by kernel_rfl) (by kernel_rfl) (by kernel_rfl) (fun _ _ _ h => h) (Or.inl ⟨by kernel_rfl, ?_⟩) hSw ?_
      rotate_left
      focus (intro w0 hS0; clear hS0; go_simp; try with_reducible rfl)
      refine wpAnyH_take (i := 7) (v := ?_) rfl (by kernel_rfl) (by kernel_rfl) (by kernel_rfl) (fun _ _ _ h => h) (Or.inl ⟨by kernel_rfl, ?_⟩) hSw ?_
      rotate_left
      focus (intro w0 hS0; clear hS0; go_simp; try with_reducible rfl)
      refine wpAnyH_take (i := 8) (v := ?_) rfl (by kernel_rfl) (by kernel_rfl) (by kernel_rfl) (fun _ _ _ h => h) (Or.inl ⟨by kernel_rfl, ?_⟩) hSw ?_
      rotate_left
      focus (intro w0 hS0; have r0 := (hS0.cell (p := ⟨w2.heap.size, 0, none⟩) ltb1).trans mb10; have r1 := (hS0.cell (p := ⟨w2.heap.size, 1, none⟩) ltb1).trans mb11; have r2 := (hS0.cell (p := ⟨w2.heap.size, 2, none⟩) ltb1).trans mb12; have r3 := (hS0.cell (p := ⟨w2.heap.size, 3, none⟩) ltb1).trans mb13; have r4 := (hS0.cell (p := ⟨fb, fo + m * 2, none⟩) hfbw).trans gc0; have r5 := (hS0.cell (p := ⟨fb, fo + m * 2 + 1, none⟩) hfbw).trans gc1; clear hS0; go_simp; try with_reducible rfl)
      refine wpAnyH_take (i := 9) (v := ?_) rfl (by kernel_rfl) (by kernel_rfl) (by kernel_rfl) (fun _ _ _ h => h) (Or.inl ⟨by kernel_rfl, ?_⟩) hSw ?_
      rotate_left
      focus (intro w0 hS0; clear hS0; go_simp; try with_reducible rfl)
      refine wpAnyH_take (i := 10) (v := ?_) rfl (by kernel_rfl) (by kernel_rfl) (by kernel_rfl) (fun _ _ _ h => h) (Or.inl ⟨by rfl, ?_⟩) hSw ?_
      rotate_left
      focus (intro w0 hS0; clear hS0; go_simp; try with_reducible rfl)
      refine wpAnyH_take (i := 11) (v := ?_) rfl (by kernel_rfl) (by kernel_rfl) (by kernel_rfl) (fun _ _ _ h => h) (Or.inl ⟨by rfl, ?_⟩) hSw ?_
      rotate_left
      focus (intro w0 hS0; clear hS0; go_simp; try with_reducible rfl)
      refine wpAnyH_take (i := 12) (v := ?_) rfl (by kernel_rfl) (by kernel_rfl) (by kernel_rfl) (fun _ _ _ h => h) (Or.inl ⟨by kernel_rfl, ?_⟩) hSw ?_
      rotate_left
      focus (intro w0 hS0; clear hS0; go_simp; try with_reducible rfl)
      refine wpAnyH_take (i := 13) (v := ?_) rfl (by kernel_rfl) (by kernel_rfl) (by kernel_rfl) (fun _ _ _ h => h) (Or.inl ⟨by kernel_rfl, ?_⟩) hSw ?_
      rotate_left
      focus (intro w0 hS0; clear hS0; go_simp; try with_reducible rfl)
      refine wpAnyH_take (i := 14) (v := ?_) rfl (by kernel_rfl) (by kernel_rfl) (by kernel_rfl) (fun _ _ _ h => h) (Or.inl ⟨by kernel_rfl, ?_⟩) hSw ?_
      rotate_left
      focus (intro w0 hS0; clear hS0; go_simp; try with_reducible rfl)
      refine wpAnyH_take (i := 15) (v := undef) rfl (by kernel_rfl) (by kernel_rfl) (by kernel_rfl) (fun _ _ _ h => h) (Or.inr ⟨by kernel_rfl, rfl⟩) hSw ?_
      refine wpAnyH_take (i := 16) (v := undef) rfl (by kernel_rfl) (by kernel_rfl) (by kernel_rfl) (fun _ _ _ h => h) (Or.inr ⟨by kernel_rfl, rfl⟩) hSw ?_
      refine wpAnyH_take (i := 17) (v := undef) rfl (by kernel_rfl) (by kernel_rfl) (by kernel_rfl) (fun _ _ _ h => h) (Or.inr ⟨by kernel_rfl, rfl⟩) hSw ?_
      refine wpAnyH_take (i := 18) (v := undef) rfl (by kernel_rfl) (by kernel_rfl) (by kernel_rfl) (fun _ _ _ h => h) (Or.inr ⟨by kernel_rfl, rfl⟩) hSw ?_
      refine wpAnyH_take (i := 19) (v := undef) rfl (by kernel_rfl) (by kernel_rfl) (by kernel_rfl) (fun _ _ _ h => h) (Or.inr ⟨by kernel_rfl, rfl⟩) hSw ?_
      refine wpAnyH_take (i := 20) (v := undef) rfl (by kernel_rfl) (by kernel_rfl) (by kernel_rfl) (fun _ _ _ h => h) (Or.inr ⟨by kernel_rfl, rfl⟩) hSw ?_
      refine wpAnyH_take (i := 21) (v := ?_) rfl (by kernel_rfl) (by kernel_rfl) (by kernel_rfl) (fun _ _ _ h => h) (Or.inl ⟨by kernel_rfl, ?_⟩) hSw ?_
      rotate_left
      focus (intro w0 hS0; clear hS0; go_simp; try with_reducible rfl)
      refine wpAnyH_take (i := 22) (v := ?_) rfl (by kernel_rfl) (by kernel_rfl) (by kernel_rfl) (fun _ _ _ h => h) (Or.inl ⟨by rfl, ?_⟩) hSw ?_
      rotate_left
      focus (intro w0 hS0; clear hS0; go_simp; try with_reducible rfl)
      refine wpAnyH_take (i := 23) (v := ?_) rfl (by kernel_rfl) (by kernel_rfl) (by kernel_rfl) (fun _ _ _ h => h) (Or.inl ⟨by rfl, ?_⟩) hSw ?_
      rotate_left
      focus (intro w0 hS0; clear hS0; go_simp; try with_reducible rfl)
      refine wpAnyH_done (by kernel_rfl) ?_ _
      have HBl := Lib.hid (belowTo HB.out hSw)
      clear hSw
      go_simp
      go_wp2
      go_returns
      exact ⟨rfl, HBl.out⟩
    · have hadd : addOk (cyc l m).1 (cyc l m).2 (cyc l (m + 1)).1 (cyc l (m + 1)).2 = true := by unfold addOk; rw [hk2, v1, v2]; rfl
      have C3 : Hid (∀ (w' : World),  EtOk w' → Calls Tryd.prog 32 #[.agg #[.int .i64 ((cyc l m).1), .int .i64 ((cyc l m).2)], .agg #[.int .i64 ((cyc l (m + 1)).1), .int .i64 ((cyc l (m + 1)).2)]] w' (fun e w'' => e = .returned (.tuple #[.agg #[.int .i64 ((cyc l m).1 + (cyc l (m + 1)).1), .int .i64 ((cyc l m).2 + (cyc l (m + 1)).2)], .bool true]) ∧ Below w'.heap.size w' w'')) := fun w'  hg' => by
        have h := vecAdd_any (cyc l m).1 (cyc l m).2 (cyc l (m + 1)).1 (cyc l (m + 1)).2 w' hg'
        rw [hadd] at h
        exact h
      have C4 : Hid (∀ (w' : World) (v0 : Value), ReadsVecs w' v0 (l) → EtOk w' → Calls Tryd.prog 33 #[v0, .agg #[.int .i64 ((cyc l m).1 + (cyc l (m + 1)).1), .int .i64 ((cyc l m).2 + (cyc l (m + 1)).2)]] w' (fun e w'' => e = .returned (.tuple #[.int .i64 ((m : Int)), .bool (true)]) ∧ Below w'.heap.size w' w'')) := fun w' v0 h0 hg' => by
        have h := fanWhere_any v0 l ((cyc l m).1 + (cyc l (m + 1)).1) ((cyc l m).2 + (cyc l (m + 1)).2) w' h0 hg'
        rw [q0, hk2, q2] at h
        exact h
      clear q0 q1 q2 q3 q5 hk2 hadd v1 v2
      generalize (cyc l m).1 + (cyc l (m + 1)).1 = p at *
      generalize (cyc l m).2 + (cyc l (m + 1)).2 = q at *
      generalize (cyc l m).1 = a at *
      generalize (cyc l m).2 = b at *
      generalize (cyc l (m + 1)).1 = c at *
      generalize (cyc l (m + 1)).2 = d at *
      go_wp2_with fail
      refine Calls.mono (C1.out _ _ (Hf.out.below (by go_grown)) (HG.out.below (by go_grown))) ?_
      rintro e w2 ⟨rfl, hb2⟩
      have hB2 := belowTo (a := w1) (by go_grown) hb2
      replace Hf := Lib.hid (Hf.out.below hB2)
      replace Hg := Lib.hid (Hg.out.below hB2)
      replace HG := Lib.hid (HG.out.below hB2)
      replace HB := Lib.hid (belowTo HB.out hB2)
      clear hb2 hB2
      go_wp2_with fail
      refine Calls.mono (C2.out _ _ (Hf.out.below (by go_grown)) (HG.out.below (by go_grown))) ?_
      rintro e w3 ⟨rfl, hb3⟩
      have hB3 := belowTo (a := w2) (by go_grown) hb3
      replace Hf := Lib.hid (Hf.out.below hB3)
      replace Hg := Lib.hid (Hg.out.below hB3)
      have Hb1 : Hid (BoxAt w3 w2.heap.size [.int .i64 a, .int .i64 b, .int .i64 c, .int .i64 d]) := Lib.hid (BoxAt.below (BoxAt.made4 _ (.int .i64 a) (.int .i64 b) (.int .i64 c) (.int .i64 d) _) hb3)
      obtain ⟨mb10, mb11, mb12, mb13⟩ := Hb1.out.four
      have ltb1 := Hb1.out.1
      have neb1 := Nat.ne_of_lt ltb1
      replace HG := Lib.hid (HG.out.below hB3)
      replace HB := Lib.hid (belowTo HB.out hB3)
      clear hb3 hB3
      go_wp2_with fail
      refine Calls.mono (C3.out _   (HG.out.below (by go_grown))) ?_
      rintro e w4 ⟨rfl, hb4⟩
      have hB4 := belowTo (a := w3) (by go_grown) hb4
      replace Hf := Lib.hid (Hf.out.below hB4)
      replace Hg := Lib.hid (Hg.out.below hB4)
      clear mb10 mb11 mb12 mb13 ltb1 neb1
      replace Hb1 := Lib.hid (Hb1.out.below hB4)
      have Hb2 : Hid (BoxAt w4 w3.heap.size [.int .i64 a, .int .i64 b, .int .i64 c, .int .i64 d]) := Lib.hid (BoxAt.below (BoxAt.made4 _ (.int .i64 a) (.int .i64 b) (.int .i64 c) (.int .i64 d) _) hb4)
      obtain ⟨mb10, mb11, mb12, mb13⟩ := Hb1.out.four
      have ltb1 := Hb1.out.1
      have neb1 := Nat.ne_of_lt ltb1
      obtain ⟨mb20, mb21, mb22, mb23⟩ := Hb2.out.four
      have ltb2 := Hb2.out.1
      have neb2 := Nat.ne_of_lt ltb2
      replace HG := Lib.hid (HG.out.below hB4)
      replace HB := Lib.hid (belowTo HB.out hB4)
      clear hb4 hB4
      go_wp2_with fail
      refine Calls.mono (C4.out _ _ (Hf.out.below (by go_grown)) (HG.out.below (by go_grown))) ?_
      rintro e w5 ⟨rfl, hb5⟩
      have hB5 := belowTo (a := w4) (by go_grown) hb5
      replace Hf := Lib.hid (Hf.out.below hB5)
      replace Hg := Lib.hid (Hg.out.below hB5)
      clear mb10 mb11 mb12 mb13 ltb1 neb1
      replace Hb1 := Lib.hid (Hb1.out.below hB5)
      clear mb20 mb21 mb22 mb23 ltb2 neb2
      replace Hb2 := Lib.hid (Hb2.out.below hB5)
      have Hs : Hid (BoxAt w5 w4.heap.size [.int .i64 p, .int .i64 q]) := Lib.hid (BoxAt.below (BoxAt.made2 _ (.int .i64 p) (.int .i64 q) _) hb5)
      obtain ⟨mb10, mb11, mb12, mb13⟩ := Hb1.out.four
      have ltb1 := Hb1.out.1
      have neb1 := Nat.ne_of_lt ltb1
      obtain ⟨mb20, mb21, mb22, mb23⟩ := Hb2.out.four
      have ltb2 := Hb2.out.1
      have neb2 := Nat.ne_of_lt ltb2
      obtain ⟨ms0, ms1⟩ := Hs.out.two
      have lts := Hs.out.1
      have nes := Nat.ne_of_lt lts
      replace HG := Lib.hid (HG.out.below hB5)
      replace HB := Lib.hid (belowTo HB.out hB5)
      clear hb5 hB5
      have HC5 := Lib.hid (fun w' (hb : Below w5.heap.size w5 w') => C5.out w' (HG.out.below hb))
      have qs := fun w' => run_eqSame a b w'
      have gc0 : w5.cell? ⟨fb, fo + m * 2, none⟩ = some (.int .i64 a) := Hg.out.2 0 _ rfl
      have gc1 : w5.cell? ⟨fb, fo + m * 2 + 1, none⟩ = some (.int .i64 b) := Hg.out.2 1 _ rfl
      have hfbw := Hg.out.1
      clear C1 C2 C3 C4 C5 Hg Hf HG
      go_wp2
      refine wp_region_any (by kernel_rfl) ?_
      try (change wpAny _ _ _ _ _ _ _ (World.drew _))
      refine wpAny_of_held (S := fun w' => Below (w5.heap.size) w5 w') _ _ _ _ ?_
      have hSw : Below (w5.heap.size) w5 (World.drew w5) := by go_grown
      generalize World.drew w5 = wd at hSw ⊢
      refine wpAnyH_take (i := 0) (v := ?_) rfl (by kernel_rfl) (by kernel_rfl) (by kernel_rfl) (fun _ _ _ h => h) (Or.inl ⟨by rfl, ?_⟩) hSw ?_
      rotate_left
      focus (intro w0 hS0; have r0 := (hS0.cell (p := ⟨w2.heap.size, 0, none⟩) ltb1).trans mb10; have r1 := (hS0.cell (p := ⟨w2.heap.size, 1, none⟩) ltb1).trans mb11; have r2 := (hS0.cell (p := ⟨w2.heap.size, 2, none⟩) ltb1).trans mb12; have r3 := (hS0.cell (p := ⟨w2.heap.size, 3, none⟩) ltb1).trans mb13; have r4 := (hS0.cell (p := ⟨fb, fo + m * 2, none⟩) hfbw).trans gc0; have r5 := (hS0.cell (p := ⟨fb, fo + m * 2 + 1, none⟩) hfbw).trans gc1; clear hS0; go_simp; try with_reducible rfl)
      refine wpAnyH_ready (rs := [1]) (by kernel_rfl) (by simp) (AllReadyH.cons rfl (fun K hK => ?_) (AllReadyH.nil))
      go_simp
      (refine Calls.mono (HC5.out _ hSw) ?_; rintro e wa ⟨rfl, hbX⟩; replace hSw := belowTo hSw hbX; refine hK.out _ _ hSw (fun _ => ?_); clear hK K hbX)
      refine wpAnyH_take (i := 2) (v := ?_) rfl (by kernel_rfl) (by kernel_rfl) (by kernel_rfl) (fun _ _ _ h => h) (Or.inl ⟨by rfl, ?_⟩) hSw ?_
      rotate_left
      focus (intro w0 hS0; clear hS0; go_simp; try with_reducible rfl)
      refine wpAnyH_take (i := 3) (v := ?_) rfl (by kernel_rfl) (by kernel_rfl) (by kernel_rfl) (fun _ _ _ h => h) (Or.inl ⟨by kernel_rfl, ?_⟩) hSw ?_
      rotate_left
      focus (intro w0 hS0; clear hS0; go_simp; try with_reducible rfl)
      refine wpAnyH_take (i := 4) (v := ?_) rfl (by kernel_rfl) (by kernel_rfl) (by kernel_rfl) (fun _ _ _ h => h) (Or.inl ⟨by kernel_rfl, ?_⟩) hSw ?_
      rotate_left
      focus (intro w0 hS0; have r0 := (hS0.cell (p := ⟨w2.heap.size, 0, none⟩) ltb1).trans mb10; have r1 := (hS0.cell (p := ⟨w2.heap.size, 1, none⟩) ltb1).trans mb11; have r2 := (hS0.cell (p := ⟨w2.heap.size, 2, none⟩) ltb1).trans mb12; have r3 := (hS0.cell (p := ⟨w2.heap.size, 3, none⟩) ltb1).trans mb13; have r4 := (hS0.cell (p := ⟨fb, fo + m * 2, none⟩) hfbw).trans gc0; have r5 := (hS0.cell (p := ⟨fb, fo + m * 2 + 1, none⟩) hfbw).trans gc1; clear hS0; go_simp; try with_reducible rfl)
      refine wpAnyH_take (i := 5) (v := ?_) rfl (by kernel_rfl) (by kernel_rfl) (by kernel_rfl) (fun _ _ _ h => h) (Or.inl ⟨by kernel_rfl, ?_⟩) hSw ?_
      rotate_left
      focus (intro w0 hS0; clear hS0; go_simp; try with_reducible rfl)
      refine wpAnyH_take (i := 6) (v := ?_) rfl (by kernel_rfl) (by kernel_rfl) (by kernel_rfl) (fun _ _ _ h => h) (Or.inl ⟨by kernel_rfl, ?_⟩) hSw ?_
      rotate_left
      focus (intro w0 hS0; clear hS0; go_simp; try with_reducible rfl)
      refine wpAnyH_take (i := 7) (v := ?_) rfl (by kernel_rfl) (by kernel_rfl) (by kernel_rfl) (fun _ _ _ h => h) (Or.inl ⟨by kernel_rfl, ?_⟩) hSw ?_
      rotate_left
      focus (intro w0 hS0; clear hS0; go_simp; try with_reducible rfl)
      refine wpAnyH_take (i := 8) (v := ?_) rfl (by kernel_rfl) (by kernel_rfl) (by kernel_rfl) (fun _ _ _ h => h) (Or.inl ⟨by kernel_rfl, ?_⟩) hSw ?_
      rotate_left
      focus (intro w0 hS0; have r0 := (hS0.cell (p := ⟨w2.heap.size, 0, none⟩) ltb1).trans mb10; have r1 := (hS0.cell (p := ⟨w2.heap.size, 1, none⟩) ltb1).trans mb11; have r2 := (hS0.cell (p := ⟨w2.heap.size, 2, none⟩) ltb1).trans mb12; have r3 := (hS0.cell (p := ⟨w2.heap.size, 3, none⟩) ltb1).trans mb13; have r4 := (hS0.cell (p := ⟨fb, fo + m * 2, none⟩) hfbw).trans gc0; have r5 := (hS0.cell (p := ⟨fb, fo + m * 2 + 1, none⟩) hfbw).trans gc1; clear hS0; go_simp; try with_reducible rfl)
      refine wpAnyH_take (i := 9) (v := ?_) rfl (by kernel_rfl) (by kernel_rfl) (by kernel_rfl) (fun _ _ _ h => h) (Or.inl ⟨by kernel_rfl, ?_⟩) hSw ?_
      rotate_left
      focus (intro w0 hS0; clear hS0; go_simp; try with_reducible rfl)
      refine wpAnyH_take (i := 10) (v := ?_) rfl (by kernel_rfl) (by kernel_rfl) (by kernel_rfl) (fun _ _ _ h => h) (Or.inl ⟨by rfl, ?_⟩) hSw ?_
      rotate_left
      focus (intro w0 hS0; clear hS0; go_simp; try with_reducible rfl)
      refine wpAnyH_take (i := 11) (v := ?_) rfl (by kernel_rfl) (by kernel_rfl) (by kernel_rfl) (fun _ _ _ h => h) (Or.inl ⟨by rfl, ?_⟩) hSw ?_
      rotate_left
      focus (intro w0 hS0; clear hS0; go_simp; try with_reducible rfl)
      refine wpAnyH_take (i := 12) (v := ?_) rfl (by kernel_rfl) (by kernel_rfl) (by kernel_rfl) (fun _ _ _ h => h) (Or.inl ⟨by kernel_rfl, ?_⟩) hSw ?_
      rotate_left
      focus (intro w0 hS0; clear hS0; go_simp; try with_reducible rfl)
      refine wpAnyH_take (i := 13) (v := ?_) rfl (by kernel_rfl) (by kernel_rfl) (by kernel_rfl) (fun _ _ _ h => h) (Or.inl ⟨by kernel_rfl, ?_⟩) hSw ?_
      rotate_left
      focus (intro w0 hS0; clear hS0; go_simp; try with_reducible rfl)
      refine wpAnyH_take (i := 14) (v := ?_) rfl (by kernel_rfl) (by kernel_rfl) (by kernel_rfl) (fun _ _ _ h => h) (Or.inl ⟨by kernel_rfl, ?_⟩) hSw ?_
      rotate_left
      focus (intro w0 hS0; clear hS0; go_simp; try with_reducible rfl)
      refine wpAnyH_take (i := 15) (v := ?_) rfl (by kernel_rfl) (by kernel_rfl) (by kernel_rfl) (fun _ _ _ h => h) (Or.inl ⟨by kernel_rfl, ?_⟩) hSw ?_
      rotate_left
      focus (intro w0 hS0; clear hS0; go_simp; try with_reducible rfl)
      refine wpAnyH_take (i := 16) (v := ?_) rfl (by kernel_rfl) (by kernel_rfl) (by kernel_rfl) (fun _ _ _ h => h) (Or.inl ⟨by kernel_rfl, ?_⟩) hSw ?_
      rotate_left
      focus (intro w0 hS0; clear hS0; go_simp; try with_reducible rfl)
      refine wpAnyH_take (i := 17) (v := ?_) rfl (by kernel_rfl) (by kernel_rfl) (by kernel_rfl) (fun _ _ _ h => h) (Or.inl ⟨by kernel_rfl, ?_⟩) hSw ?_
      rotate_left
      focus (intro w0 hS0; clear hS0; go_simp; try with_reducible rfl)
      refine wpAnyH_take (i := 18) (v := ?_) rfl (by kernel_rfl) (by kernel_rfl) (by kernel_rfl) (fun _ _ _ h => h) (Or.inl ⟨by kernel_rfl, ?_⟩) hSw ?_
      rotate_left
      focus (intro w0 hS0; clear hS0; go_simp; try with_reducible rfl)
      refine wpAnyH_take (i := 19) (v := ?_) rfl (by kernel_rfl) (by kernel_rfl) (by kernel_rfl) (fun _ _ _ h => h) (Or.inl ⟨by kernel_rfl, ?_⟩) hSw ?_
      rotate_left
      focus (intro w0 hS0; clear hS0; go_simp; try with_reducible rfl)
      refine wpAnyH_take (i := 20) (v := ?_) rfl (by kernel_rfl) (by kernel_rfl) (by kernel_rfl) (fun _ _ _ h => h) (Or.inl ⟨by kernel_rfl, ?_⟩) hSw ?_
      rotate_left
      focus (intro w0 hS0; clear hS0; go_simp; try with_reducible rfl)
      refine wpAnyH_take (i := 21) (v := ?_) rfl (by kernel_rfl) (by kernel_rfl) (by kernel_rfl) (fun _ _ _ h => h) (Or.inl ⟨by kernel_rfl, ?_⟩) hSw ?_
      rotate_left
      focus (intro w0 hS0; clear hS0; go_simp; try with_reducible rfl)
      refine wpAnyH_take (i := 22) (v := ?_) rfl (by kernel_rfl) (by kernel_rfl) (by kernel_rfl) (fun _ _ _ h => h) (Or.inl ⟨by rfl, ?_⟩) hSw ?_
      rotate_left
      focus (intro w0 hS0; clear hS0; go_simp; try with_reducible rfl)
      refine wpAnyH_take (i := 23) (v := ?_) rfl (by kernel_rfl) (by kernel_rfl) (by kernel_rfl) (fun _ _ _ h => h) (Or.inl ⟨by rfl, ?_⟩) hSw ?_
      rotate_left
      focus (intro w0 hS0; clear hS0; go_simp; try with_reducible rfl)
      refine wpAnyH_done (by kernel_rfl) ?_ _
      have HBl := Lib.hid (belowTo HB.out hSw)
      clear hSw
      go_simp
      go_wp2
      go_returns
      exact ⟨rfl, HBl.out⟩
end Go.Proofs.YtdlofnkimikaiaaDoor
