import Derived.Test.YtcieihbknfeddaaDoorGz
import Derived.Test.YtcieihbknfeddaaDoorI1
import Derived.Test.YtcieihbknfeddaaDoorBl
namespace Go.Proofs.YtcieihbknfeddaaDoor
open Go.RowKit

set_option maxHeartbeats 8000000 in
theorem exactFanWhere_any (v : Value) (l : List V2) (x y : Int) (w : World) (h : ReadsVecs w v l) (hg : EtOk w) :
    Calls Tryd.prog 9 #[v, .agg #[.int .i64 x, .int .i64 y]] w fun e w' => e = .returned (.bool true) ∧ Below w.heap.size w w' := by
  have h' := h
  obtain ⟨a, c, rfl, _, hm0, _⟩ := h'
  have HZ := Lib.hid (fun w' => szVecS_any a l.length c w' (by omega))
  by_cases hl : l.length ≤ 1048576
  case neg =>
    rw [if_neg hl] at HZ
    clear h
    go_enter Tryd.func9, Tryd.ntmps9
    go_wp2_with fail
    refine Calls.mono (HZ.out _) ?_
    rintro e w1 ⟨rfl, rfl⟩
    go_wp2
    go_returns
    exact ⟨rfl, by go_grown⟩
  case pos =>
    rw [if_pos hl] at HZ
    have HT := Lib.hid (fun w' h' => toVecS_any (.slice a l.length c) l w' h' hl)
    have HS := Lib.hid (fun v' w' h' => specFanWhere_any v' l x y w' h')
    have HM := Lib.hid (fun v' w' h' hg' => fanWhere_any v' l x y w' h' hg')
    have HX := Lib.hid (fun v1 v2 b1 b2 w' h1 h2 => eqVecS_same v1 v2 b1 b2 l w' h1 h2)
    have HR := Lib.hid (fun (w' : World) (b : Nat) (v' : Value) (h' : Vecs w' b v' l) => h'.reads (by omega))
    have HH := Lib.hid h
    have hz0 : ¬ 1048576 - (l.length : Int) < 0 := by omega
    generalize (fanB l && vecB x y) = K at HS HM
    generalize gate K ((firstI (fun i => inC l i (x, y)) l.length : Nat) : Int) = Q at HS HM
    generalize l.length = n at *
    clear h hl hm0
    go_enter Tryd.func9, Tryd.ntmps9
    go_wp2_with fail
    refine Calls.mono (HZ.out _) ?_
    rintro e w0 ⟨rfl, rfl⟩
    have hA0 : Below w.heap.size w (w.alloc (.cells #[.int .i64 x, .int .i64 y] 52)) := by go_grown
    have c0_0 : (w.alloc (.cells #[.int .i64 x, .int .i64 y] 52)).cell? ⟨w.heap.size, 0, none⟩ = some (.int .i64 x) := by simp
    have c0_1 : (w.alloc (.cells #[.int .i64 x, .int .i64 y] 52)).cell? ⟨w.heap.size, 1, none⟩ = some (.int .i64 y) := by simp
    have s0 : w.heap.size < (w.alloc (.cells #[.int .i64 x, .int .i64 y] 52)).heap.size := by simp only [World.size_alloc]; omega
    replace HH := Lib.hid (HH.out.below hA0)
    generalize (w.alloc (.cells #[.int .i64 x, .int .i64 y] 52)) = wb at *
    have hA : Below w.heap.size w wb := hA0
    go_wp2
    refine wp_region_any (by kernel_rfl) ?_
    try (change wpAny _ _ _ _ _ _ _ (World.drew _))
    refine wpAny_take (i := 0) (v := ?_) rfl (by kernel_rfl) (by kernel_rfl) (by kernel_rfl) (fun _ _ _ h => h) (Or.inl ⟨by rfl, ?_⟩) ?_
    rotate_left
    focus (intro w0; go_simp; try with_reducible rfl)
    refine wpAny_ready (rs := [1, 2]) (by kernel_rfl) (by simp) (AllReady.cons rfl (fun K hK => ?_) (AllReady.cons rfl (fun K hK => ?_) (AllReady.nil)))
    focus
      go_simp
      (refine Calls.mono (HT.out _ (HH.out.below (by go_grown))) ?_; rintro e w1 ⟨v1, rfl, Iv1, hbX⟩; replace hbX := undrew hbX; replace Iv1 := Lib.hid Iv1; replace c0_0 := (hbX.cell (p := ⟨w.heap.size, 0, none⟩) s0).trans c0_0; replace c0_1 := (hbX.cell (p := ⟨w.heap.size, 1, none⟩) s0).trans c0_1; replace s0 := Nat.lt_of_lt_of_le s0 hbX.size; replace HH := Lib.hid (HH.out.below hbX); replace hA := belowTo hA hbX; clear hbX)
      refine hK _ _ ?_
      clear hK K
      refine wpAny_ready (rs := [2]) (by kernel_rfl) (by simp) (AllReady.cons rfl (fun K hK => ?_) (AllReady.nil))
      go_simp
      refine hK _ _ ?_
      clear hK K
      refine wpAny_ready (rs := [3]) (by kernel_rfl) (by simp) (AllReady.cons rfl (fun K hK => ?_) (AllReady.nil))
      go_simp
      (refine Calls.mono (toVec_any x y _) ?_; rintro e w2 ⟨rfl, hbX⟩; replace Iv1 := Lib.hid (Iv1.out.below hbX); replace c0_0 := (hbX.cell (p := ⟨w.heap.size, 0, none⟩) s0).trans c0_0; replace c0_1 := (hbX.cell (p := ⟨w.heap.size, 1, none⟩) s0).trans c0_1; replace s0 := Nat.lt_of_lt_of_le s0 hbX.size; replace HH := Lib.hid (HH.out.below hbX); replace hA := belowTo hA hbX; clear hbX)
      refine hK _ _ ?_
      clear hK K
      refine wpAny_ready (rs := [4]) (by kernel_rfl) (by simp) (AllReady.cons rfl (fun K hK => ?_) (AllReady.nil))
      go_simp
      (refine Calls.mono (HS.out _ _ (HR.out _ _ _ Iv1.out)) ?_; rintro e w3 ⟨rfl, hbX⟩; replace c0_0 := (hbX.cell (p := ⟨w.heap.size, 0, none⟩) s0).trans c0_0; replace c0_1 := (hbX.cell (p := ⟨w.heap.size, 1, none⟩) s0).trans c0_1; replace s0 := Nat.lt_of_lt_of_le s0 hbX.size; replace HH := Lib.hid (HH.out.below hbX); replace hA := belowTo hA hbX; clear hbX Iv1)
      refine hK _ _ ?_
      clear hK K
      refine wpAny_take (i := 5) (v := ?_) rfl (by kernel_rfl) (by kernel_rfl) (by kernel_rfl) (fun _ _ _ h => h) (Or.inl ⟨by rfl, ?_⟩) ?_
      rotate_left
      focus (intro w0; go_simp; try with_reducible rfl)
      refine wpAny_take (i := 6) (v := ?_) rfl (by kernel_rfl) (by kernel_rfl) (by kernel_rfl) (fun _ _ _ h => h) (Or.inl ⟨by rfl, ?_⟩) ?_
      rotate_left
      focus (intro w0; go_simp; try with_reducible rfl)
      refine wpAny_take (i := 7) (v := ?_) rfl (by kernel_rfl) (by kernel_rfl) (by kernel_rfl) (fun _ _ _ h => h) (Or.inl ⟨by rfl, ?_⟩) ?_
      rotate_left
      focus (intro w0; go_simp; try with_reducible rfl)
      refine wpAny_take (i := 8) (v := ?_) rfl (by kernel_rfl) (by kernel_rfl) (by kernel_rfl) (fun _ _ _ h => h) (Or.inl ⟨by rfl, ?_⟩) ?_
      rotate_left
      focus (intro w0; go_simp; try with_reducible rfl)
      refine wpAny_take (i := 9) (v := ?_) rfl (by kernel_rfl) (by kernel_rfl) (by kernel_rfl) (fun _ _ _ h => h) (Or.inl ⟨by rfl, ?_⟩) ?_
      rotate_left
      focus (intro w0; go_simp; try with_reducible rfl)
      refine wpAny_seq 10 rfl (by kernel_rfl) ?_
      simp only [List.drop_succ_cons, List.drop_zero]
    rotate_left 1
    focus
      go_simp
      refine hK _ _ ?_
      clear hK K
      refine wpAny_ready (rs := [1]) (by kernel_rfl) (by simp) (AllReady.cons rfl (fun K hK => ?_) (AllReady.nil))
      go_simp
      (refine Calls.mono (HT.out _ (HH.out.below (by go_grown))) ?_; rintro e w1 ⟨v1, rfl, Iv1, hbX⟩; replace hbX := undrew hbX; replace Iv1 := Lib.hid Iv1; replace c0_0 := (hbX.cell (p := ⟨w.heap.size, 0, none⟩) s0).trans c0_0; replace c0_1 := (hbX.cell (p := ⟨w.heap.size, 1, none⟩) s0).trans c0_1; replace s0 := Nat.lt_of_lt_of_le s0 hbX.size; replace HH := Lib.hid (HH.out.below hbX); replace hA := belowTo hA hbX; clear hbX)
      refine hK _ _ ?_
      clear hK K
      refine wpAny_ready (rs := [3]) (by kernel_rfl) (by simp) (AllReady.cons rfl (fun K hK => ?_) (AllReady.nil))
      go_simp
      (refine Calls.mono (toVec_any x y _) ?_; rintro e w2 ⟨rfl, hbX⟩; replace Iv1 := Lib.hid (Iv1.out.below hbX); replace c0_0 := (hbX.cell (p := ⟨w.heap.size, 0, none⟩) s0).trans c0_0; replace c0_1 := (hbX.cell (p := ⟨w.heap.size, 1, none⟩) s0).trans c0_1; replace s0 := Nat.lt_of_lt_of_le s0 hbX.size; replace HH := Lib.hid (HH.out.below hbX); replace hA := belowTo hA hbX; clear hbX)
      refine hK _ _ ?_
      clear hK K
      refine wpAny_ready (rs := [4]) (by kernel_rfl) (by simp) (AllReady.cons rfl (fun K hK => ?_) (AllReady.nil))
      go_simp
      (refine Calls.mono (HS.out _ _ (HR.out _ _ _ Iv1.out)) ?_; rintro e w3 ⟨rfl, hbX⟩; replace c0_0 := (hbX.cell (p := ⟨w.heap.size, 0, none⟩) s0).trans c0_0; replace c0_1 := (hbX.cell (p := ⟨w.heap.size, 1, none⟩) s0).trans c0_1; replace s0 := Nat.lt_of_lt_of_le s0 hbX.size; replace HH := Lib.hid (HH.out.below hbX); replace hA := belowTo hA hbX; clear hbX Iv1)
      refine hK _ _ ?_
      clear hK K
      refine wpAny_take (i := 5) (v := ?_) rfl (by kernel_rfl) (by kernel_rfl) (by kernel_rfl) (fun _ _ _ h => h) (Or.inl ⟨by rfl, ?_⟩) ?_
      rotate_left
      focus (intro w0; go_simp; try with_reducible rfl)
      refine wpAny_take (i := 6) (v := ?_) rfl (by kernel_rfl) (by kernel_rfl) (by kernel_rfl) (fun _ _ _ h => h) (Or.inl ⟨by rfl, ?_⟩) ?_
      rotate_left
      focus (intro w0; go_simp; try with_reducible rfl)
      refine wpAny_take (i := 7) (v := ?_) rfl (by kernel_rfl) (by kernel_rfl) (by kernel_rfl) (fun _ _ _ h => h) (Or.inl ⟨by rfl, ?_⟩) ?_
      rotate_left
      focus (intro w0; go_simp; try with_reducible rfl)
      refine wpAny_take (i := 8) (v := ?_) rfl (by kernel_rfl) (by kernel_rfl) (by kernel_rfl) (fun _ _ _ h => h) (Or.inl ⟨by rfl, ?_⟩) ?_
      rotate_left
      focus (intro w0; go_simp; try with_reducible rfl)
      refine wpAny_take (i := 9) (v := ?_) rfl (by kernel_rfl) (by kernel_rfl) (by kernel_rfl) (fun _ _ _ h => h) (Or.inl ⟨by rfl, ?_⟩) ?_
      rotate_left
      focus (intro w0; go_simp; try with_reducible rfl)
      refine wpAny_seq 10 rfl (by kernel_rfl) ?_
      simp only [List.drop_succ_cons, List.drop_zero]
    all_goals
      go_wp2_with fail
      refine Calls.mono (HT.out _ HH.out) ?_
      rintro e w4 ⟨vx, rfl, Ivx, hb4⟩
      replace HH := Lib.hid (HH.out.below hb4)
      replace c0_0 := (hb4.cell (p := ⟨w.heap.size, 0, none⟩) s0).trans c0_0
      replace c0_1 := (hb4.cell (p := ⟨w.heap.size, 1, none⟩) s0).trans c0_1
      replace s0 := Nat.lt_of_lt_of_le s0 hb4.size
      replace Ivx := Lib.hid Ivx
      replace hA := belowTo hA hb4
      clear hb4
      go_wp2_with fail
      refine Calls.mono (toVec_any x y _) ?_
      rintro e w5 ⟨rfl, hb5⟩
      replace HH := Lib.hid (HH.out.below hb5)
      replace Ivx := Lib.hid (Ivx.out.below hb5)
      replace c0_0 := (hb5.cell (p := ⟨w.heap.size, 0, none⟩) s0).trans c0_0
      replace c0_1 := (hb5.cell (p := ⟨w.heap.size, 1, none⟩) s0).trans c0_1
      replace s0 := Nat.lt_of_lt_of_le s0 hb5.size
      replace hA := belowTo hA hb5
      clear hb5
      go_wp2_with fail
      refine Calls.mono (HM.out _ _ (HR.out _ _ _ Ivx.out) (hg.below hA)) ?_
      rintro e w6 ⟨rfl, hb6⟩
      replace HH := Lib.hid (HH.out.below hb6)
      replace Ivx := Lib.hid (Ivx.out.below hb6)
      replace c0_0 := (hb6.cell (p := ⟨w.heap.size, 0, none⟩) s0).trans c0_0
      replace c0_1 := (hb6.cell (p := ⟨w.heap.size, 1, none⟩) s0).trans c0_1
      replace s0 := Nat.lt_of_lt_of_le s0 hb6.size
      replace hA := belowTo hA hb6
      clear hb6
      go_wp2_with fail
      refine Calls.mono (HT.out _ HH.out) ?_
      rintro e w7 ⟨v6, rfl, I6, hb7⟩
      replace HH := Lib.hid (HH.out.below hb7)
      replace Ivx := Lib.hid (Ivx.out.below hb7)
      replace c0_0 := (hb7.cell (p := ⟨w.heap.size, 0, none⟩) s0).trans c0_0
      replace c0_1 := (hb7.cell (p := ⟨w.heap.size, 1, none⟩) s0).trans c0_1
      replace s0 := Nat.lt_of_lt_of_le s0 hb7.size
      replace I6 := Lib.hid I6
      replace hA := belowTo hA hb7
      clear hb7
      go_wp2_with fail
      refine Calls.mono (HX.out _ _ _ _ _ Ivx.out I6.out) ?_
      rintro e w8 ⟨rfl, hb8⟩
      replace HH := Lib.hid (HH.out.below hb8)
      replace Ivx := Lib.hid (Ivx.out.below hb8)
      replace c0_0 := (hb8.cell (p := ⟨w.heap.size, 0, none⟩) s0).trans c0_0
      replace c0_1 := (hb8.cell (p := ⟨w.heap.size, 1, none⟩) s0).trans c0_1
      replace s0 := Nat.lt_of_lt_of_le s0 hb8.size
      replace hA := belowTo hA hb8
      clear hb8 I6
      go_wp2
      go_returns
      exact ⟨rfl, hA⟩
set_option maxHeartbeats 4000000 in
theorem exactFanWhere_row (a : Option Addr) (len cap : Nat) (x y : Int) (w : World) (h : VecRow w a len cap) (hg : EtOk w) :
    Calls Tryd.prog 9 #[.slice a len cap, .agg #[.int .i64 x, .int .i64 y]] w fun e w' => e = .returned (.bool true) ∧ Below w.heap.size w w' := by
  by_cases hl : len ≤ 1048576
  · obtain ⟨l, rfl, hr⟩ := h.reads hl
    exact exactFanWhere_any _ l x y w hr hg
  · have HZ := Lib.hid (fun w' => szVecS_any a len cap w' h.le_max)
    rw [if_neg hl] at HZ
    clear h
    go_enter Tryd.func9, Tryd.ntmps9
    go_wp2_with fail
    refine Calls.mono (HZ.out _) ?_
    rintro e w1 ⟨rfl, rfl⟩
    go_wp2
    go_returns
    exact ⟨rfl, by go_grown⟩
end Go.Proofs.YtcieihbknfeddaaDoor
