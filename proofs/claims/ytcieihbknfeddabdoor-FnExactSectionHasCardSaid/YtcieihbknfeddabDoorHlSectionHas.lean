import Derived.Test.YtcieihbknfeddabDoorBq
import Derived.Test.YtcieihbknfeddabDoorBp
import Derived.Test.YtcieihbknfeddabDoorQl
namespace Go.Proofs.YtcieihbknfeddabDoor
open Go.RowKit

set_option maxHeartbeats 16000000 in
theorem exactSectionHas_any (v : Value) (l : List V2) (u1 : Value) (d1 : List Int) (x y : Int) (w : World) (h : ReadsVecs w v l) (h1 : ReadsInts w u1 d1) (hg : EtOk w)
    (hl : l.length ≤ 1048576) (k1 : d1.length ≤ 1048576) :
    Calls Tryd.prog 16 #[v, u1, .agg #[.int .i64 x, .int .i64 y]] w fun e w' => e = .returned (.bool true) ∧ Below w.heap.size w w' := by
  have h' := h
  obtain ⟨a, c, rfl, _, hm0, _⟩ := h'
  have h1' := h1
  obtain ⟨a1, c1, rfl, _, _⟩ := h1'
  have HZ := Lib.hid (fun w' => szVecS_any a l.length c w' (by omega))
  rw [if_pos hl] at HZ
  have HT := Lib.hid (fun w' h' => toVecS_any (.slice a l.length c) l w' h' hl)
  have HT1 := Lib.hid (fun w' h' => toIntS_any (.slice a1 d1.length c1) d1 w' h' k1)
  have HS := Lib.hid (fun v' w' h' u1' i1' => specSectionHas_any v' l u1' d1 x y w' h' i1')
  have HM := Lib.hid (fun v' w' h' u1' i1' hg' => sectionHas_any v' l u1' d1 x y w' h' i1' hg')
  have HX := Lib.hid (fun v1 v2 b1 b2 w' h1 h2 => eqVecS_same v1 v2 b1 b2 l w' h1 h2)
  have HX1 := Lib.hid (fun v1 v2 b1 b2 w' h1 h2 => eqIntS_same v1 v2 b1 b2 d1 w' h1 h2)
  have HR := Lib.hid (fun (w' : World) (b : Nat) (v' : Value) (h' : Vecs w' b v' l) => h'.reads (by omega))
  have HR1 := Lib.hid (fun (w' : World) (b : Nat) (v' : Value) (h' : Ints w' b v' d1) => h'.reads (by omega))
  have HTV := Lib.hid (fun w' => toVec_any x y w')
  have HH := Lib.hid h
  have J1 := Lib.hid h1
  have hz0 : ¬ 1048576 - (l.length : Int) < 0 := by omega
  have hy1 : (d1.length : Int) ≤ 1048576 := by omega
  generalize (divB l d1 && (vecB x y && hasZ l d1 (x, y))) = K at HS HM
  clear h hl hm0 h1 k1
  generalize l.length = n at *
  generalize d1.length = m1 at *
  go_enter Tryd.func16, Tryd.ntmps16
  go_wp2_with fail
  refine Calls.mono (HZ.out _) ?_
  rintro e w0 ⟨rfl, rfl⟩
  have hA0 : Below w.heap.size w (w.alloc (.cells #[.int .i64 x, .int .i64 y] 33)) := by go_grown
  have c0 : (w.alloc (.cells #[.int .i64 x, .int .i64 y] 33)).cell? ⟨w.heap.size, 0, none⟩ = some (.int .i64 x) := by simp
  have c1' : (w.alloc (.cells #[.int .i64 x, .int .i64 y] 33)).cell? ⟨w.heap.size, 1, none⟩ = some (.int .i64 y) := by simp
  replace HH := Lib.hid (HH.out.below hA0)
  replace J1 := Lib.hid (J1.out.below hA0)
  generalize (w.alloc (.cells #[.int .i64 x, .int .i64 y] 33)) = wb at *
  have hA : Below w.heap.size w wb := hA0
  go_wp2
  refine wp_region_any (by kernel_rfl) ?_
  try (change wpAny _ _ _ _ _ _ _ (World.drew _))
  refine wpAny_take (i := 0) (v := ?_) rfl (by kernel_rfl) (by kernel_rfl) (by kernel_rfl) (fun _ _ _ h => h) (Or.inl ⟨by rfl, ?_⟩) ?_
  rotate_left
  focus (intro w0; go_simp; try with_reducible rfl)
  refine wpAny_take (i := 2) (v := ?_) rfl (by kernel_rfl) (by kernel_rfl) (by kernel_rfl) (fun _ _ _ h => h) (Or.inl ⟨by rfl, ?_⟩) ?_
  rotate_left
  focus (intro w0; go_simp; try with_reducible rfl)
  refine wpAny_ready (rs := [1, 4]) (by kernel_rfl) (by simp) (AllReady.cons rfl (fun K hK => ?_) (AllReady.cons rfl (fun K hK => ?_) (AllReady.nil)))
  focus
    go_simp
    (refine Calls.mono (HT.out _ (HH.out.below (by go_grown))) ?_; rintro e w1 ⟨va, rfl, Iva, hbX⟩; replace hbX := undrew hbX; replace Iva := Lib.hid Iva; replace c1' := (hbX.cell (p := ⟨w.heap.size, 1, none⟩) (cell_lt c0)).trans c1'; replace c0 := (hbX.cell (p := ⟨w.heap.size, 0, none⟩) (cell_lt c0)).trans c0; replace HH := Lib.hid (HH.out.below hbX); replace J1 := Lib.hid (J1.out.below hbX); replace hA := belowTo hA hbX; clear hbX)
    refine hK _ _ ?_
    clear hK K
    refine wpAny_ready (rs := [3, 4]) (by kernel_rfl) (by simp) (AllReady.cons rfl (fun K hK => ?_) (AllReady.cons rfl (fun K hK => ?_) (AllReady.nil)))
    focus
      go_simp
      (refine Calls.mono (HT1.out _ J1.out) ?_; rintro e w2 ⟨vb, rfl, Ivb, hbX⟩; replace Ivb := Lib.hid Ivb; replace Iva := Lib.hid (Iva.out.below hbX); replace c1' := (hbX.cell (p := ⟨w.heap.size, 1, none⟩) (cell_lt c0)).trans c1'; replace c0 := (hbX.cell (p := ⟨w.heap.size, 0, none⟩) (cell_lt c0)).trans c0; replace HH := Lib.hid (HH.out.below hbX); replace J1 := Lib.hid (J1.out.below hbX); replace hA := belowTo hA hbX; clear hbX)
      refine hK _ _ ?_
      clear hK K
      refine wpAny_ready (rs := [4]) (by kernel_rfl) (by simp) (AllReady.cons rfl (fun K hK => ?_) (AllReady.nil))
      go_simp
      refine hK _ _ ?_
      clear hK K
      refine wpAny_ready (rs := [5]) (by kernel_rfl) (by simp) (AllReady.cons rfl (fun K hK => ?_) (AllReady.nil))
      go_simp
      (refine Calls.mono (HTV.out _) ?_; rintro e w3 ⟨rfl, hbX⟩; replace Ivb := Lib.hid (Ivb.out.below hbX); replace Iva := Lib.hid (Iva.out.below hbX); replace c1' := (hbX.cell (p := ⟨w.heap.size, 1, none⟩) (cell_lt c0)).trans c1'; replace c0 := (hbX.cell (p := ⟨w.heap.size, 0, none⟩) (cell_lt c0)).trans c0; replace HH := Lib.hid (HH.out.below hbX); replace J1 := Lib.hid (J1.out.below hbX); replace hA := belowTo hA hbX; clear hbX)
      refine hK _ _ ?_
      clear hK K
      refine wpAny_ready (rs := [6]) (by kernel_rfl) (by simp) (AllReady.cons rfl (fun K hK => ?_) (AllReady.nil))
      go_simp
      (refine Calls.mono (HS.out _ _ (HR.out _ _ _ Iva.out) _ (HR1.out _ _ _ Ivb.out)) ?_; rintro e w4 ⟨rfl, hbX⟩; replace c1' := (hbX.cell (p := ⟨w.heap.size, 1, none⟩) (cell_lt c0)).trans c1'; replace c0 := (hbX.cell (p := ⟨w.heap.size, 0, none⟩) (cell_lt c0)).trans c0; replace HH := Lib.hid (HH.out.below hbX); replace J1 := Lib.hid (J1.out.below hbX); replace hA := belowTo hA hbX; clear hbX Iva Ivb)
      refine hK _ _ ?_
      clear hK K
      refine wpAny_seq 7 rfl (by kernel_rfl) ?_
      simp only [List.drop_succ_cons, List.drop_zero]
    rotate_left 1
    focus
      go_simp
      refine hK _ _ ?_
      clear hK K
      refine wpAny_ready (rs := [3]) (by kernel_rfl) (by simp) (AllReady.cons rfl (fun K hK => ?_) (AllReady.nil))
      go_simp
      (refine Calls.mono (HT1.out _ J1.out) ?_; rintro e w2 ⟨vb, rfl, Ivb, hbX⟩; replace Ivb := Lib.hid Ivb; replace Iva := Lib.hid (Iva.out.below hbX); replace c1' := (hbX.cell (p := ⟨w.heap.size, 1, none⟩) (cell_lt c0)).trans c1'; replace c0 := (hbX.cell (p := ⟨w.heap.size, 0, none⟩) (cell_lt c0)).trans c0; replace HH := Lib.hid (HH.out.below hbX); replace J1 := Lib.hid (J1.out.below hbX); replace hA := belowTo hA hbX; clear hbX)
      refine hK _ _ ?_
      clear hK K
      refine wpAny_ready (rs := [5]) (by kernel_rfl) (by simp) (AllReady.cons rfl (fun K hK => ?_) (AllReady.nil))
      go_simp
      (refine Calls.mono (HTV.out _) ?_; rintro e w3 ⟨rfl, hbX⟩; replace Ivb := Lib.hid (Ivb.out.below hbX); replace Iva := Lib.hid (Iva.out.below hbX); replace c1' := (hbX.cell (p := ⟨w.heap.size, 1, none⟩) (cell_lt c0)).trans c1'; replace c0 := (hbX.cell (p := ⟨w.heap.size, 0, none⟩) (cell_lt c0)).trans c0; replace HH := Lib.hid (HH.out.below hbX); replace J1 := Lib.hid (J1.out.below hbX); replace hA := belowTo hA hbX; clear hbX)
      refine hK _ _ ?_
      clear hK K
      refine wpAny_ready (rs := [6]) (by kernel_rfl) (by simp) (AllReady.cons rfl (fun K hK => ?_) (AllReady.nil))
      go_simp
      (refine Calls.mono (HS.out _ _ (HR.out _ _ _ Iva.out) _ (HR1.out _ _ _ Ivb.out)) ?_; rintro e w4 ⟨rfl, hbX⟩; replace c1' := (hbX.cell (p := ⟨w.heap.size, 1, none⟩) (cell_lt c0)).trans c1'; replace c0 := (hbX.cell (p := ⟨w.heap.size, 0, none⟩) (cell_lt c0)).trans c0; replace HH := Lib.hid (HH.out.below hbX); replace J1 := Lib.hid (J1.out.below hbX); replace hA := belowTo hA hbX; clear hbX Iva Ivb)
      refine hK _ _ ?_
      clear hK K
      refine wpAny_seq 7 rfl (by kernel_rfl) ?_
      simp only [List.drop_succ_cons, List.drop_zero]
  rotate_left 2
  focus
    go_simp
    refine hK _ _ ?_
    clear hK K
    refine wpAny_ready (rs := [1]) (by kernel_rfl) (by simp) (AllReady.cons rfl (fun K hK => ?_) (AllReady.nil))
    go_simp
    (refine Calls.mono (HT.out _ (HH.out.below (by go_grown))) ?_; rintro e w1 ⟨va, rfl, Iva, hbX⟩; replace hbX := undrew hbX; replace Iva := Lib.hid Iva; replace c1' := (hbX.cell (p := ⟨w.heap.size, 1, none⟩) (cell_lt c0)).trans c1'; replace c0 := (hbX.cell (p := ⟨w.heap.size, 0, none⟩) (cell_lt c0)).trans c0; replace HH := Lib.hid (HH.out.below hbX); replace J1 := Lib.hid (J1.out.below hbX); replace hA := belowTo hA hbX; clear hbX)
    refine hK _ _ ?_
    clear hK K
    refine wpAny_ready (rs := [3]) (by kernel_rfl) (by simp) (AllReady.cons rfl (fun K hK => ?_) (AllReady.nil))
    go_simp
    (refine Calls.mono (HT1.out _ J1.out) ?_; rintro e w2 ⟨vb, rfl, Ivb, hbX⟩; replace Ivb := Lib.hid Ivb; replace Iva := Lib.hid (Iva.out.below hbX); replace c1' := (hbX.cell (p := ⟨w.heap.size, 1, none⟩) (cell_lt c0)).trans c1'; replace c0 := (hbX.cell (p := ⟨w.heap.size, 0, none⟩) (cell_lt c0)).trans c0; replace HH := Lib.hid (HH.out.below hbX); replace J1 := Lib.hid (J1.out.below hbX); replace hA := belowTo hA hbX; clear hbX)
    refine hK _ _ ?_
    clear hK K
    refine wpAny_ready (rs := [5]) (by kernel_rfl) (by simp) (AllReady.cons rfl (fun K hK => ?_) (AllReady.nil))
    go_simp
    (refine Calls.mono (HTV.out _) ?_; rintro e w3 ⟨rfl, hbX⟩; replace Ivb := Lib.hid (Ivb.out.below hbX); replace Iva := Lib.hid (Iva.out.below hbX); replace c1' := (hbX.cell (p := ⟨w.heap.size, 1, none⟩) (cell_lt c0)).trans c1'; replace c0 := (hbX.cell (p := ⟨w.heap.size, 0, none⟩) (cell_lt c0)).trans c0; replace HH := Lib.hid (HH.out.below hbX); replace J1 := Lib.hid (J1.out.below hbX); replace hA := belowTo hA hbX; clear hbX)
    refine hK _ _ ?_
    clear hK K
    refine wpAny_ready (rs := [6]) (by kernel_rfl) (by simp) (AllReady.cons rfl (fun K hK => ?_) (AllReady.nil))
    go_simp
    (refine Calls.mono (HS.out _ _ (HR.out _ _ _ Iva.out) _ (HR1.out _ _ _ Ivb.out)) ?_; rintro e w4 ⟨rfl, hbX⟩; replace c1' := (hbX.cell (p := ⟨w.heap.size, 1, none⟩) (cell_lt c0)).trans c1'; replace c0 := (hbX.cell (p := ⟨w.heap.size, 0, none⟩) (cell_lt c0)).trans c0; replace HH := Lib.hid (HH.out.below hbX); replace J1 := Lib.hid (J1.out.below hbX); replace hA := belowTo hA hbX; clear hbX Iva Ivb)
    refine hK _ _ ?_
    clear hK K
    refine wpAny_seq 7 rfl (by kernel_rfl) ?_
    simp only [List.drop_succ_cons, List.drop_zero]
  all_goals
    go_wp2_with fail
    refine Calls.mono (HT.out _ HH.out) ?_
    rintro e w5 ⟨vx, rfl, Ivx, hbX⟩
    replace Ivx := Lib.hid Ivx
    replace c1' := (hbX.cell (p := ⟨w.heap.size, 1, none⟩) (cell_lt c0)).trans c1'
    replace c0 := (hbX.cell (p := ⟨w.heap.size, 0, none⟩) (cell_lt c0)).trans c0
    replace HH := Lib.hid (HH.out.below hbX)
    replace J1 := Lib.hid (J1.out.below hbX)
    replace hA := belowTo hA hbX
    clear hbX
    go_wp2_with fail
    refine Calls.mono (HT1.out _ J1.out) ?_
    rintro e w6 ⟨vx1, rfl, Ivx1, hbX⟩
    replace Ivx1 := Lib.hid Ivx1
    replace Ivx := Lib.hid (Ivx.out.below hbX)
    replace c1' := (hbX.cell (p := ⟨w.heap.size, 1, none⟩) (cell_lt c0)).trans c1'
    replace c0 := (hbX.cell (p := ⟨w.heap.size, 0, none⟩) (cell_lt c0)).trans c0
    replace HH := Lib.hid (HH.out.below hbX)
    replace J1 := Lib.hid (J1.out.below hbX)
    replace hA := belowTo hA hbX
    clear hbX
    go_wp2_with fail
    refine Calls.mono (HTV.out _) ?_
    rintro e w7 ⟨rfl, hbX⟩
    replace Ivx1 := Lib.hid (Ivx1.out.below hbX)
    replace Ivx := Lib.hid (Ivx.out.below hbX)
    replace HH := Lib.hid (HH.out.below hbX)
    replace J1 := Lib.hid (J1.out.below hbX)
    replace hA := belowTo hA hbX
    clear hbX c0 c1'
    go_wp2_with fail
    refine Calls.mono (HM.out _ _ (HR.out _ _ _ Ivx.out) _ (HR1.out _ _ _ Ivx1.out) (hg.below hA)) ?_
    rintro e w8 ⟨rfl, hbX⟩
    replace Ivx1 := Lib.hid (Ivx1.out.below hbX)
    replace Ivx := Lib.hid (Ivx.out.below hbX)
    replace HH := Lib.hid (HH.out.below hbX)
    replace J1 := Lib.hid (J1.out.below hbX)
    replace hA := belowTo hA hbX
    clear hbX
    go_wp2_with fail
    refine Calls.mono (HT.out _ HH.out) ?_
    rintro e w9 ⟨vy, rfl, Ivy, hbX⟩
    replace Ivy := Lib.hid Ivy
    replace Ivx1 := Lib.hid (Ivx1.out.below hbX)
    replace Ivx := Lib.hid (Ivx.out.below hbX)
    replace J1 := Lib.hid (J1.out.below hbX)
    replace hA := belowTo hA hbX
    clear hbX
    go_wp2_with fail
    refine Calls.mono (HX.out _ _ _ _ _ Ivx.out Ivy.out) ?_
    rintro e w10 ⟨rfl, hbX⟩
    replace Ivx1 := Lib.hid (Ivx1.out.below hbX)
    replace J1 := Lib.hid (J1.out.below hbX)
    replace hA := belowTo hA hbX
    clear hbX Ivx Ivy
    go_wp2_with fail
    refine Calls.mono (HT1.out _ J1.out) ?_
    rintro e w11 ⟨vy1, rfl, Ivy1, hbX⟩
    replace Ivy1 := Lib.hid Ivy1
    replace Ivx1 := Lib.hid (Ivx1.out.below hbX)
    replace hA := belowTo hA hbX
    clear hbX
    go_wp2_with fail
    refine Calls.mono (HX1.out _ _ _ _ _ Ivx1.out Ivy1.out) ?_
    rintro e w12 ⟨rfl, hbX⟩
    replace hA := belowTo hA hbX
    clear hbX
    go_wp2
    go_returns
    exact ⟨rfl, hA⟩
set_option maxHeartbeats 4000000 in
theorem exactSectionHas_row (a : Option Addr) (len cap : Nat) (a1 : Option Addr) (len1 cap1 : Nat) (x y : Int) (w : World) (h : VecRow w a len cap) (h1 : IntRow w a1 len1 cap1) (hg : EtOk w) :
    Calls Tryd.prog 16 #[.slice a len cap, .slice a1 len1 cap1, .agg #[.int .i64 x, .int .i64 y]] w fun e w' => e = .returned (.bool true) ∧ Below w.heap.size w w' := by
  by_cases g1 : len1 ≤ 1048576
  case neg =>
    have j1 : (1048576 : Int) < (len1 : Int) := by omega
    clear h hg h1
    go_enter Tryd.func16, Tryd.ntmps16
    go_wp2
    go_returns
    exact ⟨rfl, by go_grown⟩
  case pos =>
    by_cases hl : len ≤ 1048576
    · obtain ⟨l, rfl, hr⟩ := h.reads hl
      obtain ⟨d1, rfl, hr1⟩ := h1.reads g1
      exact exactSectionHas_any _ l _ d1 x y w hr hr1 hg hl g1
    · have HZ := Lib.hid (fun w' => szVecS_any a len cap w' h.le_max)
      rw [if_neg hl] at HZ
      have j1 : (len1 : Int) ≤ 1048576 := by omega
      clear h hg h1
      go_enter Tryd.func16, Tryd.ntmps16
      go_wp2_with fail
      refine Calls.mono (HZ.out _) ?_
      rintro e w1 ⟨rfl, rfl⟩
      go_wp2
      go_returns
      exact ⟨rfl, by go_grown⟩
end Go.Proofs.YtcieihbknfeddabDoor
