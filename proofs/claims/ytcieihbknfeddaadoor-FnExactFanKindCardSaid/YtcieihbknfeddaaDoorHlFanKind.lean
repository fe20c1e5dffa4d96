import Derived.Test.YtcieihbknfeddaaDoorI5
import Derived.Test.YtcieihbknfeddaaDoorBl
namespace Go.Proofs.YtcieihbknfeddaaDoor
open Go.RowKit

set_option maxHeartbeats 8000000 in
theorem exactFanKind_any (v : Value) (l : List V2) (w : World) (h : ReadsVecs w v l) (hg : EtOk w) :
    Calls Tryd.prog 16 #[v] w fun e w' => e = .returned (.bool true) ∧ Below w.heap.size w w' := by
  have h' := h
  obtain ⟨a, c, rfl, _, hm0, _⟩ := h'
  have HZ := Lib.hid (fun w' => szVecS_any a l.length c w' (by omega))
  by_cases hl : l.length ≤ 1048576
  case neg =>
    rw [if_neg hl] at HZ
    clear h
    go_enter Tryd.func16, Tryd.ntmps16
    go_wp2_with fail
    refine Calls.mono (HZ.out _) ?_
    rintro e w1 ⟨rfl, rfl⟩
    go_wp2
    go_returns
    exact ⟨rfl, by go_grown⟩
  case pos =>
    rw [if_pos hl] at HZ
    have HT := Lib.hid (fun w' h' => toVecS_any (.slice a l.length c) l w' h' hl)
    have HS := Lib.hid (fun v' w' h' => specFanKind_any v' l w' h')
    have HM := Lib.hid (fun v' w' h' hg' => fanKind_any v' l w' h' hg')
    have HX := Lib.hid (fun v1 v2 b1 b2 w' h1 h2 => eqVecS_same v1 v2 b1 b2 l w' h1 h2)
    have HR := Lib.hid (fun (w' : World) (b : Nat) (v' : Value) (h' : Vecs w' b v' l) => h'.reads (by omega))
    have HH := Lib.hid h
    have hz0 : ¬ 1048576 - (l.length : Int) < 0 := by omega
    generalize (smoothB l && kindOk l) = K at HS HM
    generalize gate K (kind4 l) = Q at HS HM
    generalize l.length = n at *
    clear h hl hm0
    go_enter Tryd.func16, Tryd.ntmps16
    go_wp2_with fail
    refine Calls.mono (HZ.out _) ?_
    rintro e w0 ⟨rfl, rfl⟩
    have hA : Below w.heap.size w w := Below.refl _ _
    go_wp2_with fail
    refine Calls.mono (HT.out _ HH.out) ?_
    rintro e w1 ⟨v1, rfl, Iv1, hb1⟩
    replace HH := Lib.hid (HH.out.below hb1)
    replace Iv1 := Lib.hid Iv1
    replace hA := belowTo hA hb1
    clear hb1
    go_wp2_with fail
    refine Calls.mono (HS.out _ _ (HR.out _ _ _ Iv1.out)) ?_
    rintro e w2 ⟨rfl, hb2⟩
    replace HH := Lib.hid (HH.out.below hb2)
    replace hA := belowTo hA hb2
    clear hb2 Iv1
    go_wp2_with fail
    refine Calls.mono (HT.out _ HH.out) ?_
    rintro e w3 ⟨vx, rfl, Ivx, hb3⟩
    replace HH := Lib.hid (HH.out.below hb3)
    replace Ivx := Lib.hid Ivx
    replace hA := belowTo hA hb3
    clear hb3
    go_wp2_with fail
    refine Calls.mono (HM.out _ _ (HR.out _ _ _ Ivx.out) (hg.below hA)) ?_
    rintro e w4 ⟨rfl, hb4⟩
    replace HH := Lib.hid (HH.out.below hb4)
    replace Ivx := Lib.hid (Ivx.out.below hb4)
    replace hA := belowTo hA hb4
    clear hb4
    go_wp2_with fail
    refine Calls.mono (HT.out _ HH.out) ?_
    rintro e w5 ⟨v6, rfl, I6, hb5⟩
    replace HH := Lib.hid (HH.out.below hb5)
    replace Ivx := Lib.hid (Ivx.out.below hb5)
    replace I6 := Lib.hid I6
    replace hA := belowTo hA hb5
    clear hb5
    go_wp2_with fail
    refine Calls.mono (HX.out _ _ _ _ _ Ivx.out I6.out) ?_
    rintro e w6 ⟨rfl, hb6⟩
    replace HH := Lib.hid (HH.out.below hb6)
    replace Ivx := Lib.hid (Ivx.out.below hb6)
    replace hA := belowTo hA hb6
    clear hb6 I6
    go_wp2
    go_returns
    exact ⟨rfl, hA⟩
set_option maxHeartbeats 4000000 in
theorem exactFanKind_row (a : Option Addr) (len cap : Nat) (w : World) (h : VecRow w a len cap) (hg : EtOk w) :
    Calls Tryd.prog 16 #[.slice a len cap] w fun e w' => e = .returned (.bool true) ∧ Below w.heap.size w w' := by
  by_cases hl : len ≤ 1048576
  · obtain ⟨l, rfl, hr⟩ := h.reads hl
    exact exactFanKind_any _ l w hr hg
  · have HZ := Lib.hid (fun w' => szVecS_any a len cap w' h.le_max)
    rw [if_neg hl] at HZ
    clear h
    go_enter Tryd.func16, Tryd.ntmps16
    go_wp2_with fail
    refine Calls.mono (HZ.out _) ?_
    rintro e w1 ⟨rfl, rfl⟩
    go_wp2
    go_returns
    exact ⟨rfl, by go_grown⟩
end Go.Proofs.YtcieihbknfeddaaDoor
