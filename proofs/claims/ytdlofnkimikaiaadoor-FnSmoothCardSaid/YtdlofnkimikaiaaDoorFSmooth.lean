/- FnSmooth: the walk. -/
import Derived.Test.YtdlofnkimikaiaaDoorUl
import Derived.Test.YtdlofnkimikaiaaDoorOc
import Derived.Test.YtdlofnkimikaiaaDoorSm
import Derived.Test.YtdlofnkimikaiaaDoorGz
import Derived.Test.YtdlofnkimikaiaaDoorB4
import Derived.Test.YtdlofnkimikaiaaDoorBt
import Derived.Test.YtdlofnkimikaiaaDoorBa
import Derived.Test.YtdlofnkimikaiaaDoorB9
namespace Go.Proofs.YtdlofnkimikaiaaDoor
open Go.RowKit

set_option maxRecDepth 100000 in
set_option maxHeartbeats 16000000 in
theorem fnSmooth_any (a : Option Addr) (len cap : Nat) (w : World) (h : Bytes w a len cap) (hg : EtOk w) :
    Calls Tryd.prog 6 #[.slice a len cap] w fun e w' => e = .returned (.bool true) ∧ Below w.heap.size w w' := by
  by_cases hlen : len ≤ 1048576
  case neg =>
    have j1 : (1048576 : Int) < (len : Int) := by omega
    clear h hg
    go_enter Tryd.func6, Tryd.ntmps6
    go_wp2
    go_returns
    exact ⟨rfl, by go_grown⟩
  case pos =>
  have j1 : (len : Int) ≤ 1048576 := by omega
  have HO := Lib.hid (drawFanSmooth_any w a len cap h)
  clear h
  go_enter Tryd.func6, Tryd.ntmps6
  go_wp2_with fail
  refine Calls.mono HO.out ?_
  rintro e w1 ⟨v, l, rfl, hV, h2, h20, hb1⟩
  have HG := Lib.hid (hg.below hb1)
  have Hf := Lib.hid hV
  have HB : Hid (Below w.heap.size w w1) := hb1
  clear hb1 HO hg hV
  cases hk : smoothB l
  · have C1 : Hid (∀ (w' : World) (v0 : Value), ReadsVecs w' v0 (l) → EtOk w' → Calls Tryd.prog 25 #[v0] w' (fun e w'' => e = .returned (.bool (false)) ∧ Below w'.heap.size w' w'')) := fun w' v0 h0 hg' => by
      have h := fanSmooth_any v0 l w' h0 hg'
      rw [hk] at h
      exact h
    have C2 : Hid (∀ (w' : World) (v0 : Value), ReadsVecs w' v0 (l) → EtOk w' → Calls Tryd.prog 26 #[v0] w' (fun e w'' => e = .returned (.bool (false)) ∧ Below w'.heap.size w' w'')) := fun w' v0 h0 hg' => by
      have h := specFanSmooth_any v0 l w' h0
      rw [hk] at h
      exact h
    clear hk
    go_wp2_with fail
    refine Calls.mono (C1.out _ _ (Hf.out.below (by go_grown)) (HG.out.below (by go_grown))) ?_
    rintro e w2 ⟨rfl, hb2⟩
    have hB2 := belowTo (a := w1) (by go_grown) hb2
    replace Hf := Lib.hid (Hf.out.below hB2)
    replace HG := Lib.hid (HG.out.below hB2)
    replace HB := Lib.hid (belowTo HB.out hB2)
    clear hb2 hB2
    go_wp2_with fail
    refine Calls.mono (C2.out _ _ (Hf.out.below (by go_grown)) (HG.out.below (by go_grown))) ?_
    rintro e w3 ⟨rfl, hb3⟩
    have hB3 := belowTo (a := w2) (by go_grown) hb3
    replace Hf := Lib.hid (Hf.out.below hB3)
    replace HG := Lib.hid (HG.out.below hB3)
    replace HB := Lib.hid (belowTo HB.out hB3)
    clear hb3 hB3
    go_wp2
    go_returns
    exact ⟨rfl, HB.out⟩
  · have C1 : Hid (∀ (w' : World) (v0 : Value), ReadsVecs w' v0 (l) → EtOk w' → Calls Tryd.prog 25 #[v0] w' (fun e w'' => e = .returned (.bool (true)) ∧ Below w'.heap.size w' w'')) := fun w' v0 h0 hg' => by
      have h := fanSmooth_any v0 l w' h0 hg'
      rw [hk] at h
      exact h
    have C2 : Hid (∀ (w' : World) (v0 : Value), ReadsVecs w' v0 (l) → EtOk w' → Calls Tryd.prog 26 #[v0] w' (fun e w'' => e = .returned (.bool (true)) ∧ Below w'.heap.size w' w'')) := fun w' v0 h0 hg' => by
      have h := specFanSmooth_any v0 l w' h0
      rw [hk] at h
      exact h
    obtain ⟨q0, q1⟩ := res_self hk
    have q2 := smooth_all hk
    have q3 := (smooth_in hk).1
    have C3 : Hid (∀ (w' : World) (v0 : Value), ReadsVecs w' v0 (l) → EtOk w' → Calls Tryd.prog 27 #[v0] w' (GivesVecsOk w' (l) (true))) := fun w' v0 h0 hg' => by
      have h := fanResolve_any v0 (l) w' h0 hg'
      rw [q1, q0] at h
      exact h
    have C4 : Hid (∀ (k : Nat), k < l.length → ∀ (w' : World) (v0 : Value), ReadsVecs w' v0 l → EtOk w' → Calls Tryd.prog 28 #[v0, .int .i64 (k : Int)] w' (fun e w'' => e = .returned (.tuple #[.agg #[.int .i64 ((cyc l k).1), .int .i64 ((cyc l k).2), .int .i64 ((cyc l (k + 1)).1), .int .i64 ((cyc l (k + 1)).2)], .bool true]) ∧ Below w'.heap.size w' w'')) := fun k hkk w' v0 h0 hg' => by
      have h := fanCone_any v0 l (k : Int) w' h0 hg'
      rw [q3, show idxB l (k : Int) = true by unfold idxB; simp; omega, Int.toNat_natCast] at h
      exact h
    have C5 : Hid (∀ (k : Nat) (w' : World), EtOk w' → Calls Tryd.prog 29 #[.agg #[.int .i64 ((cyc l k).1), .int .i64 ((cyc l k).2), .int .i64 ((cyc l (k + 1)).1), .int .i64 ((cyc l (k + 1)).2)]] w' (fun e w'' => e = .returned (.tuple #[.int .i64 1, .bool true]) ∧ Below w'.heap.size w' w'')) := fun k w' hg' => by
      have h := coneIndex_any (cyc l k).1 (cyc l k).2 (cyc l (k + 1)).1 (cyc l (k + 1)).2 w' hg'
      rw [show coneB (cyc l k).1 (cyc l k).2 (cyc l (k + 1)).1 (cyc l (k + 1)).2 = true from fan_cone q3 k, show detZ (cyc l k).1 (cyc l k).2 (cyc l (k + 1)).1 (cyc l (k + 1)).2 = 1 from q2.2 k] at h
      exact h
    clear hk q0 q1 q2 q3
    obtain ⟨va, vc, rfl, _⟩ := Hf.out
    go_wp2_with fail
    refine Calls.mono (C1.out _ _ (Hf.out.below (by go_grown)) (HG.out.below (by go_grown))) ?_
    rintro e w2 ⟨rfl, hb2⟩
    have hB2 := belowTo (a := w1) (by go_grown) hb2
    replace Hf := Lib.hid (Hf.out.below hB2)
    replace HG := Lib.hid (HG.out.below hB2)
    replace HB := Lib.hid (belowTo HB.out hB2)
    clear hb2 hB2
    go_wp2_with fail
    refine Calls.mono (C2.out _ _ (Hf.out.below (by go_grown)) (HG.out.below (by go_grown))) ?_
    rintro e w3 ⟨rfl, hb3⟩
    have hB3 := belowTo (a := w2) (by go_grown) hb3
    replace Hf := Lib.hid (Hf.out.below hB3)
    replace HG := Lib.hid (HG.out.below hB3)
    replace HB := Lib.hid (belowTo HB.out hB3)
    clear hb3 hB3
    go_wp2_with fail
    refine Calls.mono (C3.out _ _ (Hf.out.below (by go_grown)) (HG.out.below (by go_grown))) ?_
    rintro e w4 ⟨v4, rfl, hI4, hb4⟩
    have hB4 := belowTo (a := w3) (by go_grown) hb4
    replace Hf := Lib.hid (Hf.out.below hB4)
    replace HG := Lib.hid (HG.out.below hB4)
    replace HB := Lib.hid (belowTo HB.out hB4)
    clear hb4 hB4
    have Hx := Lib.hid (Vecs.reads hI4 (by omega))
    clear hI4
    go_wp2
    go_loopw [8] (fun s8 wr => ∃ k : Nat, k ≤ l.length ∧ s8 = .int .i64 k ∧ Hid (Below w4.heap.size w4 wr)) (fun s8 _ => l.length - (intOf s8).toNat)
    case atStart => exact ⟨0, Nat.zero_le _, rfl, by show Below _ _ _; go_grown⟩
    case round =>
      obtain ⟨k, hk, rfl, HBr⟩ := hrel
      have i1 : (0 : Int) ≤ (k : Int) := by omega
      by_cases hlt : k < l.length
      · have i2 : (k : Int) < (l.length : Int) := by omega
        have HC4 := Lib.hid (fun w' (hb : Below wr.heap.size wr w') => C4.out k hlt w' _ ((Hf.out.below HBr.out).below hb) ((HG.out.below HBr.out).below hb))
        have HC5 := Lib.hid (fun w' (hb : Below wr.heap.size wr w') => C5.out k w' ((HG.out.below HBr.out).below hb))
        have hbr := HBr.out
        generalize (cyc l k).1 = a at *
        generalize (cyc l k).2 = b at *
        generalize (cyc l (k + 1)).1 = c at *
        generalize (cyc l (k + 1)).2 = d at *
        clear C1 C2 C3 C4 C5
        go_wp2_with fail
        refine Calls.mono (HC4.out _ (by go_grown)) ?_
        rintro e w7 ⟨rfl, hb7⟩
        have hB7 := belowTo (a := wr) (by go_grown) hb7
        have hs7 := hB7.size
        clear hb7
        go_wp2_with fail
        refine Calls.mono (HC5.out _ (by go_grown)) ?_
        rintro e w8 ⟨rfl, hb8⟩
        have hB8 := belowTo (a := wr) (by go_grown) hb8
        have HB8 := Lib.hid (belowTo hbr hB8)
        clear hb8 hB7 hB8 hs7 hbr HBr
        go_wp2
        go_roundw
        case rel => exact ⟨k + 1, by omega, by go_num, HB8⟩
        case measure => simp [intOf]; omega
      · have hkn : k = l.length := by omega
        obtain ⟨w5, hw5⟩ : ∃ w5, w5 = wr := ⟨_, rfl⟩
        subst hw5
        have hB5 := HBr.out
        have i2 : ¬ (k : Int) < (l.length : Int) := by omega
        replace Hf := Lib.hid (Hf.out.below hB5)
        replace Hx := Lib.hid (Hx.out.below hB5)
        replace HG := Lib.hid (HG.out.below hB5)
        replace HB := Lib.hid (belowTo HB.out hB5)
        clear HBr hB5
        go_wp2_with fail
        refine Calls.mono (sameVecs_eq _ _ _ _ (Hx.out.below (by go_grown)) (Hf.out.below (by go_grown))) ?_
        rintro e w6 ⟨rfl, hb6⟩
        have hB6 := belowTo (a := w5) (by go_grown) hb6
        replace Hf := Lib.hid (Hf.out.below hB6)
        replace Hx := Lib.hid (Hx.out.below hB6)
        replace HG := Lib.hid (HG.out.below hB6)
        replace HB := Lib.hid (belowTo HB.out hB6)
        clear hb6 hB6
        go_wp2
        go_returns
        exact ⟨rfl, HB.out⟩
end Go.Proofs.YtdlofnkimikaiaaDoor
