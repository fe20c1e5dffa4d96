/- FnPolygon: the walk. -/
import Derived.Test.YtgaeibibeekclaaDoorK9
import Derived.Test.YtgaeibibeekclaaDoorPR
import Derived.Test.YtgaeibibeekclaaDoorK0
import Derived.Test.YtgaeibibeekclaaDoorBj
import Derived.Test.YtgaeibibeekclaaDoorWf
import Derived.Test.YtgaeibibeekclaaDoorK4
import Derived.Test.YtgaeibibeekclaaDoorYj
import Derived.Test.YtgaeibibeekclaaDoorK1
namespace Go.Proofs.YtgaeibibeekclaaDoor
open Go.RowKit

set_option maxRecDepth 100000 in
set_option maxHeartbeats 16000000 in
theorem fnPolygon_any (a : Option Addr) (len cap : Nat) (w : World) (h : Bytes w a len cap) (hg : EtOk w) :
    Calls Tryd.prog 5 #[.slice a len cap] w fun e w' => e = .returned (.bool true) ∧ Below w.heap.size w w' := by
  by_cases hlen : len ≤ 1048576
  case neg =>
    have j1 : (1048576 : Int) < (len : Int) := by omega
    clear h hg
    go_enter Tryd.func5, Tryd.ntmps5
    go_wp2
    go_returns
    exact ⟨rfl, by go_grown⟩
  case pos =>
  have j1 : (len : Int) ≤ 1048576 := by omega
  have HO := Lib.hid (drawPolygonIn_any w a len cap h)
  clear h
  go_enter Tryd.func5, Tryd.ntmps5
  go_wp2_with fail
  refine Calls.mono HO.out ?_
  rintro e w1 ⟨v, l, rfl, hV, h2, h20, hb1⟩
  have HG := Lib.hid (hg.below hb1)
  have Hf := Lib.hid hV
  have HB : Hid (Below w.heap.size w w1) := hb1
  clear hb1 HO hg hV
  cases hk : polyB l
  · have C1 : Hid (∀ (w' : World) (v0 : Value), ReadsVecs w' v0 (l) → EtOk w' → Calls Tryd.prog 19 #[v0] w' (fun e w'' => e = .returned (.bool (false)) ∧ Below w'.heap.size w' w'')) := fun w' v0 h0 hg' => by
      have h := polygonIn_any v0 l w' h0 hg'
      rw [hk] at h
      exact h
    have C2 : Hid (∀ (w' : World) (v0 : Value), ReadsVecs w' v0 (l) → EtOk w' → Calls Tryd.prog 20 #[v0] w' (fun e w'' => e = .returned (.bool (false)) ∧ Below w'.heap.size w' w'')) := fun w' v0 h0 hg' => by
      have h := specPolygonIn_any v0 l w' h0
      rw [hk] at h
      exact h
    clear hk
    go_wp2_with fail
    refine Calls.mono (C1.out _ _ (Hf.out.below (by go_grown)) (HG.out.below (by go_grown))) ?_
    rintro e w2 ⟨rfl, hb2⟩
    have hB2 := belowTo (a := w1) (by go_grown) hb2
    replace Hf := Lib.hid (Hf.out.below hB2)
    replace HG := Lib.hid (HG.out.below hB2)
    replace HB := Lib.hid (belowTo HB.out hB2)
    clear hb2 hB2
    go_wp2_with fail
    refine Calls.mono (C2.out _ _ (Hf.out.below (by go_grown)) (HG.out.below (by go_grown))) ?_
    rintro e w3 ⟨rfl, hb3⟩
    have hB3 := belowTo (a := w2) (by go_grown) hb3
    replace Hf := Lib.hid (Hf.out.below hB3)
    replace HG := Lib.hid (HG.out.below hB3)
    replace HB := Lib.hid (belowTo HB.out hB3)
    clear hb3 hB3
    go_wp2
    go_returns
    exact ⟨rfl, HB.out⟩
  · have C1 : Hid (∀ (w' : World) (v0 : Value), ReadsVecs w' v0 (l) → EtOk w' → Calls Tryd.prog 19 #[v0] w' (fun e w'' => e = .returned (.bool (true)) ∧ Below w'.heap.size w' w'')) := fun w' v0 h0 hg' => by
      have h := polygonIn_any v0 l w' h0 hg'
      rw [hk] at h
      exact h
    have C2 : Hid (∀ (w' : World) (v0 : Value), ReadsVecs w' v0 (l) → EtOk w' → Calls Tryd.prog 20 #[v0] w' (fun e w'' => e = .returned (.bool (true)) ∧ Below w'.heap.size w' w'')) := fun w' v0 h0 hg' => by
      have h := specPolygonIn_any v0 l w' h0
      rw [hk] at h
      exact h
    obtain ⟨q1, q2⟩ := pr_poly hk
    have C3 : Hid (∀ (w' : World) (v0 : Value), ReadsVecs w' v0 (l) → EtOk w' → Calls Tryd.prog 21 #[v0] w' (GivesVecsR w' (tidyP l) (true))) := fun w' v0 h0 hg' => by
      have h := polygonOf_any v0 (l) w' h0 hg'
      rw [q1, q2] at h
      exact h
    have C4 : Hid (∀ (w' : World) (v0 : Value), ReadsVecs w' v0 (l) → EtOk w' → Calls Tryd.prog 22 #[v0] w' (GivesVecsR w' (tidyP l) (true))) := fun w' v0 h0 hg' => by
      have h := polygonTidy_any v0 (l) w' h0 hg'
      rw [hk] at h
      exact h
    have C5 : Hid (∀ (k : Nat) (w' : World) (v0 : Value), ReadsVecs w' v0 l → EtOk w' → Calls Tryd.prog 13 #[v0, .agg #[.int .i64 ((cyc l k).1), .int .i64 ((cyc l k).2)]] w' (fun e w'' => e = .returned (.bool true) ∧ Below w'.heap.size w' w'')) := fun k w' v0 h0 hg' => by
      have h := polygonHas_any v0 l (cyc l k).1 (cyc l k).2 w' h0 hg'
      rw [pr_corner hk k] at h
      exact h
    have HL : Hid ((tidyP l).length ≤ 1000) := by show _ ≤ _; rw [tidyP_len]; omega
    generalize tidyP l = m at *
    clear hk q1 q2
    go_wp2_with fail
    refine Calls.mono (C1.out _ _ (Hf.out.below (by go_grown)) (HG.out.below (by go_grown))) ?_
    rintro e w2 ⟨rfl, hb2⟩
    have hB2 := belowTo (a := w1) (by go_grown) hb2
    replace Hf := Lib.hid (Hf.out.below hB2)
    replace HG := Lib.hid (HG.out.below hB2)
    replace HB := Lib.hid (belowTo HB.out hB2)
    clear hb2 hB2
    go_wp2_with fail
    refine Calls.mono (C2.out _ _ (Hf.out.below (by go_grown)) (HG.out.below (by go_grown))) ?_
    rintro e w3 ⟨rfl, hb3⟩
    have hB3 := belowTo (a := w2) (by go_grown) hb3
    replace Hf := Lib.hid (Hf.out.below hB3)
    replace HG := Lib.hid (HG.out.below hB3)
    replace HB := Lib.hid (belowTo HB.out hB3)
    clear hb3 hB3
    go_wp2_with fail
    refine Calls.mono (C3.out _ _ (Hf.out.below (by go_grown)) (HG.out.below (by go_grown))) ?_
    rintro e w4 ⟨v4, rfl, hI4, hb4⟩
    have hB4 := belowTo (a := w3) (by go_grown) hb4
    replace Hf := Lib.hid (Hf.out.below hB4)
    replace HG := Lib.hid (HG.out.below hB4)
    replace HB := Lib.hid (belowTo HB.out hB4)
    clear hb4 hB4
    have Hx := Lib.hid (VecsR.reads hI4 (by have := HL.out; omega))
    clear hI4
    go_wp2_with fail
    refine Calls.mono (C4.out _ _ (Hf.out.below (by go_grown)) (HG.out.below (by go_grown))) ?_
    rintro e w5 ⟨v5, rfl, hI5, hb5⟩
    have hB5 := belowTo (a := w4) (by go_grown) hb5
    replace Hf := Lib.hid (Hf.out.below hB5)
    replace Hx := Lib.hid (Hx.out.below hB5)
    replace HG := Lib.hid (HG.out.below hB5)
    replace HB := Lib.hid (belowTo HB.out hB5)
    clear hb5 hB5
    have Hy := Lib.hid (VecsR.reads hI5 (by have := HL.out; omega))
    clear hI5
    obtain ⟨fb, fo, fc, rfl, -, -, hfb, hfs⟩ := Hf.out.open (by omega)
    have Hfs := Lib.hid hfs
    clear hfs
    go_wp2
    go_loopw [10] (fun s10 wr => ∃ k : Nat, k ≤ l.length ∧ s10 = .int .i64 k ∧ Hid (Below w5.heap.size w5 wr)) (fun s10 _ => l.length - (intOf s10).toNat)
    case atStart => exact ⟨0, Nat.zero_le _, rfl, by show Below _ _ _; go_grown⟩
    case round =>
      obtain ⟨k, hk, rfl, HBr⟩ := hrel
      have i1 : (0 : Int) ≤ (k : Int) := by omega
      by_cases hlt : k < l.length
      · have i2 : (k : Int) < (l.length : Int) := by omega
        have HC := Lib.hid (fun w' (hb : Below wr.heap.size wr w') => C5.out k w' _ ((Hf.out.below HBr.out).below hb) ((HG.out.below HBr.out).below hb))
        obtain ⟨a0, a1⟩ := Hfs.out wr HBr.out k (by omega)
        have hbr := HBr.out
        generalize cyc l k = F at *
        obtain ⟨fx, fy⟩ := F
        dsimp only at a0 a1 HC
        clear Hfs C5
        go_wp2_with fail
        refine Calls.mono (HC.out _ (by go_grown)) ?_
        rintro e w9 ⟨rfl, hb9⟩
        have HB9 := Lib.hid (belowTo hbr (belowTo (a := wr) (by go_grown) hb9))
        clear hb9 hbr HC a0 a1
        go_wp2
        go_roundw
        case rel => exact ⟨k + 1, by omega, by go_num, HB9⟩
        case measure => simp [intOf]; omega
      · have hkn : k = l.length := by omega
        obtain ⟨w6, hw6⟩ : ∃ w6, w6 = wr := ⟨_, rfl⟩
        subst hw6
        have hB6 := HBr.out
        have i2 : ¬ (k : Int) < (l.length : Int) := by omega
        replace Hf := Lib.hid (Hf.out.below hB6)
        replace Hx := Lib.hid (Hx.out.below hB6)
        replace Hy := Lib.hid (Hy.out.below hB6)
        replace HG := Lib.hid (HG.out.below hB6)
        replace HB := Lib.hid (belowTo HB.out hB6)
        clear HBr hB6
        go_wp2_with fail
        refine Calls.mono (sameVecs_eq _ _ _ _ (Hx.out.below (by go_grown)) (Hy.out.below (by go_grown))) ?_
        rintro e w7 ⟨rfl, hb7⟩
        have hB7 := belowTo (a := w6) (by go_grown) hb7
        replace Hf := Lib.hid (Hf.out.below hB7)
        replace Hx := Lib.hid (Hx.out.below hB7)
        replace Hy := Lib.hid (Hy.out.below hB7)
        replace HG := Lib.hid (HG.out.below hB7)
        replace HB := Lib.hid (belowTo HB.out hB7)
        clear hb7 hB7
        go_wp2
        go_returns
        exact ⟨rfl, HB.out⟩
end Go.Proofs.YtgaeibibeekclaaDoor
