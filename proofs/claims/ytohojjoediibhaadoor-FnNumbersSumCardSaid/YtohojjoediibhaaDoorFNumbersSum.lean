/- FnNumbersSum: the walk. -/
import Derived.Test.YtohojjoediibhaaDoorUe
import Derived.Test.YtohojjoediibhaaDoorNc
import Derived.Test.YtohojjoediibhaaDoorSm
import Derived.Test.YtohojjoediibhaaDoorEc
import Derived.Test.YtohojjoediibhaaDoorEb
namespace Go.Proofs.YtohojjoediibhaaDoor
open Go.RowKit

set_option maxRecDepth 100000 in
set_option maxHeartbeats 16000000 in
theorem fnNumbersSum_any (a : Option Addr) (len cap : Nat) (w : World) (h : Bytes w a len cap) (hg : EtOk w) :
    Calls Tryd.prog 13 #[.slice a len cap] w fun e w' => e = .returned (.bool true) ∧ Below w.heap.size w w' := by
  by_cases hlen : len ≤ 1048576
  case neg =>
    have j1 : (1048576 : Int) < (len : Int) := by omega
    clear h hg
    go_enter Tryd.func13, Tryd.ntmps13
    go_wp2
    go_returns
    exact ⟨rfl, by go_grown⟩
  case pos =>
  have j1 : (len : Int) ≤ 1048576 := by omega
  have HO := Lib.hid (drawNumbersSum_any w a len cap h)
  clear h
  go_enter Tryd.func13, Tryd.ntmps13
  go_wp2_with fail
  refine Calls.mono HO.out ?_
  rintro e w1 ⟨v, l, rfl, hV, h2, h20, hb1⟩
  have HG := Lib.hid (hg.below hb1)
  have Hf := Lib.hid hV
  have HB : Hid (Below w.heap.size w w1) := hb1
  clear hb1 HO hg hV
  cases hk : smoothB l
  · have C1 : Hid (∀ (w' : World) (v0 : Value), ReadsVecs w' v0 (l) → EtOk w' → Calls Tryd.prog 58 #[v0] w' (fun e w'' => e = .returned (.tuple #[.int .i64 (0), .bool (false)]) ∧ Below w'.heap.size w' w'')) := fun w' v0 h0 hg' => by
      have h := numbersSum_any v0 (l) w' h0 hg'
      rw [hk] at h
      exact h
    have C2 : Hid (∀ (w' : World) (v0 : Value), ReadsVecs w' v0 (l) → EtOk w' → Calls Tryd.prog 59 #[v0] w' (fun e w'' => e = .returned (.tuple #[.int .i64 (0), .bool (false)]) ∧ Below w'.heap.size w' w'')) := fun w' v0 h0 hg' => by
      have h := specNumbersSum_any v0 (l) w' h0
      rw [hk] at h
      exact h
    clear hk
    go_wp2_with fail
    refine Calls.mono (C1.out _ _ (Hf.out.below (by go_grown)) (HG.out.below (by go_grown))) ?_
    rintro e w2 ⟨rfl, hb2⟩
    have hB2 := belowTo (a := w1) (by go_grown) hb2
    replace Hf := Lib.hid (Hf.out.below hB2)
    replace HG := Lib.hid (HG.out.below hB2)
    replace HB := Lib.hid (belowTo HB.out hB2)
    clear hb2 hB2
    go_wp2_with fail
    refine Calls.mono (C2.out _ _ (Hf.out.below (by go_grown)) (HG.out.below (by go_grown))) ?_
    rintro e w3 ⟨rfl, hb3⟩
    have hB3 := belowTo (a := w2) (by go_grown) hb3
    replace Hf := Lib.hid (Hf.out.below hB3)
    replace HG := Lib.hid (HG.out.below hB3)
    replace HB := Lib.hid (belowTo HB.out hB3)
    clear hb3 hB3
    go_wp2
    go_returns
    exact ⟨rfl, HB.out⟩
  · have C1 : Hid (∀ (w' : World) (v0 : Value), ReadsVecs w' v0 (l) → EtOk w' → Calls Tryd.prog 58 #[v0] w' (fun e w'' => e = .returned (.tuple #[.int .i64 (sum3 l l.length), .bool (true)]) ∧ Below w'.heap.size w' w'')) := fun w' v0 h0 hg' => by
      have h := numbersSum_any v0 (l) w' h0 hg'
      rw [hk] at h
      exact h
    have C2 : Hid (∀ (w' : World) (v0 : Value), ReadsVecs w' v0 (l) → EtOk w' → Calls Tryd.prog 59 #[v0] w' (fun e w'' => e = .returned (.tuple #[.int .i64 (sum3 l l.length), .bool (true)]) ∧ Below w'.heap.size w' w'')) := fun w' v0 h0 hg' => by
      have h := specNumbersSum_any v0 (l) w' h0
      rw [hk] at h
      exact h
    have q := twelve_sum hk
    rw [q] at C1 C2
    clear q hk
    go_wp2_with fail
    refine Calls.mono (C1.out _ _ (Hf.out.below (by go_grown)) (HG.out.below (by go_grown))) ?_
    rintro e w2 ⟨rfl, hb2⟩
    have hB2 := belowTo (a := w1) (by go_grown) hb2
    replace Hf := Lib.hid (Hf.out.below hB2)
    replace HG := Lib.hid (HG.out.below hB2)
    replace HB := Lib.hid (belowTo HB.out hB2)
    clear hb2 hB2
    go_wp2_with fail
    refine Calls.mono (C2.out _ _ (Hf.out.below (by go_grown)) (HG.out.below (by go_grown))) ?_
    rintro e w3 ⟨rfl, hb3⟩
    have hB3 := belowTo (a := w2) (by go_grown) hb3
    replace Hf := Lib.hid (Hf.out.below hB3)
    replace HG := Lib.hid (HG.out.below hB3)
    replace HB := Lib.hid (belowTo HB.out hB3)
    clear hb3 hB3
    go_wp2
    go_returns
    exact ⟨rfl, HB.out⟩
end Go.Proofs.YtohojjoediibhaaDoor
