/- FnEdge: the walk. -/
import Derived.Test.YtpimhndholckcaaDoorK9
import Derived.Test.YtpimhndholckcaaDoorK3
import Derived.Test.YtpimhndholckcaaDoorK1
import Derived.Test.YtpimhndholckcaaDoorWi
namespace Go.Proofs.YtpimhndholckcaaDoor
open Go.RowKit

set_option maxRecDepth 100000 in
set_option maxHeartbeats 16000000 in
theorem fnEdge_any (a : Option Addr) (len cap : Nat) (w : World) (h : Bytes w a len cap) (hg : EtOk w) :
    Calls Tryd.prog 4 #[.slice a len cap] w fun e w' => e = .returned (.bool true) ∧ Below w.heap.size w w' := by
  by_cases hlen : len ≤ 1048576
  case neg =>
    have j1 : (1048576 : Int) < (len : Int) := by omega
    clear h hg
    go_enter Tryd.func4, Tryd.ntmps4
    go_wp2
    go_returns
    exact ⟨rfl, by go_grown⟩
  case pos =>
  have j1 : (len : Int) ≤ 1048576 := by omega
  have HO := Lib.hid (drawPolygonEdge_any w a len cap h)
  clear h
  go_enter Tryd.func4, Tryd.ntmps4
  go_wp2_with fail
  refine Calls.mono HO.out ?_
  rintro e w1 ⟨v, l, rfl, hV, h2, h20, hb1⟩
  have HG := Lib.hid (hg.below hb1)
  have Hf := Lib.hid hV
  have HB : Hid (Below w.heap.size w w1) := hb1
  clear hb1 HO hg hV
  cases hk : polyB l
  · have C1 : Hid (∀ (w' : World) (v0 : Value), ReadsVecs w' v0 (l) → EtOk w' → Calls Tryd.prog 11 #[v0] w' (fun e w'' => e = .returned (.tuple #[.int .i64 (0), .bool (false)]) ∧ Below w'.heap.size w' w'')) := fun w' v0 h0 hg' => by
      have h := polygonEdge_any v0 l w' h0 hg'
      rw [hk] at h
      exact h
    have C2 : Hid (∀ (w' : World) (v0 : Value), ReadsVecs w' v0 (l) → EtOk w' → Calls Tryd.prog 13 #[v0] w' (fun e w'' => e = .returned (.tuple #[.int .i64 (0), .bool (false)]) ∧ Below w'.heap.size w' w'')) := fun w' v0 h0 hg' => by
      have h := specPolygonEdge_any v0 l w' h0
      rw [hk] at h
      exact h
    clear hk
    go_wp2_with fail
    refine Calls.mono (C1.out _ _ (Hf.out.below (by go_grown)) (HG.out.below (by go_grown))) ?_
    rintro e w2 ⟨rfl, hb2⟩
    have hB2 := belowTo (a := w1) (by go_grown) hb2
    replace Hf := Lib.hid (Hf.out.below hB2)
    replace HG := Lib.hid (HG.out.below hB2)
    replace HB := Lib.hid (belowTo HB.out hB2)
    clear hb2 hB2
    go_wp2_with fail
    refine Calls.mono (C2.out _ _ (Hf.out.below (by go_grown)) (HG.out.below (by go_grown))) ?_
    rintro e w3 ⟨rfl, hb3⟩
    have hB3 := belowTo (a := w2) (by go_grown) hb3
    replace Hf := Lib.hid (Hf.out.below hB3)
    replace HG := Lib.hid (HG.out.below hB3)
    replace HB := Lib.hid (belowTo HB.out hB3)
    clear hb3 hB3
    go_wp2
    go_returns
    exact ⟨rfl, HB.out⟩
  · have C1 : Hid (∀ (w' : World) (v0 : Value), ReadsVecs w' v0 (l) → EtOk w' → Calls Tryd.prog 11 #[v0] w' (fun e w'' => e = .returned (.tuple #[.int .i64 (edgeZ l l.length), .bool (true)]) ∧ Below w'.heap.size w' w'')) := fun w' v0 h0 hg' => by
      have h := polygonEdge_any v0 l w' h0 hg'
      rw [hk] at h
      exact h
    have C2 : Hid (∀ (w' : World) (v0 : Value), ReadsVecs w' v0 (l) → EtOk w' → Calls Tryd.prog 13 #[v0] w' (fun e w'' => e = .returned (.tuple #[.int .i64 (edgeZ l l.length), .bool (true)]) ∧ Below w'.heap.size w' w'')) := fun w' v0 h0 hg' => by
      have h := specPolygonEdge_any v0 l w' h0
      rw [hk] at h
      exact h
    have pk := pc_pick hk
    have pn := poly_nums hk
    have C3 : Hid (∀ (w' : World) (v0 : Value), ReadsVecs w' v0 (l) → EtOk w' → Calls Tryd.prog 10 #[v0] w' (fun e w'' => e = .returned (.tuple #[.int .i64 (innerZ l), .bool (true)]) ∧ Below w'.heap.size w' w'')) := fun w' v0 h0 hg' => by
      have h := polygonInner_any v0 (l) w' h0 hg'
      rw [hk] at h
      exact h
    have C4 : Hid (∀ (w' : World) (v0 : Value), ReadsVecs w' v0 (l) → EtOk w' → Calls Tryd.prog 14 #[v0] w' (fun e w'' => e = .returned (.tuple #[.int .i64 (innerZ l + edgeZ l l.length), .bool (true)]) ∧ Below w'.heap.size w' w'')) := fun w' v0 h0 hg' => by
      have h := polygonCount_any v0 (l) w' h0 hg'
      rw [hk] at h
      exact h
    clear hk
    generalize areaZ l = A at *
    generalize edgeZ l l.length = E at *
    generalize innerZ l = N at *
    have qa : IntKind.i64.wrap (E + N) = N + E := by rw [IntKind.wrap_i64]; omega
    have qd : (l.length : Int) ≤ E := pk.2.2.1
    clear pk pn
    obtain ⟨va, vc, rfl, _⟩ := Hf.out
    go_wp2_with fail
    refine Calls.mono (C1.out _ _ (Hf.out.below (by go_grown)) (HG.out.below (by go_grown))) ?_
    rintro e w2 ⟨rfl, hb2⟩
    have hB2 := belowTo (a := w1) (by go_grown) hb2
    replace Hf := Lib.hid (Hf.out.below hB2)
    replace HG := Lib.hid (HG.out.below hB2)
    replace HB := Lib.hid (belowTo HB.out hB2)
    clear hb2 hB2
    go_wp2_with fail
    refine Calls.mono (C2.out _ _ (Hf.out.below (by go_grown)) (HG.out.below (by go_grown))) ?_
    rintro e w3 ⟨rfl, hb3⟩
    have hB3 := belowTo (a := w2) (by go_grown) hb3
    replace Hf := Lib.hid (Hf.out.below hB3)
    replace HG := Lib.hid (HG.out.below hB3)
    replace HB := Lib.hid (belowTo HB.out hB3)
    clear hb3 hB3
    go_wp2_with fail
    refine Calls.mono (C3.out _ _ (Hf.out.below (by go_grown)) (HG.out.below (by go_grown))) ?_
    rintro e w4 ⟨rfl, hb4⟩
    have hB4 := belowTo (a := w3) (by go_grown) hb4
    replace Hf := Lib.hid (Hf.out.below hB4)
    replace HG := Lib.hid (HG.out.below hB4)
    replace HB := Lib.hid (belowTo HB.out hB4)
    clear hb4 hB4
    go_wp2_with fail
    refine Calls.mono (C4.out _ _ (Hf.out.below (by go_grown)) (HG.out.below (by go_grown))) ?_
    rintro e w5 ⟨rfl, hb5⟩
    have hB5 := belowTo (a := w4) (by go_grown) hb5
    replace Hf := Lib.hid (Hf.out.below hB5)
    replace HG := Lib.hid (HG.out.below hB5)
    replace HB := Lib.hid (belowTo HB.out hB5)
    clear hb5 hB5
    go_wp2
    go_returns
    exact ⟨rfl, HB.out⟩
end Go.Proofs.YtpimhndholckcaaDoor
