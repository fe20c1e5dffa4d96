/- FnDivisorTimes: the walk. -/
import Derived.Test.YtohojjoediibhaaDoorBd
import Derived.Test.YtohojjoediibhaaDoorNc
import Derived.Test.YtohojjoediibhaaDoorSm
import Derived.Test.YtohojjoediibhaaDoorUf
import Derived.Test.YtohojjoediibhaaDoorQh
import Derived.Test.YtohojjoediibhaaDoorBf
import Derived.Test.YtohojjoediibhaaDoorBe
namespace Go.Proofs.YtohojjoediibhaaDoor
open Go.RowKit

set_option maxRecDepth 100000 in
set_option maxHeartbeats 16000000 in
theorem fnDivisorTimes_any (a : Option Addr) (len cap : Nat) (w : World) (h : Bytes w a len cap) (hg : EtOk w) :
    Calls Tryd.prog 5 #[.slice a len cap] w fun e w' => e = .returned (.bool true) ∧ Below w.heap.size w w' := by
  by_cases hlen : len ≤ 1048576
  case neg =>
    have j1 : (1048576 : Int) < (len : Int) := by omega
    clear h hg
    go_enter Tryd.func5, Tryd.ntmps5
    go_wp2
    go_returns
    exact ⟨rfl, by go_grown⟩
  case pos =>
  have j1 : (len : Int) ≤ 1048576 := by omega
  have HO := Lib.hid (drawDivisorTimes_any w a len cap h)
  clear h
  go_enter Tryd.func5, Tryd.ntmps5
  go_wp2_with fail
  refine Calls.mono HO.out ?_
  rintro e w1 ⟨v, u, l, d, n, rfl, hV, hI, h2, h20, hd, hb1⟩
  have HG := Lib.hid (hg.below hb1)
  have Hf := Lib.hid hV
  have Hd := Lib.hid hI
  have HB : Hid (Below w.heap.size w w1) := hb1
  clear hb1 HO hg hV hI
  cases hk : timDB l d n
  · have C1 : Hid (∀ (w' : World) (v0 : Value) (v1 : Value), ReadsVecs w' v0 (l) → ReadsInts w' v1 (d) → EtOk w' → Calls Tryd.prog 22 #[v0, v1, .int .i64 (n)] w' (GivesIntsOk w' ([]) (false))) := fun w' v0 v1 h0 h1 hg' => by
      have h := divisorTimes_any v0 (l) v1 (d) (n) w' h0 h1 hg'
      rw [hk] at h
      exact h
    have C2 : Hid (∀ (w' : World) (v0 : Value) (v1 : Value), ReadsVecs w' v0 (l) → ReadsInts w' v1 (d) → EtOk w' → Calls Tryd.prog 29 #[v0, v1, .int .i64 (n)] w' (GivesIntsOk w' ([]) (false))) := fun w' v0 v1 h0 h1 hg' => by
      have h := specDivisorTimes_any v0 (l) v1 (d) (n) w' h0 h1
      rw [hk] at h
      exact h
    clear hk
    go_wp2_with fail
    refine Calls.mono (C1.out _ _ _ (Hf.out.below (by go_grown)) (Hd.out.below (by go_grown)) (HG.out.below (by go_grown))) ?_
    rintro e w2 ⟨v2, rfl, hI2, hb2⟩
    have hB2 := belowTo (a := w1) (by go_grown) hb2
    replace Hf := Lib.hid (Hf.out.below hB2)
    replace Hd := Lib.hid (Hd.out.below hB2)
    replace HG := Lib.hid (HG.out.below hB2)
    replace HB := Lib.hid (belowTo HB.out hB2)
    clear hb2 hB2
    have Ho1 := Lib.hid (Ints.reads hI2 (by simp))
    clear hI2
    go_wp2_with fail
    refine Calls.mono (C2.out _ _ _ (Hf.out.below (by go_grown)) (Hd.out.below (by go_grown)) (HG.out.below (by go_grown))) ?_
    rintro e w3 ⟨v3, rfl, hI3, hb3⟩
    have hB3 := belowTo (a := w2) (by go_grown) hb3
    replace Hf := Lib.hid (Hf.out.below hB3)
    replace Hd := Lib.hid (Hd.out.below hB3)
    replace Ho1 := Lib.hid (Ho1.out.below hB3)
    replace HG := Lib.hid (HG.out.below hB3)
    replace HB := Lib.hid (belowTo HB.out hB3)
    clear hb3 hB3
    have Ho2 := Lib.hid (Ints.reads hI3 (by simp))
    clear hI3
    go_wp2_with fail
    refine Calls.mono (sameInts_eq _ _ _ _ (Ho1.out.below (by go_grown)) (Ho2.out.below (by go_grown))) ?_
    rintro e w4 ⟨rfl, hb4⟩
    have hB4 := belowTo (a := w3) (by go_grown) hb4
    replace Hf := Lib.hid (Hf.out.below hB4)
    replace Hd := Lib.hid (Hd.out.below hB4)
    replace Ho1 := Lib.hid (Ho1.out.below hB4)
    replace Ho2 := Lib.hid (Ho2.out.below hB4)
    replace HG := Lib.hid (HG.out.below hB4)
    replace HB := Lib.hid (belowTo HB.out hB4)
    clear hb4 hB4
    go_wp2_with fail
    refine Calls.mono (sameInts_eq _ _ _ _ (Ho1.out.below (by go_grown)) (Ho2.out.below (by go_grown))) ?_
    rintro e w5 ⟨rfl, hb5⟩
    have hB5 := belowTo (a := w4) (by go_grown) hb5
    replace Hf := Lib.hid (Hf.out.below hB5)
    replace Hd := Lib.hid (Hd.out.below hB5)
    replace Ho1 := Lib.hid (Ho1.out.below hB5)
    replace Ho2 := Lib.hid (Ho2.out.below hB5)
    replace HG := Lib.hid (HG.out.below hB5)
    replace HB := Lib.hid (belowTo HB.out hB5)
    clear hb5 hB5
    go_wp2
    go_returns
    exact ⟨rfl, HB.out⟩
  · have C1 : Hid (∀ (w' : World) (v0 : Value) (v1 : Value), ReadsVecs w' v0 (l) → ReadsInts w' v1 (d) → EtOk w' → Calls Tryd.prog 22 #[v0, v1, .int .i64 (n)] w' (GivesIntsOk w' (timesL d n) (true))) := fun w' v0 v1 h0 h1 hg' => by
      have h := divisorTimes_any v0 (l) v1 (d) (n) w' h0 h1 hg'
      rw [hk] at h
      exact h
    have C2 : Hid (∀ (w' : World) (v0 : Value) (v1 : Value), ReadsVecs w' v0 (l) → ReadsInts w' v1 (d) → EtOk w' → Calls Tryd.prog 29 #[v0, v1, .int .i64 (n)] w' (GivesIntsOk w' (timesL d n) (true))) := fun w' v0 v1 h0 h1 hg' => by
      have h := specDivisorTimes_any v0 (l) v1 (d) (n) w' h0 h1
      rw [hk] at h
      exact h
    obtain ⟨q1, ⟨n1, n2⟩, q2⟩ := tim_in hk
    have q3 := prod_square (l := l) (a := d) (n := n) (div_in q1).2.1 (by omega)
    have q4 := self_bnd q1 q1
    have C3 : Hid (∀ (w' : World) (v0 : Value) (v1 : Value) (v2 : Value), ReadsVecs w' v0 (l) → ReadsInts w' v1 (timesL d n) → ReadsInts w' v2 (timesL d n) → EtOk w' → Calls Tryd.prog 30 #[v0, v1, v2] w' (fun e w'' => e = .returned (.tuple #[.int .i64 (n * n * prodZ l d d), .bool (true)]) ∧ Below w'.heap.size w' w'')) := fun w' v0 v1 v2 h0 h1 h2 hg' => by
      have h := divisorProduct_any v0 (l) v1 (timesL d n) v2 (timesL d n) w' h0 h1 h2 hg'
      rw [q2, q3] at h
      exact h
    have C4 : Hid (∀ (w' : World) (v0 : Value) (v1 : Value) (v2 : Value), ReadsVecs w' v0 (l) → ReadsInts w' v1 (d) → ReadsInts w' v2 (d) → EtOk w' → Calls Tryd.prog 30 #[v0, v1, v2] w' (fun e w'' => e = .returned (.tuple #[.int .i64 (prodZ l d d), .bool (true)]) ∧ Below w'.heap.size w' w'')) := fun w' v0 v1 v2 h0 h1 h2 hg' => by
      have h := divisorProduct_any v0 (l) v1 (d) v2 (d) w' h0 h1 h2 hg'
      rw [q1] at h
      exact h
    have HL : Hid ((timesL d n).length ≤ 1000) := by show _ ≤ _; rw [timesL_len]; omega
    have m1 := mul_le (a := n) (b := n) (A := 100) (B := 100) ⟨by omega, by omega⟩ ⟨by omega, by omega⟩
    generalize timesL d n = m at *
    generalize prodZ l d d = X at *
    clear hk q1 q2 q3
    have m2 := mul_le (a := n * n) (b := X) (A := 10000) (B := 808000808000) ⟨by omega, by omega⟩ q4
    have qa : IntKind.i64.wrap (n * n) = n * n := by rw [IntKind.wrap_i64]; omega
    have qb : IntKind.i64.wrap (n * n * X) = n * n * X := by rw [IntKind.wrap_i64]; omega
    clear m1 m2 q4
    go_wp2_with fail
    refine Calls.mono (C1.out _ _ _ (Hf.out.below (by go_grown)) (Hd.out.below (by go_grown)) (HG.out.below (by go_grown))) ?_
    rintro e w2 ⟨v2, rfl, hI2, hb2⟩
    have hB2 := belowTo (a := w1) (by go_grown) hb2
    replace Hf := Lib.hid (Hf.out.below hB2)
    replace Hd := Lib.hid (Hd.out.below hB2)
    replace HG := Lib.hid (HG.out.below hB2)
    replace HB := Lib.hid (belowTo HB.out hB2)
    clear hb2 hB2
    have Ho := Lib.hid (Ints.reads hI2 (by have := HL.out; omega))
    clear hI2
    go_wp2_with fail
    refine Calls.mono (C2.out _ _ _ (Hf.out.below (by go_grown)) (Hd.out.below (by go_grown)) (HG.out.below (by go_grown))) ?_
    rintro e w3 ⟨v3, rfl, hI3, hb3⟩
    have hB3 := belowTo (a := w2) (by go_grown) hb3
    replace Hf := Lib.hid (Hf.out.below hB3)
    replace Hd := Lib.hid (Hd.out.below hB3)
    replace Ho := Lib.hid (Ho.out.below hB3)
    replace HG := Lib.hid (HG.out.below hB3)
    replace HB := Lib.hid (belowTo HB.out hB3)
    clear hb3 hB3
    have Ho2 := Lib.hid (Ints.reads hI3 (by have := HL.out; omega))
    clear hI3
    go_wp2_with fail
    refine Calls.mono (sameInts_eq _ _ _ _ (Ho.out.below (by go_grown)) (Ho2.out.below (by go_grown))) ?_
    rintro e w4 ⟨rfl, hb4⟩
    have hB4 := belowTo (a := w3) (by go_grown) hb4
    replace Hf := Lib.hid (Hf.out.below hB4)
    replace Hd := Lib.hid (Hd.out.below hB4)
    replace Ho := Lib.hid (Ho.out.below hB4)
    replace Ho2 := Lib.hid (Ho2.out.below hB4)
    replace HG := Lib.hid (HG.out.below hB4)
    replace HB := Lib.hid (belowTo HB.out hB4)
    clear hb4 hB4
    clear Ho2
    go_wp2_with fail
    refine Calls.mono (C3.out _ _ _ _ (Hf.out.below (by go_grown)) (Ho.out.below (by go_grown)) (Ho.out.below (by go_grown)) (HG.out.below (by go_grown))) ?_
    rintro e w5 ⟨rfl, hb5⟩
    have hB5 := belowTo (a := w4) (by go_grown) hb5
    replace Hf := Lib.hid (Hf.out.below hB5)
    replace Hd := Lib.hid (Hd.out.below hB5)
    replace Ho := Lib.hid (Ho.out.below hB5)
    replace HG := Lib.hid (HG.out.below hB5)
    replace HB := Lib.hid (belowTo HB.out hB5)
    clear hb5 hB5
    go_wp2_with fail
    refine Calls.mono (C4.out _ _ _ _ (Hf.out.below (by go_grown)) (Hd.out.below (by go_grown)) (Hd.out.below (by go_grown)) (HG.out.below (by go_grown))) ?_
    rintro e w6 ⟨rfl, hb6⟩
    have hB6 := belowTo (a := w5) (by go_grown) hb6
    replace Hf := Lib.hid (Hf.out.below hB6)
    replace Hd := Lib.hid (Hd.out.below hB6)
    replace Ho := Lib.hid (Ho.out.below hB6)
    replace HG := Lib.hid (HG.out.below hB6)
    replace HB := Lib.hid (belowTo HB.out hB6)
    clear hb6 hB6
    go_wp2
    go_returns
    exact ⟨rfl, HB.out⟩
end Go.Proofs.YtohojjoediibhaaDoor
