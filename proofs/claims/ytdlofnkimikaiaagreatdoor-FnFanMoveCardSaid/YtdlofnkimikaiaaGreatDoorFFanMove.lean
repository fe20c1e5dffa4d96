/- FnFanMove: the walk. -/
import Derived.Test.YtdlofnkimikaiaaGreatDoorUn
import Derived.Test.YtdlofnkimikaiaaGreatDoorOd
import Derived.Test.YtdlofnkimikaiaaGreatDoorJ2
import Derived.Test.YtdlofnkimikaiaaGreatDoorSm
import Derived.Test.YtdlofnkimikaiaaGreatDoorPn
import Derived.Test.YtdlofnkimikaiaaGreatDoorPm
import Derived.Test.YtdlofnkimikaiaaGreatDoorB9
namespace Go.Proofs.YtdlofnkimikaiaaGreatDoor
open Go.RowKit

set_option maxRecDepth 100000 in
set_option maxHeartbeats 16000000 in
theorem fnFanMove_any (a : Option Addr) (len cap : Nat) (w : World) (h : Bytes w a len cap) (hg : EtOk w) :
    Calls Tryz.prog 4 #[.slice a len cap] w fun e w' => e = .returned (.bool true) ∧ Below w.heap.size w w' := by
  by_cases hlen : len ≤ 1048576
  case neg =>
    have j1 : (1048576 : Int) < (len : Int) := by omega
    clear h hg
    go_enter Tryz.func4, Tryz.ntmps4
    go_wp2
    go_returns
    exact ⟨rfl, by go_grown⟩
  case pos =>
  have j1 : (len : Int) ≤ 1048576 := by omega
  have HO := Lib.hid (drawFanMove_any w a len cap h)
  clear h
  go_enter Tryz.func4, Tryz.ntmps4
  go_wp2_with fail
  refine Calls.mono HO.out ?_
  rintro e w1 ⟨v, l, x, y, z, u, rfl, hV, h2, h20, hb1⟩
  have HG := Lib.hid (hg.below hb1)
  have Hf := Lib.hid hV
  have HB : Hid (Below w.heap.size w w1) := hb1
  clear hb1 HO hg hV
  cases hk : mvB l x y z u
  · have C1 : Hid (∀ (w' : World) (v0 : Value), ReadsVecs w' v0 (l) → EtOk w' → Calls Tryz.prog 8 #[v0, .agg #[.int .i64 (x), .int .i64 (y), .int .i64 (z), .int .i64 (u)]] w' (GivesVecsOk w' ([]) (false))) := fun w' v0 h0 hg' => by
      have h := fanMove_any v0 l x y z u w' h0 hg'
      rw [hk] at h
      exact h
    have C2 : Hid (∀ (w' : World) (v0 : Value), ReadsVecs w' v0 (l) → EtOk w' → Calls Tryz.prog 11 #[v0, .agg #[.int .i64 (x), .int .i64 (y), .int .i64 (z), .int .i64 (u)]] w' (GivesVecsOk w' ([]) (false))) := fun w' v0 h0 hg' => by
      have h := specFanMove_any v0 l x y z u w' h0
      rw [hk] at h
      exact h
    clear hk
    go_wp2_with fail
    refine Calls.mono (C1.out _ _ (Hf.out.below (by go_grown)) (HG.out.below (by go_grown))) ?_
    rintro e w2 ⟨v2, rfl, hI2, hb2⟩
    have hB2 := belowTo (a := w1) (by go_grown) hb2
    replace Hf := Lib.hid (Hf.out.below hB2)
    have Hm : Hid (BoxAt w2 w1.heap.size [.int .i64 (x), .int .i64 (y), .int .i64 (z), .int .i64 (u)]) := Lib.hid (BoxAt.below (BoxAt.made4 _ (.int .i64 (x)) (.int .i64 (y)) (.int .i64 (z)) (.int .i64 (u)) _) hb2)
    obtain ⟨mm0, mm1, mm2, mm3⟩ := Hm.out.four
    have ltm := Hm.out.1
    have nem := Nat.ne_of_lt ltm
    replace HG := Lib.hid (HG.out.below hB2)
    replace HB := Lib.hid (belowTo HB.out hB2)
    clear hb2 hB2
    have Ho1 := Lib.hid (Vecs.reads hI2 (by simp))
    clear hI2
    go_wp2_with fail
    refine Calls.mono (C2.out _ _ (Hf.out.below (by go_grown)) (HG.out.below (by go_grown))) ?_
    rintro e w3 ⟨v3, rfl, hI3, hb3⟩
    have hB3 := belowTo (a := w2) (by go_grown) hb3
    replace Hf := Lib.hid (Hf.out.below hB3)
    clear mm0 mm1 mm2 mm3 ltm nem
    replace Hm := Lib.hid (Hm.out.below hB3)
    replace Ho1 := Lib.hid (Ho1.out.below hB3)
    obtain ⟨mm0, mm1, mm2, mm3⟩ := Hm.out.four
    have ltm := Hm.out.1
    have nem := Nat.ne_of_lt ltm
    replace HG := Lib.hid (HG.out.below hB3)
    replace HB := Lib.hid (belowTo HB.out hB3)
    clear hb3 hB3
    have Ho2 := Lib.hid (Vecs.reads hI3 (by simp))
    clear hI3
    go_wp2_with fail
    refine Calls.mono (sameVecs_eq _ _ _ _ (Ho1.out.below (by go_grown)) (Ho2.out.below (by go_grown))) ?_
    rintro e w4 ⟨rfl, hb4⟩
    have hB4 := belowTo (a := w3) (by go_grown) hb4
    replace Hf := Lib.hid (Hf.out.below hB4)
    clear mm0 mm1 mm2 mm3 ltm nem
    replace Hm := Lib.hid (Hm.out.below hB4)
    replace Ho1 := Lib.hid (Ho1.out.below hB4)
    replace Ho2 := Lib.hid (Ho2.out.below hB4)
    obtain ⟨mm0, mm1, mm2, mm3⟩ := Hm.out.four
    have ltm := Hm.out.1
    have nem := Nat.ne_of_lt ltm
    replace HG := Lib.hid (HG.out.below hB4)
    replace HB := Lib.hid (belowTo HB.out hB4)
    clear hb4 hB4
    go_wp2_with fail
    refine Calls.mono (sameVecs_eq _ _ _ _ (Ho1.out.below (by go_grown)) (Ho2.out.below (by go_grown))) ?_
    rintro e w5 ⟨rfl, hb5⟩
    have hB5 := belowTo (a := w4) (by go_grown) hb5
    replace Hf := Lib.hid (Hf.out.below hB5)
    clear mm0 mm1 mm2 mm3 ltm nem
    replace Hm := Lib.hid (Hm.out.below hB5)
    replace Ho1 := Lib.hid (Ho1.out.below hB5)
    replace Ho2 := Lib.hid (Ho2.out.below hB5)
    obtain ⟨mm0, mm1, mm2, mm3⟩ := Hm.out.four
    have ltm := Hm.out.1
    have nem := Nat.ne_of_lt ltm
    replace HG := Lib.hid (HG.out.below hB5)
    replace HB := Lib.hid (belowTo HB.out hB5)
    clear hb5 hB5
    go_wp2
    go_returns
    exact ⟨rfl, HB.out⟩
  · have C1 : Hid (∀ (w' : World) (v0 : Value), ReadsVecs w' v0 (l) → EtOk w' → Calls Tryz.prog 8 #[v0, .agg #[.int .i64 (x), .int .i64 (y), .int .i64 (z), .int .i64 (u)]] w' (GivesVecsOk w' (sortL (movedZ l x y z u)) (true))) := fun w' v0 h0 hg' => by
      have h := fanMove_any v0 l x y z u w' h0 hg'
      rw [hk] at h
      exact h
    have C2 : Hid (∀ (w' : World) (v0 : Value), ReadsVecs w' v0 (l) → EtOk w' → Calls Tryz.prog 11 #[v0, .agg #[.int .i64 (x), .int .i64 (y), .int .i64 (z), .int .i64 (u)]] w' (GivesVecsOk w' (sortL (movedZ l x y z u)) (true))) := fun w' v0 h0 hg' => by
      have h := specFanMove_any v0 l x y z u w' h0
      rw [hk] at h
      exact h
    obtain ⟨q0, q1, q2, q3⟩ := mvD_in hk
    obtain ⟨q4, q5, q6⟩ := mvD_back hk (turned_back q1).1
    have q7 := fan_len q3
    have q8 := fan_len q0
    have C3 : Hid (∀ (w' : World),  EtOk w' → Calls Tryz.prog 13 #[.agg #[.int .i64 (x), .int .i64 (y), .int .i64 (z), .int .i64 (u)]] w' (fun e w'' => e = .returned (.tuple #[.agg #[.int .i64 (detM x y z u * u), .int .i64 (-(detM x y z u * y)), .int .i64 (-(detM x y z u * z)), .int .i64 (detM x y z u * x)], .bool true]) ∧ Below w'.heap.size w' w'')) := fun w'  hg' => by
      have h := matTurned_fits x y z u w' hg' q1
      exact h
    have C4 : Hid (∀ (w' : World) (v0 : Value), ReadsVecs w' v0 (sortL (movedZ l x y z u)) → EtOk w' → Calls Tryz.prog 8 #[v0, .agg #[.int .i64 (detM x y z u * u), .int .i64 (-(detM x y z u * y)), .int .i64 (-(detM x y z u * z)), .int .i64 (detM x y z u * x)]] w' (GivesVecsOk w' (tidyL l) (true))) := fun w' v0 h0 hg' => by
      have h := fanMove_any v0 (sortL (movedZ l x y z u)) (detM x y z u * u) (-(detM x y z u * y)) (-(detM x y z u * z)) (detM x y z u * x) w' h0 hg'
      rw [q4, q5] at h
      exact h
    have C5 : Hid (∀ (w' : World) (v0 : Value), ReadsVecs w' v0 (l) → EtOk w' → Calls Tryz.prog 14 #[v0] w' (GivesVecsOk w' (tidyL l) (true))) := fun w' v0 h0 hg' => by
      have h := fanTidy_any v0 (l) w' h0 hg'
      rw [q0] at h
      exact h
    have C6 : Hid (∀ (w' : World) (v0 : Value), ReadsVecs w' v0 (sortL (movedZ l x y z u)) → EtOk w' → Calls Tryz.prog 15 #[v0] w' (fun e w'' => e = .returned (.bool (smoothB l)) ∧ Below w'.heap.size w' w'')) := fun w' v0 h0 hg' => by
      have h := fanSmooth_any v0 (sortL (movedZ l x y z u)) w' h0 hg'
      rw [q6] at h
      exact h
    have C7 : Hid (∀ (w' : World) (v0 : Value), ReadsVecs w' v0 (l) → EtOk w' → Calls Tryz.prog 15 #[v0] w' (fun e w'' => e = .returned (.bool (smoothB l)) ∧ Below w'.heap.size w' w'')) := fun w' v0 h0 hg' => by
      have h := fanSmooth_any v0 (l) w' h0 hg'
      exact h
    have HL : Hid ((sortL (movedZ l x y z u)).length ≤ 1000 ∧ (tidyL l).length ≤ 1000) := ⟨by omega, by rw [tidyL_len]; omega⟩
    clear hk q0 q1 q2 q3 q4 q5 q6 q7 q8
    generalize sortL (movedZ l x y z u) = r at *
    generalize tidyL l = t at *
    generalize smoothB l = s at *
    generalize -(detM x y z u * y) = b1 at *
    generalize -(detM x y z u * z) = b2 at *
    generalize detM x y z u * u = b0 at *
    generalize detM x y z u * x = b3 at *
    go_wp2_with fail
    refine Calls.mono (C1.out _ _ (Hf.out.below (by go_grown)) (HG.out.below (by go_grown))) ?_
    rintro e w2 ⟨v2, rfl, hI2, hb2⟩
    have hB2 := belowTo (a := w1) (by go_grown) hb2
    replace Hf := Lib.hid (Hf.out.below hB2)
    have Hm : Hid (BoxAt w2 w1.heap.size [.int .i64 (x), .int .i64 (y), .int .i64 (z), .int .i64 (u)]) := Lib.hid (BoxAt.below (BoxAt.made4 _ (.int .i64 (x)) (.int .i64 (y)) (.int .i64 (z)) (.int .i64 (u)) _) hb2)
    obtain ⟨mm0, mm1, mm2, mm3⟩ := Hm.out.four
    have ltm := Hm.out.1
    have nem := Nat.ne_of_lt ltm
    replace HG := Lib.hid (HG.out.below hB2)
    replace HB := Lib.hid (belowTo HB.out hB2)
    clear hb2 hB2
    have Ho := Lib.hid (Vecs.reads hI2 (by have := HL.out; omega))
    clear hI2
    go_wp2_with fail
    refine Calls.mono (C2.out _ _ (Hf.out.below (by go_grown)) (HG.out.below (by go_grown))) ?_
    rintro e w3 ⟨v3, rfl, hI3, hb3⟩
    have hB3 := belowTo (a := w2) (by go_grown) hb3
    replace Hf := Lib.hid (Hf.out.below hB3)
    clear mm0 mm1 mm2 mm3 ltm nem
    replace Hm := Lib.hid (Hm.out.below hB3)
    replace Ho := Lib.hid (Ho.out.below hB3)
    obtain ⟨mm0, mm1, mm2, mm3⟩ := Hm.out.four
    have ltm := Hm.out.1
    have nem := Nat.ne_of_lt ltm
    replace HG := Lib.hid (HG.out.below hB3)
    replace HB := Lib.hid (belowTo HB.out hB3)
    clear hb3 hB3
    have Ho2 := Lib.hid (Vecs.reads hI3 (by have := HL.out; omega))
    clear hI3
    go_wp2_with fail
    refine Calls.mono (sameVecs_eq _ _ _ _ (Ho.out.below (by go_grown)) (Ho2.out.below (by go_grown))) ?_
    rintro e w4 ⟨rfl, hb4⟩
    have hB4 := belowTo (a := w3) (by go_grown) hb4
    replace Hf := Lib.hid (Hf.out.below hB4)
    clear mm0 mm1 mm2 mm3 ltm nem
    replace Hm := Lib.hid (Hm.out.below hB4)
    replace Ho := Lib.hid (Ho.out.below hB4)
    replace Ho2 := Lib.hid (Ho2.out.below hB4)
    obtain ⟨mm0, mm1, mm2, mm3⟩ := Hm.out.four
    have ltm := Hm.out.1
    have nem := Nat.ne_of_lt ltm
    replace HG := Lib.hid (HG.out.below hB4)
    replace HB := Lib.hid (belowTo HB.out hB4)
    clear hb4 hB4
    clear Ho2
    go_wp2_with fail
    refine Calls.mono (C3.out _   (HG.out.below (by go_grown))) ?_
    rintro e w5 ⟨rfl, hb5⟩
    have hB5 := belowTo (a := w4) (by go_grown) hb5
    replace Hf := Lib.hid (Hf.out.below hB5)
    clear mm0 mm1 mm2 mm3 ltm nem
    replace Hm := Lib.hid (Hm.out.below hB5)
    replace Ho := Lib.hid (Ho.out.below hB5)
    obtain ⟨mm0, mm1, mm2, mm3⟩ := Hm.out.four
    have ltm := Hm.out.1
    have nem := Nat.ne_of_lt ltm
    replace HG := Lib.hid (HG.out.below hB5)
    replace HB := Lib.hid (belowTo HB.out hB5)
    clear hb5 hB5
    go_wp2_with fail
    refine Calls.mono (C4.out _ _ (Ho.out.below (by go_grown)) (HG.out.below (by go_grown))) ?_
    rintro e w6 ⟨v6, rfl, hI6, hb6⟩
    have hB6 := belowTo (a := w5) (by go_grown) hb6
    replace Hf := Lib.hid (Hf.out.below hB6)
    clear mm0 mm1 mm2 mm3 ltm nem
    replace Hm := Lib.hid (Hm.out.below hB6)
    replace Ho := Lib.hid (Ho.out.below hB6)
    have Hb : Hid (BoxAt w6 w5.heap.size [.int .i64 (b0), .int .i64 (b1), .int .i64 (b2), .int .i64 (b3)]) := Lib.hid (BoxAt.below (BoxAt.made4 _ (.int .i64 (b0)) (.int .i64 (b1)) (.int .i64 (b2)) (.int .i64 (b3)) _) hb6)
    obtain ⟨mm0, mm1, mm2, mm3⟩ := Hm.out.four
    have ltm := Hm.out.1
    have nem := Nat.ne_of_lt ltm
    obtain ⟨mb0, mb1, mb2, mb3⟩ := Hb.out.four
    have ltb := Hb.out.1
    have neb := Nat.ne_of_lt ltb
    replace HG := Lib.hid (HG.out.below hB6)
    replace HB := Lib.hid (belowTo HB.out hB6)
    clear hb6 hB6
    have Hx := Lib.hid (Vecs.reads hI6 (by have := HL.out; omega))
    clear hI6
    go_wp2_with fail
    refine Calls.mono (C5.out _ _ (Hf.out.below (by go_grown)) (HG.out.below (by go_grown))) ?_
    rintro e w7 ⟨v7, rfl, hI7, hb7⟩
    have hB7 := belowTo (a := w6) (by go_grown) hb7
    replace Hf := Lib.hid (Hf.out.below hB7)
    clear mm0 mm1 mm2 mm3 ltm nem
    replace Hm := Lib.hid (Hm.out.below hB7)
    replace Ho := Lib.hid (Ho.out.below hB7)
    clear mb0 mb1 mb2 mb3 ltb neb
    replace Hb := Lib.hid (Hb.out.below hB7)
    replace Hx := Lib.hid (Hx.out.below hB7)
    obtain ⟨mm0, mm1, mm2, mm3⟩ := Hm.out.four
    have ltm := Hm.out.1
    have nem := Nat.ne_of_lt ltm
    obtain ⟨mb0, mb1, mb2, mb3⟩ := Hb.out.four
    have ltb := Hb.out.1
    have neb := Nat.ne_of_lt ltb
    replace HG := Lib.hid (HG.out.below hB7)
    replace HB := Lib.hid (belowTo HB.out hB7)
    clear hb7 hB7
    have Hy := Lib.hid (Vecs.reads hI7 (by have := HL.out; omega))
    clear hI7
    go_wp2_with fail
    refine Calls.mono (sameVecs_eq _ _ _ _ (Hx.out.below (by go_grown)) (Hy.out.below (by go_grown))) ?_
    rintro e w8 ⟨rfl, hb8⟩
    have hB8 := belowTo (a := w7) (by go_grown) hb8
    replace Hf := Lib.hid (Hf.out.below hB8)
    clear mm0 mm1 mm2 mm3 ltm nem
    replace Hm := Lib.hid (Hm.out.below hB8)
    replace Ho := Lib.hid (Ho.out.below hB8)
    clear mb0 mb1 mb2 mb3 ltb neb
    replace Hb := Lib.hid (Hb.out.below hB8)
    replace Hx := Lib.hid (Hx.out.below hB8)
    replace Hy := Lib.hid (Hy.out.below hB8)
    obtain ⟨mm0, mm1, mm2, mm3⟩ := Hm.out.four
    have ltm := Hm.out.1
    have nem := Nat.ne_of_lt ltm
    obtain ⟨mb0, mb1, mb2, mb3⟩ := Hb.out.four
    have ltb := Hb.out.1
    have neb := Nat.ne_of_lt ltb
    replace HG := Lib.hid (HG.out.below hB8)
    replace HB := Lib.hid (belowTo HB.out hB8)
    clear hb8 hB8
    go_wp2_with fail
    refine Calls.mono (C6.out _ _ (Ho.out.below (by go_grown)) (HG.out.below (by go_grown))) ?_
    rintro e w9 ⟨rfl, hb9⟩
    have hB9 := belowTo (a := w8) (by go_grown) hb9
    replace Hf := Lib.hid (Hf.out.below hB9)
    clear mm0 mm1 mm2 mm3 ltm nem
    replace Hm := Lib.hid (Hm.out.below hB9)
    replace Ho := Lib.hid (Ho.out.below hB9)
    clear mb0 mb1 mb2 mb3 ltb neb
    replace Hb := Lib.hid (Hb.out.below hB9)
    replace Hx := Lib.hid (Hx.out.below hB9)
    replace Hy := Lib.hid (Hy.out.below hB9)
    obtain ⟨mm0, mm1, mm2, mm3⟩ := Hm.out.four
    have ltm := Hm.out.1
    have nem := Nat.ne_of_lt ltm
    obtain ⟨mb0, mb1, mb2, mb3⟩ := Hb.out.four
    have ltb := Hb.out.1
    have neb := Nat.ne_of_lt ltb
    replace HG := Lib.hid (HG.out.below hB9)
    replace HB := Lib.hid (belowTo HB.out hB9)
    clear hb9 hB9
    go_wp2_with fail
    refine Calls.mono (C7.out _ _ (Hf.out.below (by go_grown)) (HG.out.below (by go_grown))) ?_
    rintro e w10 ⟨rfl, hb10⟩
    have hB10 := belowTo (a := w9) (by go_grown) hb10
    replace Hf := Lib.hid (Hf.out.below hB10)
    clear mm0 mm1 mm2 mm3 ltm nem
    replace Hm := Lib.hid (Hm.out.below hB10)
    replace Ho := Lib.hid (Ho.out.below hB10)
    clear mb0 mb1 mb2 mb3 ltb neb
    replace Hb := Lib.hid (Hb.out.below hB10)
    replace Hx := Lib.hid (Hx.out.below hB10)
    replace Hy := Lib.hid (Hy.out.below hB10)
    obtain ⟨mm0, mm1, mm2, mm3⟩ := Hm.out.four
    have ltm := Hm.out.1
    have nem := Nat.ne_of_lt ltm
    obtain ⟨mb0, mb1, mb2, mb3⟩ := Hb.out.four
    have ltb := Hb.out.1
    have neb := Nat.ne_of_lt ltb
    replace HG := Lib.hid (HG.out.below hB10)
    replace HB := Lib.hid (belowTo HB.out hB10)
    clear hb10 hB10
    cases s
    · go_wp2
      go_returns
      exact ⟨rfl, HB.out⟩
    · go_wp2
      go_returns
      exact ⟨rfl, HB.out⟩
end Go.Proofs.YtdlofnkimikaiaaGreatDoor
