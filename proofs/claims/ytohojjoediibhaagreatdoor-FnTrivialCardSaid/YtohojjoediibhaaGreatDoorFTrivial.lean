/- FnTrivial: the walk. -/
import Derived.Test.YtohojjoediibhaaGreatDoorUi
import Derived.Test.YtohojjoediibhaaGreatDoorBm
import Derived.Test.YtohojjoediibhaaGreatDoorSm
import Derived.Test.YtohojjoediibhaaGreatDoorSn
import Derived.Test.YtohojjoediibhaaGreatDoorBx
import Derived.Test.YtohojjoediibhaaGreatDoorQj
import Derived.Test.YtohojjoediibhaaGreatDoorBf
import Derived.Test.YtohojjoediibhaaGreatDoorBe
import Derived.Test.YtohojjoediibhaaGreatDoorQk
namespace Go.Proofs.YtohojjoediibhaaGreatDoor
open Go.RowKit

set_option maxRecDepth 100000 in
set_option maxHeartbeats 16000000 in
theorem fnTrivial_any (a : Option Addr) (len cap : Nat) (w : World) (h : Bytes w a len cap) (hg : EtOk w) :
    Calls Tryz.prog 3 #[.slice a len cap] w fun e w' => e = .returned (.bool true) ∧ Below w.heap.size w w' := by
  by_cases hlen : len ≤ 1048576
  case neg =>
    have j1 : (1048576 : Int) < (len : Int) := by omega
    clear h hg
    go_enter Tryz.func3, Tryz.ntmps3
    go_wp2
    go_returns
    exact ⟨rfl, by go_grown⟩
  case pos =>
  have j1 : (len : Int) ≤ 1048576 := by omega
  have HO := Lib.hid (drawDivisorOf_any w a len cap h)
  clear h
  go_enter Tryz.func3, Tryz.ntmps3
  go_wp2_with fail
  refine Calls.mono HO.out ?_
  rintro e w1 ⟨v, l, x, y, rfl, hV, h2, h20, hb1⟩
  have HG := Lib.hid (hg.below hb1)
  have Hf := Lib.hid hV
  have HB : Hid (Below w.heap.size w w1) := hb1
  clear hb1 HO hg hV
  obtain ⟨va, vc, rfl, _⟩ := Hf.out
  obtain ⟨i0, hi, hz0, hz1, hz2⟩ := info_parts infoInt
  cases hk : ofDB l x y
  · have C1 : Hid (∀ (w' : World) (v0 : Value), ReadsVecs w' v0 (l) → EtOk w' → Calls Tryz.prog 14 #[v0, .agg #[.int .i64 (x), .int .i64 (y)]] w' (GivesIntsOk w' ([]) (false))) := fun w' v0 h0 hg' => by
      have h := divisorOf1_any v0 (l) x y w' h0 hg'
      rw [hk] at h
      exact h
    have C2 : Hid (∀ (w' : World) (v0 : Value), ReadsVecs w' v0 (l) → EtOk w' → Calls Tryz.prog 15 #[v0, .agg #[.int .i64 (x), .int .i64 (y)]] w' (GivesIntsOk w' ([]) (false))) := fun w' v0 h0 hg' => by
      have h := specDivisorOf_any v0 (l) x y w' h0
      rw [hk] at h
      exact h
    clear hk
    go_wp2_with fail
    refine Calls.mono (C1.out _ _ (Hf.out.below (by go_grown)) (HG.out.below (by go_grown))) ?_
    rintro e w2 ⟨v2, rfl, hI2, hb2⟩
    have hB2 := belowTo (a := w1) (by go_grown) hb2
    replace Hf := Lib.hid (Hf.out.below hB2)
    have Hm : Hid (BoxAt w2 w1.heap.size [.int .i64 x, .int .i64 y]) := Lib.hid (BoxAt.below (BoxAt.made2 _ (.int .i64 x) (.int .i64 y) _) hb2)
    obtain ⟨mm0, mm1⟩ := Hm.out.two
    replace HG := Lib.hid (HG.out.below hB2)
    replace HB := Lib.hid (belowTo HB.out hB2)
    clear hb2 hB2
    have Ho1 := Lib.hid (Ints.reads hI2 (by simp))
    clear hI2
    go_wp2_with fail
    refine Calls.mono (C2.out _ _ (Hf.out.below (by go_grown)) (HG.out.below (by go_grown))) ?_
    rintro e w3 ⟨v3, rfl, hI3, hb3⟩
    have hB3 := belowTo (a := w2) (by go_grown) hb3
    replace Hf := Lib.hid (Hf.out.below hB3)
    clear mm0 mm1
    replace Hm := Lib.hid (Hm.out.below hB3)
    replace Ho1 := Lib.hid (Ho1.out.below hB3)
    obtain ⟨mm0, mm1⟩ := Hm.out.two
    replace HG := Lib.hid (HG.out.below hB3)
    replace HB := Lib.hid (belowTo HB.out hB3)
    clear hb3 hB3
    have Ho2 := Lib.hid (Ints.reads hI3 (by simp))
    clear hI3
    go_wp2_with fail
    refine Calls.mono (sameInts_eq _ _ _ _ (Ho1.out.below (by go_grown)) (Ho2.out.below (by go_grown))) ?_
    rintro e w4 ⟨rfl, hb4⟩
    have hB4 := belowTo (a := w3) (by go_grown) hb4
    replace Hf := Lib.hid (Hf.out.below hB4)
    clear mm0 mm1
    replace Hm := Lib.hid (Hm.out.below hB4)
    replace Ho1 := Lib.hid (Ho1.out.below hB4)
    replace Ho2 := Lib.hid (Ho2.out.below hB4)
    obtain ⟨mm0, mm1⟩ := Hm.out.two
    replace HG := Lib.hid (HG.out.below hB4)
    replace HB := Lib.hid (belowTo HB.out hB4)
    clear hb4 hB4
    go_wp2_with fail
    refine Calls.mono (sameInts_eq _ _ _ _ (Ho1.out.below (by go_grown)) (Ho2.out.below (by go_grown))) ?_
    rintro e w5 ⟨rfl, hb5⟩
    have hB5 := belowTo (a := w4) (by go_grown) hb5
    replace Hf := Lib.hid (Hf.out.below hB5)
    clear mm0 mm1
    replace Hm := Lib.hid (Hm.out.below hB5)
    replace Ho1 := Lib.hid (Ho1.out.below hB5)
    replace Ho2 := Lib.hid (Ho2.out.below hB5)
    obtain ⟨mm0, mm1⟩ := Hm.out.two
    replace HG := Lib.hid (HG.out.below hB5)
    replace HB := Lib.hid (belowTo HB.out hB5)
    clear hb5 hB5
    go_wp2
    go_returns
    exact ⟨rfl, HB.out⟩
  · have C1 : Hid (∀ (w' : World) (v0 : Value), ReadsVecs w' v0 (l) → EtOk w' → Calls Tryz.prog 14 #[v0, .agg #[.int .i64 (x), .int .i64 (y)]] w' (GivesIntsOk w' (trivL l (x, y)) (true))) := fun w' v0 h0 hg' => by
      have h := divisorOf1_any v0 (l) x y w' h0 hg'
      rw [hk] at h
      exact h
    have C2 : Hid (∀ (w' : World) (v0 : Value), ReadsVecs w' v0 (l) → EtOk w' → Calls Tryz.prog 15 #[v0, .agg #[.int .i64 (x), .int .i64 (y)]] w' (GivesIntsOk w' (trivL l (x, y)) (true))) := fun w' v0 h0 hg' => by
      have h := specDivisorOf_any v0 (l) x y w' h0
      rw [hk] at h
      exact h
    obtain ⟨q0, q1⟩ := trv_in hk
    have q2 := degs_triv (smooth_all q0) (x, y)
    have q3 := prod_triv (smooth_all q0) (by omega) (x, y) (canL l.length)
    have q4 := can_div q0
    have C3 : Hid (∀ (w' : World) (v0 : Value) (v1 : Value), ReadsVecs w' v0 (l) → ReadsInts w' v1 (trivL l (x, y)) → EtOk w' → Calls Tryz.prog 17 #[v0, v1] w' (GivesIntsOk w' (List.replicate l.length 0) (true))) := fun w' v0 v1 h0 h1 hg' => by
      have h := divisorDegrees_any v0 (l) v1 (trivL l (x, y)) w' h0 h1 hg'
      rw [q1, q2] at h
      exact h
    have C4 : Hid (∀ (w' : World) (v0 : Value), ReadsVecs w' v0 (l) → EtOk w' → Calls Tryz.prog 18 #[v0] w' (GivesIntsOk w' (canL l.length) (true))) := fun w' v0 h0 hg' => by
      have h := divisorCanonical_any v0 (l) w' h0 hg'
      rw [q0] at h
      exact h
    have C5 : Hid (∀ (w' : World) (v0 : Value) (v1 : Value) (v2 : Value), ReadsVecs w' v0 (l) → ReadsInts w' v1 (trivL l (x, y)) → ReadsInts w' v2 (canL l.length) → EtOk w' → Calls Tryz.prog 19 #[v0, v1, v2] w' (fun e w'' => e = .returned (.tuple #[.int .i64 (0), .bool (true)]) ∧ Below w'.heap.size w' w'')) := fun w' v0 v1 v2 h0 h1 h2 hg' => by
      have h := divisorProduct_any v0 (l) v1 (trivL l (x, y)) v2 (canL l.length) w' h0 h1 h2 hg'
      rw [q1, q4, q3] at h
      exact h
    have HL : Hid ((trivL l (x, y)).length ≤ 1000) := by show _ ≤ _; rw [trivL_len]; omega
    have HL2 : Hid ((canL l.length).length ≤ 1000) := by show _ ≤ _; simp [canL]; omega
    generalize trivL l (x, y) = m at *
    generalize canL l.length = k at *
    clear hk q0 q1 q2 q3 q4
    go_wp2_with fail
    refine Calls.mono (C1.out _ _ (Hf.out.below (by go_grown)) (HG.out.below (by go_grown))) ?_
    rintro e w2 ⟨v2, rfl, hI2, hb2⟩
    have hB2 := belowTo (a := w1) (by go_grown) hb2
    replace Hf := Lib.hid (Hf.out.below hB2)
    have Hm : Hid (BoxAt w2 w1.heap.size [.int .i64 x, .int .i64 y]) := Lib.hid (BoxAt.below (BoxAt.made2 _ (.int .i64 x) (.int .i64 y) _) hb2)
    obtain ⟨mm0, mm1⟩ := Hm.out.two
    replace HG := Lib.hid (HG.out.below hB2)
    replace HB := Lib.hid (belowTo HB.out hB2)
    clear hb2 hB2
    have Ho := Lib.hid (Ints.reads hI2 (by have := HL.out; omega))
    clear hI2
    go_wp2_with fail
    refine Calls.mono (C2.out _ _ (Hf.out.below (by go_grown)) (HG.out.below (by go_grown))) ?_
    rintro e w3 ⟨v3, rfl, hI3, hb3⟩
    have hB3 := belowTo (a := w2) (by go_grown) hb3
    replace Hf := Lib.hid (Hf.out.below hB3)
    clear mm0 mm1
    replace Hm := Lib.hid (Hm.out.below hB3)
    replace Ho := Lib.hid (Ho.out.below hB3)
    obtain ⟨mm0, mm1⟩ := Hm.out.two
    replace HG := Lib.hid (HG.out.below hB3)
    replace HB := Lib.hid (belowTo HB.out hB3)
    clear hb3 hB3
    have Ho2 := Lib.hid (Ints.reads hI3 (by have := HL.out; omega))
    clear hI3
    go_wp2_with fail
    refine Calls.mono (sameInts_eq _ _ _ _ (Ho.out.below (by go_grown)) (Ho2.out.below (by go_grown))) ?_
    rintro e w4 ⟨rfl, hb4⟩
    have hB4 := belowTo (a := w3) (by go_grown) hb4
    replace Hf := Lib.hid (Hf.out.below hB4)
    clear mm0 mm1
    replace Hm := Lib.hid (Hm.out.below hB4)
    replace Ho := Lib.hid (Ho.out.below hB4)
    replace Ho2 := Lib.hid (Ho2.out.below hB4)
    obtain ⟨mm0, mm1⟩ := Hm.out.two
    replace HG := Lib.hid (HG.out.below hB4)
    replace HB := Lib.hid (belowTo HB.out hB4)
    clear hb4 hB4
    clear Ho2
    go_wp2_with fail
    refine Calls.mono (C3.out _ _ _ (Hf.out.below (by go_grown)) (Ho.out.below (by go_grown)) (HG.out.below (by go_grown))) ?_
    rintro e w5 ⟨v5, rfl, hI5, hb5⟩
    have hB5 := belowTo (a := w4) (by go_grown) hb5
    replace Hf := Lib.hid (Hf.out.below hB5)
    clear mm0 mm1
    replace Hm := Lib.hid (Hm.out.below hB5)
    replace Ho := Lib.hid (Ho.out.below hB5)
    obtain ⟨mm0, mm1⟩ := Hm.out.two
    replace HG := Lib.hid (HG.out.below hB5)
    replace HB := Lib.hid (belowTo HB.out hB5)
    clear hb5 hB5
    have Hx := Lib.hid (Ints.reads hI5 (by simp; omega))
    clear hI5
    go_wp2_with fail
    refine Calls.mono (C4.out _ _ (Hf.out.below (by go_grown)) (HG.out.below (by go_grown))) ?_
    rintro e w6 ⟨v6, rfl, hI6, hb6⟩
    have hB6 := belowTo (a := w5) (by go_grown) hb6
    replace Hf := Lib.hid (Hf.out.below hB6)
    clear mm0 mm1
    replace Hm := Lib.hid (Hm.out.below hB6)
    replace Ho := Lib.hid (Ho.out.below hB6)
    replace Hx := Lib.hid (Hx.out.below hB6)
    obtain ⟨mm0, mm1⟩ := Hm.out.two
    replace HG := Lib.hid (HG.out.below hB6)
    replace HB := Lib.hid (belowTo HB.out hB6)
    clear hb6 hB6
    have Hk := Lib.hid (Ints.reads hI6 (by have := HL2.out; omega))
    clear hI6
    go_wp2_with fail
    refine Calls.mono (C5.out _ _ _ _ (Hf.out.below (by go_grown)) (Ho.out.below (by go_grown)) (Hk.out.below (by go_grown)) (HG.out.below (by go_grown))) ?_
    rintro e w7 ⟨rfl, hb7⟩
    have hB7 := belowTo (a := w6) (by go_grown) hb7
    replace Hf := Lib.hid (Hf.out.below hB7)
    clear mm0 mm1
    replace Hm := Lib.hid (Hm.out.below hB7)
    replace Ho := Lib.hid (Ho.out.below hB7)
    replace Hx := Lib.hid (Hx.out.below hB7)
    replace Hk := Lib.hid (Hk.out.below hB7)
    obtain ⟨mm0, mm1⟩ := Hm.out.two
    replace HG := Lib.hid (HG.out.below hB7)
    replace HB := Lib.hid (belowTo HB.out hB7)
    clear hb7 hB7
    go_wp2_with (refine wpList_make_want _ (by rfl) _ _ 28 rfl w7.heap.size 3 i0 (.int .i64 0) 1 Tryz.underlying28 hi hz0 hz1 .i64 .i64 _ _ l.length rfl rfl rfl rfl ?c1 ?c2 ?c3 ?_)
    case c1 => rw [hz2]; omega
    case c2 => unfold maxLen; omega
    case c3 => first | exact Nat.le_refl _ | (simp; done)
    intro w8 hown hgrow
    have hB8 : Below w7.heap.size w7 w8 := (by go_grown : Below w7.heap.size w7 _).grown hgrow (Nat.le_refl _) (fun k e => by cases e)
    have Hz := Lib.hid (made_zeros (by omega) hown)
    clear hown hgrow
    replace Hf := Lib.hid (Hf.out.below hB8)
    replace Hm := Lib.hid (Hm.out.below hB8)
    replace Ho := Lib.hid (Ho.out.below hB8)
    replace Hx := Lib.hid (Hx.out.below hB8)
    replace Hk := Lib.hid (Hk.out.below hB8)
    replace HG := Lib.hid (HG.out.below hB8)
    replace HB := Lib.hid (belowTo HB.out hB8)
    clear hB8
    go_wp2_with fail
    refine Calls.mono (sameInts_eq _ _ _ _ (Hx.out.below (by go_grown)) (Hz.out.below (by go_grown))) ?_
    rintro e w9 ⟨rfl, hb9⟩
    have hB9 := belowTo (a := w8) (by go_grown) hb9
    replace Hf := Lib.hid (Hf.out.below hB9)
    clear mm0 mm1
    replace Hm := Lib.hid (Hm.out.below hB9)
    replace Ho := Lib.hid (Ho.out.below hB9)
    replace Hx := Lib.hid (Hx.out.below hB9)
    replace Hk := Lib.hid (Hk.out.below hB9)
    replace Hz := Lib.hid (Hz.out.below hB9)
    obtain ⟨mm0, mm1⟩ := Hm.out.two
    replace HG := Lib.hid (HG.out.below hB9)
    replace HB := Lib.hid (belowTo HB.out hB9)
    clear hb9 hB9
    go_wp2
    go_returns
    exact ⟨rfl, HB.out⟩
end Go.Proofs.YtohojjoediibhaaGreatDoor
