/- FnBlow: the walk. -/
import Derived.Test.YtohojjoediibhaaDoorUk
import Derived.Test.YtohojjoediibhaaDoorNf
import Derived.Test.YtohojjoediibhaaDoorSm
import Derived.Test.YtohojjoediibhaaDoorBb
import Derived.Test.YtohojjoediibhaaDoorB9
import Derived.Test.YtohojjoediibhaaDoorE2
namespace Go.Proofs.YtohojjoediibhaaDoor
open Go.RowKit

set_option maxRecDepth 100000 in
set_option maxHeartbeats 16000000 in
theorem fnBlow_any (a : Option Addr) (len cap : Nat) (w : World) (h : Bytes w a len cap) (hg : EtOk w) :
    Calls Tryd.prog 11 #[.slice a len cap] w fun e w' => e = .returned (.bool true) ∧ Below w.heap.size w w' := by
  by_cases hlen : len ≤ 1048576
  case neg =>
    have j1 : (1048576 : Int) < (len : Int) := by omega
    clear h hg
    go_enter Tryd.func11, Tryd.ntmps11
    go_wp2
    go_returns
    exact ⟨rfl, by go_grown⟩
  case pos =>
  have j1 : (len : Int) ≤ 1048576 := by omega
  have HO := Lib.hid (drawFanBlow_any w a len cap h)
  clear h
  go_enter Tryd.func11, Tryd.ntmps11
  go_wp2_with fail
  refine Calls.mono HO.out ?_
  rintro e w1 ⟨v, l, i, rfl, hV, h2, h20, hb1⟩
  have HG := Lib.hid (hg.below hb1)
  have Hf := Lib.hid hV
  have HB : Hid (Below w.heap.size w w1) := hb1
  clear hb1 HO hg hV
  cases hk : (smoothB l && blowB l i)
  · have C1 : Hid (∀ (w' : World) (v0 : Value), ReadsVecs w' v0 (l) → EtOk w' → Calls Tryd.prog 48 #[v0, .int .i64 i] w' (GivesVecsOk w' ([]) (false))) := fun w' v0 h0 hg' => by
      have h := fanBlow_any v0 l i w' h0 hg'
      rw [hk] at h
      exact h
    have C2 : Hid (∀ (w' : World) (v0 : Value), ReadsVecs w' v0 (l) → EtOk w' → Calls Tryd.prog 49 #[v0, .int .i64 i] w' (GivesVecsOk w' ([]) (false))) := fun w' v0 h0 hg' => by
      have h := specFanBlow_any v0 l i w' h0
      rw [hk] at h
      exact h
    clear hk
    go_wp2_with fail
    refine Calls.mono (C1.out _ _ (Hf.out.below (by go_grown)) (HG.out.below (by go_grown))) ?_
    rintro e w2 ⟨v2, rfl, hI2, hb2⟩
    have hB2 := belowTo (a := w1) (by go_grown) hb2
    replace Hf := Lib.hid (Hf.out.below hB2)
    replace HG := Lib.hid (HG.out.below hB2)
    replace HB := Lib.hid (belowTo HB.out hB2)
    clear hb2 hB2
    have Ho1 := Lib.hid (Vecs.reads hI2 (by simp))
    clear hI2
    go_wp2_with fail
    refine Calls.mono (C2.out _ _ (Hf.out.below (by go_grown)) (HG.out.below (by go_grown))) ?_
    rintro e w3 ⟨v3, rfl, hI3, hb3⟩
    have hB3 := belowTo (a := w2) (by go_grown) hb3
    replace Hf := Lib.hid (Hf.out.below hB3)
    replace Ho1 := Lib.hid (Ho1.out.below hB3)
    replace HG := Lib.hid (HG.out.below hB3)
    replace HB := Lib.hid (belowTo HB.out hB3)
    clear hb3 hB3
    have Ho2 := Lib.hid (Vecs.reads hI3 (by simp))
    clear hI3
    go_wp2_with fail
    refine Calls.mono (sameVecs_eq _ _ _ _ (Ho1.out.below (by go_grown)) (Ho2.out.below (by go_grown))) ?_
    rintro e w4 ⟨rfl, hb4⟩
    have hB4 := belowTo (a := w3) (by go_grown) hb4
    replace Hf := Lib.hid (Hf.out.below hB4)
    replace Ho1 := Lib.hid (Ho1.out.below hB4)
    replace Ho2 := Lib.hid (Ho2.out.below hB4)
    replace HG := Lib.hid (HG.out.below hB4)
    replace HB := Lib.hid (belowTo HB.out hB4)
    clear hb4 hB4
    go_wp2_with fail
    refine Calls.mono (sameVecs_eq _ _ _ _ (Ho1.out.below (by go_grown)) (Ho2.out.below (by go_grown))) ?_
    rintro e w5 ⟨rfl, hb5⟩
    have hB5 := belowTo (a := w4) (by go_grown) hb5
    replace Hf := Lib.hid (Hf.out.below hB5)
    replace Ho1 := Lib.hid (Ho1.out.below hB5)
    replace Ho2 := Lib.hid (Ho2.out.below hB5)
    replace HG := Lib.hid (HG.out.below hB5)
    replace HB := Lib.hid (belowTo HB.out hB5)
    clear hb5 hB5
    go_wp2
    go_returns
    exact ⟨rfl, HB.out⟩
  · have C1 : Hid (∀ (w' : World) (v0 : Value), ReadsVecs w' v0 (l) → EtOk w' → Calls Tryd.prog 48 #[v0, .int .i64 i] w' (GivesVecsOk w' (blowL l i.toNat (blowP l i.toNat)) (true))) := fun w' v0 h0 hg' => by
      have h := fanBlow_any v0 l i w' h0 hg'
      rw [hk] at h
      exact h
    have C2 : Hid (∀ (w' : World) (v0 : Value), ReadsVecs w' v0 (l) → EtOk w' → Calls Tryd.prog 49 #[v0, .int .i64 i] w' (GivesVecsOk w' (blowL l i.toNat (blowP l i.toNat)) (true))) := fun w' v0 h0 hg' => by
      have h := specFanBlow_any v0 l i w' h0
      rw [hk] at h
      exact h
    obtain ⟨q0, m, hm, hlt, hf⟩ := blowB_in hk
    subst hm
    have q1 := smooth_blow (smooth_all q0) hlt hf
    have q2 := nums_blow (smooth_all q0) hlt (smooth_len q0).1
    have q3 := down_blow (p := blowP l m) hlt
    have q4 := downB_blow (smooth_all q0) hlt (smooth_len q0).1
    have q5 : idxB (blowL l m (blowP l m)) ((m : Int) + 1) = true := (show idxB _ ((m + 1 : Nat) : Int) = true from idx_mk (by rw [blowL_len hlt]; omega))
    have e1 : ((m : Int) + 1).toNat = m + 1 := by omega
    have hmb : 0 ≤ (m : Int) ∧ (m : Int) + 1 ≤ 21 := by omega
    obtain ⟨hm0, hm1⟩ := hmb
    have qa : IntKind.i64.wrap ((m : Int) + 1) = (m : Int) + 1 := by rw [IntKind.wrap_i64]; omega
    rw [Int.toNat_natCast] at C1 C2
    have C3 : Hid (∀ (w' : World) (v0 : Value), ReadsVecs w' v0 (l) → EtOk w' → Calls Tryd.prog 40 #[v0] w' (GivesIntsOk w' (numsZ l) (true))) := fun w' v0 h0 hg' => by
      have h := fanNumbers_any v0 l w' h0 hg'
      rw [q0] at h
      exact h
    have C4 : Hid (∀ (w' : World) (v0 : Value), ReadsVecs w' v0 (blowL l m (blowP l m)) → EtOk w' → Calls Tryd.prog 40 #[v0] w' (GivesIntsOk w' (blN (numsZ l) m) (true))) := fun w' v0 h0 hg' => by
      have h := fanNumbers_any v0 (blowL l m (blowP l m)) w' h0 hg'
      rw [q1, q2] at h
      exact h
    have C6 : Hid (∀ (w' : World) (v0 : Value), ReadsVecs w' v0 (blowL l m (blowP l m)) → EtOk w' → Calls Tryd.prog 52 #[v0, .int .i64 ((m : Int) + 1)] w' (GivesVecsOk w' (l) (true))) := fun w' v0 h0 hg' => by
      have h := fanDown_any v0 (blowL l m (blowP l m)) ((m : Int) + 1) w' h0 hg'
      rw [q1, q5, e1, q4, q3] at h
      exact h
    have C7 : Hid (∀ (w' : World) (v0 : Value), ReadsVecs w' v0 (blowL l m (blowP l m)) → EtOk w' → Calls Tryd.prog 53 #[v0] w' (fun e w'' => e = .returned (.bool (true)) ∧ Below w'.heap.size w' w'')) := fun w' v0 h0 hg' => by
      have h := fanSmooth_any v0 (blowL l m (blowP l m)) w' h0 hg'
      rw [q1] at h
      exact h
    have HL : Hid ((blowL l m (blowP l m)).length ≤ 1000 ∧ (numsZ l).length ≤ 1000 ∧ (blN (numsZ l) m).length ≤ 1000) := ⟨by rw [blowL_len hlt]; omega, by rw [nums_len]; omega, by rw [blN_len (by rw [nums_len]; exact hlt), nums_len]; omega⟩
    cases hk2 : nbB (numsZ l) m
    · have C5 : Hid (∀ (w' : World) (v0 : Value), ReadsInts w' v0 (numsZ l) → EtOk w' → Calls Tryd.prog 51 #[v0, .int .i64 (m : Int)] w' (GivesIntsOk w' ([]) (false))) := fun w' v0 h0 hg' => by
        have h := numbersBlow_any v0 (numsZ l) (m : Int) w' h0 (by omega)
        rw [hk2] at h
        exact h
      generalize blN (numsZ l) m = nb at *
      generalize numsZ l = na at *
      generalize blowL l m (blowP l m) = s at *
      clear hk hk2 q0 q1 q2 q3 q4 q5 e1 hf hlt
      go_wp2_with fail
      refine Calls.mono (C1.out _ _ (Hf.out.below (by go_grown)) (HG.out.below (by go_grown))) ?_
      rintro e w2 ⟨v2, rfl, hI2, hb2⟩
      have hB2 := belowTo (a := w1) (by go_grown) hb2
      replace Hf := Lib.hid (Hf.out.below hB2)
      replace HG := Lib.hid (HG.out.below hB2)
      replace HB := Lib.hid (belowTo HB.out hB2)
      clear hb2 hB2
      have Ho := Lib.hid (Vecs.reads hI2 (by have := HL.out; omega))
      clear hI2
      go_wp2_with fail
      refine Calls.mono (C2.out _ _ (Hf.out.below (by go_grown)) (HG.out.below (by go_grown))) ?_
      rintro e w3 ⟨v3, rfl, hI3, hb3⟩
      have hB3 := belowTo (a := w2) (by go_grown) hb3
      replace Hf := Lib.hid (Hf.out.below hB3)
      replace Ho := Lib.hid (Ho.out.below hB3)
      replace HG := Lib.hid (HG.out.below hB3)
      replace HB := Lib.hid (belowTo HB.out hB3)
      clear hb3 hB3
      have Ho2 := Lib.hid (Vecs.reads hI3 (by have := HL.out; omega))
      clear hI3
      go_wp2_with fail
      refine Calls.mono (sameVecs_eq _ _ _ _ (Ho.out.below (by go_grown)) (Ho2.out.below (by go_grown))) ?_
      rintro e w4 ⟨rfl, hb4⟩
      have hB4 := belowTo (a := w3) (by go_grown) hb4
      replace Hf := Lib.hid (Hf.out.below hB4)
      replace Ho := Lib.hid (Ho.out.below hB4)
      replace Ho2 := Lib.hid (Ho2.out.below hB4)
      replace HG := Lib.hid (HG.out.below hB4)
      replace HB := Lib.hid (belowTo HB.out hB4)
      clear hb4 hB4
      clear Ho2
      go_wp2_with fail
      refine Calls.mono (C3.out _ _ (Hf.out.below (by go_grown)) (HG.out.below (by go_grown))) ?_
      rintro e w5 ⟨v5, rfl, hI5, hb5⟩
      have hB5 := belowTo (a := w4) (by go_grown) hb5
      replace Hf := Lib.hid (Hf.out.below hB5)
      replace Ho := Lib.hid (Ho.out.below hB5)
      replace HG := Lib.hid (HG.out.below hB5)
      replace HB := Lib.hid (belowTo HB.out hB5)
      clear hb5 hB5
      have Ha := Lib.hid (Ints.reads hI5 (by have := HL.out; omega))
      clear hI5
      go_wp2_with fail
      refine Calls.mono (C4.out _ _ (Ho.out.below (by go_grown)) (HG.out.below (by go_grown))) ?_
      rintro e w6 ⟨v6, rfl, hI6, hb6⟩
      have hB6 := belowTo (a := w5) (by go_grown) hb6
      replace Hf := Lib.hid (Hf.out.below hB6)
      replace Ho := Lib.hid (Ho.out.below hB6)
      replace Ha := Lib.hid (Ha.out.below hB6)
      replace HG := Lib.hid (HG.out.below hB6)
      replace HB := Lib.hid (belowTo HB.out hB6)
      clear hb6 hB6
      have Hb := Lib.hid (Ints.reads hI6 (by have := HL.out; omega))
      clear hI6
      go_wp2_with fail
      refine Calls.mono (C5.out _ _ (Ha.out.below (by go_grown)) (HG.out.below (by go_grown))) ?_
      rintro e w7 ⟨v7, rfl, hI7, hb7⟩
      have hB7 := belowTo (a := w6) (by go_grown) hb7
      replace Hf := Lib.hid (Hf.out.below hB7)
      replace Ho := Lib.hid (Ho.out.below hB7)
      replace Ha := Lib.hid (Ha.out.below hB7)
      replace Hb := Lib.hid (Hb.out.below hB7)
      replace HG := Lib.hid (HG.out.below hB7)
      replace HB := Lib.hid (belowTo HB.out hB7)
      clear hb7 hB7
      have Hc := Lib.hid (Ints.reads hI7 (by simp))
      clear hI7
      go_wp2_with fail
      refine Calls.mono (C6.out _ _ (Ho.out.below (by go_grown)) (HG.out.below (by go_grown))) ?_
      rintro e w8 ⟨v8, rfl, hI8, hb8⟩
      have hB8 := belowTo (a := w7) (by go_grown) hb8
      replace Hf := Lib.hid (Hf.out.below hB8)
      replace Ho := Lib.hid (Ho.out.below hB8)
      replace Ha := Lib.hid (Ha.out.below hB8)
      replace Hb := Lib.hid (Hb.out.below hB8)
      replace Hc := Lib.hid (Hc.out.below hB8)
      replace HG := Lib.hid (HG.out.below hB8)
      replace HB := Lib.hid (belowTo HB.out hB8)
      clear hb8 hB8
      have Hx := Lib.hid (Vecs.reads hI8 (by omega))
      clear hI8
      go_wp2_with fail
      refine Calls.mono (C7.out _ _ (Ho.out.below (by go_grown)) (HG.out.below (by go_grown))) ?_
      rintro e w9 ⟨rfl, hb9⟩
      have hB9 := belowTo (a := w8) (by go_grown) hb9
      replace Hf := Lib.hid (Hf.out.below hB9)
      replace Ho := Lib.hid (Ho.out.below hB9)
      replace Ha := Lib.hid (Ha.out.below hB9)
      replace Hb := Lib.hid (Hb.out.below hB9)
      replace Hc := Lib.hid (Hc.out.below hB9)
      replace Hx := Lib.hid (Hx.out.below hB9)
      replace HG := Lib.hid (HG.out.below hB9)
      replace HB := Lib.hid (belowTo HB.out hB9)
      clear hb9 hB9
      go_wp2_with fail
      refine Calls.mono (sameVecs_eq _ _ _ _ (Hx.out.below (by go_grown)) (Hf.out.below (by go_grown))) ?_
      rintro e w10 ⟨rfl, hb10⟩
      have hB10 := belowTo (a := w9) (by go_grown) hb10
      replace Hf := Lib.hid (Hf.out.below hB10)
      replace Ho := Lib.hid (Ho.out.below hB10)
      replace Ha := Lib.hid (Ha.out.below hB10)
      replace Hb := Lib.hid (Hb.out.below hB10)
      replace Hc := Lib.hid (Hc.out.below hB10)
      replace Hx := Lib.hid (Hx.out.below hB10)
      replace HG := Lib.hid (HG.out.below hB10)
      replace HB := Lib.hid (belowTo HB.out hB10)
      clear hb10 hB10
      go_wp2
      go_returns
      exact ⟨rfl, HB.out⟩
    · have C5 : Hid (∀ (w' : World) (v0 : Value), ReadsInts w' v0 (numsZ l) → EtOk w' → Calls Tryd.prog 51 #[v0, .int .i64 (m : Int)] w' (GivesIntsOk w' (blN (numsZ l) m) (true))) := fun w' v0 h0 hg' => by
        have h := numbersBlow_any v0 (numsZ l) (m : Int) w' h0 (by omega)
        rw [hk2] at h
        exact h
      generalize blN (numsZ l) m = nb at *
      generalize numsZ l = na at *
      generalize blowL l m (blowP l m) = s at *
      clear hk hk2 q0 q1 q2 q3 q4 q5 e1 hf hlt
      go_wp2_with fail
      refine Calls.mono (C1.out _ _ (Hf.out.below (by go_grown)) (HG.out.below (by go_grown))) ?_
      rintro e w2 ⟨v2, rfl, hI2, hb2⟩
      have hB2 := belowTo (a := w1) (by go_grown) hb2
      replace Hf := Lib.hid (Hf.out.below hB2)
      replace HG := Lib.hid (HG.out.below hB2)
      replace HB := Lib.hid (belowTo HB.out hB2)
      clear hb2 hB2
      have Ho := Lib.hid (Vecs.reads hI2 (by have := HL.out; omega))
      clear hI2
      go_wp2_with fail
      refine Calls.mono (C2.out _ _ (Hf.out.below (by go_grown)) (HG.out.below (by go_grown))) ?_
      rintro e w3 ⟨v3, rfl, hI3, hb3⟩
      have hB3 := belowTo (a := w2) (by go_grown) hb3
      replace Hf := Lib.hid (Hf.out.below hB3)
      replace Ho := Lib.hid (Ho.out.below hB3)
      replace HG := Lib.hid (HG.out.below hB3)
      replace HB := Lib.hid (belowTo HB.out hB3)
      clear hb3 hB3
      have Ho2 := Lib.hid (Vecs.reads hI3 (by have := HL.out; omega))
      clear hI3
      go_wp2_with fail
      refine Calls.mono (sameVecs_eq _ _ _ _ (Ho.out.below (by go_grown)) (Ho2.out.below (by go_grown))) ?_
      rintro e w4 ⟨rfl, hb4⟩
      have hB4 := belowTo (a := w3) (by go_grown) hb4
      replace Hf := Lib.hid (Hf.out.below hB4)
      replace Ho := Lib.hid (Ho.out.below hB4)
      replace Ho2 := Lib.hid (Ho2.out.below hB4)
      replace HG := Lib.hid (HG.out.below hB4)
      replace HB := Lib.hid (belowTo HB.out hB4)
      clear hb4 hB4
      clear Ho2
      go_wp2_with fail
      refine Calls.mono (C3.out _ _ (Hf.out.below (by go_grown)) (HG.out.below (by go_grown))) ?_
      rintro e w5 ⟨v5, rfl, hI5, hb5⟩
      have hB5 := belowTo (a := w4) (by go_grown) hb5
      replace Hf := Lib.hid (Hf.out.below hB5)
      replace Ho := Lib.hid (Ho.out.below hB5)
      replace HG := Lib.hid (HG.out.below hB5)
      replace HB := Lib.hid (belowTo HB.out hB5)
      clear hb5 hB5
      have Ha := Lib.hid (Ints.reads hI5 (by have := HL.out; omega))
      clear hI5
      go_wp2_with fail
      refine Calls.mono (C4.out _ _ (Ho.out.below (by go_grown)) (HG.out.below (by go_grown))) ?_
      rintro e w6 ⟨v6, rfl, hI6, hb6⟩
      have hB6 := belowTo (a := w5) (by go_grown) hb6
      replace Hf := Lib.hid (Hf.out.below hB6)
      replace Ho := Lib.hid (Ho.out.below hB6)
      replace Ha := Lib.hid (Ha.out.below hB6)
      replace HG := Lib.hid (HG.out.below hB6)
      replace HB := Lib.hid (belowTo HB.out hB6)
      clear hb6 hB6
      have Hb := Lib.hid (Ints.reads hI6 (by have := HL.out; omega))
      clear hI6
      go_wp2_with fail
      refine Calls.mono (C5.out _ _ (Ha.out.below (by go_grown)) (HG.out.below (by go_grown))) ?_
      rintro e w7 ⟨v7, rfl, hI7, hb7⟩
      have hB7 := belowTo (a := w6) (by go_grown) hb7
      replace Hf := Lib.hid (Hf.out.below hB7)
      replace Ho := Lib.hid (Ho.out.below hB7)
      replace Ha := Lib.hid (Ha.out.below hB7)
      replace Hb := Lib.hid (Hb.out.below hB7)
      replace HG := Lib.hid (HG.out.below hB7)
      replace HB := Lib.hid (belowTo HB.out hB7)
      clear hb7 hB7
      have Hc := Lib.hid (Ints.reads hI7 (by have := HL.out; omega))
      clear hI7
      go_wp2_with fail
      refine Calls.mono (C6.out _ _ (Ho.out.below (by go_grown)) (HG.out.below (by go_grown))) ?_
      rintro e w8 ⟨v8, rfl, hI8, hb8⟩
      have hB8 := belowTo (a := w7) (by go_grown) hb8
      replace Hf := Lib.hid (Hf.out.below hB8)
      replace Ho := Lib.hid (Ho.out.below hB8)
      replace Ha := Lib.hid (Ha.out.below hB8)
      replace Hb := Lib.hid (Hb.out.below hB8)
      replace Hc := Lib.hid (Hc.out.below hB8)
      replace HG := Lib.hid (HG.out.below hB8)
      replace HB := Lib.hid (belowTo HB.out hB8)
      clear hb8 hB8
      have Hx := Lib.hid (Vecs.reads hI8 (by omega))
      clear hI8
      go_wp2_with fail
      refine Calls.mono (C7.out _ _ (Ho.out.below (by go_grown)) (HG.out.below (by go_grown))) ?_
      rintro e w9 ⟨rfl, hb9⟩
      have hB9 := belowTo (a := w8) (by go_grown) hb9
      replace Hf := Lib.hid (Hf.out.below hB9)
      replace Ho := Lib.hid (Ho.out.below hB9)
      replace Ha := Lib.hid (Ha.out.below hB9)
      replace Hb := Lib.hid (Hb.out.below hB9)
      replace Hc := Lib.hid (Hc.out.below hB9)
      replace Hx := Lib.hid (Hx.out.below hB9)
      replace HG := Lib.hid (HG.out.below hB9)
      replace HB := Lib.hid (belowTo HB.out hB9)
      clear hb9 hB9
      go_wp2_with fail
      refine Calls.mono (sameVecs_eq _ _ _ _ (Hx.out.below (by go_grown)) (Hf.out.below (by go_grown))) ?_
      rintro e w10 ⟨rfl, hb10⟩
      have hB10 := belowTo (a := w9) (by go_grown) hb10
      replace Hf := Lib.hid (Hf.out.below hB10)
      replace Ho := Lib.hid (Ho.out.below hB10)
      replace Ha := Lib.hid (Ha.out.below hB10)
      replace Hb := Lib.hid (Hb.out.below hB10)
      replace Hc := Lib.hid (Hc.out.below hB10)
      replace Hx := Lib.hid (Hx.out.below hB10)
      replace HG := Lib.hid (HG.out.below hB10)
      replace HB := Lib.hid (belowTo HB.out hB10)
      clear hb10 hB10
      go_wp2_with fail
      refine Calls.mono (sameInts_eq _ _ _ _ (Hb.out.below (by go_grown)) (Hc.out.below (by go_grown))) ?_
      rintro e w11 ⟨rfl, hb11⟩
      have hB11 := belowTo (a := w10) (by go_grown) hb11
      replace Hf := Lib.hid (Hf.out.below hB11)
      replace Ho := Lib.hid (Ho.out.below hB11)
      replace Ha := Lib.hid (Ha.out.below hB11)
      replace Hb := Lib.hid (Hb.out.below hB11)
      replace Hc := Lib.hid (Hc.out.below hB11)
      replace Hx := Lib.hid (Hx.out.below hB11)
      replace HG := Lib.hid (HG.out.below hB11)
      replace HB := Lib.hid (belowTo HB.out hB11)
      clear hb11 hB11
      go_wp2
      go_returns
      exact ⟨rfl, HB.out⟩
end Go.Proofs.YtohojjoediibhaaDoor
