/- FnSquare: the walk. -/
import Derived.Test.YtohojjoediibhaaDoorUe
import Derived.Test.YtohojjoediibhaaDoorNd
import Derived.Test.YtohojjoediibhaaDoorSm
import Derived.Test.YtohojjoediibhaaDoorEc
import Derived.Test.YtohojjoediibhaaDoorEb
import Derived.Test.YtohojjoediibhaaDoorBb
namespace Go.Proofs.YtohojjoediibhaaDoor
open Go.RowKit

set_option maxRecDepth 100000 in
set_option maxHeartbeats 16000000 in
theorem fnSquare_any (a : Option Addr) (len cap : Nat) (w : World) (h : Bytes w a len cap) (hg : EtOk w) :
    Calls Tryd.prog 16 #[.slice a len cap] w fun e w' => e = .returned (.bool true) ∧ Below w.heap.size w w' := by
  by_cases hlen : len ≤ 1048576
  case neg =>
    have j1 : (1048576 : Int) < (len : Int) := by omega
    clear h hg
    go_enter Tryd.func16, Tryd.ntmps16
    go_wp2
    go_returns
    exact ⟨rfl, by go_grown⟩
  case pos =>
  have j1 : (len : Int) ≤ 1048576 := by omega
  have HO := Lib.hid (drawSurfaceSquare_any w a len cap h)
  clear h
  go_enter Tryd.func16, Tryd.ntmps16
  go_wp2_with fail
  refine Calls.mono HO.out ?_
  rintro e w1 ⟨v, l, rfl, hV, h2, h20, hb1⟩
  have HG := Lib.hid (hg.below hb1)
  have Hf := Lib.hid hV
  have HB : Hid (Below w.heap.size w w1) := hb1
  clear hb1 HO hg hV
  cases hk : smoothB l
  · have C1 : Hid (∀ (w' : World) (v0 : Value), ReadsVecs w' v0 (l) → EtOk w' → Calls Tryd.prog 67 #[v0] w' (fun e w'' => e = .returned (.tuple #[.int .i64 (0), .bool (false)]) ∧ Below w'.heap.size w' w'')) := fun w' v0 h0 hg' => by
      have h := surfaceSquare_any v0 (l) w' h0 hg'
      rw [hk] at h
      exact h
    have C2 : Hid (∀ (w' : World) (v0 : Value), ReadsVecs w' v0 (l) → EtOk w' → Calls Tryd.prog 69 #[v0] w' (fun e w'' => e = .returned (.tuple #[.int .i64 (0), .bool (false)]) ∧ Below w'.heap.size w' w'')) := fun w' v0 h0 hg' => by
      have h := specSurfaceSquare_any v0 (l) w' h0
      rw [hk] at h
      exact h
    clear hk
    go_wp2_with fail
    refine Calls.mono (C1.out _ _ (Hf.out.below (by go_grown)) (HG.out.below (by go_grown))) ?_
    rintro e w2 ⟨rfl, hb2⟩
    have hB2 := belowTo (a := w1) (by go_grown) hb2
    replace Hf := Lib.hid (Hf.out.below hB2)
    replace HG := Lib.hid (HG.out.below hB2)
    replace HB := Lib.hid (belowTo HB.out hB2)
    clear hb2 hB2
    go_wp2_with fail
    refine Calls.mono (C2.out _ _ (Hf.out.below (by go_grown)) (HG.out.below (by go_grown))) ?_
    rintro e w3 ⟨rfl, hb3⟩
    have hB3 := belowTo (a := w2) (by go_grown) hb3
    replace Hf := Lib.hid (Hf.out.below hB3)
    replace HG := Lib.hid (HG.out.below hB3)
    replace HB := Lib.hid (belowTo HB.out hB3)
    clear hb3 hB3
    go_wp2
    go_returns
    exact ⟨rfl, HB.out⟩
  · have C1 : Hid (∀ (w' : World) (v0 : Value), ReadsVecs w' v0 (l) → EtOk w' → Calls Tryd.prog 67 #[v0] w' (fun e w'' => e = .returned (.tuple #[.int .i64 (prodZ l (canL l.length) (canL l.length)), .bool (true)]) ∧ Below w'.heap.size w' w'')) := fun w' v0 h0 hg' => by
      have h := surfaceSquare_any v0 (l) w' h0 hg'
      rw [hk] at h
      exact h
    have C2 : Hid (∀ (w' : World) (v0 : Value), ReadsVecs w' v0 (l) → EtOk w' → Calls Tryd.prog 69 #[v0] w' (fun e w'' => e = .returned (.tuple #[.int .i64 (prodZ l (canL l.length) (canL l.length)), .bool (true)]) ∧ Below w'.heap.size w' w'')) := fun w' v0 h0 hg' => by
      have h := specSurfaceSquare_any v0 (l) w' h0
      rw [hk] at h
      exact h
    have q1 := prod_can hk
    cases hk2 : smoothB l && blowB l 0
    · have C3 : Hid (∀ (w' : World) (v0 : Value), ReadsVecs w' v0 (l) → EtOk w' → Calls Tryd.prog 48 #[v0, .int .i64 0] w' (GivesVecsOk w' ([]) (false))) := fun w' v0 h0 hg' => by
        have h := fanBlow_any v0 l 0 w' h0 hg'
        rw [hk2] at h
        exact h
      have e0 : smoothB ([] : List V2) = false := rfl
      have C4 : Hid (∀ (w' : World) (v0 : Value), ReadsVecs w' v0 ([]) → EtOk w' → Calls Tryd.prog 67 #[v0] w' (fun e w'' => e = .returned (.tuple #[.int .i64 (0), .bool (false)]) ∧ Below w'.heap.size w' w'')) := fun w' v0 h0 hg' => by
        have h := surfaceSquare_any v0 [] w' h0 hg'
        rw [e0] at h
        exact h
      have b1 : 0 ≤ prodZ l (canL l.length) (canL l.length) + 8 ∧ prodZ l (canL l.length) (canL l.length) ≤ 12 := by rw [q1]; omega
      generalize prodZ l (canL l.length) (canL l.length) = X at *
      have qa : IntKind.i64.wrap (X - 1) = X - 1 := by rw [IntKind.wrap_i64]; omega
      clear hk hk2 q1 b1
      go_wp2_with fail
      refine Calls.mono (C1.out _ _ (Hf.out.below (by go_grown)) (HG.out.below (by go_grown))) ?_
      rintro e w2 ⟨rfl, hb2⟩
      have hB2 := belowTo (a := w1) (by go_grown) hb2
      replace Hf := Lib.hid (Hf.out.below hB2)
      replace HG := Lib.hid (HG.out.below hB2)
      replace HB := Lib.hid (belowTo HB.out hB2)
      clear hb2 hB2
      go_wp2_with fail
      refine Calls.mono (C2.out _ _ (Hf.out.below (by go_grown)) (HG.out.below (by go_grown))) ?_
      rintro e w3 ⟨rfl, hb3⟩
      have hB3 := belowTo (a := w2) (by go_grown) hb3
      replace Hf := Lib.hid (Hf.out.below hB3)
      replace HG := Lib.hid (HG.out.below hB3)
      replace HB := Lib.hid (belowTo HB.out hB3)
      clear hb3 hB3
      go_wp2_with fail
      refine Calls.mono (C3.out _ _ (Hf.out.below (by go_grown)) (HG.out.below (by go_grown))) ?_
      rintro e w4 ⟨v4, rfl, hI4, hb4⟩
      have hB4 := belowTo (a := w3) (by go_grown) hb4
      replace Hf := Lib.hid (Hf.out.below hB4)
      replace HG := Lib.hid (HG.out.below hB4)
      replace HB := Lib.hid (belowTo HB.out hB4)
      clear hb4 hB4
      have Hs := Lib.hid (Vecs.reads hI4 (by simp))
      clear hI4
      go_wp2_with fail
      refine Calls.mono (C4.out _ _ (Hs.out.below (by go_grown)) (HG.out.below (by go_grown))) ?_
      rintro e w5 ⟨rfl, hb5⟩
      have hB5 := belowTo (a := w4) (by go_grown) hb5
      replace Hf := Lib.hid (Hf.out.below hB5)
      replace Hs := Lib.hid (Hs.out.below hB5)
      replace HG := Lib.hid (HG.out.below hB5)
      replace HB := Lib.hid (belowTo HB.out hB5)
      clear hb5 hB5
      go_wp2
      go_returns
      exact ⟨rfl, HB.out⟩
    · have C3 : Hid (∀ (w' : World) (v0 : Value), ReadsVecs w' v0 (l) → EtOk w' → Calls Tryd.prog 48 #[v0, .int .i64 0] w' (GivesVecsOk w' (blowL l 0 (blowP l 0)) (true))) := fun w' v0 h0 hg' => by
        have h := fanBlow_any v0 l 0 w' h0 hg'
        rw [hk2] at h
        exact h
      obtain ⟨_, m, hm, hlt, hf⟩ := blowB_in hk2
      obtain rfl : m = 0 := by omega
      have q2 := smooth_blow (smooth_all hk) hlt hf
      have q3 := prod_can q2
      rw [blowL_len hlt] at q3
      have q4 : prodZ (blowL l 0 (blowP l 0)) (canL (l.length + 1)) (canL (l.length + 1)) = prodZ l (canL l.length) (canL l.length) - 1 := by rw [q3, q1]; omega
      have C4 : Hid (∀ (w' : World) (v0 : Value), ReadsVecs w' v0 (blowL l 0 (blowP l 0)) → EtOk w' → Calls Tryd.prog 67 #[v0] w' (fun e w'' => e = .returned (.tuple #[.int .i64 (prodZ l (canL l.length) (canL l.length) - 1), .bool (true)]) ∧ Below w'.heap.size w' w'')) := fun w' v0 h0 hg' => by
        have h := surfaceSquare_any v0 (blowL l 0 (blowP l 0)) w' h0 hg'
        rw [q2, blowL_len hlt, q4] at h
        exact h
      have HL : Hid ((blowL l 0 (blowP l 0)).length ≤ 1000) := by show _ ≤ _; rw [blowL_len hlt]; omega
      generalize blowL l 0 (blowP l 0) = s at *
      clear hf q2 q3 q4 hm
      have b1 : 0 ≤ prodZ l (canL l.length) (canL l.length) + 8 ∧ prodZ l (canL l.length) (canL l.length) ≤ 12 := by rw [q1]; omega
      generalize prodZ l (canL l.length) (canL l.length) = X at *
      have qa : IntKind.i64.wrap (X - 1) = X - 1 := by rw [IntKind.wrap_i64]; omega
      clear hk hk2 q1 b1
      go_wp2_with fail
      refine Calls.mono (C1.out _ _ (Hf.out.below (by go_grown)) (HG.out.below (by go_grown))) ?_
      rintro e w2 ⟨rfl, hb2⟩
      have hB2 := belowTo (a := w1) (by go_grown) hb2
      replace Hf := Lib.hid (Hf.out.below hB2)
      replace HG := Lib.hid (HG.out.below hB2)
      replace HB := Lib.hid (belowTo HB.out hB2)
      clear hb2 hB2
      go_wp2_with fail
      refine Calls.mono (C2.out _ _ (Hf.out.below (by go_grown)) (HG.out.below (by go_grown))) ?_
      rintro e w3 ⟨rfl, hb3⟩
      have hB3 := belowTo (a := w2) (by go_grown) hb3
      replace Hf := Lib.hid (Hf.out.below hB3)
      replace HG := Lib.hid (HG.out.below hB3)
      replace HB := Lib.hid (belowTo HB.out hB3)
      clear hb3 hB3
      go_wp2_with fail
      refine Calls.mono (C3.out _ _ (Hf.out.below (by go_grown)) (HG.out.below (by go_grown))) ?_
      rintro e w4 ⟨v4, rfl, hI4, hb4⟩
      have hB4 := belowTo (a := w3) (by go_grown) hb4
      replace Hf := Lib.hid (Hf.out.below hB4)
      replace HG := Lib.hid (HG.out.below hB4)
      replace HB := Lib.hid (belowTo HB.out hB4)
      clear hb4 hB4
      have Hs := Lib.hid (Vecs.reads hI4 (by have := HL.out; omega))
      clear hI4
      go_wp2_with fail
      refine Calls.mono (C4.out _ _ (Hs.out.below (by go_grown)) (HG.out.below (by go_grown))) ?_
      rintro e w5 ⟨rfl, hb5⟩
      have hB5 := belowTo (a := w4) (by go_grown) hb5
      replace Hf := Lib.hid (Hf.out.below hB5)
      replace Hs := Lib.hid (Hs.out.below hB5)
      replace HG := Lib.hid (HG.out.below hB5)
      replace HB := Lib.hid (belowTo HB.out hB5)
      clear hb5 hB5
      go_wp2
      go_returns
      exact ⟨rfl, HB.out⟩
end Go.Proofs.YtohojjoediibhaaDoor
