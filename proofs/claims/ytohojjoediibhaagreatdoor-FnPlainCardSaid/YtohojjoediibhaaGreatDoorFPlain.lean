/- FnPlain: the walk. -/
import Derived.Test.YtohojjoediibhaaGreatDoorUd
import Derived.Test.YtohojjoediibhaaGreatDoorNc
import Derived.Test.YtohojjoediibhaaGreatDoorSm
import Derived.Test.YtohojjoediibhaaGreatDoorQ7
import Derived.Test.YtohojjoediibhaaGreatDoorQr
import Derived.Test.YtohojjoediibhaaGreatDoorQ6
namespace Go.Proofs.YtohojjoediibhaaGreatDoor
open Go.RowKit

set_option maxRecDepth 100000 in
set_option maxHeartbeats 16000000 in
theorem fnPlain_any (a : Option Addr) (len cap : Nat) (w : World) (h : Bytes w a len cap) (hg : EtOk w) :
    Calls Tryz.prog 7 #[.slice a len cap] w fun e w' => e = .returned (.bool true) ∧ Below w.heap.size w w' := by
  by_cases hlen : len ≤ 1048576
  case neg =>
    have j1 : (1048576 : Int) < (len : Int) := by omega
    clear h hg
    go_enter Tryz.func7, Tryz.ntmps7
    go_wp2
    go_returns
    exact ⟨rfl, by go_grown⟩
  case pos =>
  have j1 : (len : Int) ≤ 1048576 := by omega
  have HO := Lib.hid (drawDivisorPlain_any w a len cap h)
  clear h
  go_enter Tryz.func7, Tryz.ntmps7
  go_wp2_with fail
  refine Calls.mono HO.out ?_
  rintro e w1 ⟨v, u, l, d, rfl, hV, hI, h2, h20, hd, hb1⟩
  have HG := Lib.hid (hg.below hb1)
  have Hf := Lib.hid hV
  have Hd := Lib.hid hI
  have HB : Hid (Below w.heap.size w w1) := hb1
  clear hb1 HO hg hV hI
  cases hk : plnDB l d
  · have C1 : Hid (∀ (w' : World) (v0 : Value) (v1 : Value), ReadsVecs w' v0 (l) → ReadsInts w' v1 (d) → EtOk w' → Calls Tryz.prog 22 #[v0, v1] w' (GivesIntsOk w' ([]) (false))) := fun w' v0 v1 h0 h1 hg' => by
      have h := divisorPlain_any v0 (l) v1 (d) w' h0 h1 hg'
      rw [hk] at h
      exact h
    have C2 : Hid (∀ (w' : World) (v0 : Value) (v1 : Value), ReadsVecs w' v0 (l) → ReadsInts w' v1 (d) → EtOk w' → Calls Tryz.prog 27 #[v0, v1] w' (GivesIntsOk w' ([]) (false))) := fun w' v0 v1 h0 h1 hg' => by
      have h := specDivisorPlain_any v0 (l) v1 (d) w' h0 h1
      rw [hk] at h
      exact h
    clear hk
    go_wp2_with fail
    refine Calls.mono (C1.out _ _ _ (Hf.out.below (by go_grown)) (Hd.out.below (by go_grown)) (HG.out.below (by go_grown))) ?_
    rintro e w2 ⟨v2, rfl, hI2, hb2⟩
    have hB2 := belowTo (a := w1) (by go_grown) hb2
    replace Hf := Lib.hid (Hf.out.below hB2)
    replace Hd := Lib.hid (Hd.out.below hB2)
    replace HG := Lib.hid (HG.out.below hB2)
    replace HB := Lib.hid (belowTo HB.out hB2)
    clear hb2 hB2
    have Ho1 := Lib.hid (Ints.reads hI2 (by simp))
    clear hI2
    go_wp2_with fail
    refine Calls.mono (C2.out _ _ _ (Hf.out.below (by go_grown)) (Hd.out.below (by go_grown)) (HG.out.below (by go_grown))) ?_
    rintro e w3 ⟨v3, rfl, hI3, hb3⟩
    have hB3 := belowTo (a := w2) (by go_grown) hb3
    replace Hf := Lib.hid (Hf.out.below hB3)
    replace Hd := Lib.hid (Hd.out.below hB3)
    replace Ho1 := Lib.hid (Ho1.out.below hB3)
    replace HG := Lib.hid (HG.out.below hB3)
    replace HB := Lib.hid (belowTo HB.out hB3)
    clear hb3 hB3
    have Ho2 := Lib.hid (Ints.reads hI3 (by simp))
    clear hI3
    go_wp2_with fail
    refine Calls.mono (sameInts_eq _ _ _ _ (Ho1.out.below (by go_grown)) (Ho2.out.below (by go_grown))) ?_
    rintro e w4 ⟨rfl, hb4⟩
    have hB4 := belowTo (a := w3) (by go_grown) hb4
    replace Hf := Lib.hid (Hf.out.below hB4)
    replace Hd := Lib.hid (Hd.out.below hB4)
    replace Ho1 := Lib.hid (Ho1.out.below hB4)
    replace Ho2 := Lib.hid (Ho2.out.below hB4)
    replace HG := Lib.hid (HG.out.below hB4)
    replace HB := Lib.hid (belowTo HB.out hB4)
    clear hb4 hB4
    go_wp2_with fail
    refine Calls.mono (sameInts_eq _ _ _ _ (Ho1.out.below (by go_grown)) (Ho2.out.below (by go_grown))) ?_
    rintro e w5 ⟨rfl, hb5⟩
    have hB5 := belowTo (a := w4) (by go_grown) hb5
    replace Hf := Lib.hid (Hf.out.below hB5)
    replace Hd := Lib.hid (Hd.out.below hB5)
    replace Ho1 := Lib.hid (Ho1.out.below hB5)
    replace Ho2 := Lib.hid (Ho2.out.below hB5)
    replace HG := Lib.hid (HG.out.below hB5)
    replace HB := Lib.hid (belowTo HB.out hB5)
    clear hb5 hB5
    go_wp2
    go_returns
    exact ⟨rfl, HB.out⟩
  · have C1 : Hid (∀ (w' : World) (v0 : Value) (v1 : Value), ReadsVecs w' v0 (l) → ReadsInts w' v1 (d) → EtOk w' → Calls Tryz.prog 22 #[v0, v1] w' (GivesIntsOk w' (plainL l d) (true))) := fun w' v0 v1 h0 h1 hg' => by
      have h := divisorPlain_any v0 (l) v1 (d) w' h0 h1 hg'
      rw [hk] at h
      exact h
    have C2 : Hid (∀ (w' : World) (v0 : Value) (v1 : Value), ReadsVecs w' v0 (l) → ReadsInts w' v1 (d) → EtOk w' → Calls Tryz.prog 27 #[v0, v1] w' (GivesIntsOk w' (plainL l d) (true))) := fun w' v0 v1 h0 h1 hg' => by
      have h := specDivisorPlain_any v0 (l) v1 (d) w' h0 h1
      rw [hk] at h
      exact h
    obtain ⟨q1, q2, q3⟩ := pln_mk hk
    obtain ⟨p1, p2⟩ := pln_in hk
    obtain ⟨p3, p4⟩ := plain_01 (div_smooth p1) (div_in p1).2.1 (by omega)
    have C3 : Hid (∀ (w' : World) (v0 : Value) (v1 : Value), ReadsVecs w' v0 (l) → ReadsInts w' v1 (plainL l d) → EtOk w' → Calls Tryz.prog 22 #[v0, v1] w' (GivesIntsOk w' (plainL l d) (true))) := fun w' v0 v1 h0 h1 hg' => by
      have h := divisorPlain_any v0 (l) v1 (plainL l d) w' h0 h1 hg'
      rw [q1, q2] at h
      exact h
    have C4 : Hid (∀ (w' : World) (v0 : Value) (v1 : Value) (v2 : Value), ReadsVecs w' v0 (l) → ReadsInts w' v1 (d) → ReadsInts w' v2 (plainL l d) → EtOk w' → Calls Tryz.prog 24 #[v0, v1, v2] w' (fun e w'' => e = .returned (.bool (true)) ∧ Below w'.heap.size w' w'')) := fun w' v0 v1 v2 h0 h1 h2 hg' => by
      have h := divisorEquivalent_any v0 (l) v1 (d) v2 (plainL l d) w' h0 h1 h2 hg'
      rw [q3] at h
      exact h
    have HL : Hid ((plainL l d).length = l.length) := by show _ = _; rw [plain_len]; exact hd
    have HZ : Hid (gz (plainL l d) 0 = 0 ∧ gz (plainL l d) 1 = 0) := ⟨p3, p4⟩
    generalize plainL l d = m at *
    clear hk q1 q2 q3 p1 p2 p3 p4
    go_wp2_with fail
    refine Calls.mono (C1.out _ _ _ (Hf.out.below (by go_grown)) (Hd.out.below (by go_grown)) (HG.out.below (by go_grown))) ?_
    rintro e w2 ⟨v2, rfl, hI2, hb2⟩
    have hB2 := belowTo (a := w1) (by go_grown) hb2
    replace Hf := Lib.hid (Hf.out.below hB2)
    replace Hd := Lib.hid (Hd.out.below hB2)
    replace HG := Lib.hid (HG.out.below hB2)
    replace HB := Lib.hid (belowTo HB.out hB2)
    clear hb2 hB2
    have Ho := Lib.hid (Ints.reads hI2 (by have := HL.out; omega))
    clear hI2
    go_wp2_with fail
    refine Calls.mono (C2.out _ _ _ (Hf.out.below (by go_grown)) (Hd.out.below (by go_grown)) (HG.out.below (by go_grown))) ?_
    rintro e w3 ⟨v3, rfl, hI3, hb3⟩
    have hB3 := belowTo (a := w2) (by go_grown) hb3
    replace Hf := Lib.hid (Hf.out.below hB3)
    replace Hd := Lib.hid (Hd.out.below hB3)
    replace Ho := Lib.hid (Ho.out.below hB3)
    replace HG := Lib.hid (HG.out.below hB3)
    replace HB := Lib.hid (belowTo HB.out hB3)
    clear hb3 hB3
    have Ho2 := Lib.hid (Ints.reads hI3 (by have := HL.out; omega))
    clear hI3
    go_wp2_with fail
    refine Calls.mono (sameInts_eq _ _ _ _ (Ho.out.below (by go_grown)) (Ho2.out.below (by go_grown))) ?_
    rintro e w4 ⟨rfl, hb4⟩
    have hB4 := belowTo (a := w3) (by go_grown) hb4
    replace Hf := Lib.hid (Hf.out.below hB4)
    replace Hd := Lib.hid (Hd.out.below hB4)
    replace Ho := Lib.hid (Ho.out.below hB4)
    replace Ho2 := Lib.hid (Ho2.out.below hB4)
    replace HG := Lib.hid (HG.out.below hB4)
    replace HB := Lib.hid (belowTo HB.out hB4)
    clear hb4 hB4
    clear Ho2
    go_wp2_with fail
    refine Calls.mono (C3.out _ _ _ (Hf.out.below (by go_grown)) (Ho.out.below (by go_grown)) (HG.out.below (by go_grown))) ?_
    rintro e w5 ⟨v5, rfl, hI5, hb5⟩
    have hB5 := belowTo (a := w4) (by go_grown) hb5
    replace Hf := Lib.hid (Hf.out.below hB5)
    replace Hd := Lib.hid (Hd.out.below hB5)
    replace Ho := Lib.hid (Ho.out.below hB5)
    replace HG := Lib.hid (HG.out.below hB5)
    replace HB := Lib.hid (belowTo HB.out hB5)
    clear hb5 hB5
    have Hx := Lib.hid (Ints.reads hI5 (by have := HL.out; omega))
    clear hI5
    go_wp2_with fail
    refine Calls.mono (sameInts_eq _ _ _ _ (Hx.out.below (by go_grown)) (Ho.out.below (by go_grown))) ?_
    rintro e w6 ⟨rfl, hb6⟩
    have hB6 := belowTo (a := w5) (by go_grown) hb6
    replace Hf := Lib.hid (Hf.out.below hB6)
    replace Hd := Lib.hid (Hd.out.below hB6)
    replace Ho := Lib.hid (Ho.out.below hB6)
    replace Hx := Lib.hid (Hx.out.below hB6)
    replace HG := Lib.hid (HG.out.below hB6)
    replace HB := Lib.hid (belowTo HB.out hB6)
    clear hb6 hB6
    clear Hx
    obtain ⟨bb, bo, bc, rfl, _, hbb, hbs⟩ := Ho.out.open (by have := HL.out; omega)
    have c0 := hbs w6 (Below.refl _ _) 0 (by have := HL.out; omega)
    have c1 := hbs w6 (Below.refl _ _) 1 (by have := HL.out; omega)
    rw [HZ.out.1, Nat.add_zero] at c0
    rw [HZ.out.2] at c1
    have i0 : (0 : Int) < (m.length : Int) := by have := HL.out; omega
    have i1 : (1 : Int) < (m.length : Int) := by have := HL.out; omega
    clear hbs
    go_wp2_with fail
    refine Calls.mono (C4.out _ _ _ _ (Hf.out.below (by go_grown)) (Hd.out.below (by go_grown)) (Ho.out.below (by go_grown)) (HG.out.below (by go_grown))) ?_
    rintro e w7 ⟨rfl, hb7⟩
    have hB7 := belowTo (a := w6) (by go_grown) hb7
    replace Hf := Lib.hid (Hf.out.below hB7)
    replace Hd := Lib.hid (Hd.out.below hB7)
    replace Ho := Lib.hid (Ho.out.below hB7)
    replace HG := Lib.hid (HG.out.below hB7)
    replace HB := Lib.hid (belowTo HB.out hB7)
    clear hb7 hB7
    go_wp2
    go_returns
    exact ⟨rfl, HB.out⟩
end Go.Proofs.YtohojjoediibhaaGreatDoor
