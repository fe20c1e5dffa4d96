/- NumbersFan: the program. -/
import Derived.Test.YtohojjoediibhaaDoorEg
namespace Go.Proofs.YtohojjoediibhaaDoor
open Go.RowKit

set_option maxHeartbeats 8000000 in
theorem numbersFan_any (v : Value) (d : List Int) (w : World) (h : ReadsInts w v d) (hg : EtOk w) :
    Calls Tryd.prog 55 #[v] w (GivesVecsOk w (gV (nfB d) (raysN d d.length)) (nfB d)) := by
  have HA := Lib.hid (areNumbers_any v d 0 w h (by omega) (by omega))
  have HC := Lib.hid (fun w' (hb : Below w.heap.size w w') ha => closed_any v d w' (h.below hb) (hg.below hb) ha)
  have HF := Lib.hid (fun v' w' hl hg' => fanIn_any v' (raysN d d.length) w' hl hg')
  have HL : Hid (areN d 0 = true → d.length ≤ 20) := fun h => by have := (are_in h).2.1; omega
  have HG := Lib.hid hg
  obtain ⟨a, c, rfl, _⟩ := h.len
  clear h hg
  cases ha : areN d 0
  · have e0 : nfB d = false := by simp [nfB, ha]
    rw [e0]
    rw [ha] at HA
    clear HC HF HL ha e0
    go_enter Tryd.func55, Tryd.ntmps55
    go_wp2_with fail
    refine Calls.mono HA.out ?_
    rintro e w1 ⟨rfl, hb1⟩
    go_wp2
    go_returns
    exact ⟨_, rfl, Vecs.nil _ _, hb1⟩
  · have hl := HL.out ha
    have HC2 := Lib.hid (fun w' hb => HC.out w' hb ha)
    rw [ha] at HA
    unfold GivesClosed at HC2
    have HK0 : Hid ((inN d && closeN d) = false → nfB d = false) := fun h => by
      unfold nfB
      rw [← Bool.and_assoc, ← Bool.and_assoc, Bool.and_assoc (areN d 0), h, Bool.and_false, Bool.false_and]
    have HK1 : Hid ((inN d && closeN d) = true → nfB d = fanB (raysN d d.length) ∧ inN d = true) := fun h => by
      have h' := h
      rw [Bool.and_eq_true] at h'
      refine ⟨?_, h'.1⟩
      unfold nfB
      rw [ha, h'.1, h'.2]
      rfl
    clear HC HL ha
    cases hk : (inN d && closeN d)
    · have e0 := HK0.out hk
      rw [e0]
      rw [hk] at HC2
      clear HK0 HK1 hk e0 HF
      go_enter Tryd.func55, Tryd.ntmps55
      go_wp2_with fail
      refine Calls.mono HA.out ?_
      rintro e w1 ⟨rfl, hb1⟩
      go_wp2_with fail
      refine Calls.mono (HC2.out _ hb1) ?_
      rintro e w2 ⟨v2, rfl, hV, hb2⟩
      have hB := belowTo hb1 hb2
      clear hV hb1 hb2
      go_wp2
      go_returns
      exact ⟨_, rfl, Vecs.nil _ _, hB⟩
    · obtain ⟨e0, e1⟩ := HK1.out hk
      rw [e0]
      rw [hk, e1] at HC2
      have hrl : (raysN d d.length).length = d.length := raysN_len d _
      clear HK0 HK1 hk e0 e1
      generalize raysN d d.length = R at *
      have HR : Hid (R.length ≤ 576460752303423488) := by show _ ≤ _; omega
      clear hrl hl
      unfold gV at HC2
      rw [if_pos rfl] at HC2
      cases hf : fanB R
      · rw [hf] at HF
        clear hf
        go_enter Tryd.func55, Tryd.ntmps55
        go_wp2_with fail
        refine Calls.mono HA.out ?_
        rintro e w1 ⟨rfl, hb1⟩
        go_wp2_with fail
        refine Calls.mono (HC2.out _ hb1) ?_
        rintro e w2 ⟨v2, rfl, hV, hb2⟩
        have hB := belowTo hb1 hb2
        have HF2 := Lib.hid (HF.out v2 w2 (hV.reads HR.out) (HG.out.below hB))
        clear hV hb1 hb2
        go_wp2_with fail
        refine Calls.mono HF2.out ?_
        rintro e w3 ⟨rfl, hb3⟩
        have hB2 := belowTo hB hb3
        clear hB hb3
        go_wp2
        go_returns
        exact ⟨_, rfl, Vecs.nil _ _, hB2⟩
      · rw [hf] at HF
        clear hf
        go_enter Tryd.func55, Tryd.ntmps55
        go_wp2_with fail
        refine Calls.mono HA.out ?_
        rintro e w1 ⟨rfl, hb1⟩
        go_wp2_with fail
        refine Calls.mono (HC2.out _ hb1) ?_
        rintro e w2 ⟨v2, rfl, hV, hb2⟩
        have hB := belowTo hb1 hb2
        have HF2 := Lib.hid (HF.out v2 w2 (hV.reads HR.out) (HG.out.below hB))
        have HV := Lib.hid (hV.lower hb1.size)
        clear hV hb1 hb2
        go_wp2_with fail
        refine Calls.mono HF2.out ?_
        rintro e w3 ⟨rfl, hb3⟩
        have hB2 := belowTo hB hb3
        have HV3 := Lib.hid (HV.out.below hb3)
        clear hB hb3
        go_wp2
        go_returns
        exact ⟨v2, rfl, HV3.out, hB2⟩
end Go.Proofs.YtohojjoediibhaaDoor
