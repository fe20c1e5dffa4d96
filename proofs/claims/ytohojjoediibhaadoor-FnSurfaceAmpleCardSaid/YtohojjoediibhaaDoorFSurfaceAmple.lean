/- FnSurfaceAmple: the walk. -/
import Derived.Test.YtohojjoediibhaaDoorUe
import Derived.Test.YtohojjoediibhaaDoorNd
import Derived.Test.YtohojjoediibhaaDoorZe
import Derived.Test.YtohojjoediibhaaDoorSm
import Derived.Test.YtohojjoediibhaaDoorEc
import Derived.Test.YtohojjoediibhaaDoorEb
import Derived.Test.YtohojjoediibhaaDoorQx
namespace Go.Proofs.YtohojjoediibhaaDoor
open Go.RowKit

set_option maxRecDepth 100000 in
set_option maxHeartbeats 16000000 in
theorem fnSurfaceAmple_any (a : Option Addr) (len cap : Nat) (w : World) (h : Bytes w a len cap) (hg : EtOk w) :
    Calls Tryd.prog 18 #[.slice a len cap] w fun e w' => e = .returned (.bool true) ∧ Below w.heap.size w w' := by
  by_cases hlen : len ≤ 1048576
  case neg =>
    have j1 : (1048576 : Int) < (len : Int) := by omega
    clear h hg
    go_enter Tryd.func18, Tryd.ntmps18
    go_wp2
    go_returns
    exact ⟨rfl, by go_grown⟩
  case pos =>
  have j1 : (len : Int) ≤ 1048576 := by omega
  have HO := Lib.hid (drawSurfaceAmple_any w a len cap h)
  clear h
  go_enter Tryd.func18, Tryd.ntmps18
  go_wp2_with fail
  refine Calls.mono HO.out ?_
  rintro e w1 ⟨v, l, rfl, hV, h2, h20, hb1⟩
  have HG := Lib.hid (hg.below hb1)
  have Hf := Lib.hid hV
  have HB : Hid (Below w.heap.size w w1) := hb1
  clear hb1 HO hg hV
  cases hk : amp8 l
  · have C1 : Hid (∀ (w' : World) (v0 : Value), ReadsVecs w' v0 (l) → EtOk w' → Calls Tryd.prog 75 #[v0] w' (fun e w'' => e = .returned (.bool (false)) ∧ Below w'.heap.size w' w'')) := fun w' v0 h0 hg' => by
      have h := surfaceAmple_any v0 (l) w' h0 hg'
      rw [hk] at h
      exact h
    have C2 : Hid (∀ (w' : World) (v0 : Value), ReadsVecs w' v0 (l) → EtOk w' → Calls Tryd.prog 76 #[v0] w' (fun e w'' => e = .returned (.bool (false)) ∧ Below w'.heap.size w' w'')) := fun w' v0 h0 hg' => by
      have h := specSurfaceAmple_any v0 (l) w' h0
      rw [hk] at h
      exact h
    clear hk
    go_wp2_with fail
    refine Calls.mono (C1.out _ _ (Hf.out.below (by go_grown)) (HG.out.below (by go_grown))) ?_
    rintro e w2 ⟨rfl, hb2⟩
    have hB2 := belowTo (a := w1) (by go_grown) hb2
    replace Hf := Lib.hid (Hf.out.below hB2)
    replace HG := Lib.hid (HG.out.below hB2)
    replace HB := Lib.hid (belowTo HB.out hB2)
    clear hb2 hB2
    go_wp2_with fail
    refine Calls.mono (C2.out _ _ (Hf.out.below (by go_grown)) (HG.out.below (by go_grown))) ?_
    rintro e w3 ⟨rfl, hb3⟩
    have hB3 := belowTo (a := w2) (by go_grown) hb3
    replace Hf := Lib.hid (Hf.out.below hB3)
    replace HG := Lib.hid (HG.out.below hB3)
    replace HB := Lib.hid (belowTo HB.out hB3)
    clear hb3 hB3
    go_wp2
    go_returns
    exact ⟨rfl, HB.out⟩
  · have C1 : Hid (∀ (w' : World) (v0 : Value), ReadsVecs w' v0 (l) → EtOk w' → Calls Tryd.prog 75 #[v0] w' (fun e w'' => e = .returned (.bool (true)) ∧ Below w'.heap.size w' w'')) := fun w' v0 h0 hg' => by
      have h := surfaceAmple_any v0 (l) w' h0 hg'
      rw [hk] at h
      exact h
    have C2 : Hid (∀ (w' : World) (v0 : Value), ReadsVecs w' v0 (l) → EtOk w' → Calls Tryd.prog 76 #[v0] w' (fun e w'' => e = .returned (.bool (true)) ∧ Below w'.heap.size w' w'')) := fun w' v0 h0 hg' => by
      have h := specSurfaceAmple_any v0 (l) w' h0
      rw [hk] at h
      exact h
    have q1 := amp8_ample hk
    have q2 := amp8_conv hk
    have q3 := amp8_few hk
    have i6 : (l.length : Int) ≤ 6 := by omega
    have C3 : Hid (∀ (w' : World) (v0 : Value) (v1 : Value), ReadsVecs w' v0 (l) → ReadsInts w' v1 (List.replicate l.length 1) → EtOk w' → Calls Tryd.prog 35 #[v0, v1] w' (fun e w'' => e = .returned (.bool (true)) ∧ Below w'.heap.size w' w'')) := fun w' v0 v1 h0 h1 hg' => by
      have h := divisorAmple_any v0 (l) v1 (List.replicate l.length 1) w' h0 h1 hg'
      rw [q1] at h
      exact h
    have C4 : Hid (∀ (w' : World) (v0 : Value), ReadsVecs w' v0 (l) → EtOk w' → Calls Tryd.prog 77 #[v0] w' (fun e w'' => e = .returned (.bool (true)) ∧ Below w'.heap.size w' w'')) := fun w' v0 h0 hg' => by
      have h := fanConvex_any v0 l w' h0 hg'
      rw [q2] at h
      exact h
    clear hk q1 q2
    obtain ⟨k0, ki, kz0, kz1, kz2⟩ := info_parts infoInt
    have HE := Lib.hid (fun w' => Ints.empty w')
    obtain ⟨va, vc, rfl, _⟩ := Hf.out
    go_wp2_with fail
    refine Calls.mono (C1.out _ _ (Hf.out.below (by go_grown)) (HG.out.below (by go_grown))) ?_
    rintro e w2 ⟨rfl, hb2⟩
    have hB2 := belowTo (a := w1) (by go_grown) hb2
    replace Hf := Lib.hid (Hf.out.below hB2)
    replace HG := Lib.hid (HG.out.below hB2)
    replace HB := Lib.hid (belowTo HB.out hB2)
    clear hb2 hB2
    go_wp2_with fail
    refine Calls.mono (C2.out _ _ (Hf.out.below (by go_grown)) (HG.out.below (by go_grown))) ?_
    rintro e w3 ⟨rfl, hb3⟩
    have hB3 := belowTo (a := w2) (by go_grown) hb3
    replace Hf := Lib.hid (Hf.out.below hB3)
    replace HG := Lib.hid (HG.out.below hB3)
    replace HB := Lib.hid (belowTo HB.out hB3)
    clear hb3 hB3
    go_wp2_with fail
    have HE1 := Lib.hid ((HE.out w3))
    clear HE
    go_wp2
    go_loopw [6, 7] (fun s6 s7 wr => ∃ k : Nat, k ≤ l.length ∧ s7 = .int .i64 k ∧ Hid (Ints wr w3.heap.size s6 (List.replicate k 1)) ∧ Hid (Below w3.heap.size w3 wr)) (fun s6 s7 _ => l.length - (intOf s7).toNat)
    case atStart => exact ⟨0, Nat.zero_le _, rfl, HE1, by show Below _ _ _; go_grown⟩
    case round =>
      obtain ⟨k, hk, rfl, HI, HBr⟩ := hrel
      have i1 : (0 : Int) ≤ (k : Int) := by omega
      by_cases hlt : k < l.length
      · have i2 : (k : Int) < (l.length : Int) := by omega
        have hbr := HBr.out.size
        have hown : wr.ownsRow w3.heap.size 3 1 _ _ _ := HI.out
        rw [List.length_replicate] at hown
        clear HI HE1
        go_wp2_with (at_builtin; refine wpList_append_own _ rfl _ _ 24 rfl w3.heap.size 3 k0 (.int .i64 0) 1 8 Tryd.underlying24 ki kz0 kz1 kz2 rfl (by decide) _ _ _ rfl (hown.alloc _) ⟨wr.heap.size, 0, none⟩ 1 1 [.int .i64 1] rfl rfl ?c1 ?c2 ?c3 ?c4 ?c5 ?_)
        case c1 =>
          intro j u hj
          match j, hj with
          | 0, hj => simp at hj; subst hj; simp [Addr.add]
        case c2 => intro u hu; simp at hu; subst hu; rfl
        case c3 => unfold maxLen; omega
        case c4 => omega
        case c5 => simp; omega
        intro v' w8' hown' hgrow _
        have hB8 : Below w3.heap.size w3 w8' := (HBr.out.alloc hbr _).grown hgrow (by simp; omega) (fun k hk => (hown.lt k hk).1)
        have HF := Lib.hid (ones_snoc hown')
        have HB8 := Lib.hid hB8
        clear hown hown' hgrow hB8 HBr
        go_wp2
        go_roundw
        case rel => exact ⟨k + 1, by omega, by go_num, HF, HB8⟩
        case measure => simp [intOf]; omega
      · have hkn : k = l.length := by omega
        obtain ⟨w4, hw4⟩ : ∃ w4, w4 = wr := ⟨_, rfl⟩
        subst hw4
        have hB4 := HBr.out
        have i2 : ¬ (k : Int) < (l.length : Int) := by omega
        replace Hf := Lib.hid (Hf.out.below hB4)
        replace HG := Lib.hid (HG.out.below hB4)
        replace HB := Lib.hid (belowTo HB.out hB4)
        clear HBr hB4
        subst hkn
        have Hd := Lib.hid (HI.out.reads (by simp; omega))
        clear HI HE1
        go_wp2_with fail
        refine Calls.mono (C3.out _ _ _ (Hf.out.below (by go_grown)) (Hd.out.below (by go_grown)) (HG.out.below (by go_grown))) ?_
        rintro e w5 ⟨rfl, hb5⟩
        have hB5 := belowTo (a := w4) (by go_grown) hb5
        replace Hf := Lib.hid (Hf.out.below hB5)
        replace Hd := Lib.hid (Hd.out.below hB5)
        replace HG := Lib.hid (HG.out.below hB5)
        replace HB := Lib.hid (belowTo HB.out hB5)
        clear hb5 hB5
        go_wp2_with fail
        refine Calls.mono (C4.out _ _ (Hf.out.below (by go_grown)) (HG.out.below (by go_grown))) ?_
        rintro e w6 ⟨rfl, hb6⟩
        have hB6 := belowTo (a := w5) (by go_grown) hb6
        replace Hf := Lib.hid (Hf.out.below hB6)
        replace Hd := Lib.hid (Hd.out.below hB6)
        replace HG := Lib.hid (HG.out.below hB6)
        replace HB := Lib.hid (belowTo HB.out hB6)
        clear hb6 hB6
        go_wp2
        go_returns
        exact ⟨rfl, HB.out⟩
end Go.Proofs.YtohojjoediibhaaDoor
