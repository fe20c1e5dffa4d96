/- FnResolve: the walk. -/
import Derived.Test.YtdlofnkimikaiaaDoorUl
import Derived.Test.YtdlofnkimikaiaaDoorOc
import Derived.Test.YtdlofnkimikaiaaDoorSm
import Derived.Test.YtdlofnkimikaiaaDoorBt
import Derived.Test.YtdlofnkimikaiaaDoorRm
import Derived.Test.YtdlofnkimikaiaaDoorSx
import Derived.Test.YtdlofnkimikaiaaDoorB9
namespace Go.Proofs.YtdlofnkimikaiaaDoor
open Go.RowKit

set_option maxRecDepth 100000 in
set_option maxHeartbeats 16000000 in
theorem fnResolve_any (a : Option Addr) (len cap : Nat) (w : World) (h : Bytes w a len cap) (hg : EtOk w) :
    Calls Tryd.prog 11 #[.slice a len cap] w fun e w' => e = .returned (.bool true) ∧ Below w.heap.size w w' := by
  by_cases hlen : len ≤ 1048576
  case neg =>
    have j1 : (1048576 : Int) < (len : Int) := by omega
    clear h hg
    go_enter Tryd.func11, Tryd.ntmps11
    go_wp2
    go_returns
    exact ⟨rfl, by go_grown⟩
  case pos =>
  have j1 : (len : Int) ≤ 1048576 := by omega
  have HO := Lib.hid (drawFanResolve_any w a len cap h)
  clear h
  go_enter Tryd.func11, Tryd.ntmps11
  go_wp2_with fail
  refine Calls.mono HO.out ?_
  rintro e w1 ⟨v, l, rfl, hV, h2, h20, hb1⟩
  have HG := Lib.hid (hg.below hb1)
  have Hf := Lib.hid hV
  have HB : Hid (Below w.heap.size w w1) := hb1
  clear hb1 HO hg hV
  cases hk : resB l
  · have C1 : Hid (∀ (w' : World) (v0 : Value), ReadsVecs w' v0 (l) → EtOk w' → Calls Tryd.prog 27 #[v0] w' (GivesVecsOk w' ([]) (false))) := fun w' v0 h0 hg' => by
      have h := fanResolve_any v0 l w' h0 hg'
      rw [hk] at h
      exact h
    have C2 : Hid (∀ (w' : World) (v0 : Value), ReadsVecs w' v0 (l) → EtOk w' → Calls Tryd.prog 48 #[v0] w' (GivesVecsOk w' ([]) (false))) := fun w' v0 h0 hg' => by
      have h := specFanResolve_any v0 l w' h0
      rw [hk] at h
      exact h
    clear hk
    go_wp2_with fail
    refine Calls.mono (C1.out _ _ (Hf.out.below (by go_grown)) (HG.out.below (by go_grown))) ?_
    rintro e w2 ⟨v2, rfl, hI2, hb2⟩
    have hB2 := belowTo (a := w1) (by go_grown) hb2
    replace Hf := Lib.hid (Hf.out.below hB2)
    replace HG := Lib.hid (HG.out.below hB2)
    replace HB := Lib.hid (belowTo HB.out hB2)
    clear hb2 hB2
    have Ho1 := Lib.hid (Vecs.reads hI2 (by simp))
    clear hI2
    go_wp2_with fail
    refine Calls.mono (C2.out _ _ (Hf.out.below (by go_grown)) (HG.out.below (by go_grown))) ?_
    rintro e w3 ⟨v3, rfl, hI3, hb3⟩
    have hB3 := belowTo (a := w2) (by go_grown) hb3
    replace Hf := Lib.hid (Hf.out.below hB3)
    replace Ho1 := Lib.hid (Ho1.out.below hB3)
    replace HG := Lib.hid (HG.out.below hB3)
    replace HB := Lib.hid (belowTo HB.out hB3)
    clear hb3 hB3
    have Ho2 := Lib.hid (Vecs.reads hI3 (by simp))
    clear hI3
    go_wp2_with fail
    refine Calls.mono (sameVecs_eq _ _ _ _ (Ho1.out.below (by go_grown)) (Ho2.out.below (by go_grown))) ?_
    rintro e w4 ⟨rfl, hb4⟩
    have hB4 := belowTo (a := w3) (by go_grown) hb4
    replace Hf := Lib.hid (Hf.out.below hB4)
    replace Ho1 := Lib.hid (Ho1.out.below hB4)
    replace Ho2 := Lib.hid (Ho2.out.below hB4)
    replace HG := Lib.hid (HG.out.below hB4)
    replace HB := Lib.hid (belowTo HB.out hB4)
    clear hb4 hB4
    go_wp2_with fail
    refine Calls.mono (sameVecs_eq _ _ _ _ (Ho1.out.below (by go_grown)) (Ho2.out.below (by go_grown))) ?_
    rintro e w5 ⟨rfl, hb5⟩
    have hB5 := belowTo (a := w4) (by go_grown) hb5
    replace Hf := Lib.hid (Hf.out.below hB5)
    replace Ho1 := Lib.hid (Ho1.out.below hB5)
    replace Ho2 := Lib.hid (Ho2.out.below hB5)
    replace HG := Lib.hid (HG.out.below hB5)
    replace HB := Lib.hid (belowTo HB.out hB5)
    clear hb5 hB5
    go_wp2
    go_returns
    exact ⟨rfl, HB.out⟩
  · have C1 : Hid (∀ (w' : World) (v0 : Value), ReadsVecs w' v0 (l) → EtOk w' → Calls Tryd.prog 27 #[v0] w' (GivesVecsOk w' (resZ l) (true))) := fun w' v0 h0 hg' => by
      have h := fanResolve_any v0 l w' h0 hg'
      rw [hk] at h
      exact h
    have C2 : Hid (∀ (w' : World) (v0 : Value), ReadsVecs w' v0 (l) → EtOk w' → Calls Tryd.prog 48 #[v0] w' (GivesVecsOk w' (resZ l) (true))) := fun w' v0 h0 hg' => by
      have h := specFanResolve_any v0 l w' h0
      rw [hk] at h
      exact h
    have q0 := res_smooth hk
    have q1 := smooth_len q0
    have C3 : Hid (∀ (w' : World) (v0 : Value), ReadsVecs w' v0 (resZ l) → EtOk w' → Calls Tryd.prog 25 #[v0] w' (fun e w'' => e = .returned (.bool (true)) ∧ Below w'.heap.size w' w'')) := fun w' v0 h0 hg' => by
      have h := fanSmooth_any v0 (resZ l) w' h0 hg'
      rw [q0] at h
      exact h
    have HX : Hid (∀ i, i < l.length → ∃ k, k < (resZ l).length ∧ cyc (resZ l) k = cyc l i) := fun i hi => res_has hi
    clear hk q0
    generalize resZ l = m at *
    go_wp2_with fail
    refine Calls.mono (C1.out _ _ (Hf.out.below (by go_grown)) (HG.out.below (by go_grown))) ?_
    rintro e w2 ⟨v2, rfl, hI2, hb2⟩
    have hB2 := belowTo (a := w1) (by go_grown) hb2
    replace Hf := Lib.hid (Hf.out.below hB2)
    replace HG := Lib.hid (HG.out.below hB2)
    replace HB := Lib.hid (belowTo HB.out hB2)
    clear hb2 hB2
    have Ho := Lib.hid (Vecs.reads hI2 (by omega))
    clear hI2
    go_wp2_with fail
    refine Calls.mono (C2.out _ _ (Hf.out.below (by go_grown)) (HG.out.below (by go_grown))) ?_
    rintro e w3 ⟨v3, rfl, hI3, hb3⟩
    have hB3 := belowTo (a := w2) (by go_grown) hb3
    replace Hf := Lib.hid (Hf.out.below hB3)
    replace Ho := Lib.hid (Ho.out.below hB3)
    replace HG := Lib.hid (HG.out.below hB3)
    replace HB := Lib.hid (belowTo HB.out hB3)
    clear hb3 hB3
    have Ho2 := Lib.hid (Vecs.reads hI3 (by omega))
    clear hI3
    go_wp2_with fail
    refine Calls.mono (sameVecs_eq _ _ _ _ (Ho.out.below (by go_grown)) (Ho2.out.below (by go_grown))) ?_
    rintro e w4 ⟨rfl, hb4⟩
    have hB4 := belowTo (a := w3) (by go_grown) hb4
    replace Hf := Lib.hid (Hf.out.below hB4)
    replace Ho := Lib.hid (Ho.out.below hB4)
    replace Ho2 := Lib.hid (Ho2.out.below hB4)
    replace HG := Lib.hid (HG.out.below hB4)
    replace HB := Lib.hid (belowTo HB.out hB4)
    clear hb4 hB4
    clear Ho2
    obtain ⟨fb, fo, fc, rfl, -, -, hfb, hfs⟩ := Hf.out.open (by omega)
    have Hfs := Lib.hid hfs
    obtain ⟨ob, oo, oc, rfl, -, -, hob, hos⟩ := Ho.out.open (by omega)
    have Hos := Lib.hid hos
    clear hfs hos
    obtain ⟨M, hM⟩ : ∃ M, M = m.length := ⟨_, rfl⟩
    obtain ⟨n, hn⟩ : ∃ n, n = l.length := ⟨_, rfl⟩
    rw [← hM] at HX Hos Ho q1 ⊢
    rw [← hn] at HX Hfs Hf h2 h20 ⊢
    have HM := Lib.hid hM
    have Hn := Lib.hid hn
    clear hM hn
    go_wp2
    go_loopw [8] (fun s8 wr => ∃ k : Nat, k ≤ n ∧ s8 = .int .i64 k ∧ Hid (Below w4.heap.size w4 wr)) (fun s8 _ => n - (intOf s8).toNat)
    case atStart => exact ⟨0, Nat.zero_le _, rfl, by show Below _ _ _; go_grown⟩
    case round =>
      obtain ⟨k, hk, rfl, HBr⟩ := hrel
      have i1 : (0 : Int) ≤ (k : Int) := by omega
      by_cases hlt : k < n
      · have i2 : (k : Int) < (n : Int) := by omega
        obtain ⟨wo, hwo⟩ : ∃ wo, wo = wr := ⟨_, rfl⟩
        subst hwo
        obtain ⟨j0, hj0, ej⟩ := HX.out k hlt
        go_wp2
        go_loopw [9, 10] (fun s9 s10 wr => ∃ j : Nat, j ≤ M ∧ s10 = .int .i64 j ∧ (∃ b : Bool, s9 = .bool b ∧ (j0 < j → b = true)) ∧ Hid (Below w4.heap.size w4 wr)) (fun _ s10 _ => M - (intOf s10).toNat)
        case atStart => exact ⟨0, Nat.zero_le _, rfl, ⟨false, rfl, fun h => by omega⟩, HBr⟩
        case round =>
          obtain ⟨j, hj, rfl, ⟨b, rfl, hjb⟩, HBj⟩ := hrel
          have z1 : (0 : Int) ≤ (j : Int) := by omega
          by_cases hjt : j < M
          · have z2 : (j : Int) < (M : Int) := by omega
            obtain ⟨a0, a1⟩ := Hos.out wr HBj.out j hjt
            obtain ⟨b0, b1⟩ := Hfs.out wr HBj.out k hlt
            have HJB := Lib.hid hjb
            clear hjb
            cases b
            · by_cases he : cyc m j = cyc l k
              · rw [he] at a0 a1
                generalize cyc l k = P at *
                obtain ⟨px, py⟩ := P
                dsimp only at a0 a1 b0 b1
                have qs := fun w' => run_eqSame px py w'
                clear he ej HX Hos Hfs
                go_wp2_with fail
                go_quiet (fail)
                go_wp2
                go_roundw
                case rel => exact ⟨j + 1, by omega, by go_num, ⟨true, rfl, fun _ => rfl⟩, below_drewN HBj.out _⟩
                case measure => simp [intOf]; omega
              · have hne : j ≠ j0 := fun e => he (by rw [e]; exact ej)
                generalize cyc m j = Q at *
                generalize cyc l k = P at *
                obtain ⟨px, py⟩ := P
                obtain ⟨qx, qy⟩ := Q
                dsimp only at a0 a1 b0 b1
                have qs := fun w' => run_eqDiff qx qy px py w' (fun hc => he (Prod.ext hc.1 hc.2))
                clear he ej HX Hos Hfs
                go_wp2_with fail
                go_quiet (fail)
                go_wp2
                go_roundw
                case rel => exact ⟨j + 1, by omega, by go_num, ⟨false, rfl, fun h => HJB.out (by omega)⟩, below_drewN HBj.out _⟩
                case measure => simp [intOf]; omega
            · clear ej HX Hos Hfs
              go_wp2_with fail
              go_quiet (fail)
              go_wp2
              go_roundw
              case rel => exact ⟨j + 1, by omega, by go_num, ⟨true, rfl, fun _ => rfl⟩, below_drewN HBj.out _⟩
              case measure => simp [intOf]; omega
          · obtain rfl : b = true := hjb (by omega)
            have z2 : ¬ (j : Int) < (M : Int) := by omega
            clear hjb ej
            go_wp2
            go_roundw
            case rel => exact ⟨k + 1, by omega, by go_num, HBj⟩
            case measure => simp [intOf]; omega
      · have hkn : k = n := by omega
        obtain ⟨w5, hw5⟩ : ∃ w5, w5 = wr := ⟨_, rfl⟩
        subst hw5
        have hB5 := HBr.out
        have i2 : ¬ (k : Int) < (n : Int) := by omega
        replace Hf := Lib.hid (Hf.out.below hB5)
        replace Ho := Lib.hid (Ho.out.below hB5)
        replace HG := Lib.hid (HG.out.below hB5)
        replace HB := Lib.hid (belowTo HB.out hB5)
        clear HBr hB5
        go_wp2_with fail
        refine Calls.mono (C3.out _ _ (Ho.out.below (by go_grown)) (HG.out.below (by go_grown))) ?_
        rintro e w6 ⟨rfl, hb6⟩
        have hB6 := belowTo (a := w5) (by go_grown) hb6
        replace Hf := Lib.hid (Hf.out.below hB6)
        replace Ho := Lib.hid (Ho.out.below hB6)
        replace HG := Lib.hid (HG.out.below hB6)
        replace HB := Lib.hid (belowTo HB.out hB6)
        clear hb6 hB6
        go_wp2
        go_returns
        exact ⟨rfl, HB.out⟩
end Go.Proofs.YtdlofnkimikaiaaDoor
