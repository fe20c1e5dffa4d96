/- FnTidy: the walk. -/
import Derived.Test.YtdlofnkimikaiaaDoorUl
import Derived.Test.YtdlofnkimikaiaaDoorOa
import Derived.Test.YtdlofnkimikaiaaDoorSm
import Derived.Test.YtdlofnkimikaiaaDoorSs
import Derived.Test.YtdlofnkimikaiaaDoorB2
import Derived.Test.YtdlofnkimikaiaaDoorBa
import Derived.Test.YtdlofnkimikaiaaDoorRg
import Derived.Test.YtdlofnkimikaiaaDoorB9
namespace Go.Proofs.YtdlofnkimikaiaaDoor
open Go.RowKit

set_option maxRecDepth 100000 in
set_option maxHeartbeats 16000000 in
theorem fnTidy_any (a : Option Addr) (len cap : Nat) (w : World) (h : Bytes w a len cap) (hg : EtOk w) :
    Calls Tryd.prog 4 #[.slice a len cap] w fun e w' => e = .returned (.bool true) ∧ Below w.heap.size w w' := by
  by_cases hlen : len ≤ 1048576
  case neg =>
    have j1 : (1048576 : Int) < (len : Int) := by omega
    clear h hg
    go_enter Tryd.func4, Tryd.ntmps4
    go_wp2
    go_returns
    exact ⟨rfl, by go_grown⟩
  case pos =>
  have j1 : (len : Int) ≤ 1048576 := by omega
  have HO := Lib.hid (drawFanTidy_any w a len cap h)
  clear h
  go_enter Tryd.func4, Tryd.ntmps4
  go_wp2_with fail
  refine Calls.mono HO.out ?_
  rintro e w1 ⟨v, l, rfl, hV, h2, h20, hb1⟩
  have HG := Lib.hid (hg.below hb1)
  have Hf := Lib.hid hV
  have HB : Hid (Below w.heap.size w w1) := hb1
  clear hb1 HO hg hV
  cases hk : fanB l
  · have C1 : Hid (∀ (w' : World) (v0 : Value), ReadsVecs w' v0 (l) → EtOk w' → Calls Tryd.prog 16 #[v0] w' (GivesVecsOk w' ([]) (false))) := fun w' v0 h0 hg' => by
      have h := fanTidy_any v0 l w' h0 hg'
      rw [hk] at h
      exact h
    have C2 : Hid (∀ (w' : World) (v0 : Value), ReadsVecs w' v0 (l) → EtOk w' → Calls Tryd.prog 19 #[v0] w' (GivesVecsOk w' ([]) (false))) := fun w' v0 h0 hg' => by
      have h := specFanTidy_any v0 l w' h0
      rw [hk] at h
      exact h
    clear hk
    go_wp2_with fail
    refine Calls.mono (C1.out _ _ (Hf.out.below (by go_grown)) (HG.out.below (by go_grown))) ?_
    rintro e w2 ⟨v2, rfl, hI2, hb2⟩
    have hB2 := belowTo (a := w1) (by go_grown) hb2
    replace Hf := Lib.hid (Hf.out.below hB2)
    replace HG := Lib.hid (HG.out.below hB2)
    replace HB := Lib.hid (belowTo HB.out hB2)
    clear hb2 hB2
    have Ho1 := Lib.hid (Vecs.reads hI2 (by simp))
    clear hI2
    go_wp2_with fail
    refine Calls.mono (C2.out _ _ (Hf.out.below (by go_grown)) (HG.out.below (by go_grown))) ?_
    rintro e w3 ⟨v3, rfl, hI3, hb3⟩
    have hB3 := belowTo (a := w2) (by go_grown) hb3
    replace Hf := Lib.hid (Hf.out.below hB3)
    replace Ho1 := Lib.hid (Ho1.out.below hB3)
    replace HG := Lib.hid (HG.out.below hB3)
    replace HB := Lib.hid (belowTo HB.out hB3)
    clear hb3 hB3
    have Ho2 := Lib.hid (Vecs.reads hI3 (by simp))
    clear hI3
    go_wp2_with fail
    refine Calls.mono (sameVecs_eq _ _ _ _ (Ho1.out.below (by go_grown)) (Ho2.out.below (by go_grown))) ?_
    rintro e w4 ⟨rfl, hb4⟩
    have hB4 := belowTo (a := w3) (by go_grown) hb4
    replace Hf := Lib.hid (Hf.out.below hB4)
    replace Ho1 := Lib.hid (Ho1.out.below hB4)
    replace Ho2 := Lib.hid (Ho2.out.below hB4)
    replace HG := Lib.hid (HG.out.below hB4)
    replace HB := Lib.hid (belowTo HB.out hB4)
    clear hb4 hB4
    go_wp2_with fail
    refine Calls.mono (sameVecs_eq _ _ _ _ (Ho1.out.below (by go_grown)) (Ho2.out.below (by go_grown))) ?_
    rintro e w5 ⟨rfl, hb5⟩
    have hB5 := belowTo (a := w4) (by go_grown) hb5
    replace Hf := Lib.hid (Hf.out.below hB5)
    replace Ho1 := Lib.hid (Ho1.out.below hB5)
    replace Ho2 := Lib.hid (Ho2.out.below hB5)
    replace HG := Lib.hid (HG.out.below hB5)
    replace HB := Lib.hid (belowTo HB.out hB5)
    clear hb5 hB5
    go_wp2
    go_returns
    exact ⟨rfl, HB.out⟩
  · have C1 : Hid (∀ (w' : World) (v0 : Value), ReadsVecs w' v0 (l) → EtOk w' → Calls Tryd.prog 16 #[v0] w' (GivesVecsOk w' (tidyL l) (true))) := fun w' v0 h0 hg' => by
      have h := fanTidy_any v0 l w' h0 hg'
      rw [hk] at h
      exact h
    have C2 : Hid (∀ (w' : World) (v0 : Value), ReadsVecs w' v0 (l) → EtOk w' → Calls Tryd.prog 19 #[v0] w' (GivesVecsOk w' (tidyL l) (true))) := fun w' v0 h0 hg' => by
      have h := specFanTidy_any v0 l w' h0
      rw [hk] at h
      exact h
    have q0 := fan_ofB hk
    have q1 := fan_sort hk
    have q2 := tidy_strictF hk
    have q3 := fan_tidyF hk
    have q4 := fan_len q3
    have q5 := fan_prim q3
    have C3 : Hid (∀ (w' : World) (v0 : Value), ReadsVecs w' v0 (l) → EtOk w' → Calls Tryd.prog 21 #[v0] w' (GivesVecsOk w' (tidyL l) (true))) := fun w' v0 h0 hg' => by
      have h := fanOfR_any v0 l w' h0 (by omega) (by omega) hg'
      rw [q0, q1] at h
      exact h
    have C4 : Hid (∀ (k : Nat), k + 1 < (tidyL l).length → ∀ (w' : World), EtOk w' → Calls Tryd.prog 20 #[.agg #[.int .i64 ((cyc (tidyL l) k).1), .int .i64 ((cyc (tidyL l) k).2)], .agg #[.int .i64 ((cyc (tidyL l) (k + 1)).1), .int .i64 ((cyc (tidyL l) (k + 1)).2)]] w' (fun e w'' => e = .returned (.bool true) ∧ Below w'.heap.size w' w'')) := fun k hkk w' hg' => by
      have h := vecAhead_any (cyc (tidyL l) k).1 (cyc (tidyL l) k).2 (cyc (tidyL l) (k + 1)).1 (cyc (tidyL l) (k + 1)).2 w' hg'
      rw [ahead_ok (q5 k) (q5 (k + 1)) (strict_nx q2 hkk)] at h
      exact h
    clear hk q0 q1 q2 q3 q5
    generalize tidyL l = m at *
    go_wp2_with fail
    refine Calls.mono (C1.out _ _ (Hf.out.below (by go_grown)) (HG.out.below (by go_grown))) ?_
    rintro e w2 ⟨v2, rfl, hI2, hb2⟩
    have hB2 := belowTo (a := w1) (by go_grown) hb2
    replace Hf := Lib.hid (Hf.out.below hB2)
    replace HG := Lib.hid (HG.out.below hB2)
    replace HB := Lib.hid (belowTo HB.out hB2)
    clear hb2 hB2
    have Ho := Lib.hid (Vecs.reads hI2 (by omega))
    clear hI2
    go_wp2_with fail
    refine Calls.mono (C2.out _ _ (Hf.out.below (by go_grown)) (HG.out.below (by go_grown))) ?_
    rintro e w3 ⟨v3, rfl, hI3, hb3⟩
    have hB3 := belowTo (a := w2) (by go_grown) hb3
    replace Hf := Lib.hid (Hf.out.below hB3)
    replace Ho := Lib.hid (Ho.out.below hB3)
    replace HG := Lib.hid (HG.out.below hB3)
    replace HB := Lib.hid (belowTo HB.out hB3)
    clear hb3 hB3
    have Ho2 := Lib.hid (Vecs.reads hI3 (by omega))
    clear hI3
    go_wp2_with fail
    refine Calls.mono (sameVecs_eq _ _ _ _ (Ho.out.below (by go_grown)) (Ho2.out.below (by go_grown))) ?_
    rintro e w4 ⟨rfl, hb4⟩
    have hB4 := belowTo (a := w3) (by go_grown) hb4
    replace Hf := Lib.hid (Hf.out.below hB4)
    replace Ho := Lib.hid (Ho.out.below hB4)
    replace Ho2 := Lib.hid (Ho2.out.below hB4)
    replace HG := Lib.hid (HG.out.below hB4)
    replace HB := Lib.hid (belowTo HB.out hB4)
    clear hb4 hB4
    clear Ho2
    obtain ⟨ob, oo, oc, rfl, -, -, hob, hos⟩ := Ho.out.open (by omega)
    have Hos := Lib.hid hos
    clear hos
    obtain ⟨N, hN⟩ : ∃ N, m.length = N + 1 := ⟨m.length - 1, by omega⟩
    have HN := Lib.hid hN
    have hML : (m.length : Int) = (N : Int) + 1 := by omega
    clear hN
    go_wp2
    go_loopw [8] (fun s8 wr => ∃ k : Nat, k ≤ N ∧ s8 = .int .i64 ((k : Int) + 1) ∧ Hid (Below w4.heap.size w4 wr)) (fun s8 _ => N + 1 - (intOf s8).toNat)
    case atStart => exact ⟨0, Nat.zero_le _, rfl, by show Below _ _ _; go_grown⟩
    case round =>
      obtain ⟨k, hk, rfl, HBr⟩ := hrel
      have i1 : (0 : Int) ≤ (k : Int) := by omega
      have i3 : (0 : Int) ≤ (k : Int) + 1 := by omega
      by_cases hlt : k < N
      · have i2 : (k : Int) + 1 < (m.length : Int) := by omega
        have i4 : (k : Int) < (m.length : Int) := by omega
        have i5 : (k : Int) + 1 - 1 = (k : Int) := by omega
        have i6 : ((k : Int) + 1).toNat = k + 1 := by omega
        obtain ⟨a0, a1⟩ := Hos.out wr HBr.out k (by omega)
        obtain ⟨b0, b1⟩ := Hos.out wr HBr.out (k + 1) (by omega)
        have HC4 := Lib.hid (fun w' (hb : Below wr.heap.size wr w') => C4.out k (by omega) w' ((HG.out.below HBr.out).below hb))
        generalize (cyc m k).1 = px at *
        generalize (cyc m k).2 = py at *
        generalize (cyc m (k + 1)).1 = rx at *
        generalize (cyc m (k + 1)).2 = ry at *
        have hbr := HBr.out
        have qk : IntKind.i64.wrap (k : Int) = (k : Int) := by rw [IntKind.wrap_i64]; omega
        have qk2 : IntKind.i64.wrap ((k : Int) + 1 + 1) = (k : Int) + 1 + 1 := by rw [IntKind.wrap_i64]; omega
        clear C1 C2 C3 C4 Hos HBr hML
        go_wp2
        refine wp_region_any (by kernel_rfl) ?_
        try (change wpAny _ _ _ _ _ _ _ (World.drew _))
        refine wpAny_take (i := 0) (v := ?_) rfl (by kernel_rfl) (by kernel_rfl) (by kernel_rfl) (fun _ _ _ h => h) (Or.inl ⟨by rfl, ?_⟩) ?_
        rotate_left
        focus (intro w0; go_simp; try with_reducible rfl)
        refine wpAny_take (i := 1) (v := ?_) rfl (by kernel_rfl) (by kernel_rfl) (by kernel_rfl) (fun _ _ _ h => h) (Or.inl ⟨by rfl, ?_⟩) ?_
        rotate_left
        focus (intro w0; go_simp; try with_reducible rfl)
        refine wpAny_take (i := 2) (v := ?_) rfl (by kernel_rfl) (by kernel_rfl) (by kernel_rfl) (fun _ _ _ h => h) (Or.inl ⟨by rfl, ?_⟩) ?_
        rotate_left
        focus (intro w0; go_simp; try with_reducible rfl)
        refine wpAny_take (i := 3) (v := ?_) rfl (by kernel_rfl) (by kernel_rfl) (by kernel_rfl) (fun _ _ _ h => h) (Or.inl ⟨by rfl, ?_⟩) ?_
        rotate_left
        focus (intro w0; go_simp; try with_reducible rfl)
        refine wpAny_take (i := 5) (v := ?_) rfl (by kernel_rfl) (by kernel_rfl) (by kernel_rfl) (fun _ _ _ h => h) (Or.inl ⟨by rfl, ?_⟩) ?_
        rotate_left
        focus (intro w0; go_simp; try with_reducible rfl)
        refine wpAny_take (i := 6) (v := ?_) rfl (by kernel_rfl) (by kernel_rfl) (by kernel_rfl) (fun _ _ _ h => h) (Or.inl ⟨by rfl, ?_⟩) ?_
        rotate_left
        focus (intro w0; go_simp; try with_reducible rfl)
        refine wpAny_take (i := 7) (v := ?_) rfl (by kernel_rfl) (by kernel_rfl) (by kernel_rfl) (fun _ _ _ h => h) (Or.inl ⟨by rfl, ?_⟩) ?_
        rotate_left
        focus (intro w0; go_simp; try with_reducible rfl)
        refine wpAny_ready (rs := [4, 8]) (by kernel_rfl) (by simp) (AllReady.cons rfl (fun K hK => ?_) (AllReady.cons rfl (fun K hK => ?_) (AllReady.nil)))
        focus
          go_simp
          refine hK _ _ ?_
          clear hK K
          refine wpAny_ready (rs := [8]) (by kernel_rfl) (by simp) (AllReady.cons rfl (fun K hK => ?_) (AllReady.nil))
          go_simp
          refine hK _ _ ?_
          clear hK K
          refine wpAny_ready (rs := [9]) (by kernel_rfl) (by simp) (AllReady.cons rfl (fun K hK => ?_) (AllReady.nil))
          go_simp
          (refine Calls.mono (HC4.out _ (by go_grown)) ?_; rintro e w7 ⟨rfl, hb7⟩; have hB7 := belowTo (a := wr) (by go_grown) hb7; have HB7 := Lib.hid (belowTo hbr hB7); clear hb7 hB7)
          refine hK _ _ ?_
          clear hK K
          refine wpAny_seq 10 rfl (by kernel_rfl) ?_
          simp only [List.drop_succ_cons, List.drop_zero]
        rotate_left 1
        focus
          go_simp
          refine hK _ _ ?_
          clear hK K
          refine wpAny_ready (rs := [4]) (by kernel_rfl) (by simp) (AllReady.cons rfl (fun K hK => ?_) (AllReady.nil))
          go_simp
          refine hK _ _ ?_
          clear hK K
          refine wpAny_ready (rs := [9]) (by kernel_rfl) (by simp) (AllReady.cons rfl (fun K hK => ?_) (AllReady.nil))
          go_simp
          (refine Calls.mono (HC4.out _ (by go_grown)) ?_; rintro e w7 ⟨rfl, hb7⟩; have hB7 := belowTo (a := wr) (by go_grown) hb7; have HB7 := Lib.hid (belowTo hbr hB7); clear hb7 hB7)
          refine hK _ _ ?_
          clear hK K
          refine wpAny_seq 10 rfl (by kernel_rfl) ?_
          simp only [List.drop_succ_cons, List.drop_zero]
        all_goals
          go_wp2
          go_roundw
          case rel => exact ⟨k + 1, by omega, by go_num, HB7⟩
          case measure => simp [intOf]; omega
      · have i2 : ¬ (k : Int) + 1 < (m.length : Int) := by omega
        obtain ⟨w5, hw5⟩ : ∃ w5, w5 = wr := ⟨_, rfl⟩
        subst hw5
        have hB5 := HBr.out
        replace Hf := Lib.hid (Hf.out.below hB5)
        replace Ho := Lib.hid (Ho.out.below hB5)
        replace HG := Lib.hid (HG.out.below hB5)
        replace HB := Lib.hid (belowTo HB.out hB5)
        clear HBr hB5
        go_wp2_with fail
        refine Calls.mono (C3.out _ _ (Hf.out.below (by go_grown)) (HG.out.below (by go_grown))) ?_
        rintro e w6 ⟨v6, rfl, hI6, hb6⟩
        have hB6 := belowTo (a := w5) (by go_grown) hb6
        replace Hf := Lib.hid (Hf.out.below hB6)
        replace Ho := Lib.hid (Ho.out.below hB6)
        replace HG := Lib.hid (HG.out.below hB6)
        replace HB := Lib.hid (belowTo HB.out hB6)
        clear hb6 hB6
        have Hx := Lib.hid (Vecs.reads hI6 (by omega))
        clear hI6
        go_wp2_with fail
        refine Calls.mono (sameVecs_eq _ _ _ _ (Hx.out.below (by go_grown)) (Ho.out.below (by go_grown))) ?_
        rintro e w7 ⟨rfl, hb7⟩
        have hB7 := belowTo (a := w6) (by go_grown) hb7
        replace Hf := Lib.hid (Hf.out.below hB7)
        replace Ho := Lib.hid (Ho.out.below hB7)
        replace Hx := Lib.hid (Hx.out.below hB7)
        replace HG := Lib.hid (HG.out.below hB7)
        replace HB := Lib.hid (belowTo HB.out hB7)
        clear hb7 hB7
        go_wp2
        go_returns
        exact ⟨rfl, HB.out⟩
end Go.Proofs.YtdlofnkimikaiaaDoor
