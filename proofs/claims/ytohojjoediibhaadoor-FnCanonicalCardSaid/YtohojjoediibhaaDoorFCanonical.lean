/- FnCanonical: the walk. -/
import Derived.Test.YtohojjoediibhaaDoorUe
import Derived.Test.YtohojjoediibhaaDoorNc
import Derived.Test.YtohojjoediibhaaDoorSm
import Derived.Test.YtohojjoediibhaaDoorQk
import Derived.Test.YtohojjoediibhaaDoorBf
import Derived.Test.YtohojjoediibhaaDoorBe
import Derived.Test.YtohojjoediibhaaDoorB9
namespace Go.Proofs.YtohojjoediibhaaDoor
open Go.RowKit

set_option maxRecDepth 100000 in
set_option maxHeartbeats 16000000 in
theorem fnCanonical_any (a : Option Addr) (len cap : Nat) (w : World) (h : Bytes w a len cap) (hg : EtOk w) :
    Calls Tryd.prog 8 #[.slice a len cap] w fun e w' => e = .returned (.bool true) ∧ Below w.heap.size w w' := by
  by_cases hlen : len ≤ 1048576
  case neg =>
    have j1 : (1048576 : Int) < (len : Int) := by omega
    clear h hg
    go_enter Tryd.func8, Tryd.ntmps8
    go_wp2
    go_returns
    exact ⟨rfl, by go_grown⟩
  case pos =>
  have j1 : (len : Int) ≤ 1048576 := by omega
  have HO := Lib.hid (drawDivisorCanonical_any w a len cap h)
  clear h
  go_enter Tryd.func8, Tryd.ntmps8
  go_wp2_with fail
  refine Calls.mono HO.out ?_
  rintro e w1 ⟨v, l, rfl, hV, h2, h20, hb1⟩
  have HG := Lib.hid (hg.below hb1)
  have Hf := Lib.hid hV
  have HB : Hid (Below w.heap.size w w1) := hb1
  clear hb1 HO hg hV
  cases hk : smoothB l
  · have C1 : Hid (∀ (w' : World) (v0 : Value), ReadsVecs w' v0 (l) → EtOk w' → Calls Tryd.prog 38 #[v0] w' (GivesIntsOk w' ([]) (false))) := fun w' v0 h0 hg' => by
      have h := divisorCanonical_any v0 (l) w' h0 hg'
      rw [hk] at h
      exact h
    have C2 : Hid (∀ (w' : World) (v0 : Value), ReadsVecs w' v0 (l) → EtOk w' → Calls Tryd.prog 39 #[v0] w' (GivesIntsOk w' ([]) (false))) := fun w' v0 h0 hg' => by
      have h := specDivisorCanonical_any v0 (l) w' h0
      rw [hk] at h
      exact h
    clear hk
    go_wp2_with fail
    refine Calls.mono (C1.out _ _ (Hf.out.below (by go_grown)) (HG.out.below (by go_grown))) ?_
    rintro e w2 ⟨v2, rfl, hI2, hb2⟩
    have hB2 := belowTo (a := w1) (by go_grown) hb2
    replace Hf := Lib.hid (Hf.out.below hB2)
    replace HG := Lib.hid (HG.out.below hB2)
    replace HB := Lib.hid (belowTo HB.out hB2)
    clear hb2 hB2
    have Ho1 := Lib.hid (Ints.reads hI2 (by simp))
    clear hI2
    go_wp2_with fail
    refine Calls.mono (C2.out _ _ (Hf.out.below (by go_grown)) (HG.out.below (by go_grown))) ?_
    rintro e w3 ⟨v3, rfl, hI3, hb3⟩
    have hB3 := belowTo (a := w2) (by go_grown) hb3
    replace Hf := Lib.hid (Hf.out.below hB3)
    replace Ho1 := Lib.hid (Ho1.out.below hB3)
    replace HG := Lib.hid (HG.out.below hB3)
    replace HB := Lib.hid (belowTo HB.out hB3)
    clear hb3 hB3
    have Ho2 := Lib.hid (Ints.reads hI3 (by simp))
    clear hI3
    go_wp2_with fail
    refine Calls.mono (sameInts_eq _ _ _ _ (Ho1.out.below (by go_grown)) (Ho2.out.below (by go_grown))) ?_
    rintro e w4 ⟨rfl, hb4⟩
    have hB4 := belowTo (a := w3) (by go_grown) hb4
    replace Hf := Lib.hid (Hf.out.below hB4)
    replace Ho1 := Lib.hid (Ho1.out.below hB4)
    replace Ho2 := Lib.hid (Ho2.out.below hB4)
    replace HG := Lib.hid (HG.out.below hB4)
    replace HB := Lib.hid (belowTo HB.out hB4)
    clear hb4 hB4
    go_wp2_with fail
    refine Calls.mono (sameInts_eq _ _ _ _ (Ho1.out.below (by go_grown)) (Ho2.out.below (by go_grown))) ?_
    rintro e w5 ⟨rfl, hb5⟩
    have hB5 := belowTo (a := w4) (by go_grown) hb5
    replace Hf := Lib.hid (Hf.out.below hB5)
    replace Ho1 := Lib.hid (Ho1.out.below hB5)
    replace Ho2 := Lib.hid (Ho2.out.below hB5)
    replace HG := Lib.hid (HG.out.below hB5)
    replace HB := Lib.hid (belowTo HB.out hB5)
    clear hb5 hB5
    go_wp2
    go_returns
    exact ⟨rfl, HB.out⟩
  · have C1 : Hid (∀ (w' : World) (v0 : Value), ReadsVecs w' v0 (l) → EtOk w' → Calls Tryd.prog 38 #[v0] w' (GivesIntsOk w' (canL l.length) (true))) := fun w' v0 h0 hg' => by
      have h := divisorCanonical_any v0 (l) w' h0 hg'
      rw [hk] at h
      exact h
    have C2 : Hid (∀ (w' : World) (v0 : Value), ReadsVecs w' v0 (l) → EtOk w' → Calls Tryd.prog 39 #[v0] w' (GivesIntsOk w' (canL l.length) (true))) := fun w' v0 h0 hg' => by
      have h := specDivisorCanonical_any v0 (l) w' h0
      rw [hk] at h
      exact h
    have q1 := can_div hk
    have q2 := prod_can hk
    have C3 : Hid (∀ (w' : World) (v0 : Value) (v1 : Value) (v2 : Value), ReadsVecs w' v0 (l) → ReadsInts w' v1 (canL l.length) → ReadsInts w' v2 (canL l.length) → EtOk w' → Calls Tryd.prog 30 #[v0, v1, v2] w' (fun e w'' => e = .returned (.tuple #[.int .i64 (12 - (l.length : Int)), .bool (true)]) ∧ Below w'.heap.size w' w'')) := fun w' v0 v1 v2 h0 h1 h2 hg' => by
      have h := divisorProduct_any v0 (l) v1 (canL l.length) v2 (canL l.length) w' h0 h1 h2 hg'
      rw [q1, q2] at h
      exact h
    have C4 : Hid (∀ (w' : World) (v0 : Value) (v1 : Value), ReadsVecs w' v0 (l) → ReadsInts w' v1 (canL l.length) → EtOk w' → Calls Tryd.prog 27 #[v0, v1] w' (GivesIntsOk w' (degsZ l (canL l.length)) (true))) := fun w' v0 v1 h0 h1 hg' => by
      have h := divisorDegrees_any v0 (l) v1 (canL l.length) w' h0 h1 hg'
      rw [q1] at h
      exact h
    have C5 : Hid (∀ (w' : World) (v0 : Value), ReadsVecs w' v0 (l) → EtOk w' → Calls Tryd.prog 40 #[v0] w' (GivesIntsOk w' (numsZ l) (true))) := fun w' v0 h0 hg' => by
      have h := fanNumbers_any v0 l w' h0 hg'
      rw [hk] at h
      exact h
    have HL : Hid ((canL l.length).length ≤ 1000) := by show _ ≤ _; simp [canL]; omega
    have HN : Hid ((degsZ l (canL l.length)).length = l.length ∧ (numsZ l).length = l.length) := ⟨degs_len _ _, nums_len _⟩
    have HS : Hid (∀ k, k < l.length → gz (degsZ l (canL l.length)) k = -2 - gz (numsZ l) k) := fun k hk => by rw [degs_gz hk, gz_numsE hk, can_deg (by omega) hk]
    have HX : Hid (∀ k, k < l.length → -2000000 ≤ gz (numsZ l) k ∧ gz (numsZ l) k ≤ 2000000) := fun k hl => by rw [gz_numsE hl]; exact num_bnd (smooth_all hk) k
    clear hk q1 q2
    generalize degsZ l (canL l.length) = m at *
    generalize canL l.length = s at *
    generalize numsZ l = ma at *
    obtain ⟨va, vc, rfl, _⟩ := Hf.out
    go_wp2_with fail
    refine Calls.mono (C1.out _ _ (Hf.out.below (by go_grown)) (HG.out.below (by go_grown))) ?_
    rintro e w2 ⟨v2, rfl, hI2, hb2⟩
    have hB2 := belowTo (a := w1) (by go_grown) hb2
    replace Hf := Lib.hid (Hf.out.below hB2)
    replace HG := Lib.hid (HG.out.below hB2)
    replace HB := Lib.hid (belowTo HB.out hB2)
    clear hb2 hB2
    have Ho := Lib.hid (Ints.reads hI2 (by have := HL.out; omega))
    clear hI2
    go_wp2_with fail
    refine Calls.mono (C2.out _ _ (Hf.out.below (by go_grown)) (HG.out.below (by go_grown))) ?_
    rintro e w3 ⟨v3, rfl, hI3, hb3⟩
    have hB3 := belowTo (a := w2) (by go_grown) hb3
    replace Hf := Lib.hid (Hf.out.below hB3)
    replace Ho := Lib.hid (Ho.out.below hB3)
    replace HG := Lib.hid (HG.out.below hB3)
    replace HB := Lib.hid (belowTo HB.out hB3)
    clear hb3 hB3
    have Ho2 := Lib.hid (Ints.reads hI3 (by have := HL.out; omega))
    clear hI3
    go_wp2_with fail
    refine Calls.mono (sameInts_eq _ _ _ _ (Ho.out.below (by go_grown)) (Ho2.out.below (by go_grown))) ?_
    rintro e w4 ⟨rfl, hb4⟩
    have hB4 := belowTo (a := w3) (by go_grown) hb4
    replace Hf := Lib.hid (Hf.out.below hB4)
    replace Ho := Lib.hid (Ho.out.below hB4)
    replace Ho2 := Lib.hid (Ho2.out.below hB4)
    replace HG := Lib.hid (HG.out.below hB4)
    replace HB := Lib.hid (belowTo HB.out hB4)
    clear hb4 hB4
    clear Ho2
    go_wp2_with fail
    refine Calls.mono (C3.out _ _ _ _ (Hf.out.below (by go_grown)) (Ho.out.below (by go_grown)) (Ho.out.below (by go_grown)) (HG.out.below (by go_grown))) ?_
    rintro e w5 ⟨rfl, hb5⟩
    have hB5 := belowTo (a := w4) (by go_grown) hb5
    replace Hf := Lib.hid (Hf.out.below hB5)
    replace Ho := Lib.hid (Ho.out.below hB5)
    replace HG := Lib.hid (HG.out.below hB5)
    replace HB := Lib.hid (belowTo HB.out hB5)
    clear hb5 hB5
    go_wp2_with fail
    refine Calls.mono (C4.out _ _ _ (Hf.out.below (by go_grown)) (Ho.out.below (by go_grown)) (HG.out.below (by go_grown))) ?_
    rintro e w6 ⟨v6, rfl, hI6, hb6⟩
    have hB6 := belowTo (a := w5) (by go_grown) hb6
    replace Hf := Lib.hid (Hf.out.below hB6)
    replace Ho := Lib.hid (Ho.out.below hB6)
    replace HG := Lib.hid (HG.out.below hB6)
    replace HB := Lib.hid (belowTo HB.out hB6)
    clear hb6 hB6
    have Hu := Lib.hid (Ints.reads hI6 (by have := HN.out; omega))
    clear hI6
    go_wp2_with fail
    refine Calls.mono (C5.out _ _ (Hf.out.below (by go_grown)) (HG.out.below (by go_grown))) ?_
    rintro e w7 ⟨v7, rfl, hI7, hb7⟩
    have hB7 := belowTo (a := w6) (by go_grown) hb7
    replace Hf := Lib.hid (Hf.out.below hB7)
    replace Ho := Lib.hid (Ho.out.below hB7)
    replace Hu := Lib.hid (Hu.out.below hB7)
    replace HG := Lib.hid (HG.out.below hB7)
    replace HB := Lib.hid (belowTo HB.out hB7)
    clear hb7 hB7
    have Hp := Lib.hid (Ints.reads hI7 (by have := HN.out; omega))
    clear hI7
    obtain ⟨ub, uo, uc, rfl, _, hub, hus⟩ := Hu.out.open (by have := HN.out; omega)
    have Hus := Lib.hid hus
    clear hus
    obtain ⟨pb, po, pc, rfl, _, hpb, hps⟩ := Hp.out.open (by have := HN.out; omega)
    have Hps := Lib.hid hps
    clear hps
    clear Hu
    clear Hp
    go_wp2
    go_loopw [14] (fun s14 wr => ∃ k : Nat, k ≤ m.length ∧ s14 = .int .i64 k ∧ Hid (Below w7.heap.size w7 wr)) (fun s14 _ => m.length - (intOf s14).toNat)
    case atStart => exact ⟨0, Nat.zero_le _, rfl, by show Below _ _ _; go_grown⟩
    case round =>
      obtain ⟨k, hk, rfl, HBr⟩ := hrel
      have i1 : (0 : Int) ≤ (k : Int) := by omega
      by_cases hlt : k < m.length
      · have i2 : (k : Int) < (m.length : Int) := by omega
        have hn := HN.out
        have c0 := Hus.out wr HBr.out k hlt
        have c1 := Hps.out wr HBr.out k (by omega)
        have hx := HX.out k (by omega)
        have i3 : (k : Int) < (ma.length : Int) := by omega
        rw [HS.out k (by omega)] at c0
        generalize gz ma k = x at *
        have qa : IntKind.i64.wrap (-2 - x) = -2 - x := by rw [IntKind.wrap_i64]; omega
        have hm : (k : Int) + 1 ≤ 20 := by omega
        clear hx hn Hus Hps HN HS HX
        go_wp2_with fail
        go_quiet (fail)
        go_wp2
        go_roundw
        case rel => exact ⟨k + 1, by omega, by go_num, by show Below _ _ _; exact below_drewN HBr.out _⟩
        case measure => simp [intOf]; omega
      · obtain rfl : k = m.length := by omega
        obtain ⟨w8, hw8⟩ : ∃ w8, w8 = wr := ⟨_, rfl⟩
        subst hw8
        have hB8 := HBr.out
        have i2 : ¬ (m.length : Int) < (m.length : Int) := by omega
        replace Hf := Lib.hid (Hf.out.below hB8)
        replace Ho := Lib.hid (Ho.out.below hB8)
        replace HG := Lib.hid (HG.out.below hB8)
        replace HB := Lib.hid (belowTo HB.out hB8)
        clear HBr hB8
        have hn := HN.out
        have qb : IntKind.i64.wrap (12 - (l.length : Int)) = 12 - (l.length : Int) := by rw [IntKind.wrap_i64]; omega
        clear Hus Hps HS HX
        go_wp2
        go_returns
        exact ⟨rfl, HB.out⟩
end Go.Proofs.YtohojjoediibhaaDoor
