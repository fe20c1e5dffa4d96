/- FnDivisorAdd: the walk. -/
import Derived.Test.YtohojjoediibhaaDoorUd
import Derived.Test.YtohojjoediibhaaDoorNc
import Derived.Test.YtohojjoediibhaaDoorSm
import Derived.Test.YtohojjoediibhaaDoorQh
import Derived.Test.YtohojjoediibhaaDoorBf
import Derived.Test.YtohojjoediibhaaDoorBe
namespace Go.Proofs.YtohojjoediibhaaDoor
open Go.RowKit

set_option maxRecDepth 100000 in
set_option maxHeartbeats 16000000 in
theorem fnDivisorAdd_any (a : Option Addr) (len cap : Nat) (w : World) (h : Bytes w a len cap) (hg : EtOk w) :
    Calls Tryd.prog 4 #[.slice a len cap] w fun e w' => e = .returned (.bool true) ∧ Below w.heap.size w w' := by
  by_cases hlen : len ≤ 1048576
  case neg =>
    have j1 : (1048576 : Int) < (len : Int) := by omega
    clear h hg
    go_enter Tryd.func4, Tryd.ntmps4
    go_wp2
    go_returns
    exact ⟨rfl, by go_grown⟩
  case pos =>
  have j1 : (len : Int) ≤ 1048576 := by omega
  have HO := Lib.hid (drawDivisorAdd_any w a len cap h)
  clear h
  go_enter Tryd.func4, Tryd.ntmps4
  go_wp2_with fail
  refine Calls.mono HO.out ?_
  rintro e w1 ⟨v, u, t, l, a1, b1, rfl, hV, hI, hJ, h2, h20, ha, hb, hb1⟩
  have HG := Lib.hid (hg.below hb1)
  have Hf := Lib.hid hV
  have Ha := Lib.hid hI
  have Hb := Lib.hid hJ
  have HB : Hid (Below w.heap.size w w1) := hb1
  clear hb1 HO hg hV hI hJ
  cases hk : addDB l a1 b1
  · have C1 : Hid (∀ (w' : World) (v0 : Value) (v1 : Value) (v2 : Value), ReadsVecs w' v0 (l) → ReadsInts w' v1 (a1) → ReadsInts w' v2 (b1) → EtOk w' → Calls Tryd.prog 23 #[v0, v1, v2] w' (GivesIntsOk w' ([]) (false))) := fun w' v0 v1 v2 h0 h1 h2 hg' => by
      have h := divisorAdd_any v0 (l) v1 (a1) v2 (b1) w' h0 h1 h2 hg'
      rw [hk] at h
      exact h
    have C2 : Hid (∀ (w' : World) (v0 : Value) (v1 : Value) (v2 : Value), ReadsVecs w' v0 (l) → ReadsInts w' v1 (a1) → ReadsInts w' v2 (b1) → EtOk w' → Calls Tryd.prog 26 #[v0, v1, v2] w' (GivesIntsOk w' ([]) (false))) := fun w' v0 v1 v2 h0 h1 h2 hg' => by
      have h := specDivisorAdd_any v0 (l) v1 (a1) v2 (b1) w' h0 h1 h2
      rw [hk] at h
      exact h
    clear hk
    go_wp2_with fail
    refine Calls.mono (C1.out _ _ _ _ (Hf.out.below (by go_grown)) (Ha.out.below (by go_grown)) (Hb.out.below (by go_grown)) (HG.out.below (by go_grown))) ?_
    rintro e w2 ⟨v2, rfl, hI2, hb2⟩
    have hB2 := belowTo (a := w1) (by go_grown) hb2
    replace Hf := Lib.hid (Hf.out.below hB2)
    replace Ha := Lib.hid (Ha.out.below hB2)
    replace Hb := Lib.hid (Hb.out.below hB2)
    replace HG := Lib.hid (HG.out.below hB2)
    replace HB := Lib.hid (belowTo HB.out hB2)
    clear hb2 hB2
    have Ho1 := Lib.hid (Ints.reads hI2 (by simp))
    clear hI2
    go_wp2_with fail
    refine Calls.mono (C2.out _ _ _ _ (Hf.out.below (by go_grown)) (Ha.out.below (by go_grown)) (Hb.out.below (by go_grown)) (HG.out.below (by go_grown))) ?_
    rintro e w3 ⟨v3, rfl, hI3, hb3⟩
    have hB3 := belowTo (a := w2) (by go_grown) hb3
    replace Hf := Lib.hid (Hf.out.below hB3)
    replace Ha := Lib.hid (Ha.out.below hB3)
    replace Hb := Lib.hid (Hb.out.below hB3)
    replace Ho1 := Lib.hid (Ho1.out.below hB3)
    replace HG := Lib.hid (HG.out.below hB3)
    replace HB := Lib.hid (belowTo HB.out hB3)
    clear hb3 hB3
    have Ho2 := Lib.hid (Ints.reads hI3 (by simp))
    clear hI3
    go_wp2_with fail
    refine Calls.mono (sameInts_eq _ _ _ _ (Ho1.out.below (by go_grown)) (Ho2.out.below (by go_grown))) ?_
    rintro e w4 ⟨rfl, hb4⟩
    have hB4 := belowTo (a := w3) (by go_grown) hb4
    replace Hf := Lib.hid (Hf.out.below hB4)
    replace Ha := Lib.hid (Ha.out.below hB4)
    replace Hb := Lib.hid (Hb.out.below hB4)
    replace Ho1 := Lib.hid (Ho1.out.below hB4)
    replace Ho2 := Lib.hid (Ho2.out.below hB4)
    replace HG := Lib.hid (HG.out.below hB4)
    replace HB := Lib.hid (belowTo HB.out hB4)
    clear hb4 hB4
    go_wp2_with fail
    refine Calls.mono (sameInts_eq _ _ _ _ (Ho1.out.below (by go_grown)) (Ho2.out.below (by go_grown))) ?_
    rintro e w5 ⟨rfl, hb5⟩
    have hB5 := belowTo (a := w4) (by go_grown) hb5
    replace Hf := Lib.hid (Hf.out.below hB5)
    replace Ha := Lib.hid (Ha.out.below hB5)
    replace Hb := Lib.hid (Hb.out.below hB5)
    replace Ho1 := Lib.hid (Ho1.out.below hB5)
    replace Ho2 := Lib.hid (Ho2.out.below hB5)
    replace HG := Lib.hid (HG.out.below hB5)
    replace HB := Lib.hid (belowTo HB.out hB5)
    clear hb5 hB5
    go_wp2
    go_returns
    exact ⟨rfl, HB.out⟩
  · have C1 : Hid (∀ (w' : World) (v0 : Value) (v1 : Value) (v2 : Value), ReadsVecs w' v0 (l) → ReadsInts w' v1 (a1) → ReadsInts w' v2 (b1) → EtOk w' → Calls Tryd.prog 23 #[v0, v1, v2] w' (GivesIntsOk w' (sumL a1 1 b1) (true))) := fun w' v0 v1 v2 h0 h1 h2 hg' => by
      have h := divisorAdd_any v0 (l) v1 (a1) v2 (b1) w' h0 h1 h2 hg'
      rw [hk] at h
      exact h
    have C2 : Hid (∀ (w' : World) (v0 : Value) (v1 : Value) (v2 : Value), ReadsVecs w' v0 (l) → ReadsInts w' v1 (a1) → ReadsInts w' v2 (b1) → EtOk w' → Calls Tryd.prog 26 #[v0, v1, v2] w' (GivesIntsOk w' (sumL a1 1 b1) (true))) := fun w' v0 v1 v2 h0 h1 h2 hg' => by
      have h := specDivisorAdd_any v0 (l) v1 (a1) v2 (b1) w' h0 h1 h2
      rw [hk] at h
      exact h
    obtain ⟨q1, q2, q3⟩ := addD_in hk
    obtain ⟨q4, q5⟩ := add_flip hk
    have hl := (div_in q1).2.1
    have C3 : Hid (∀ (w' : World) (v0 : Value) (v1 : Value) (v2 : Value), ReadsVecs w' v0 (l) → ReadsInts w' v1 (b1) → ReadsInts w' v2 (a1) → EtOk w' → Calls Tryd.prog 23 #[v0, v1, v2] w' (GivesIntsOk w' (sumL a1 1 b1) (true))) := fun w' v0 v1 v2 h0 h1 h2 hg' => by
      have h := divisorAdd_any v0 (l) v1 (b1) v2 (a1) w' h0 h1 h2 hg'
      rw [q4, q5] at h
      exact h
    have C4 : Hid (∀ (w' : World) (v0 : Value) (v1 : Value), ReadsVecs w' v0 (l) → ReadsInts w' v1 (sumL a1 1 b1) → EtOk w' → Calls Tryd.prog 27 #[v0, v1] w' (GivesIntsOk w' (degsZ l (sumL a1 1 b1)) (true))) := fun w' v0 v1 h0 h1 hg' => by
      have h := divisorDegrees_any v0 (l) v1 (sumL a1 1 b1) w' h0 h1 hg'
      rw [q3] at h
      exact h
    have C5 : Hid (∀ (w' : World) (v0 : Value) (v1 : Value), ReadsVecs w' v0 (l) → ReadsInts w' v1 (a1) → EtOk w' → Calls Tryd.prog 27 #[v0, v1] w' (GivesIntsOk w' (degsZ l a1) (true))) := fun w' v0 v1 h0 h1 hg' => by
      have h := divisorDegrees_any v0 (l) v1 (a1) w' h0 h1 hg'
      rw [q1] at h
      exact h
    have C6 : Hid (∀ (w' : World) (v0 : Value) (v1 : Value), ReadsVecs w' v0 (l) → ReadsInts w' v1 (b1) → EtOk w' → Calls Tryd.prog 27 #[v0, v1] w' (GivesIntsOk w' (degsZ l b1) (true))) := fun w' v0 v1 h0 h1 hg' => by
      have h := divisorDegrees_any v0 (l) v1 (b1) w' h0 h1 hg'
      rw [q2] at h
      exact h
    have HL : Hid ((sumL a1 1 b1).length ≤ 1000) := by show _ ≤ _; rw [sumL_len]; omega
    have HN : Hid ((degsZ l (sumL a1 1 b1)).length = l.length ∧ (degsZ l a1).length = l.length ∧ (degsZ l b1).length = l.length) := ⟨degs_len _ _, degs_len _ _, degs_len _ _⟩
    have HS : Hid (∀ k, k < l.length → gz (degsZ l (sumL a1 1 b1)) k = gz (degsZ l a1) k + gz (degsZ l b1) k) := fun k hk => by rw [degs_gz hk, degs_gz hk, degs_gz hk, deg_sum hl hk]; omega
    have HX : Hid (∀ k, k < l.length → (-202000202 ≤ gz (degsZ l a1) k ∧ gz (degsZ l a1) k ≤ 202000202) ∧ -202000202 ≤ gz (degsZ l b1) k ∧ gz (degsZ l b1) k ≤ 202000202) := fun k hk => by rw [degs_gz hk, degs_gz hk]; exact ⟨deg_bnd (div_smooth q1) (bnd_mono (div_bnd q1) (by omega)) k, deg_bnd (div_smooth q1) (bnd_mono (div_bnd q2) (by omega)) k⟩
    clear hk q1 q2 q3 q4 q5 hl
    generalize degsZ l (sumL a1 1 b1) = m at *
    generalize sumL a1 1 b1 = s at *
    generalize degsZ l a1 = ma at *
    generalize degsZ l b1 = mb at *
    go_wp2_with fail
    refine Calls.mono (C1.out _ _ _ _ (Hf.out.below (by go_grown)) (Ha.out.below (by go_grown)) (Hb.out.below (by go_grown)) (HG.out.below (by go_grown))) ?_
    rintro e w2 ⟨v2, rfl, hI2, hb2⟩
    have hB2 := belowTo (a := w1) (by go_grown) hb2
    replace Hf := Lib.hid (Hf.out.below hB2)
    replace Ha := Lib.hid (Ha.out.below hB2)
    replace Hb := Lib.hid (Hb.out.below hB2)
    replace HG := Lib.hid (HG.out.below hB2)
    replace HB := Lib.hid (belowTo HB.out hB2)
    clear hb2 hB2
    have Ho := Lib.hid (Ints.reads hI2 (by have := HL.out; omega))
    clear hI2
    go_wp2_with fail
    refine Calls.mono (C2.out _ _ _ _ (Hf.out.below (by go_grown)) (Ha.out.below (by go_grown)) (Hb.out.below (by go_grown)) (HG.out.below (by go_grown))) ?_
    rintro e w3 ⟨v3, rfl, hI3, hb3⟩
    have hB3 := belowTo (a := w2) (by go_grown) hb3
    replace Hf := Lib.hid (Hf.out.below hB3)
    replace Ha := Lib.hid (Ha.out.below hB3)
    replace Hb := Lib.hid (Hb.out.below hB3)
    replace Ho := Lib.hid (Ho.out.below hB3)
    replace HG := Lib.hid (HG.out.below hB3)
    replace HB := Lib.hid (belowTo HB.out hB3)
    clear hb3 hB3
    have Ho2 := Lib.hid (Ints.reads hI3 (by have := HL.out; omega))
    clear hI3
    go_wp2_with fail
    refine Calls.mono (sameInts_eq _ _ _ _ (Ho.out.below (by go_grown)) (Ho2.out.below (by go_grown))) ?_
    rintro e w4 ⟨rfl, hb4⟩
    have hB4 := belowTo (a := w3) (by go_grown) hb4
    replace Hf := Lib.hid (Hf.out.below hB4)
    replace Ha := Lib.hid (Ha.out.below hB4)
    replace Hb := Lib.hid (Hb.out.below hB4)
    replace Ho := Lib.hid (Ho.out.below hB4)
    replace Ho2 := Lib.hid (Ho2.out.below hB4)
    replace HG := Lib.hid (HG.out.below hB4)
    replace HB := Lib.hid (belowTo HB.out hB4)
    clear hb4 hB4
    clear Ho2
    go_wp2_with fail
    refine Calls.mono (C3.out _ _ _ _ (Hf.out.below (by go_grown)) (Hb.out.below (by go_grown)) (Ha.out.below (by go_grown)) (HG.out.below (by go_grown))) ?_
    rintro e w5 ⟨v5, rfl, hI5, hb5⟩
    have hB5 := belowTo (a := w4) (by go_grown) hb5
    replace Hf := Lib.hid (Hf.out.below hB5)
    replace Ha := Lib.hid (Ha.out.below hB5)
    replace Hb := Lib.hid (Hb.out.below hB5)
    replace Ho := Lib.hid (Ho.out.below hB5)
    replace HG := Lib.hid (HG.out.below hB5)
    replace HB := Lib.hid (belowTo HB.out hB5)
    clear hb5 hB5
    have Hx := Lib.hid (Ints.reads hI5 (by have := HL.out; omega))
    clear hI5
    go_wp2_with fail
    refine Calls.mono (C4.out _ _ _ (Hf.out.below (by go_grown)) (Ho.out.below (by go_grown)) (HG.out.below (by go_grown))) ?_
    rintro e w6 ⟨v6, rfl, hI6, hb6⟩
    have hB6 := belowTo (a := w5) (by go_grown) hb6
    replace Hf := Lib.hid (Hf.out.below hB6)
    replace Ha := Lib.hid (Ha.out.below hB6)
    replace Hb := Lib.hid (Hb.out.below hB6)
    replace Ho := Lib.hid (Ho.out.below hB6)
    replace Hx := Lib.hid (Hx.out.below hB6)
    replace HG := Lib.hid (HG.out.below hB6)
    replace HB := Lib.hid (belowTo HB.out hB6)
    clear hb6 hB6
    have Hu := Lib.hid (Ints.reads hI6 (by have := HN.out; omega))
    clear hI6
    go_wp2_with fail
    refine Calls.mono (C5.out _ _ _ (Hf.out.below (by go_grown)) (Ha.out.below (by go_grown)) (HG.out.below (by go_grown))) ?_
    rintro e w7 ⟨v7, rfl, hI7, hb7⟩
    have hB7 := belowTo (a := w6) (by go_grown) hb7
    replace Hf := Lib.hid (Hf.out.below hB7)
    replace Ha := Lib.hid (Ha.out.below hB7)
    replace Hb := Lib.hid (Hb.out.below hB7)
    replace Ho := Lib.hid (Ho.out.below hB7)
    replace Hx := Lib.hid (Hx.out.below hB7)
    replace Hu := Lib.hid (Hu.out.below hB7)
    replace HG := Lib.hid (HG.out.below hB7)
    replace HB := Lib.hid (belowTo HB.out hB7)
    clear hb7 hB7
    have Hp := Lib.hid (Ints.reads hI7 (by have := HN.out; omega))
    clear hI7
    go_wp2_with fail
    refine Calls.mono (C6.out _ _ _ (Hf.out.below (by go_grown)) (Hb.out.below (by go_grown)) (HG.out.below (by go_grown))) ?_
    rintro e w8 ⟨v8, rfl, hI8, hb8⟩
    have hB8 := belowTo (a := w7) (by go_grown) hb8
    replace Hf := Lib.hid (Hf.out.below hB8)
    replace Ha := Lib.hid (Ha.out.below hB8)
    replace Hb := Lib.hid (Hb.out.below hB8)
    replace Ho := Lib.hid (Ho.out.below hB8)
    replace Hx := Lib.hid (Hx.out.below hB8)
    replace Hu := Lib.hid (Hu.out.below hB8)
    replace Hp := Lib.hid (Hp.out.below hB8)
    replace HG := Lib.hid (HG.out.below hB8)
    replace HB := Lib.hid (belowTo HB.out hB8)
    clear hb8 hB8
    have Hq := Lib.hid (Ints.reads hI8 (by have := HN.out; omega))
    clear hI8
    obtain ⟨ub, uo, uc, rfl, _, hub, hus⟩ := Hu.out.open (by have := HN.out; omega)
    have Hus := Lib.hid hus
    clear hus
    obtain ⟨pb, po, pc, rfl, _, hpb, hps⟩ := Hp.out.open (by have := HN.out; omega)
    have Hps := Lib.hid hps
    clear hps
    obtain ⟨qb, qo, qc, rfl, _, hqb, hqs⟩ := Hq.out.open (by have := HN.out; omega)
    have Hqs := Lib.hid hqs
    clear hqs
    clear Hu
    clear Hp
    clear Hq
    go_wp2
    go_loopw [18] (fun s18 wr => ∃ k : Nat, k ≤ m.length ∧ s18 = .int .i64 k ∧ Hid (Below w8.heap.size w8 wr)) (fun s18 _ => m.length - (intOf s18).toNat)
    case atStart => exact ⟨0, Nat.zero_le _, rfl, by show Below _ _ _; go_grown⟩
    case round =>
      obtain ⟨k, hk, rfl, HBr⟩ := hrel
      have i1 : (0 : Int) ≤ (k : Int) := by omega
      by_cases hlt : k < m.length
      · have i2 : (k : Int) < (m.length : Int) := by omega
        have hn := HN.out
        have c0 := Hus.out wr HBr.out k hlt
        have c1 := Hps.out wr HBr.out k (by omega)
        have c2 := Hqs.out wr HBr.out k (by omega)
        have hx := HX.out k (by omega)
        have i3 : (k : Int) < (ma.length : Int) := by omega
        have i4 : (k : Int) < (mb.length : Int) := by omega
        rw [HS.out k (by omega)] at c0
        generalize gz ma k = x at *
        generalize gz mb k = y at *
        have qa : IntKind.i64.wrap (x + y) = x + y := by rw [IntKind.wrap_i64]; omega
        have hm : (k : Int) + 1 ≤ 20 := by omega
        clear hx hn Hus Hps Hqs HN HS HX
        go_wp2_with fail
        go_quiet (fail)
        go_wp2
        go_roundw
        case rel => exact ⟨k + 1, by omega, by go_num, by show Below _ _ _; exact below_drewN HBr.out _⟩
        case measure => simp [intOf]; omega
      · obtain rfl : k = m.length := by omega
        obtain ⟨w9, hw9⟩ : ∃ w9, w9 = wr := ⟨_, rfl⟩
        subst hw9
        have hB9 := HBr.out
        have i2 : ¬ (m.length : Int) < (m.length : Int) := by omega
        replace Hf := Lib.hid (Hf.out.below hB9)
        replace Ha := Lib.hid (Ha.out.below hB9)
        replace Hb := Lib.hid (Hb.out.below hB9)
        replace Ho := Lib.hid (Ho.out.below hB9)
        replace Hx := Lib.hid (Hx.out.below hB9)
        replace HG := Lib.hid (HG.out.below hB9)
        replace HB := Lib.hid (belowTo HB.out hB9)
        clear HBr hB9
        clear Hus Hps Hqs HS HX
        go_wp2_with fail
        refine Calls.mono (sameInts_eq _ _ _ _ (Hx.out.below (by go_grown)) (Ho.out.below (by go_grown))) ?_
        rintro e w10 ⟨rfl, hb10⟩
        have hB10 := belowTo (a := w9) (by go_grown) hb10
        replace Hf := Lib.hid (Hf.out.below hB10)
        replace Ha := Lib.hid (Ha.out.below hB10)
        replace Hb := Lib.hid (Hb.out.below hB10)
        replace Ho := Lib.hid (Ho.out.below hB10)
        replace Hx := Lib.hid (Hx.out.below hB10)
        replace HG := Lib.hid (HG.out.below hB10)
        replace HB := Lib.hid (belowTo HB.out hB10)
        clear hb10 hB10
        go_wp2
        go_returns
        exact ⟨rfl, HB.out⟩
end Go.Proofs.YtohojjoediibhaaDoor
