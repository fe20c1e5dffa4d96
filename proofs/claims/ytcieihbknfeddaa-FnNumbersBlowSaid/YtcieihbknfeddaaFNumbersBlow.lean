/- FnNumbersBlow: the walk (by hand: a seat without cards). -/
import Derived.Test.YtcieihbknfeddaaUj
import Derived.Test.YtcieihbknfeddaaE2
import Derived.Test.YtcieihbknfeddaaE1
import Derived.Test.YtcieihbknfeddaaNg
import Derived.Test.YtcieihbknfeddaaK0
namespace Go.Proofs.Ytcieihbknfeddaa
open Go.RowKit

set_option maxRecDepth 100000 in
set_option maxHeartbeats 16000000 in
theorem fnNumbersBlow_any (a : Option Addr) (len cap : Nat) (w : World) (h : Bytes w a len cap) :
    Calls Try.prog 3 #[.slice a len cap] w fun e w' => e = .returned (.bool true) ∧ Below w.heap.size w w' := by
  by_cases hlen : len ≤ 1048576
  case neg =>
    have j1 : (1048576 : Int) < (len : Int) := by omega
    clear h
    go_enter Try.func3, Try.ntmps3
    go_wp2
    go_returns
    exact ⟨rfl, by go_grown⟩
  case pos =>
  have j1 : (len : Int) ≤ 1048576 := by omega
  have HO := Lib.hid (drawNumbersBlow_any w a len cap h)
  clear h
  go_enter Try.func3, Try.ntmps3
  go_wp2_with fail
  refine Calls.mono HO.out ?_
  rintro e w1 ⟨u, d, x, rfl, hI, h3, h20, x0, x20, hb1⟩
  have HF := Lib.hid hI
  have HB : Hid (Below w.heap.size w w1) := hb1
  have C10 := Lib.hid (fun w' hv => numbersBlow_any u d x w' hv (by omega))
  have C20 := Lib.hid (fun w' hv => specNumbersBlow_any u d x w' hv (by omega))
  clear HO hI hb1
  cases hk : nbB d x
  · have C1 : Hid (∀ w', ReadsInts w' u d → Calls Try.prog 5 #[u, .int .i64 x] w' (GivesIntsOk w' [] false)) := fun w' hv => by
      have h := C10.out w' hv
      rw [hk] at h
      exact h
    have C2 : Hid (∀ w', ReadsInts w' u d → Calls Try.prog 6 #[u, .int .i64 x] w' (GivesIntsOk w' [] false)) := fun w' hv => by
      have h := C20.out w' hv
      rw [hk] at h
      exact h
    clear hk C10 C20
    go_wp2_with fail
    refine Calls.mono (C1.out _ (HF.out.below (by go_grown))) ?_
    rintro e w2 ⟨v1, rfl, hI1, hb2⟩
    have hB2 := belowTo (a := w1) (by go_grown) hb2
    replace HF := Lib.hid (HF.out.below hB2)
    replace HB := Lib.hid (belowTo HB.out hB2)
    have Ho := Lib.hid (Ints.reads hI1 (by simp))
    clear hb2 hB2 hI1
    go_wp2_with fail
    refine Calls.mono (C2.out _ (HF.out.below (by go_grown))) ?_
    rintro e w3 ⟨v2, rfl, hI2, hb3⟩
    have hB3 := belowTo (a := w2) (by go_grown) hb3
    replace HB := Lib.hid (belowTo HB.out hB3)
    replace Ho := Lib.hid (Ho.out.below hB3)
    have Hp := Lib.hid (Ints.reads hI2 (by simp))
    clear hb3 hB3 hI2 HF
    go_wp2_with fail
    refine Calls.mono (sameInts_eq _ _ _ _ (Ho.out.below (by go_grown)) (Hp.out.below (by go_grown))) ?_
    rintro e w4 ⟨rfl, hb4⟩
    have hB4 := belowTo (a := w3) (by go_grown) hb4
    replace HB := Lib.hid (belowTo HB.out hB4)
    replace Ho := Lib.hid (Ho.out.below hB4)
    replace Hp := Lib.hid (Hp.out.below hB4)
    clear hb4 hB4
    go_wp2_with fail
    refine Calls.mono (sameInts_eq _ _ _ _ (Ho.out.below (by go_grown)) (Hp.out.below (by go_grown))) ?_
    rintro e w5 ⟨rfl, hb5⟩
    have hB5 := belowTo (a := w4) (by go_grown) hb5
    replace HB := Lib.hid (belowTo HB.out hB5)
    clear hb5 hB5 Ho Hp
    go_wp2
    go_returns
    exact ⟨rfl, HB.out⟩
  · have C1 : Hid (∀ w', ReadsInts w' u d → Calls Try.prog 5 #[u, .int .i64 x] w' (GivesIntsOk w' (blN d x.toNat) true)) := fun w' hv => by
      have h := C10.out w' hv
      rw [hk] at h
      exact h
    have C2 : Hid (∀ w', ReadsInts w' u d → Calls Try.prog 6 #[u, .int .i64 x] w' (GivesIntsOk w' (blN d x.toNat) true)) := fun w' hv => by
      have h := C20.out w' hv
      rw [hk] at h
      exact h
    obtain ⟨-, p0, p1⟩ := nb_in hk
    obtain ⟨i, hi⟩ : ∃ i, i = x.toNat := ⟨_, rfl⟩
    have hx : x = (i : Int) := by omega
    have hin : i < d.length := by omega
    have hl := blN_len hin
    have HS := Lib.hid (blN_sum h3 hin)
    have HM := Lib.hid (blN_at hin)
    have HDb := Lib.hid (fun j => nbd_bnd hk j)
    have HNb := Lib.hid (fun j => blN_bnd hk j)
    have HDs := Lib.hid (fun k => s3L_bnd (B := 100) HDb.out k)
    have HNs := Lib.hid (fun k => s3L_bnd (B := 100) HNb.out k)
    rw [← hi] at C1 C2 HNb HNs
    clear hk C10 C20 p0 p1 hi x0 x20
    subst hx
    generalize blN d i = m at *
    go_wp2_with fail
    refine Calls.mono (C1.out _ (HF.out.below (by go_grown))) ?_
    rintro e w2 ⟨v1, rfl, hI1, hb2⟩
    have hB2 := belowTo (a := w1) (by go_grown) hb2
    replace HF := Lib.hid (HF.out.below hB2)
    replace HB := Lib.hid (belowTo HB.out hB2)
    have Ho := Lib.hid (Ints.reads hI1 (by omega))
    clear hb2 hB2 hI1 C1
    go_wp2_with fail
    refine Calls.mono (C2.out _ (HF.out.below (by go_grown))) ?_
    rintro e w3 ⟨v2, rfl, hI2, hb3⟩
    have hB3 := belowTo (a := w2) (by go_grown) hb3
    replace HF := Lib.hid (HF.out.below hB3)
    replace HB := Lib.hid (belowTo HB.out hB3)
    replace Ho := Lib.hid (Ho.out.below hB3)
    have Hp := Lib.hid (Ints.reads hI2 (by omega))
    clear hb3 hB3 hI2 C2
    go_wp2_with fail
    refine Calls.mono (sameInts_eq _ _ _ _ (Ho.out.below (by go_grown)) (Hp.out.below (by go_grown))) ?_
    rintro e w4 ⟨rfl, hb4⟩
    have hB4 := belowTo (a := w3) (by go_grown) hb4
    replace HF := Lib.hid (HF.out.below hB4)
    replace HB := Lib.hid (belowTo HB.out hB4)
    replace Ho := Lib.hid (Ho.out.below hB4)
    clear hb4 hB4 Hp
    obtain ⟨fb, fo, fc, rfl, _, hfb, hfs⟩ := HF.out.open (by omega)
    obtain ⟨ob, oo, oc, rfl, _, hob, hos⟩ := Ho.out.open (by omega)
    have Hfs := Lib.hid hfs
    have Hos := Lib.hid hos
    have hn20 : d.length ≤ 20 := h20
    clear hfs hos HF Ho
    obtain ⟨n, hn⟩ : ∃ n, n = d.length := ⟨_, rfl⟩
    obtain ⟨M, hM⟩ : ∃ M, M = m.length := ⟨_, rfl⟩
    rw [← hn] at h3 h20 hin hl HS Hfs hn20 ⊢
    rw [← hM] at hl HS Hos ⊢
    have HNn := Lib.hid hn
    have HNm := Lib.hid hM
    clear hn hM
    go_wp2
    go_loopw [9, 10] (fun s9 s10 wr => ∃ k : Nat, k ≤ n ∧ s10 = .int .i64 (k : Int) ∧ s9 = .int .i64 (s3L d k) ∧ Hid (Below w4.heap.size w4 wr)) (fun _ s10 _ => n - (intOf s10).toNat)
    case atStart => exact ⟨0, Nat.zero_le _, rfl, rfl, by show Below _ _ _; go_grown⟩
    case round =>
      obtain ⟨k, hkn, rfl, rfl, HBr⟩ := hrel
      have i1 : (0 : Int) ≤ (k : Int) := by omega
      by_cases hlt : k < n
      · have i2 : (k : Int) < (n : Int) := by omega
        have c0 := Hfs.out wr HBr.out k hlt
        have b1 := HDs.out k
        have b2 := HDb.out k
        have q1 : IntKind.i64.wrap (s3L d k + 3) = s3L d k + 3 := by rw [IntKind.wrap_i64]; omega
        have q2 : IntKind.i64.wrap (s3L d k + 3 + gz d k) = s3L d (k + 1) := by show _ = s3L d k + 3 + gz d k; rw [IntKind.wrap_i64]; omega
        have q3 : IntKind.i64.wrap ((k : Int) + 1) = (k : Int) + 1 := by rw [IntKind.wrap_i64]; omega
        obtain ⟨y, hy⟩ : ∃ y, y = s3L d (k + 1) := ⟨_, rfl⟩
        rw [← hy] at q2
        have HY := Lib.hid hy
        clear b1 b2 hy
        generalize s3L d k = s at *
        generalize gz d k = z at *
        go_wp2
        go_roundw
        case rel => exact ⟨k + 1, by omega, by go_num, by rw [HY.out], HBr⟩
        case measure => simp [intOf]; omega
      · obtain rfl : k = n := by omega
        have i2 : ¬ (k : Int) < (k : Int) := by omega
        obtain ⟨w5, hw5⟩ : ∃ w5, w5 = wr := ⟨_, rfl⟩
        subst hw5
        go_wp2
        go_loopw [11, 12] (fun s11 s12 wr => ∃ j : Nat, j ≤ M ∧ s12 = .int .i64 (j : Int) ∧ s11 = .int .i64 (s3L m j) ∧ Hid (Below w4.heap.size w4 wr)) (fun _ s12 _ => M - (intOf s12).toNat)
        case atStart => exact ⟨0, Nat.zero_le _, rfl, rfl, by show Below _ _ _; exact HBr.out⟩
        case round =>
          obtain ⟨j, hjn, rfl, rfl, HBq⟩ := hrel
          have y1 : (0 : Int) ≤ (j : Int) := by omega
          by_cases hjt : j < M
          · have y2 : (j : Int) < (M : Int) := by omega
            have c0 := Hos.out wr HBq.out j hjt
            have b1 := HNs.out j
            have b2 := HNb.out j
            have q1 : IntKind.i64.wrap (s3L m j + 3) = s3L m j + 3 := by rw [IntKind.wrap_i64]; omega
            have q2 : IntKind.i64.wrap (s3L m j + 3 + gz m j) = s3L m (j + 1) := by show _ = s3L m j + 3 + gz m j; rw [IntKind.wrap_i64]; omega
            have q3 : IntKind.i64.wrap ((j : Int) + 1) = (j : Int) + 1 := by rw [IntKind.wrap_i64]; omega
            obtain ⟨y, hy⟩ : ∃ y, y = s3L m (j + 1) := ⟨_, rfl⟩
            rw [← hy] at q2
            have HY := Lib.hid hy
            clear b1 b2 hy i2
            generalize s3L m j = s at *
            generalize gz m j = z at *
            generalize s3L d k = t at *
            go_wp2
            go_roundw
            case rel => exact ⟨j + 1, by omega, by go_num, by rw [HY.out], HBq⟩
            case measure => simp [intOf]; omega
          · obtain rfl : j = M := by omega
            have y2 : ¬ (j : Int) < (j : Int) := by omega
            have c0 := Hos.out wr HBq.out (i + 1) (by omega)
            rw [HM.out] at c0
            rw [HS.out]
            have ql : IntKind.i64.wrap ((k : Int) + 1) = (j : Int) := by rw [IntKind.wrap_i64]; omega
            have qx : IntKind.i64.wrap ((i : Int) + 1) = ((i + 1 : Nat) : Int) := by rw [IntKind.wrap_i64]; omega
            have z1 : (0 : Int) ≤ ((i + 1 : Nat) : Int) := by omega
            have z2 : ((i + 1 : Nat) : Int) < (j : Int) := by omega
            generalize s3L d k = t at *
            obtain ⟨i', hi'⟩ : ∃ i', i' = i + 1 := ⟨_, rfl⟩
            rw [← hi'] at c0 qx z1 z2
            clear hi'
            go_wp2
            go_returns
            exact ⟨by simp, belowTo HB.out HBq.out⟩
end Go.Proofs.Ytcieihbknfeddaa
