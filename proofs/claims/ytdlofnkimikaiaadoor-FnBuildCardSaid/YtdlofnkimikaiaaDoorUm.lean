/- The draws of a smooth fan that is often a least one; of one that is often blown down; of indexes. -/
import Derived.Test.YtdlofnkimikaiaaDoorUk
import Derived.Test.YtdlofnkimikaiaaDoorOb
import Derived.Test.YtdlofnkimikaiaaDoorHm
import Derived.Test.YtdlofnkimikaiaaDoorBf
namespace Go.Proofs.YtdlofnkimikaiaaDoor
open Go.RowKit

set_option maxRecDepth 100000 in
set_option maxHeartbeats 8000000 in
theorem drawFanDown_any (w : World) (a : Option Addr) (len cap : Nat) (h : Bytes w a len cap) :
    Calls Tryd.prog 39 #[.slice a len cap] w (GivenI w) := by
  have HO := Lib.hid (l91Index_any w a len cap h)
  obtain ⟨R, hR⟩ : ∃ R, R = (len : Int) % 3 := ⟨_, rfl⟩
  have qr1 : Int.tmod (len : Int) 3 = R := by rw [hR]; exact Int.tmod_eq_emod_of_nonneg (by omega)
  have qr2 : (len : Int) % 3 = R := hR.symm
  have r0 : 0 ≤ R := by omega
  clear h hR
  go_enter Tryd.func39, Tryd.ntmps39
  go_wp2_with fail
  refine Calls.mono HO.out ?_
  rintro e w1 ⟨v, l, i, rfl, hV, h2, h20, hb1⟩
  have HV := Lib.hid hV
  have HB1 := Lib.hid hb1
  have HN := Lib.hid (specFanNumbers_any v l w1 hV)
  have HNl : Hid ((numsZ l).length = l.length) := nums_len l
  clear HO hV hb1
  generalize numsZ l = L at *
  generalize smoothB l = K at *
  obtain ⟨va, vc, rfl, -⟩ := HV.out
  cases K
  · go_wp2_with fail
    refine Calls.mono HN.out ?_
    rintro e w2 ⟨u, rfl, hI, hb2⟩
    have HV2 := Lib.hid (HV.out.below hb2)
    have HB2 := Lib.hid (belowTo HB1.out hb2)
    obtain ⟨ua, uc, rfl, -⟩ := (hI.reads (by exact Nat.zero_le _))
    clear hI hb2 HN HV HB1 HNl
    go_wp2
    go_loopw [8] (fun s8 wr => s8 = .int .i64 0 ∧ Hid (Below w2.heap.size w2 wr)) (fun _ _ => 0)
    case atStart => exact ⟨rfl, by show Below _ _ _; go_grown⟩
    case round =>
      obtain ⟨rfl, HBr⟩ := hrel
      have HV3 := Lib.hid (HV2.out.below HBr.out)
      have HB3 := Lib.hid (belowTo HB2.out HBr.out)
      go_wp2
      go_returns
      exact ⟨_, l, i, rfl, HV3.out, h2, h20, HB3.out⟩
  · have hL20 : L.length ≤ 20 := by have := HNl.out; omega
    have hL1 : 0 < L.length := by have := HNl.out; omega
    go_wp2_with fail
    refine Calls.mono HN.out ?_
    rintro e w2 ⟨u, rfl, hI, hb2⟩
    have HV2 := Lib.hid (HV.out.below hb2)
    have HB2 := Lib.hid (belowTo HB1.out hb2)
    obtain ⟨ub, uo, uc, rfl, -, -, hus⟩ := (hI.reads (by show L.length ≤ _; omega)).open hL1
    have HUs := Lib.hid hus
    obtain ⟨n, hn⟩ : ∃ n, n = L.length := ⟨_, rfl⟩
    have e9 : (gV true L).length = n := hn.symm
    have HUn : Hid (∀ w', Below w2.heap.size w2 w' → ∀ k, k < n → w'.cell? ⟨ub, uo + k, none⟩ = some (.int .i64 (gz L k))) := fun w' hb k hk => HUs.out w' hb k (by show k < L.length; omega)
    rw [e9]
    rw [← hn] at hL20
    clear hI hb2 HN HV HB1 HNl hus HUs e9 hn hL1
    go_wp2
    go_loopw [8] (fun s8 wr => ∃ k : Nat, k ≤ n ∧ s8 = .int .i64 k ∧ Hid (Below w2.heap.size w2 wr)) (fun s8 _ => n - (intOf s8).toNat)
    case atStart => exact ⟨0, Nat.zero_le _, rfl, by show Below _ _ _; go_grown⟩
    case round =>
      obtain ⟨k, hk, rfl, HBr⟩ := hrel
      have i1 : (0 : Int) ≤ (k : Int) := by omega
      have HV3 := Lib.hid (HV2.out.below HBr.out)
      have HB3 := Lib.hid (belowTo HB2.out HBr.out)
      by_cases hlt : k < n
      · have i2 : (k : Int) < (n : Int) := by omega
        by_cases hr : 0 < R
        · have c0 := HUn.out wr HBr.out k hlt
          generalize gz L k = z at c0
          by_cases hz : z = -1
          · subst hz
            go_wp2
            go_returns
            exact ⟨_, l, k, rfl, HV3.out, h2, h20, HB3.out⟩
          · have hz' : (z == -1) = false := by simpa using hz
            clear hz
            go_wp2
            go_roundw
            case rel => exact ⟨k + 1, by omega, by go_num, HBr⟩
            case measure => simp [intOf]; omega
        · go_wp2
          go_returns
          exact ⟨_, l, i, rfl, HV3.out, h2, h20, HB3.out⟩
      · obtain rfl : k = n := by omega
        have i2 : ¬ (k : Int) < (k : Int) := by omega
        go_wp2
        go_returns
        exact ⟨_, l, i, rfl, HV3.out, h2, h20, HB3.out⟩
def GivenIs (w : World) (e : Ending) (w' : World) : Prop := ∃ (u : Value) (d : List Int), e = .returned u ∧ ReadsInts w' u d ∧ d.length ≤ 5 ∧ Below w.heap.size w w'
set_option maxRecDepth 100000 in
set_option maxHeartbeats 8000000 in
theorem drawFanBuild_any (w : World) (a : Option Addr) (len cap : Nat) (h : Bytes w a len cap) :
    Calls Tryd.prog 49 #[.slice a len cap] w (GivenIs w) := by
  obtain ⟨i0, hi, hz0, hz1, hz2⟩ := info_parts infoInt
  have HO := Lib.hid (l6Open_any w a len cap h)
  have HE := Lib.hid (fun w' => Ints.empty w')
  clear h
  go_enter Tryd.func49, Tryd.ntmps49
  go_wp2_with fail
  refine Calls.mono HO.out ?_
  rintro e w1 ⟨l1, c1, rfl, r1, hb1, hs1⟩
  have hw1 : w.heap.size < w1.heap.size := r1.2.2.2.2.1
  have HE1 := Lib.hid (HE.out w1)
  have HB1 := Lib.hid hb1
  have HR1 := Lib.hid r1
  clear hb1 r1 HE HO hs1
  go_wp2_with fail
  refine Calls.mono (pickG_any _ w.heap.size a l1 c1 0 6 (HR1.out.below (by go_grown)) (by omega) (by omega)) ?_
  rintro e w2 ⟨⟨n, rfl, n0, n6, R2, -, -, -, q2⟩, g2⟩
  have HI2 := Lib.hid (HE1.out.picked g2 hw1)
  have HQ2 := Lib.hid (HB1.out.trans (Below.trans (by go_grown) q2))
  have HR2 := Lib.hid R2
  have hs2 : w1.heap.size ≤ w2.heap.size := by have := q2.size; simp at this; omega
  clear HE1 g2 q2 R2 HR1 HB1
  go_wp2
  go_loopw [4, 6] (fun s4 s6 wr => ∃ (k : Nat) (L : List Int) (q : Int), s6 = .int .i64 k ∧ (k : Int) ≤ n ∧ L.length = k ∧ Hid (Ints wr w1.heap.size s4 L) ∧ Hid (Reads wr w.heap.size a l1 c1 q) ∧ q ≤ 1 + 2 * k ∧ Hid (Below w.heap.size w wr) ∧ w1.heap.size ≤ wr.heap.size) (fun _ s6 _ => (n - intOf s6).toNat)
  case atStart => exact ⟨0, [], 0 + 1, rfl, by omega, rfl, HI2, HR2, by omega, HQ2, hs2⟩
  case round =>
    clear HI2 HR2 HQ2
    obtain ⟨k, L, q, rfl, hk, hL, HI, HR, hq, HQ, hsr⟩ := hrel
    have i1 : (0 : Int) ≤ (k : Int) := by omega
    by_cases hlt : (k : Int) < n
    · have qk : IntKind.i64.wrap (3 + (k : Int)) = 3 + (k : Int) := by rw [IntKind.wrap_i64]; omega
      go_wp2_with fail
      refine Calls.mono (pickG_any _ w.heap.size a l1 c1 q (3 + (k : Int)) HR.out (by omega) (by omega)) ?_
      rintro e w3 ⟨⟨x, rfl, x0, x7, r3, -, -, -, b3⟩, g3⟩
      have HI3 := Lib.hid (HI.out.picked g3 hw1)
      have HB3 := Lib.hid (HQ.out.trans b3)
      have hs3 : w1.heap.size ≤ w3.heap.size := Nat.le_trans hsr b3.size
      clear g3 b3 HI HQ HR
      go_wp2_with fail
      refine Calls.mono (pickG_any _ w.heap.size a l1 c1 (q + 1) 30 r3 (by omega) (by omega)) ?_
      rintro e w4 ⟨⟨y, rfl, y0, y7, r4, -, -, -, b4⟩, g4⟩
      have hown : w4.ownsRow w1.heap.size 3 1 _ _ _ := HI3.out.picked g4 hw1
      have HB4 := Lib.hid (HB3.out.trans b4)
      have hs4 : w1.heap.size ≤ w4.heap.size := Nat.le_trans hs3 b4.size
      have HR4 := Lib.hid r4
      have e9 : y.tdiv 29 = y / 29 := Int.tdiv_eq_ediv_of_nonneg y0
      have qz : IntKind.i64.wrap (x + y / 29 * 9) = x + y / 29 * 9 := by rw [IntKind.wrap_i64]; omega
      rw [hL] at hown
      clear g4 b4 r3 r4 HB3 HI3
      go_wp2_with (at_builtin; refine wpList_append_own _ rfl _ _ 51 rfl w1.heap.size 3 i0 (.int .i64 0) 1 8 Tryd.underlying51 hi hz0 hz1 hz2 rfl (by decide) _ _ _ rfl (hown.alloc _) ⟨w4.heap.size, 0, none⟩ 1 1 [.int .i64 (x + y / 29 * 9)] rfl rfl ?c1 ?c2 ?c3 ?c4 ?c5 ?_)
      case c1 =>
        intro j u hj
        match j, hj with
        | 0, hj => simp at hj; subst hj; simp [Addr.add]
      case c2 => intro u hu; simp at hu; subst hu; rfl
      case c3 => unfold maxLen; omega
      case c4 => omega
      case c5 => simp; omega
      intro v' w5 hown' hgrow _
      have hg5 : Below w1.heap.size w4 w5 := ((Below.refl w1.heap.size w4).alloc hs4 _).grown hgrow (by simp; omega) (fun k hk => (hown.lt k hk).1)
      have HF : Hid (Ints w5 w1.heap.size v' (L ++ [x + y / 29 * 9])) := by
        have : intsV (L ++ [x + y / 29 * 9]) = intsV L ++ [.int .i64 (x + y / 29 * 9)] := by simp [intsV]
        show Ints _ _ _ _
        unfold Ints
        rw [this, List.length_append, hL]
        exact hown'
      have hs5 : w1.heap.size ≤ w5.heap.size := Nat.le_trans hs4 hg5.size
      have HR5 := Lib.hid (HR4.out.below (hg5.mono (by omega)))
      have HB5 := Lib.hid (HB4.out.trans (hg5.mono (by omega)))
      have HLl : Hid ((L ++ [x + y / 29 * 9]).length = k + 1) := by show _ = _; simp [hL]
      clear hown hown' hgrow hg5 HR4 HB4 hL
      go_wp2
      go_roundw
      case rel => exact ⟨k + 1, L ++ [x + y / 29 * 9], q + 1 + 1, by go_num, by omega, HLl.out, HF, HR5, by omega, HB5, hs5⟩
      case measure => simp [intOf]; omega
    · have hkn : (k : Int) = n := by omega
      have HRd := Lib.hid (HI.out.reads (by omega))
      clear HI HR
      go_wp2
      go_returns
      exact ⟨_, L, rfl, HRd.out, by omega, HQ.out⟩
end Go.Proofs.YtdlofnkimikaiaaDoor
