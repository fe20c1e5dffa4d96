import Derived.Test.YtgaeibibeekclabGreatDoorProg
import Derived.Test.YtgaeibibeekclabGreatDoorS04
import Derived.Test.YtgaeibibeekclabGreatDoorS06
import Derived.Test.YtgaeibibeekclabGreatDoorS07
import Derived.Test.YtgaeibibeekclabGreatDoorS08
import Derived.Test.YtgaeibibeekclabGreatDoorS10
import Derived.Test.YtgaeibibeekclabGreatDoorS11
import Derived.Test.YtgaeibibeekclabGreatDoorS14
import Derived.Test.YtgaeibibeekclabGreatDoorS19
import Derived.Test.YtgaeibibeekclabGreatDoorS20
import Derived.WalkKit
import Derived.LaidEql
import Derived.Stop.Asserts
import Derived.RowKitTokens
import Derived.Handy
import Derived.WalkSpells
import Derived.WalkLawsBesides
import Derived.Deep.QuietTactic
import Derived.BigQuiet
import Derived.Lib.Hide
import Derived.Deep.RegionHeld3
import Derived.Deep.DeepCutAuto
import Derived.Deep.AppendLies
import Derived.Laws.OwnMore
import Derived.Laws.MakeOwn
import Derived.OwnWalk
import Derived.WalkSmall
import Derived.Maps.AppendAt
import Derived.RangeFuncBox
import Derived.RegionTactic
import Derived.ChangeAlike
import Derived.RangeFuncNested
import Derived.StillTail
import Derived.OrdersIn
import Derived.AtR
import Derived.RangeFuncBound
import Derived.RangeFuncCalls
import Derived.RangeFuncLeaves
import Derived.Shelf.Abstract
import Derived.OwnWalkIn
import Derived.TacticsInMore
import Derived.LoopNIn
import Derived.LoopIn
import Derived.LaidEqlPtr
import Derived.BigRegion
import Derived.Laws.StructEq
import Derived.Shelf.SlSortCmp.WholeK
import Derived.Laws.IdiomCopy
import Derived.Shelf.SlGeneric
import Derived.Shelf.SlSortCmp.NoneTotal
import Derived.Shelf.SlicesE.Clone
import Derived.Shelf.SlicesQ.Reverse
import Derived.Ground.SlsfProg
import Derived.Ground.SlgnProg
import Derived.Deep.RegionLaw
import Derived.ArgAppend
namespace Go.Proofs.YtgaeibibeekclabGreatDoor
open Go.RowKit
def DrewPts (w : World) (B : Nat) (a : Option Addr) (len cap : Nat) (p : Int) (e : Ending) (w' : World) : Prop :=
  ∃ (v : Value) (l : List V2) (q : Int), e = .returned v ∧ Vecs w' w.heap.size v l ∧ 3 ≤ l.length ∧ l.length ≤ 6 ∧ Reads w' B a len cap q ∧ q ≤ p + 20 ∧ Below B w w' ∧ Kept w.heap.size B w w'
def DrewPoly (w : World) (B : Nat) (a : Option Addr) (len cap : Nat) (p : Int) (e : Ending) (w' : World) : Prop :=
  ∃ (v : Value) (l : List V2) (q : Int), e = .returned v ∧ VecsO w' w.heap.size v l ∧ 3 ≤ l.length ∧ l.length ≤ 30 ∧ Reads w' B a len cap q ∧ q ≤ p + 30 ∧ Below B w w' ∧ Kept w.heap.size B w w'
def GivenP (w : World) (e : Ending) (w' : World) : Prop :=
  ∃ (v : Value) (l : List V2), e = .returned v ∧ ReadsVecs w' v l ∧ 3 ≤ l.length ∧ l.length ≤ 30 ∧ Below w.heap.size w w'
set_option maxRecDepth 100000 in
set_option maxHeartbeats 16000000 in
theorem l92Points_any (w : World) (B : Nat) (a : Option Addr) (len cap : Nat) (p : Int) (h : Reads w B a len cap p) (hp : p ≤ 90000) :
    Calls Tryz.prog 102 #[.pointer (some ⟨B, 0, none⟩)] w (DrewPts w B a len cap p) := by
  obtain ⟨i0, hi, hz0, hz1, hz2⟩ := info_parts infoVec
  have hB : B < w.heap.size := h.2.2.2.2.1
  have HR := Lib.hid h
  have HE := Lib.hid (Vecs.empty w)
  clear h
  go_enter Tryz.func102, Tryz.ntmps102
  go_wp2_with fail
  refine Calls.mono (pickG_any _ B a len cap p 4 (HR.out.below (by go_grown)) (by omega) (by omega)) ?_
  rintro e w2 ⟨⟨y, rfl, y0, y4, R2, k2, f2, z2, q2⟩, g2⟩
  have HK2 : Hid (Kept w.heap.size B w w2) := Lib.hid (Kept.trans (Kept.of_below (by go_grown)) (Kept.of_pick k2 f2 z2))
  have HV2 := Lib.hid (HE.out.pickedL g2 hB)
  have HQ2 : Hid (Below B w w2) := Lib.hid (Below.trans (by go_grown) q2)
  have HR2 := Lib.hid R2
  have hs2 : w.heap.size ≤ w2.heap.size := HQ2.out.size
  obtain ⟨n, hn⟩ : ∃ n, n = 3 + y := ⟨_, rfl⟩
  have qn : IntKind.i64.wrap (3 + y) = n := by rw [IntKind.wrap_i64]; omega
  have n3 : 3 ≤ n := by omega
  have n6 : n ≤ 6 := by omega
  clear HE g2 q2 R2 HR hn k2 f2 z2
  go_wp2
  go_loopw [3, 5] (fun s3 s5 wr => ∃ (k : Nat) (L : List V2) (q : Int), s5 = .int .i64 k ∧ (k : Int) ≤ n ∧ L.length = k ∧ Hid (Vecs wr w.heap.size s3 L) ∧ Hid (Reads wr B a len cap q) ∧ q ≤ p + 1 + 2 * k ∧ Hid (Below B w wr) ∧ Hid (Kept w.heap.size B w wr) ∧ w.heap.size ≤ wr.heap.size) (fun _ s5 _ => (n - intOf s5).toNat)
  case atStart => exact ⟨0, [], p + 1, rfl, by omega, rfl, HV2, HR2, by omega, HQ2, HK2, hs2⟩
  case round =>
    clear HV2 HR2 HQ2 HK2
    obtain ⟨k, L, q, rfl, hk, hL, HV, HR, hq, HQ, HK, hsr⟩ := hrel
    have i1 : (0 : Int) ≤ (k : Int) := by omega
    by_cases hlt : (k : Int) < n
    · go_wp2_with fail
      refine Calls.mono (pickG_any _ B a len cap q 9 (HR.out.below (by go_grown)) (by omega) (by omega)) ?_
      rintro e w3 ⟨⟨x, rfl, x0, x9, R3, k3, f3, z3, q3⟩, g3⟩
      have HK3 := Lib.hid (HK.out.trans (Kept.of_pick k3 f3 z3))
      have HV3 := Lib.hid (HV.out.pickedL g3 hB)
      have HQ3 := Lib.hid (HQ.out.trans q3)
      have hs3 : w.heap.size ≤ w3.heap.size := Nat.le_trans hsr q3.size
      have HR3 := Lib.hid R3
      clear g3 q3 R3 HV HR HQ HK k3 f3 z3
      go_wp2_with fail
      refine Calls.mono (pickG_any _ B a len cap (q + 1) 9 (HR3.out.below (by go_grown)) (by omega) (by omega)) ?_
      rintro e w4 ⟨⟨z, rfl, z0, z9, R4, k4, f4, z4, q4⟩, g4⟩
      have HK4 := Lib.hid (HK3.out.trans (Kept.of_pick k4 f4 z4))
      have hown := HV3.out.pickedL g4 hB
      have HQ4 := Lib.hid (HQ3.out.trans q4)
      have hs4 : w.heap.size ≤ w4.heap.size := Nat.le_trans hs3 q4.size
      have HR4 := Lib.hid R4
      unfold Vecs VRow at hown
      rw [hL] at hown
      clear g4 q4 R4 HV3 HR3 HQ3 HK3 k4 f4 z4
      have qx : IntKind.i64.wrap (x - 4) = x - 4 := by rw [IntKind.wrap_i64]; omega
      have qz : IntKind.i64.wrap (z - 4) = z - 4 := by rw [IntKind.wrap_i64]; omega
      go_wp2_with (at_builtin; refine wpList_append_own_at _ rfl _ _ 23 rfl w.heap.size 55 i0 (.agg #[.int .i64 (0), .int .i64 (0)]) 2 16 Tryz.underlying23 hi hz0 hz1 hz2 rfl (by decide) _ _ _ rfl (hown.alloc _) ⟨w4.heap.size, 0, none⟩ 1 1 [.int .i64 (x - 4), .int .i64 (z - 4)] rfl rfl (vec_cellsL _ (x - 4) (z - 4) _) (vec_oneL (x - 4) (z - 4)) ?c3 ?c4 ?c5 ?_)
      case c3 => unfold maxLen; omega
      case c4 => omega
      case c5 => simp; omega
      intro v' w5 hown' hgrow _ _
      have hg5 : Below w.heap.size w4 w5 := ((Below.refl w.heap.size w4).alloc hs4 _).grown hgrow (by simp; omega) (fun k hk => (hown.lt k hk).1)
      have HVv := Lib.hid (Vecs.snoc (l := L) hL.symm hown')
      have hs5 : w.heap.size ≤ w5.heap.size := Nat.le_trans hs4 hg5.size
      have HR5 := Lib.hid (HR4.out.below (hg5.mono (by omega)))
      have HB5 := Lib.hid (HQ4.out.trans (hg5.mono (by omega)))
      have HK5 := Lib.hid (HK4.out.trans (Kept.of_below hg5))
      have hLl : (L ++ [(x - 4, z - 4)]).length = k + 1 := by simp [hL]
      have HLl := Lib.hid hLl
      clear hown hown' hgrow hg5 HR4 HQ4 HK4 hL hLl
      go_wp2
      go_roundw
      case rel => exact ⟨k + 1, L ++ [(x - 4, z - 4)], q + 1 + 1, by go_num, by omega, HLl.out, HVv, HR5, by omega, HB5, HK5, hs5⟩
      case measure => simp [intOf]; omega
    · have hkn : (k : Int) = n := by omega
      go_wp2
      go_returns
      exact ⟨_, L, q, rfl, HV.out, by omega, by omega, HR.out, by omega, HQ.out, HK.out⟩
theorem ofP_len {l : List V2} (h : OfB l = true) : 3 ≤ (OfL l).length ∧ (OfL l).length ≤ 30 := by
  unfold OfL
  rw [h]
  unfold OfB at h
  rw [Bool.and_eq_true] at h
  exact poly_len h.2
set_option maxRecDepth 100000 in
set_option maxHeartbeats 16000000 in
theorem l92Polygon_any (w : World) (B : Nat) (a : Option Addr) (len cap : Nat) (p : Int) (h : Reads w B a len cap p) (hp : p ≤ 80000) :
    Calls Tryz.prog 65 #[.pointer (some ⟨B, 0, none⟩)] w (DrewPoly w B a len cap p) := by
  obtain ⟨i0, hi, hz0, hz1, hz2⟩ := info_parts infoVec
  have hB : B < w.heap.size := h.2.2.2.2.1
  have HPt := Lib.hid (l92Points_any w B a len cap p h (by omega))
  have HFo := Lib.hid (fun v' l' w' hV => specPolygonOf_any v' l' w' hV)
  have HN := Lib.hid (fun L : List V2 => ofP_len (l := L))
  clear h
  go_enter Tryz.func65, Tryz.ntmps65
  go_wp2_with fail
  refine Calls.mono HPt.out ?_
  rintro e w1 ⟨v, l, q, rfl, hV, h3, h6, r1, hq, hb1, hk1⟩
  have HK1 := Lib.hid hk1
  have HFl := Lib.hid (HFo.out v l w1 (hV.reads (by omega)))
  have HNl := Lib.hid (HN.out l)
  have hs1 : w.heap.size ≤ w1.heap.size := hb1.size
  have HV1 : Hid (VecsO w1 w.heap.size v l) := VecsO.of hV (by omega) (by omega)
  have HR1 := Lib.hid r1
  have HB1 := Lib.hid hb1
  clear hV r1 hb1 hk1 HFo HN HPt
  generalize OfB l = K at *
  generalize OfL l = S at *
  obtain ⟨va, vc, rfl, -⟩ := id HV1.out.1
  go_wp2_with fail
  refine Calls.mono HFl.out ?_
  rintro e w2 ⟨v2, rfl, hV2, hb2⟩
  have HV2 := Lib.hid (HV1.out.below hb2)
  have HR2 := Lib.hid (HR1.out.below (hb2.mono (by omega)))
  have HB2 := Lib.hid (HB1.out.trans (hb2.mono (by omega)))
  have hs2 : w.heap.size ≤ w2.heap.size := HB2.out.size
  have hs12 := hb2.size
  have HK2 := Lib.hid (HK1.out.trans (Kept.of_below (hb2.mono hs1)))
  clear hb2 HV1 HR1 HB1 HK1 HFl
  cases K
  · clear hV2
    go_wp2
    go_returns
    exact ⟨_, l, q, rfl, HV2.out, h3, by omega, HR2.out, by omega, HB2.out, HK2.out⟩
  · obtain ⟨s3, s30⟩ := HNl.out rfl
    have HS2 : Hid (VecsO w2 w.heap.size v2 S) := VecsO.of (Vecs.lower hV2 hs1) (by omega) (by omega)
    clear hV2 HNl
    go_wp2_with fail
    refine Calls.mono (pickG_any _ B a len cap q 24 HR2.out (by omega) (by omega)) ?_
    rintro e w3 ⟨⟨y, rfl, y0, y24, R3, k3, f3, z3, q3⟩, g3⟩
    have HK3 := Lib.hid (HK2.out.trans (Kept.of_pick k3 f3 z3))
    have HV3 := Lib.hid (HV2.out.picked g3 hB)
    have HS3 := Lib.hid (HS2.out.picked g3 hB)
    have HB3 := Lib.hid (HB2.out.trans q3)
    have hs3 : w.heap.size ≤ w3.heap.size := HB3.out.size
    have HR3 := Lib.hid R3
    clear g3 q3 R3 HV2 HS2 HB2 HR2 HK2 k3 f3 z3
    by_cases hy : y = 0
    · subst hy
      clear HS3
      go_wp2
      go_returns
      exact ⟨_, l, q + 1, rfl, HV3.out, h3, by omega, HR3.out, by omega, HB3.out, HK3.out⟩
    · have hy' : (y == 0) = false := by simpa using hy
      clear HV3 hy
      go_wp2_with fail
      refine Calls.mono (pickG_any _ B a len cap (q + 1) 3 HR3.out (by omega) (by omega)) ?_
      rintro e w4 ⟨⟨z, rfl, z0, z3, R4, k4, f4, z4, q4⟩, g4⟩
      have HK4 := Lib.hid (HK3.out.trans (Kept.of_pick k4 f4 z4))
      have HS4 := Lib.hid (HS3.out.picked g4 hB)
      have HB4 := Lib.hid (HB3.out.trans q4)
      have hs4 : w.heap.size ≤ w4.heap.size := HB4.out.size
      have HR4 := Lib.hid R4
      clear g4 q4 R4 HS3 HB3 HR3 HK3 k4 f4 z4
      by_cases hz : z = 0
      · subst hz
        have HL : Hid (S.length ≤ 30) := s30
        obtain ⟨n, hN⟩ : ∃ n, S.length = n + 1 := ⟨S.length - 1, by omega⟩
        have HT1 : Hid (1 + n ≤ S.length) := by show _ ≤ _; omega
        have HR : Hid ((([] ++ (S.drop 1).take n) ++ [cyc S 0]) = rot 1 S) := by
          have e1 : (S.drop 1).take n = S.drop 1 := List.take_of_length_le (by simp; omega)
          have e2 : S.take 1 = [cyc S 0] := by
            cases S with
            | nil => simp at hN
            | cons a t => rfl
          show _ = S.drop 1 ++ S.take 1
          rw [e1, e2]; rfl
        have HRl : Hid ((rot 1 S).length = S.length) := rot_len _ _
        obtain ⟨fb, fo, fc, rfl, hfc, hbase, hfb, hfs⟩ := HS4.out.1.open (by omega)
        have HCl := Lib.hid hfs
        obtain ⟨c0, c1⟩ := hfs w4 (Below.refl _ _) 0 (by omega)
        rw [Nat.zero_mul, Nat.add_zero] at c0 c1
        clear hfs HS4
        generalize cyc S 0 = P at *
        obtain ⟨X, Y⟩ := P
        dsimp only at c0 c1
        have HfL := Lib.hid hN
        have hrb := hfb
        have t1 : (1 : Int) ≤ (S.length : Int) := by omega
        have t2 : S.length - 1 = n := by omega
        have t3 : ¬ fc = 1 := by omega
        have t4 : (0 : Int) < (S.length : Int) := by omega
        have t5 : 0 < S.length := by omega
        have t6 : (S.length : Int) ≤ (fc : Int) := by omega
        have t7 : ¬ 1 = fc := by omega
        have hN20 : n ≤ 30 := by omega
        clear hN
        have HO1 : Hid (Vecs (w4.drew.alloc (.cells #[] 55)) w4.heap.size (.slice (some ⟨w4.heap.size, 0, none⟩) 0 0) []) := Vecs.empty w4.drew
        have HB1 : Hid (Below w4.heap.size w4 (w4.drew.alloc (.cells #[] 55))) := (by go_grown : Below _ _ _)
        have HO2 : Hid (Vecs ((w4.drew.alloc (.cells #[] 55)).alloc (.cells #[.int .i64 X, .int .i64 Y] 55)) w4.heap.size (.slice (some ⟨w4.heap.size, 0, none⟩) 0 0) []) := HO1.out.below (by go_grown)
        have HB2 : Hid (Below w4.heap.size w4 ((w4.drew.alloc (.cells #[] 55)).alloc (.cells #[.int .i64 X, .int .i64 Y] 55))) := (by go_grown : Below _ _ _)
        have hO3 := (Vecs.empty (w4.drew.alloc (.cells #[.int .i64 X, .int .i64 Y] 55))).lower (base' := w4.heap.size) (by simp)
        simp only [World.size_alloc, World.size_drew] at hO3
        have HO3 : Hid (Vecs ((w4.drew.alloc (.cells #[.int .i64 X, .int .i64 Y] 55)).alloc (.cells #[] 55)) w4.heap.size (.slice (some ⟨w4.heap.size + 1, 0, none⟩) 0 0) []) := hO3
        have HB3 : Hid (Below w4.heap.size w4 ((w4.drew.alloc (.cells #[.int .i64 X, .int .i64 Y] 55)).alloc (.cells #[] 55))) := (by go_grown : Below _ _ _)
        clear hO3
        have KE0 : Hid (((w4.drew.alloc (.cells #[] 55)).alloc (.cells #[.int .i64 X, .int .i64 Y] 55)).cell? ⟨w4.heap.size + 1, 0, none⟩ = some (.int .i64 X)) := by show ((w4.drew.alloc (.cells #[] 55)).alloc (.cells #[.int .i64 X, .int .i64 Y] 55)).cell? ⟨w4.heap.size + 1, 0, none⟩ = some (.int .i64 X); rw [World.cell?_alloc_at _ _ _ _ (by simp only [World.size_alloc, World.size_drew])]; rfl
        have KE1 : Hid (((w4.drew.alloc (.cells #[] 55)).alloc (.cells #[.int .i64 X, .int .i64 Y] 55)).cell? ⟨w4.heap.size + 1, 1, none⟩ = some (.int .i64 Y)) := by show ((w4.drew.alloc (.cells #[] 55)).alloc (.cells #[.int .i64 X, .int .i64 Y] 55)).cell? ⟨w4.heap.size + 1, 1, none⟩ = some (.int .i64 Y); rw [World.cell?_alloc_at _ _ _ _ (by simp only [World.size_alloc, World.size_drew])]; rfl
        have KR0 : Hid (((w4.drew.alloc (.cells #[.int .i64 X, .int .i64 Y] 55)).alloc (.cells #[] 55)).cell? ⟨w4.heap.size, 0, none⟩ = some (.int .i64 X)) := by show ((w4.drew.alloc (.cells #[.int .i64 X, .int .i64 Y] 55)).alloc (.cells #[] 55)).cell? ⟨w4.heap.size, 0, none⟩ = some (.int .i64 X); rw [World.cell?_alloc_lt _ _ ⟨_, _, none⟩ (by simp only [World.size_alloc, World.size_drew]; omega), World.cell?_alloc_at _ _ _ _ (by simp only [World.size_drew])]; rfl
        have KR1 : Hid (((w4.drew.alloc (.cells #[.int .i64 X, .int .i64 Y] 55)).alloc (.cells #[] 55)).cell? ⟨w4.heap.size, 1, none⟩ = some (.int .i64 Y)) := by show ((w4.drew.alloc (.cells #[.int .i64 X, .int .i64 Y] 55)).alloc (.cells #[] 55)).cell? ⟨w4.heap.size, 1, none⟩ = some (.int .i64 Y); rw [World.cell?_alloc_lt _ _ ⟨_, _, none⟩ (by simp only [World.size_alloc, World.size_drew]; omega), World.cell?_alloc_at _ _ _ _ (by simp only [World.size_drew])]; rfl
        go_wp2
        refine wp_region_any (by kernel_rfl) ?_
        try (change wpAny _ _ _ _ _ _ _ (World.drew _))
        refine wpAny_take (i := 1) (v := ?_) rfl (by kernel_rfl) (by kernel_rfl) (by kernel_rfl) (fun _ _ _ h => h) (Or.inl ⟨by rfl, ?_⟩) ?_
        rotate_left
        focus (intro w0; go_simp; try with_reducible rfl)
        refine wpAny_take (i := 2) (v := ?_) rfl (by kernel_rfl) (by kernel_rfl) (by kernel_rfl) (fun _ _ _ h => h) (Or.inl ⟨by rfl, ?_⟩) ?_
        rotate_left
        focus (intro w0; go_simp; try with_reducible rfl)
        refine wpAny_take (i := 4) (v := ?_) rfl (by kernel_rfl) (by kernel_rfl) (by kernel_rfl) (fun _ _ _ h => h) (Or.inl ⟨by rfl, ?_⟩) ?_
        rotate_left
        focus (intro w0; go_simp; try with_reducible rfl)
        refine wpAny_take (i := 5) (v := ?_) rfl (by kernel_rfl) (by kernel_rfl) (by kernel_rfl) (fun _ _ _ h => h) (Or.inl ⟨by rfl, ?_⟩) ?_
        rotate_left
        focus (intro w0; go_simp; try with_reducible rfl)
        refine wpAny_ready (rs := [0, 6]) (by kernel_rfl) (by simp) (AllReady.cons rfl (fun K hK => ?_) (AllReady.cons rfl (fun K hK => ?_) (AllReady.nil)))
        focus
          go_simp
          refine hK _ _ ?_
          clear hK K
          refine wpAny_ready (rs := [3, 6]) (by kernel_rfl) (by simp) (AllReady.cons rfl (fun K hK => ?_) (AllReady.cons rfl (fun K hK => ?_) (AllReady.nil)))
          focus
            (refine step_list (by rintro ⟨_, _, h⟩; obtain ⟨_, _, _, hv, _⟩ := h; cases hv) (by kernel_rfl) ?_; first | (refine wpList_append_own_at _ rfl _ _ 23 rfl w4.heap.size 55 i0 (.agg #[.int .i64 (0), .int .i64 (0)]) 2 16 Tryz.underlying23 hi hz0 hz1 hz2 rfl (by decide) (.slice (some ⟨w4.heap.size, 0, none⟩) 0 0) _ _ rfl HO1.out _ _ _ _ rfl (piece_len HT1.out) (piece_cells (HCl.out _ HB1.out) HT1.out) (piece_one _) (by unfold maxLen; simp; omega) (by simp; omega) HB1.out.size ?_; intro v2 wa2 hown2 hgrowa2 _ _; have HBA := Lib.hid (HB1.out.grown hgrowa2 HB1.out.size (fun q hq => (World.ownsRow.lt HO1.out q hq).1)); have HO := Lib.hid (Vecs.join (l := []) hown2 (by have := HfL.out; simp <;> omega)); have b0 := (HBA.out.cell (p := ⟨fb, fo, none⟩) hrb).trans c0; have b1 := (HBA.out.cell (p := ⟨fb, fo + 1, none⟩) hrb).trans c1; have bl := Nat.lt_of_lt_of_le hrb HBA.out.size; clear hown2 hgrowa2) | (refine wpList_append_own_at _ rfl _ _ 23 rfl w4.heap.size 55 i0 (.agg #[.int .i64 (0), .int .i64 (0)]) 2 16 Tryz.underlying23 hi hz0 hz1 hz2 rfl (by decide) (.slice (some ⟨w4.heap.size + 1, 0, none⟩) 0 0) _ _ rfl HO3.out _ _ _ _ rfl (piece_len HT1.out) (piece_cells (HCl.out _ HB3.out) HT1.out) (piece_one _) (by unfold maxLen; simp; omega) (by simp; omega) HB3.out.size ?_; intro v2 wa2 hown2 hgrowa2 _ _; have HBA := Lib.hid (HB3.out.grown hgrowa2 HB3.out.size (fun q hq => (World.ownsRow.lt HO3.out q hq).1)); have HO := Lib.hid (Vecs.join (l := []) hown2 (by have := HfL.out; simp <;> omega)); have rr : wa2.heap[w4.heap.size]? = ((w4.drew.alloc (.cells #[.int .i64 X, .int .i64 Y] 55)).alloc (.cells #[] 55)).heap[w4.heap.size]? := hgrowa2.block _ (by simp <;> omega) (by simp [Value.ownBlock]); have RR0 : Hid (wa2.cell? ⟨w4.heap.size, 0, none⟩ = some (.int .i64 X)) := (cell_same rr 0).trans KR0.out; have RR1 : Hid (wa2.cell? ⟨w4.heap.size, 1, none⟩ = some (.int .i64 Y)) := (cell_same rr 1).trans KR1.out; clear rr; clear hown2 hgrowa2) | (refine wpList_append_own_at _ rfl _ _ 23 rfl w4.heap.size 55 i0 (.agg #[.int .i64 (0), .int .i64 (0)]) 2 16 Tryz.underlying23 hi hz0 hz1 hz2 rfl (by decide) (.slice (some ⟨w4.heap.size, 0, none⟩) 0 0) _ _ rfl HO2.out _ _ _ _ rfl (piece_len HT1.out) (piece_cells (HCl.out _ HB2.out) HT1.out) (piece_one _) (by unfold maxLen; simp; omega) (by simp; omega) HB2.out.size ?_; intro v2 wa2 hown2 hgrowa2 _ _; have HBA := Lib.hid (HB2.out.grown hgrowa2 HB2.out.size (fun q hq => (World.ownsRow.lt HO2.out q hq).1)); have HO := Lib.hid (Vecs.join (l := []) hown2 (by have := HfL.out; simp <;> omega)); have rr : wa2.heap[w4.heap.size + 1]? = ((w4.drew.alloc (.cells #[] 55)).alloc (.cells #[.int .i64 X, .int .i64 Y] 55)).heap[w4.heap.size + 1]? := hgrowa2.block _ (by simp <;> omega) (by simp [Value.ownBlock]); have RR0 : Hid (wa2.cell? ⟨w4.heap.size + 1, 0, none⟩ = some (.int .i64 X)) := (cell_same rr 0).trans KE0.out; have RR1 : Hid (wa2.cell? ⟨w4.heap.size + 1, 1, none⟩ = some (.int .i64 Y)) := (cell_same rr 1).trans KE1.out; clear rr; clear hown2 hgrowa2))
            refine hK _ _ ?_
            clear hK K
            refine wpAny_ready (rs := [6]) (by kernel_rfl) (by simp) (AllReady.cons rfl (fun K hK => ?_) (AllReady.nil))
            go_simp
            refine hK _ _ ?_
            clear hK K
            refine wpAny_ready (rs := [7]) (by kernel_rfl) (by simp) (AllReady.cons rfl (fun K hK => ?_) (AllReady.nil))
            go_simp
            refine hK _ _ ?_
            clear hK K
            refine wpAny_ready (rs := [8]) (by kernel_rfl) (by simp) (AllReady.cons rfl (fun K hK => ?_) (AllReady.nil))
            (refine step_list (by rintro ⟨_, _, h⟩; obtain ⟨_, _, _, hv, _⟩ := h; cases hv) (by kernel_rfl) ?_; first | (refine wpList_append_own_at _ rfl _ _ 23 rfl w4.heap.size 55 i0 (.agg #[.int .i64 (0), .int .i64 (0)]) 2 16 Tryz.underlying23 hi hz0 hz1 hz2 rfl (by decide) _ _ _ rfl HO.out _ 1 1 [.int .i64 X, .int .i64 Y] rfl rfl (two_cells RR0.out RR1.out) (two_one _ _) (by unfold maxLen; simp; omega) (by simp; omega) HBA.out.size ?_; intro v3 wa3 hown3 hgrowa3 _ _; have HBC := Lib.hid (HBA.out.grown hgrowa3 HBA.out.size (fun q hq => (World.ownsRow.lt HO.out q hq).1)); have HOC := Lib.hid (Vecs.snoc (l := [] ++ (S.drop 1).take n) rfl hown3); clear hown3 hgrowa3) | (refine wpList_append_own_at _ rfl _ _ 23 rfl w4.heap.size 55 i0 (.agg #[.int .i64 (0), .int .i64 (0)]) 2 16 Tryz.underlying23 hi hz0 hz1 hz2 rfl (by decide) _ _ _ rfl (HO.out.below (by go_grown)) _ 1 1 [.int .i64 X, .int .i64 Y] rfl rfl (two_cells (by simp) (by simp)) (two_one _ _) (by unfold maxLen; simp; omega) (by simp; omega) (HBA.out.alloc HBA.out.size _).size ?_; intro v3 wa3 hown3 hgrowa3 _ _; have HBC := Lib.hid ((HBA.out.alloc HBA.out.size _).grown hgrowa3 (HBA.out.alloc HBA.out.size _).size (fun q hq => (World.ownsRow.lt HO.out q hq).1)); have HOC := Lib.hid (Vecs.snoc (l := [] ++ (S.drop 1).take n) rfl hown3); clear hown3 hgrowa3))
            refine hK _ _ ?_
            clear hK K
            refine wpAny_seq 9 rfl (by kernel_rfl) ?_
            simp only [List.drop_succ_cons, List.drop_zero]
          rotate_left 1
          focus
            go_simp
            refine hK _ _ ?_
            clear hK K
            refine wpAny_ready (rs := [3, 7]) (by kernel_rfl) (by simp) (AllReady.cons rfl (fun K hK => ?_) (AllReady.cons rfl (fun K hK => ?_) (AllReady.nil)))
            focus
              (refine step_list (by rintro ⟨_, _, h⟩; obtain ⟨_, _, _, hv, _⟩ := h; cases hv) (by kernel_rfl) ?_; first | (refine wpList_append_own_at _ rfl _ _ 23 rfl w4.heap.size 55 i0 (.agg #[.int .i64 (0), .int .i64 (0)]) 2 16 Tryz.underlying23 hi hz0 hz1 hz2 rfl (by decide) (.slice (some ⟨w4.heap.size, 0, none⟩) 0 0) _ _ rfl HO1.out _ _ _ _ rfl (piece_len HT1.out) (piece_cells (HCl.out _ HB1.out) HT1.out) (piece_one _) (by unfold maxLen; simp; omega) (by simp; omega) HB1.out.size ?_; intro v2 wa2 hown2 hgrowa2 _ _; have HBA := Lib.hid (HB1.out.grown hgrowa2 HB1.out.size (fun q hq => (World.ownsRow.lt HO1.out q hq).1)); have HO := Lib.hid (Vecs.join (l := []) hown2 (by have := HfL.out; simp <;> omega)); have b0 := (HBA.out.cell (p := ⟨fb, fo, none⟩) hrb).trans c0; have b1 := (HBA.out.cell (p := ⟨fb, fo + 1, none⟩) hrb).trans c1; have bl := Nat.lt_of_lt_of_le hrb HBA.out.size; clear hown2 hgrowa2) | (refine wpList_append_own_at _ rfl _ _ 23 rfl w4.heap.size 55 i0 (.agg #[.int .i64 (0), .int .i64 (0)]) 2 16 Tryz.underlying23 hi hz0 hz1 hz2 rfl (by decide) (.slice (some ⟨w4.heap.size + 1, 0, none⟩) 0 0) _ _ rfl HO3.out _ _ _ _ rfl (piece_len HT1.out) (piece_cells (HCl.out _ HB3.out) HT1.out) (piece_one _) (by unfold maxLen; simp; omega) (by simp; omega) HB3.out.size ?_; intro v2 wa2 hown2 hgrowa2 _ _; have HBA := Lib.hid (HB3.out.grown hgrowa2 HB3.out.size (fun q hq => (World.ownsRow.lt HO3.out q hq).1)); have HO := Lib.hid (Vecs.join (l := []) hown2 (by have := HfL.out; simp <;> omega)); have rr : wa2.heap[w4.heap.size]? = ((w4.drew.alloc (.cells #[.int .i64 X, .int .i64 Y] 55)).alloc (.cells #[] 55)).heap[w4.heap.size]? := hgrowa2.block _ (by simp <;> omega) (by simp [Value.ownBlock]); have RR0 : Hid (wa2.cell? ⟨w4.heap.size, 0, none⟩ = some (.int .i64 X)) := (cell_same rr 0).trans KR0.out; have RR1 : Hid (wa2.cell? ⟨w4.heap.size, 1, none⟩ = some (.int .i64 Y)) := (cell_same rr 1).trans KR1.out; clear rr; clear hown2 hgrowa2) | (refine wpList_append_own_at _ rfl _ _ 23 rfl w4.heap.size 55 i0 (.agg #[.int .i64 (0), .int .i64 (0)]) 2 16 Tryz.underlying23 hi hz0 hz1 hz2 rfl (by decide) (.slice (some ⟨w4.heap.size, 0, none⟩) 0 0) _ _ rfl HO2.out _ _ _ _ rfl (piece_len HT1.out) (piece_cells (HCl.out _ HB2.out) HT1.out) (piece_one _) (by unfold maxLen; simp; omega) (by simp; omega) HB2.out.size ?_; intro v2 wa2 hown2 hgrowa2 _ _; have HBA := Lib.hid (HB2.out.grown hgrowa2 HB2.out.size (fun q hq => (World.ownsRow.lt HO2.out q hq).1)); have HO := Lib.hid (Vecs.join (l := []) hown2 (by have := HfL.out; simp <;> omega)); have rr : wa2.heap[w4.heap.size + 1]? = ((w4.drew.alloc (.cells #[] 55)).alloc (.cells #[.int .i64 X, .int .i64 Y] 55)).heap[w4.heap.size + 1]? := hgrowa2.block _ (by simp <;> omega) (by simp [Value.ownBlock]); have RR0 : Hid (wa2.cell? ⟨w4.heap.size + 1, 0, none⟩ = some (.int .i64 X)) := (cell_same rr 0).trans KE0.out; have RR1 : Hid (wa2.cell? ⟨w4.heap.size + 1, 1, none⟩ = some (.int .i64 Y)) := (cell_same rr 1).trans KE1.out; clear rr; clear hown2 hgrowa2))
              refine hK _ _ ?_
              clear hK K
              refine wpAny_ready (rs := [7]) (by kernel_rfl) (by simp) (AllReady.cons rfl (fun K hK => ?_) (AllReady.nil))
              go_simp
              refine hK _ _ ?_
              clear hK K
              refine wpAny_ready (rs := [8]) (by kernel_rfl) (by simp) (AllReady.cons rfl (fun K hK => ?_) (AllReady.nil))
              (refine step_list (by rintro ⟨_, _, h⟩; obtain ⟨_, _, _, hv, _⟩ := h; cases hv) (by kernel_rfl) ?_; first | (refine wpList_append_own_at _ rfl _ _ 23 rfl w4.heap.size 55 i0 (.agg #[.int .i64 (0), .int .i64 (0)]) 2 16 Tryz.underlying23 hi hz0 hz1 hz2 rfl (by decide) _ _ _ rfl HO.out _ 1 1 [.int .i64 X, .int .i64 Y] rfl rfl (two_cells RR0.out RR1.out) (two_one _ _) (by unfold maxLen; simp; omega) (by simp; omega) HBA.out.size ?_; intro v3 wa3 hown3 hgrowa3 _ _; have HBC := Lib.hid (HBA.out.grown hgrowa3 HBA.out.size (fun q hq => (World.ownsRow.lt HO.out q hq).1)); have HOC := Lib.hid (Vecs.snoc (l := [] ++ (S.drop 1).take n) rfl hown3); clear hown3 hgrowa3) | (refine wpList_append_own_at _ rfl _ _ 23 rfl w4.heap.size 55 i0 (.agg #[.int .i64 (0), .int .i64 (0)]) 2 16 Tryz.underlying23 hi hz0 hz1 hz2 rfl (by decide) _ _ _ rfl (HO.out.below (by go_grown)) _ 1 1 [.int .i64 X, .int .i64 Y] rfl rfl (two_cells (by simp) (by simp)) (two_one _ _) (by unfold maxLen; simp; omega) (by simp; omega) (HBA.out.alloc HBA.out.size _).size ?_; intro v3 wa3 hown3 hgrowa3 _ _; have HBC := Lib.hid ((HBA.out.alloc HBA.out.size _).grown hgrowa3 (HBA.out.alloc HBA.out.size _).size (fun q hq => (World.ownsRow.lt HO.out q hq).1)); have HOC := Lib.hid (Vecs.snoc (l := [] ++ (S.drop 1).take n) rfl hown3); clear hown3 hgrowa3))
              refine hK _ _ ?_
              clear hK K
              refine wpAny_seq 9 rfl (by kernel_rfl) ?_
              simp only [List.drop_succ_cons, List.drop_zero]
            rotate_left 1
            focus
              go_simp
              refine hK _ _ ?_
              clear hK K
              refine wpAny_ready (rs := [3]) (by kernel_rfl) (by simp) (AllReady.cons rfl (fun K hK => ?_) (AllReady.nil))
              (refine step_list (by rintro ⟨_, _, h⟩; obtain ⟨_, _, _, hv, _⟩ := h; cases hv) (by kernel_rfl) ?_; first | (refine wpList_append_own_at _ rfl _ _ 23 rfl w4.heap.size 55 i0 (.agg #[.int .i64 (0), .int .i64 (0)]) 2 16 Tryz.underlying23 hi hz0 hz1 hz2 rfl (by decide) (.slice (some ⟨w4.heap.size, 0, none⟩) 0 0) _ _ rfl HO1.out _ _ _ _ rfl (piece_len HT1.out) (piece_cells (HCl.out _ HB1.out) HT1.out) (piece_one _) (by unfold maxLen; simp; omega) (by simp; omega) HB1.out.size ?_; intro v2 wa2 hown2 hgrowa2 _ _; have HBA := Lib.hid (HB1.out.grown hgrowa2 HB1.out.size (fun q hq => (World.ownsRow.lt HO1.out q hq).1)); have HO := Lib.hid (Vecs.join (l := []) hown2 (by have := HfL.out; simp <;> omega)); have b0 := (HBA.out.cell (p := ⟨fb, fo, none⟩) hrb).trans c0; have b1 := (HBA.out.cell (p := ⟨fb, fo + 1, none⟩) hrb).trans c1; have bl := Nat.lt_of_lt_of_le hrb HBA.out.size; clear hown2 hgrowa2) | (refine wpList_append_own_at _ rfl _ _ 23 rfl w4.heap.size 55 i0 (.agg #[.int .i64 (0), .int .i64 (0)]) 2 16 Tryz.underlying23 hi hz0 hz1 hz2 rfl (by decide) (.slice (some ⟨w4.heap.size + 1, 0, none⟩) 0 0) _ _ rfl HO3.out _ _ _ _ rfl (piece_len HT1.out) (piece_cells (HCl.out _ HB3.out) HT1.out) (piece_one _) (by unfold maxLen; simp; omega) (by simp; omega) HB3.out.size ?_; intro v2 wa2 hown2 hgrowa2 _ _; have HBA := Lib.hid (HB3.out.grown hgrowa2 HB3.out.size (fun q hq => (World.ownsRow.lt HO3.out q hq).1)); have HO := Lib.hid (Vecs.join (l := []) hown2 (by have := HfL.out; simp <;> omega)); have rr : wa2.heap[w4.heap.size]? = ((w4.drew.alloc (.cells #[.int .i64 X, .int .i64 Y] 55)).alloc (.cells #[] 55)).heap[w4.heap.size]? := hgrowa2.block _ (by simp <;> omega) (by simp [Value.ownBlock]); have RR0 : Hid (wa2.cell? ⟨w4.heap.size, 0, none⟩ = some (.int .i64 X)) := (cell_same rr 0).trans KR0.out; have RR1 : Hid (wa2.cell? ⟨w4.heap.size, 1, none⟩ = some (.int .i64 Y)) := (cell_same rr 1).trans KR1.out; clear rr; clear hown2 hgrowa2) | (refine wpList_append_own_at _ rfl _ _ 23 rfl w4.heap.size 55 i0 (.agg #[.int .i64 (0), .int .i64 (0)]) 2 16 Tryz.underlying23 hi hz0 hz1 hz2 rfl (by decide) (.slice (some ⟨w4.heap.size, 0, none⟩) 0 0) _ _ rfl HO2.out _ _ _ _ rfl (piece_len HT1.out) (piece_cells (HCl.out _ HB2.out) HT1.out) (piece_one _) (by unfold maxLen; simp; omega) (by simp; omega) HB2.out.size ?_; intro v2 wa2 hown2 hgrowa2 _ _; have HBA := Lib.hid (HB2.out.grown hgrowa2 HB2.out.size (fun q hq => (World.ownsRow.lt HO2.out q hq).1)); have HO := Lib.hid (Vecs.join (l := []) hown2 (by have := HfL.out; simp <;> omega)); have rr : wa2.heap[w4.heap.size + 1]? = ((w4.drew.alloc (.cells #[] 55)).alloc (.cells #[.int .i64 X, .int .i64 Y] 55)).heap[w4.heap.size + 1]? := hgrowa2.block _ (by simp <;> omega) (by simp [Value.ownBlock]); have RR0 : Hid (wa2.cell? ⟨w4.heap.size + 1, 0, none⟩ = some (.int .i64 X)) := (cell_same rr 0).trans KE0.out; have RR1 : Hid (wa2.cell? ⟨w4.heap.size + 1, 1, none⟩ = some (.int .i64 Y)) := (cell_same rr 1).trans KE1.out; clear rr; clear hown2 hgrowa2))
              refine hK _ _ ?_
              clear hK K
              refine wpAny_ready (rs := [8]) (by kernel_rfl) (by simp) (AllReady.cons rfl (fun K hK => ?_) (AllReady.nil))
              (refine step_list (by rintro ⟨_, _, h⟩; obtain ⟨_, _, _, hv, _⟩ := h; cases hv) (by kernel_rfl) ?_; first | (refine wpList_append_own_at _ rfl _ _ 23 rfl w4.heap.size 55 i0 (.agg #[.int .i64 (0), .int .i64 (0)]) 2 16 Tryz.underlying23 hi hz0 hz1 hz2 rfl (by decide) _ _ _ rfl HO.out _ 1 1 [.int .i64 X, .int .i64 Y] rfl rfl (two_cells RR0.out RR1.out) (two_one _ _) (by unfold maxLen; simp; omega) (by simp; omega) HBA.out.size ?_; intro v3 wa3 hown3 hgrowa3 _ _; have HBC := Lib.hid (HBA.out.grown hgrowa3 HBA.out.size (fun q hq => (World.ownsRow.lt HO.out q hq).1)); have HOC := Lib.hid (Vecs.snoc (l := [] ++ (S.drop 1).take n) rfl hown3); clear hown3 hgrowa3) | (refine wpList_append_own_at _ rfl _ _ 23 rfl w4.heap.size 55 i0 (.agg #[.int .i64 (0), .int .i64 (0)]) 2 16 Tryz.underlying23 hi hz0 hz1 hz2 rfl (by decide) _ _ _ rfl (HO.out.below (by go_grown)) _ 1 1 [.int .i64 X, .int .i64 Y] rfl rfl (two_cells (by simp) (by simp)) (two_one _ _) (by unfold maxLen; simp; omega) (by simp; omega) (HBA.out.alloc HBA.out.size _).size ?_; intro v3 wa3 hown3 hgrowa3 _ _; have HBC := Lib.hid ((HBA.out.alloc HBA.out.size _).grown hgrowa3 (HBA.out.alloc HBA.out.size _).size (fun q hq => (World.ownsRow.lt HO.out q hq).1)); have HOC := Lib.hid (Vecs.snoc (l := [] ++ (S.drop 1).take n) rfl hown3); clear hown3 hgrowa3))
              refine hK _ _ ?_
              clear hK K
              refine wpAny_seq 9 rfl (by kernel_rfl) ?_
              simp only [List.drop_succ_cons, List.drop_zero]
        rotate_left 3
        focus
          go_simp
          refine hK _ _ ?_
          clear hK K
          refine wpAny_ready (rs := [0, 7]) (by kernel_rfl) (by simp) (AllReady.cons rfl (fun K hK => ?_) (AllReady.cons rfl (fun K hK => ?_) (AllReady.nil)))
          focus
            go_simp
            refine hK _ _ ?_
            clear hK K
            refine wpAny_ready (rs := [3, 7]) (by kernel_rfl) (by simp) (AllReady.cons rfl (fun K hK => ?_) (AllReady.cons rfl (fun K hK => ?_) (AllReady.nil)))
            focus
              (refine step_list (by rintro ⟨_, _, h⟩; obtain ⟨_, _, _, hv, _⟩ := h; cases hv) (by kernel_rfl) ?_; first | (refine wpList_append_own_at _ rfl _ _ 23 rfl w4.heap.size 55 i0 (.agg #[.int .i64 (0), .int .i64 (0)]) 2 16 Tryz.underlying23 hi hz0 hz1 hz2 rfl (by decide) (.slice (some ⟨w4.heap.size, 0, none⟩) 0 0) _ _ rfl HO1.out _ _ _ _ rfl (piece_len HT1.out) (piece_cells (HCl.out _ HB1.out) HT1.out) (piece_one _) (by unfold maxLen; simp; omega) (by simp; omega) HB1.out.size ?_; intro v2 wa2 hown2 hgrowa2 _ _; have HBA := Lib.hid (HB1.out.grown hgrowa2 HB1.out.size (fun q hq => (World.ownsRow.lt HO1.out q hq).1)); have HO := Lib.hid (Vecs.join (l := []) hown2 (by have := HfL.out; simp <;> omega)); have b0 := (HBA.out.cell (p := ⟨fb, fo, none⟩) hrb).trans c0; have b1 := (HBA.out.cell (p := ⟨fb, fo + 1, none⟩) hrb).trans c1; have bl := Nat.lt_of_lt_of_le hrb HBA.out.size; clear hown2 hgrowa2) | (refine wpList_append_own_at _ rfl _ _ 23 rfl w4.heap.size 55 i0 (.agg #[.int .i64 (0), .int .i64 (0)]) 2 16 Tryz.underlying23 hi hz0 hz1 hz2 rfl (by decide) (.slice (some ⟨w4.heap.size + 1, 0, none⟩) 0 0) _ _ rfl HO3.out _ _ _ _ rfl (piece_len HT1.out) (piece_cells (HCl.out _ HB3.out) HT1.out) (piece_one _) (by unfold maxLen; simp; omega) (by simp; omega) HB3.out.size ?_; intro v2 wa2 hown2 hgrowa2 _ _; have HBA := Lib.hid (HB3.out.grown hgrowa2 HB3.out.size (fun q hq => (World.ownsRow.lt HO3.out q hq).1)); have HO := Lib.hid (Vecs.join (l := []) hown2 (by have := HfL.out; simp <;> omega)); have rr : wa2.heap[w4.heap.size]? = ((w4.drew.alloc (.cells #[.int .i64 X, .int .i64 Y] 55)).alloc (.cells #[] 55)).heap[w4.heap.size]? := hgrowa2.block _ (by simp <;> omega) (by simp [Value.ownBlock]); have RR0 : Hid (wa2.cell? ⟨w4.heap.size, 0, none⟩ = some (.int .i64 X)) := (cell_same rr 0).trans KR0.out; have RR1 : Hid (wa2.cell? ⟨w4.heap.size, 1, none⟩ = some (.int .i64 Y)) := (cell_same rr 1).trans KR1.out; clear rr; clear hown2 hgrowa2) | (refine wpList_append_own_at _ rfl _ _ 23 rfl w4.heap.size 55 i0 (.agg #[.int .i64 (0), .int .i64 (0)]) 2 16 Tryz.underlying23 hi hz0 hz1 hz2 rfl (by decide) (.slice (some ⟨w4.heap.size, 0, none⟩) 0 0) _ _ rfl HO2.out _ _ _ _ rfl (piece_len HT1.out) (piece_cells (HCl.out _ HB2.out) HT1.out) (piece_one _) (by unfold maxLen; simp; omega) (by simp; omega) HB2.out.size ?_; intro v2 wa2 hown2 hgrowa2 _ _; have HBA := Lib.hid (HB2.out.grown hgrowa2 HB2.out.size (fun q hq => (World.ownsRow.lt HO2.out q hq).1)); have HO := Lib.hid (Vecs.join (l := []) hown2 (by have := HfL.out; simp <;> omega)); have rr : wa2.heap[w4.heap.size + 1]? = ((w4.drew.alloc (.cells #[] 55)).alloc (.cells #[.int .i64 X, .int .i64 Y] 55)).heap[w4.heap.size + 1]? := hgrowa2.block _ (by simp <;> omega) (by simp [Value.ownBlock]); have RR0 : Hid (wa2.cell? ⟨w4.heap.size + 1, 0, none⟩ = some (.int .i64 X)) := (cell_same rr 0).trans KE0.out; have RR1 : Hid (wa2.cell? ⟨w4.heap.size + 1, 1, none⟩ = some (.int .i64 Y)) := (cell_same rr 1).trans KE1.out; clear rr; clear hown2 hgrowa2))
              refine hK _ _ ?_
              clear hK K
              refine wpAny_ready (rs := [7]) (by kernel_rfl) (by simp) (AllReady.cons rfl (fun K hK => ?_) (AllReady.nil))
              go_simp
              refine hK _ _ ?_
              clear hK K
              refine wpAny_ready (rs := [8]) (by kernel_rfl) (by simp) (AllReady.cons rfl (fun K hK => ?_) (AllReady.nil))
              (refine step_list (by rintro ⟨_, _, h⟩; obtain ⟨_, _, _, hv, _⟩ := h; cases hv) (by kernel_rfl) ?_; first | (refine wpList_append_own_at _ rfl _ _ 23 rfl w4.heap.size 55 i0 (.agg #[.int .i64 (0), .int .i64 (0)]) 2 16 Tryz.underlying23 hi hz0 hz1 hz2 rfl (by decide) _ _ _ rfl HO.out _ 1 1 [.int .i64 X, .int .i64 Y] rfl rfl (two_cells RR0.out RR1.out) (two_one _ _) (by unfold maxLen; simp; omega) (by simp; omega) HBA.out.size ?_; intro v3 wa3 hown3 hgrowa3 _ _; have HBC := Lib.hid (HBA.out.grown hgrowa3 HBA.out.size (fun q hq => (World.ownsRow.lt HO.out q hq).1)); have HOC := Lib.hid (Vecs.snoc (l := [] ++ (S.drop 1).take n) rfl hown3); clear hown3 hgrowa3) | (refine wpList_append_own_at _ rfl _ _ 23 rfl w4.heap.size 55 i0 (.agg #[.int .i64 (0), .int .i64 (0)]) 2 16 Tryz.underlying23 hi hz0 hz1 hz2 rfl (by decide) _ _ _ rfl (HO.out.below (by go_grown)) _ 1 1 [.int .i64 X, .int .i64 Y] rfl rfl (two_cells (by simp) (by simp)) (two_one _ _) (by unfold maxLen; simp; omega) (by simp; omega) (HBA.out.alloc HBA.out.size _).size ?_; intro v3 wa3 hown3 hgrowa3 _ _; have HBC := Lib.hid ((HBA.out.alloc HBA.out.size _).grown hgrowa3 (HBA.out.alloc HBA.out.size _).size (fun q hq => (World.ownsRow.lt HO.out q hq).1)); have HOC := Lib.hid (Vecs.snoc (l := [] ++ (S.drop 1).take n) rfl hown3); clear hown3 hgrowa3))
              refine hK _ _ ?_
              clear hK K
              refine wpAny_seq 9 rfl (by kernel_rfl) ?_
              simp only [List.drop_succ_cons, List.drop_zero]
            rotate_left 1
            focus
              go_simp
              refine hK _ _ ?_
              clear hK K
              refine wpAny_ready (rs := [3]) (by kernel_rfl) (by simp) (AllReady.cons rfl (fun K hK => ?_) (AllReady.nil))
              (refine step_list (by rintro ⟨_, _, h⟩; obtain ⟨_, _, _, hv, _⟩ := h; cases hv) (by kernel_rfl) ?_; first | (refine wpList_append_own_at _ rfl _ _ 23 rfl w4.heap.size 55 i0 (.agg #[.int .i64 (0), .int .i64 (0)]) 2 16 Tryz.underlying23 hi hz0 hz1 hz2 rfl (by decide) (.slice (some ⟨w4.heap.size, 0, none⟩) 0 0) _ _ rfl HO1.out _ _ _ _ rfl (piece_len HT1.out) (piece_cells (HCl.out _ HB1.out) HT1.out) (piece_one _) (by unfold maxLen; simp; omega) (by simp; omega) HB1.out.size ?_; intro v2 wa2 hown2 hgrowa2 _ _; have HBA := Lib.hid (HB1.out.grown hgrowa2 HB1.out.size (fun q hq => (World.ownsRow.lt HO1.out q hq).1)); have HO := Lib.hid (Vecs.join (l := []) hown2 (by have := HfL.out; simp <;> omega)); have b0 := (HBA.out.cell (p := ⟨fb, fo, none⟩) hrb).trans c0; have b1 := (HBA.out.cell (p := ⟨fb, fo + 1, none⟩) hrb).trans c1; have bl := Nat.lt_of_lt_of_le hrb HBA.out.size; clear hown2 hgrowa2) | (refine wpList_append_own_at _ rfl _ _ 23 rfl w4.heap.size 55 i0 (.agg #[.int .i64 (0), .int .i64 (0)]) 2 16 Tryz.underlying23 hi hz0 hz1 hz2 rfl (by decide) (.slice (some ⟨w4.heap.size + 1, 0, none⟩) 0 0) _ _ rfl HO3.out _ _ _ _ rfl (piece_len HT1.out) (piece_cells (HCl.out _ HB3.out) HT1.out) (piece_one _) (by unfold maxLen; simp; omega) (by simp; omega) HB3.out.size ?_; intro v2 wa2 hown2 hgrowa2 _ _; have HBA := Lib.hid (HB3.out.grown hgrowa2 HB3.out.size (fun q hq => (World.ownsRow.lt HO3.out q hq).1)); have HO := Lib.hid (Vecs.join (l := []) hown2 (by have := HfL.out; simp <;> omega)); have rr : wa2.heap[w4.heap.size]? = ((w4.drew.alloc (.cells #[.int .i64 X, .int .i64 Y] 55)).alloc (.cells #[] 55)).heap[w4.heap.size]? := hgrowa2.block _ (by simp <;> omega) (by simp [Value.ownBlock]); have RR0 : Hid (wa2.cell? ⟨w4.heap.size, 0, none⟩ = some (.int .i64 X)) := (cell_same rr 0).trans KR0.out; have RR1 : Hid (wa2.cell? ⟨w4.heap.size, 1, none⟩ = some (.int .i64 Y)) := (cell_same rr 1).trans KR1.out; clear rr; clear hown2 hgrowa2) | (refine wpList_append_own_at _ rfl _ _ 23 rfl w4.heap.size 55 i0 (.agg #[.int .i64 (0), .int .i64 (0)]) 2 16 Tryz.underlying23 hi hz0 hz1 hz2 rfl (by decide) (.slice (some ⟨w4.heap.size, 0, none⟩) 0 0) _ _ rfl HO2.out _ _ _ _ rfl (piece_len HT1.out) (piece_cells (HCl.out _ HB2.out) HT1.out) (piece_one _) (by unfold maxLen; simp; omega) (by simp; omega) HB2.out.size ?_; intro v2 wa2 hown2 hgrowa2 _ _; have HBA := Lib.hid (HB2.out.grown hgrowa2 HB2.out.size (fun q hq => (World.ownsRow.lt HO2.out q hq).1)); have HO := Lib.hid (Vecs.join (l := []) hown2 (by have := HfL.out; simp <;> omega)); have rr : wa2.heap[w4.heap.size + 1]? = ((w4.drew.alloc (.cells #[] 55)).alloc (.cells #[.int .i64 X, .int .i64 Y] 55)).heap[w4.heap.size + 1]? := hgrowa2.block _ (by simp <;> omega) (by simp [Value.ownBlock]); have RR0 : Hid (wa2.cell? ⟨w4.heap.size + 1, 0, none⟩ = some (.int .i64 X)) := (cell_same rr 0).trans KE0.out; have RR1 : Hid (wa2.cell? ⟨w4.heap.size + 1, 1, none⟩ = some (.int .i64 Y)) := (cell_same rr 1).trans KE1.out; clear rr; clear hown2 hgrowa2))
              refine hK _ _ ?_
              clear hK K
              refine wpAny_ready (rs := [8]) (by kernel_rfl) (by simp) (AllReady.cons rfl (fun K hK => ?_) (AllReady.nil))
              (refine step_list (by rintro ⟨_, _, h⟩; obtain ⟨_, _, _, hv, _⟩ := h; cases hv) (by kernel_rfl) ?_; first | (refine wpList_append_own_at _ rfl _ _ 23 rfl w4.heap.size 55 i0 (.agg #[.int .i64 (0), .int .i64 (0)]) 2 16 Tryz.underlying23 hi hz0 hz1 hz2 rfl (by decide) _ _ _ rfl HO.out _ 1 1 [.int .i64 X, .int .i64 Y] rfl rfl (two_cells RR0.out RR1.out) (two_one _ _) (by unfold maxLen; simp; omega) (by simp; omega) HBA.out.size ?_; intro v3 wa3 hown3 hgrowa3 _ _; have HBC := Lib.hid (HBA.out.grown hgrowa3 HBA.out.size (fun q hq => (World.ownsRow.lt HO.out q hq).1)); have HOC := Lib.hid (Vecs.snoc (l := [] ++ (S.drop 1).take n) rfl hown3); clear hown3 hgrowa3) | (refine wpList_append_own_at _ rfl _ _ 23 rfl w4.heap.size 55 i0 (.agg #[.int .i64 (0), .int .i64 (0)]) 2 16 Tryz.underlying23 hi hz0 hz1 hz2 rfl (by decide) _ _ _ rfl (HO.out.below (by go_grown)) _ 1 1 [.int .i64 X, .int .i64 Y] rfl rfl (two_cells (by simp) (by simp)) (two_one _ _) (by unfold maxLen; simp; omega) (by simp; omega) (HBA.out.alloc HBA.out.size _).size ?_; intro v3 wa3 hown3 hgrowa3 _ _; have HBC := Lib.hid ((HBA.out.alloc HBA.out.size _).grown hgrowa3 (HBA.out.alloc HBA.out.size _).size (fun q hq => (World.ownsRow.lt HO.out q hq).1)); have HOC := Lib.hid (Vecs.snoc (l := [] ++ (S.drop 1).take n) rfl hown3); clear hown3 hgrowa3))
              refine hK _ _ ?_
              clear hK K
              refine wpAny_seq 9 rfl (by kernel_rfl) ?_
              simp only [List.drop_succ_cons, List.drop_zero]
          rotate_left 2
          focus
            go_simp
            refine hK _ _ ?_
            clear hK K
            refine wpAny_ready (rs := [0]) (by kernel_rfl) (by simp) (AllReady.cons rfl (fun K hK => ?_) (AllReady.nil))
            go_simp
            refine hK _ _ ?_
            clear hK K
            refine wpAny_ready (rs := [3]) (by kernel_rfl) (by simp) (AllReady.cons rfl (fun K hK => ?_) (AllReady.nil))
            (refine step_list (by rintro ⟨_, _, h⟩; obtain ⟨_, _, _, hv, _⟩ := h; cases hv) (by kernel_rfl) ?_; first | (refine wpList_append_own_at _ rfl _ _ 23 rfl w4.heap.size 55 i0 (.agg #[.int .i64 (0), .int .i64 (0)]) 2 16 Tryz.underlying23 hi hz0 hz1 hz2 rfl (by decide) (.slice (some ⟨w4.heap.size, 0, none⟩) 0 0) _ _ rfl HO1.out _ _ _ _ rfl (piece_len HT1.out) (piece_cells (HCl.out _ HB1.out) HT1.out) (piece_one _) (by unfold maxLen; simp; omega) (by simp; omega) HB1.out.size ?_; intro v2 wa2 hown2 hgrowa2 _ _; have HBA := Lib.hid (HB1.out.grown hgrowa2 HB1.out.size (fun q hq => (World.ownsRow.lt HO1.out q hq).1)); have HO := Lib.hid (Vecs.join (l := []) hown2 (by have := HfL.out; simp <;> omega)); have b0 := (HBA.out.cell (p := ⟨fb, fo, none⟩) hrb).trans c0; have b1 := (HBA.out.cell (p := ⟨fb, fo + 1, none⟩) hrb).trans c1; have bl := Nat.lt_of_lt_of_le hrb HBA.out.size; clear hown2 hgrowa2) | (refine wpList_append_own_at _ rfl _ _ 23 rfl w4.heap.size 55 i0 (.agg #[.int .i64 (0), .int .i64 (0)]) 2 16 Tryz.underlying23 hi hz0 hz1 hz2 rfl (by decide) (.slice (some ⟨w4.heap.size + 1, 0, none⟩) 0 0) _ _ rfl HO3.out _ _ _ _ rfl (piece_len HT1.out) (piece_cells (HCl.out _ HB3.out) HT1.out) (piece_one _) (by unfold maxLen; simp; omega) (by simp; omega) HB3.out.size ?_; intro v2 wa2 hown2 hgrowa2 _ _; have HBA := Lib.hid (HB3.out.grown hgrowa2 HB3.out.size (fun q hq => (World.ownsRow.lt HO3.out q hq).1)); have HO := Lib.hid (Vecs.join (l := []) hown2 (by have := HfL.out; simp <;> omega)); have rr : wa2.heap[w4.heap.size]? = ((w4.drew.alloc (.cells #[.int .i64 X, .int .i64 Y] 55)).alloc (.cells #[] 55)).heap[w4.heap.size]? := hgrowa2.block _ (by simp <;> omega) (by simp [Value.ownBlock]); have RR0 : Hid (wa2.cell? ⟨w4.heap.size, 0, none⟩ = some (.int .i64 X)) := (cell_same rr 0).trans KR0.out; have RR1 : Hid (wa2.cell? ⟨w4.heap.size, 1, none⟩ = some (.int .i64 Y)) := (cell_same rr 1).trans KR1.out; clear rr; clear hown2 hgrowa2) | (refine wpList_append_own_at _ rfl _ _ 23 rfl w4.heap.size 55 i0 (.agg #[.int .i64 (0), .int .i64 (0)]) 2 16 Tryz.underlying23 hi hz0 hz1 hz2 rfl (by decide) (.slice (some ⟨w4.heap.size, 0, none⟩) 0 0) _ _ rfl HO2.out _ _ _ _ rfl (piece_len HT1.out) (piece_cells (HCl.out _ HB2.out) HT1.out) (piece_one _) (by unfold maxLen; simp; omega) (by simp; omega) HB2.out.size ?_; intro v2 wa2 hown2 hgrowa2 _ _; have HBA := Lib.hid (HB2.out.grown hgrowa2 HB2.out.size (fun q hq => (World.ownsRow.lt HO2.out q hq).1)); have HO := Lib.hid (Vecs.join (l := []) hown2 (by have := HfL.out; simp <;> omega)); have rr : wa2.heap[w4.heap.size + 1]? = ((w4.drew.alloc (.cells #[] 55)).alloc (.cells #[.int .i64 X, .int .i64 Y] 55)).heap[w4.heap.size + 1]? := hgrowa2.block _ (by simp <;> omega) (by simp [Value.ownBlock]); have RR0 : Hid (wa2.cell? ⟨w4.heap.size + 1, 0, none⟩ = some (.int .i64 X)) := (cell_same rr 0).trans KE0.out; have RR1 : Hid (wa2.cell? ⟨w4.heap.size + 1, 1, none⟩ = some (.int .i64 Y)) := (cell_same rr 1).trans KE1.out; clear rr; clear hown2 hgrowa2))
            refine hK _ _ ?_
            clear hK K
            refine wpAny_ready (rs := [8]) (by kernel_rfl) (by simp) (AllReady.cons rfl (fun K hK => ?_) (AllReady.nil))
            (refine step_list (by rintro ⟨_, _, h⟩; obtain ⟨_, _, _, hv, _⟩ := h; cases hv) (by kernel_rfl) ?_; first | (refine wpList_append_own_at _ rfl _ _ 23 rfl w4.heap.size 55 i0 (.agg #[.int .i64 (0), .int .i64 (0)]) 2 16 Tryz.underlying23 hi hz0 hz1 hz2 rfl (by decide) _ _ _ rfl HO.out _ 1 1 [.int .i64 X, .int .i64 Y] rfl rfl (two_cells RR0.out RR1.out) (two_one _ _) (by unfold maxLen; simp; omega) (by simp; omega) HBA.out.size ?_; intro v3 wa3 hown3 hgrowa3 _ _; have HBC := Lib.hid (HBA.out.grown hgrowa3 HBA.out.size (fun q hq => (World.ownsRow.lt HO.out q hq).1)); have HOC := Lib.hid (Vecs.snoc (l := [] ++ (S.drop 1).take n) rfl hown3); clear hown3 hgrowa3) | (refine wpList_append_own_at _ rfl _ _ 23 rfl w4.heap.size 55 i0 (.agg #[.int .i64 (0), .int .i64 (0)]) 2 16 Tryz.underlying23 hi hz0 hz1 hz2 rfl (by decide) _ _ _ rfl (HO.out.below (by go_grown)) _ 1 1 [.int .i64 X, .int .i64 Y] rfl rfl (two_cells (by simp) (by simp)) (two_one _ _) (by unfold maxLen; simp; omega) (by simp; omega) (HBA.out.alloc HBA.out.size _).size ?_; intro v3 wa3 hown3 hgrowa3 _ _; have HBC := Lib.hid ((HBA.out.alloc HBA.out.size _).grown hgrowa3 (HBA.out.alloc HBA.out.size _).size (fun q hq => (World.ownsRow.lt HO.out q hq).1)); have HOC := Lib.hid (Vecs.snoc (l := [] ++ (S.drop 1).take n) rfl hown3); clear hown3 hgrowa3))
            refine hK _ _ ?_
            clear hK K
            refine wpAny_seq 9 rfl (by kernel_rfl) ?_
            simp only [List.drop_succ_cons, List.drop_zero]
        all_goals
          rw [HR.out] at HOC
          have hBC := HBC.out
          have HO9 : Hid (VecsO _ w.heap.size _ (rot 1 S)) := VecsO.of (Vecs.lower HOC.out hs4) (by have := HRl.out; omega) (by have := HRl.out; omega)
          have HR9 := Lib.hid (HR4.out.below (hBC.mono (by omega)))
          have HB9 := Lib.hid (HB4.out.trans (hBC.mono (by omega)))
          have HK9 := Lib.hid (HK4.out.trans (Kept.of_below (hBC.mono hs4)))
          have hl9 := HRl.out
          clear hBC HOC HBC HO HBA HO1 HO2 HO3 HB1 HB2 HB3 KE0 KE1 KR0 KR1 HR
          go_wp2
          go_returns
          exact ⟨_, rot 1 S, q + 1 + 1, rfl, HO9.out, by omega, by omega, HR9.out, by omega, HB9.out, HK9.out⟩
      · have hz' : (z == 0) = false := by simpa using hz
        clear hz
        go_wp2
        go_returns
        exact ⟨_, S, q + 1 + 1, rfl, HS4.out, s3, s30, HR4.out, by omega, HB4.out, HK4.out⟩
end Go.Proofs.YtgaeibibeekclabGreatDoor
