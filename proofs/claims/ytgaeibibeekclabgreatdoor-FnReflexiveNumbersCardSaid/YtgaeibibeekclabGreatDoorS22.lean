import Derived.Test.YtgaeibibeekclabGreatDoorProg
import Derived.Test.YtgaeibibeekclabGreatDoorS01
import Derived.Test.YtgaeibibeekclabGreatDoorS04
import Derived.Test.YtgaeibibeekclabGreatDoorS06
import Derived.Test.YtgaeibibeekclabGreatDoorS07
import Derived.Test.YtgaeibibeekclabGreatDoorS08
import Derived.Test.YtgaeibibeekclabGreatDoorS11
import Derived.Test.YtgaeibibeekclabGreatDoorS12
import Derived.Test.YtgaeibibeekclabGreatDoorS13
import Derived.Test.YtgaeibibeekclabGreatDoorS14
import Derived.Test.YtgaeibibeekclabGreatDoorS19
import Derived.Test.YtgaeibibeekclabGreatDoorS20
import Derived.Test.YtgaeibibeekclabGreatDoorS21
import Derived.WalkKit
import Derived.LaidEql
import Derived.Stop.Asserts
import Derived.RowKitTokens
import Derived.Handy
import Derived.WalkSpells
import Derived.WalkLawsBesides
import Derived.Deep.QuietTactic
import Derived.BigQuiet
import Derived.Lib.Hide
import Derived.Deep.RegionHeld3
import Derived.Deep.DeepCutAuto
import Derived.Deep.AppendLies
import Derived.Laws.OwnMore
import Derived.Laws.MakeOwn
import Derived.OwnWalk
import Derived.WalkSmall
import Derived.Maps.AppendAt
import Derived.RangeFuncBox
import Derived.RegionTactic
import Derived.ChangeAlike
import Derived.RangeFuncNested
import Derived.StillTail
import Derived.OrdersIn
import Derived.AtR
import Derived.RangeFuncBound
import Derived.RangeFuncCalls
import Derived.RangeFuncLeaves
import Derived.Shelf.Abstract
import Derived.OwnWalkIn
import Derived.TacticsInMore
import Derived.LoopNIn
import Derived.LoopIn
import Derived.LaidEqlPtr
import Derived.BigRegion
import Derived.StillTailTactics
import Derived.Deep.RegionHeld
import Derived.Laws.StructEq
import Derived.Lib.MinMax
import Derived.Shelf.SlSortCmp.WholeK
import Derived.Laws.IdiomCopy
import Derived.Shelf.SlGeneric
import Derived.Shelf.SlSortCmp.NoneTotal
import Derived.Shelf.SlicesE.Clone
import Derived.Shelf.SlicesQ.Reverse
import Derived.Ground.SlsfProg
import Derived.Ground.SlgnProg
import Derived.Deep.RegionLaw
import Derived.ArgAppend
namespace Go.Proofs.YtgaeibibeekclabGreatDoor
open Go.RowKit
def ofFanD (l : List V2) : List Int := List.replicate l.length 1
def rofB (l : List V2) : Bool := smoothB l && (secB l (ofFanD l) && OfB (secL l (ofFanD l)))
def rofL (l : List V2) : List V2 := gV (rofB l) (hullD (secL l (ofFanD l)))
theorem rof_len {l : List V2} (h : rofB l = true) : 3 ≤ (rofL l).length ∧ (rofL l).length ≤ 30 := by
  have h' := h
  unfold rofB at h'
  rw [Bool.and_eq_true, Bool.and_eq_true] at h'
  have e : rofL l = hullD (secL l (ofFanD l)) := by unfold rofL; rw [h]; rfl
  have h2 := h'.2.2
  unfold OfB at h2
  rw [Bool.and_eq_true] at h2
  rw [e]
  exact poly_len h2.2
theorem ones_put {w : World} {base n : Nat} {v : Value} {k : Nat} (h : w.ownsRow base 3 1 v n (intsV (List.replicate k 1) ++ [.int .i64 1])) (hn : n = k + 1) : Ints w base v (List.replicate (k + 1) 1) := by
  have e : intsV (List.replicate k 1) ++ [Value.int .i64 1] = intsV (List.replicate (k + 1) 1) := by
    rw [List.replicate_succ']
    simp [intsV]
  have e2 : (List.replicate (k + 1) (1 : Int)).length = n := by rw [List.length_replicate, hn]
  unfold Ints
  rw [e2, ← e]
  exact h
theorem sec_len {l : List V2} {d : List Int} (h : secB l d = true) : (secL l d).length ≤ 10000 := by
  unfold secB roomB at h
  rw [Bool.and_eq_true, Bool.and_eq_true] at h
  have h2 := of_decide_eq_true h.2.2
  have := rowsS_len (hasZ l d) (boxA l d 0) (boxA l d 2) (widN (boxA l d 2) (boxA l d 3)) (widN (boxA l d 0) (boxA l d 1))
  unfold secL
  omega
set_option maxRecDepth 100000 in
set_option maxHeartbeats 16000000 in
theorem specReflexiveOfFan_any (v : Value) (l : List V2) (w : World) (hl : ReadsVecs w v l) :
    Calls Tryz.prog 62 #[v] w (GivesVecsOk w (rofL l) (rofB l)) := by
  obtain ⟨k0, ki, kz0, kz1, kz2⟩ := info_parts infoInt
  have HE := Lib.hid (fun w' => Vecs.empty w')
  have HEi := Lib.hid (fun w' => Ints.empty w')
  have HS := Lib.hid (specFanSmooth_any v l w hl)
  have HL5 := Lib.hid (fun u' w' (hb : Below w.heap.size w w') (hd : ReadsInts w' u' (ofFanD l)) => l5List_any v l u' (ofFanD l) w' (hl.below hb) hd)
  have HFo := Lib.hid (fun v' l' w' hV => specPolygonOf_any v' l' w' hV)
  cases hk : smoothB l
  · have e1 : rofB l = false := by unfold rofB; rw [hk]; rfl
    have e2 : rofL l = [] := by unfold rofL; rw [e1]; rfl
    rw [e1, e2]
    rw [hk] at HS
    obtain ⟨va, vc, rfl, _⟩ := hl
    clear hk e1 e2 HL5 HFo HEi
    go_enter Tryz.func62, Tryz.ntmps62
    go_wp2_with fail
    refine Calls.mono HS.out ?_
    rintro e w1 ⟨rfl, hb1⟩
    have HE1 := Lib.hid ((HE.out w1).lower hb1.size)
    have hs1 := hb1.size
    clear HE HS
    go_wp2
    go_returns
    exact ⟨_, rfl, HE1.out, by go_grown⟩
  · have h20 := (smooth_len hk).2
    have e1 : rofB l = (secB l (ofFanD l) && OfB (secL l (ofFanD l))) := by unfold rofB; rw [hk]; rfl
    have HSl : Hid (secB l (ofFanD l) = true → (secL l (ofFanD l)).length ≤ 10000) := fun h => sec_len h
    unfold rofL
    rw [e1]
    rw [hk] at HS
    have HLd : Hid (ofFanD l = List.replicate l.length 1) := Lib.hid rfl
    obtain ⟨va, vc, rfl, _⟩ := hl
    clear hk e1
    generalize secB l (ofFanD l) = S at *
    generalize secL l (ofFanD l) = L at *
    have HOL : Hid (OfL L = gV (OfB L) (hullD L) ∧ (60 < L.length → OfB L = false)) := ⟨rfl, fun h => by unfold OfB; rw [decide_eq_false (by omega)]; rfl⟩
    generalize ofFanD l = D at *
    go_enter Tryz.func62, Tryz.ntmps62
    go_wp2_with fail
    refine Calls.mono HS.out ?_
    rintro e w1 ⟨rfl, hb1⟩
    have HEi1 := Lib.hid (HEi.out w1)
    have HB1 := Lib.hid hb1
    have hs1 := hb1.size
    clear hb1 HS HEi
    go_wp2
    go_loopw [4, 5] (fun s4 s5 wr => ∃ k : Nat, k ≤ l.length ∧ s5 = .int .i64 k ∧ Hid (Ints wr w1.heap.size s4 (List.replicate k 1)) ∧ Hid (Below w1.heap.size w1 wr)) (fun _ s5 _ => l.length - (intOf s5).toNat)
    case atStart => exact ⟨0, Nat.zero_le _, rfl, HEi1, by show Below _ _ _; go_grown⟩
    case round =>
      obtain ⟨k, hk, rfl, HI, HBr⟩ := hrel
      have i1 : (0 : Int) ≤ (k : Int) := by omega
      by_cases hlt : k < l.length
      · have i2 : (k : Int) < (l.length : Int) := by omega
        have hbr := HBr.out.size
        have hown : wr.ownsRow w1.heap.size 3 1 _ _ _ := HI.out
        rw [List.length_replicate] at hown
        clear HI HEi1
        go_wp2_with (at_builtin; refine wpList_append_own _ rfl _ _ 37 rfl w1.heap.size 3 k0 (.int .i64 0) 1 8 Tryz.underlying37 ki kz0 kz1 kz2 rfl (by decide) _ _ _ rfl (hown.alloc _) ⟨wr.heap.size, 0, none⟩ 1 1 [.int .i64 1] rfl rfl ?c1 ?c2 ?c3 ?c4 ?c5 ?_)
        case c1 =>
          intro j u hj
          match j, hj with
          | 0, hj => simp at hj; subst hj; simp [Addr.add]
        case c2 => intro u hu; simp at hu; subst hu; rfl
        case c3 => unfold maxLen; omega
        case c4 => omega
        case c5 => simp; omega
        intro v' w8' hown' hgrow _
        have hB8 : Below w1.heap.size w1 w8' := (HBr.out.alloc hbr _).grown hgrow (by simp; omega) (fun k hk => (hown.lt k hk).1)
        have HF := Lib.hid (ones_put hown' rfl)
        have HB8 := Lib.hid hB8
        clear hown hown' hgrow hB8 HBr
        go_wp2
        go_roundw
        case rel => exact ⟨k + 1, by omega, by go_num, HF, HB8⟩
        case measure => simp [intOf]; omega
      · have hkn : k = l.length := by omega
        obtain ⟨w4, hw4⟩ : ∃ w4, w4 = wr := ⟨_, rfl⟩
        subst hw4
        have hB4 := HBr.out
        have i2 : ¬ (k : Int) < (l.length : Int) := by omega
        have hd := HI.out.reads (by simp; omega)
        rw [hkn, ← HLd.out] at hd
        have Hd := Lib.hid hd
        clear hd
        have HB5 := Lib.hid (belowTo HB1.out hB4)
        have HC := Lib.hid (HL5.out _ w4 HB5.out Hd.out)
        have hs4 := HB5.out.size
        clear HI HEi1 HBr hB4 HB1 Hd HLd HL5 hs1 hk hlt
        go_wp2_with fail
        refine Calls.mono HC.out ?_
        rintro e w5 ⟨v5, rfl, hI5, hb5⟩
        have HB6 := Lib.hid (belowTo HB5.out hb5)
        have HE6 := Lib.hid ((HE.out w5).lower HB6.out.size)
        have hs5 := HB6.out.size
        clear hb5 HB5 HC HE
        cases S
        · clear hI5 HFo HOL
          have hbe := HB6.out
          go_wp2
          go_returns
          exact ⟨_, rfl, HE6.out, by go_grown⟩
        · have hL := HSl.out rfl
          have HLs := Lib.hid hL
          have hV5 : ReadsVecs w5 v5 L := hI5.reads (by show L.length ≤ _; omega)
          have HFl := Lib.hid (HFo.out v5 L w5 hV5)
          obtain ⟨a5, c5, rfl, _⟩ := hV5
          clear hI5 HSl HFo
          have HLn : Hid (∃ n, n = L.length) := ⟨_, rfl⟩
          obtain ⟨n, hn⟩ := HLn.out
          have Hn := Lib.hid hn
          rw [← hn] at hL HFl HOL ⊢
          clear hn HLn HLs
          by_cases h60 : n ≤ 60
          · have g1 : ¬ (60 : Int) < (n : Int) := by omega
            have g2 : ¬ 60 < n := by omega
            rw [HOL.out.1] at HFl
            generalize hullD L = HL at *
            generalize OfB L = ob at *
            clear HE6 HOL hL
            go_wp2_with fail
            refine Calls.mono HFl.out ?_
            rintro e w6 ⟨v6, rfl, hI6, hb6⟩
            have HI6 := Lib.hid (hI6.lower hs5)
            have HB7 := Lib.hid (belowTo HB6.out hb6)
            clear hI6 hb6 HFl
            go_wp2
            go_returns
            exact ⟨_, rfl, HI6.out, HB7.out⟩
          · have g1 : (60 : Int) < (n : Int) := by omega
            have g2 : 60 < n := by omega
            have hob := HOL.out.2 g2
            generalize hullD L = HL at *
            generalize OfB L = ob at *
            subst hob
            have hbe := HB6.out
            clear HFl HOL hL
            go_wp2
            go_returns
            exact ⟨_, rfl, HE6.out, by go_grown⟩
def DrewR (B : Nat) (w : World) (e : Ending) (w' : World) : Prop := ∃ (v : Value) (l : List V2), e = .returned v ∧ ReadsVecs w' v l ∧ 3 ≤ l.length ∧ l.length ≤ 30 ∧ Below B w w'
set_option maxRecDepth 100000 in
set_option maxHeartbeats 16000000 in
theorem l92Reflexive_any (w : World) (B : Nat) (a : Option Addr) (len cap : Nat) (p : Int) (h : Reads w B a len cap p) (hp : p ≤ 70000) :
    Calls Tryz.prog 32 #[.pointer (some ⟨B, 0, none⟩)] w (DrewR B w) := by
  have hB : B < w.heap.size := h.2.2.2.2.1
  have HSm := Lib.hid (l91Smooth_any w B a len cap p h (by omega))
  have HRo := Lib.hid (fun v' l' w' hV => specReflexiveOfFan_any v' l' w' hV)
  have HFo := Lib.hid (fun v' l' w' hV => specPolygonOf_any v' l' w' hV)
  clear h
  go_enter Tryz.func32, Tryz.ntmps32
  go_wp2_with fail
  refine Calls.mono HSm.out ?_
  rintro e w1 ⟨v, l, q, rfl, hV, h2, h20, r1, hq, hb1⟩
  have HRl := Lib.hid (HRo.out v l w1 hV.1)
  have HFl := Lib.hid (fun w' (hV' : ReadsVecs w' v l) => HFo.out v l w' hV')
  have HR1 := Lib.hid r1
  have HB1 := Lib.hid hb1
  have HV1 := Lib.hid hV
  have hs1 : w.heap.size ≤ w1.heap.size := hb1.size
  obtain ⟨va, vc, rfl, -⟩ := hV.1
  have HN1 := Lib.hid (fun h => rof_len (l := l) h)
  have HN2 := Lib.hid (fun h => ofP_len (l := l) h)
  clear hV r1 hb1 HRo HFo HSm
  generalize rofB l = K at *
  generalize rofL l = S at *
  generalize OfB l = K2 at *
  generalize OfL l = S2 at *
  go_wp2_with fail
  refine Calls.mono HRl.out ?_
  rintro e w2 ⟨v2, rfl, hI2, hb2⟩
  have HR2 := Lib.hid (HR1.out.below (hb2.mono (by omega)))
  have HB2 := Lib.hid (HB1.out.trans (hb2.mono (by omega)))
  have HV2 := Lib.hid (HV1.out.below hb2)
  have hs2 := hb2.size
  clear hb2 HR1 HB1 HV1 HRl
  cases K
  · clear hI2 HN1
    go_wp2_with fail
    refine Calls.mono (HFl.out _ HV2.out.1) ?_
    rintro e w3 ⟨v3, rfl, hI3, hb3⟩
    have hs3 := hb3.size
    have HR3 := Lib.hid (HR2.out.below (hb3.mono (by omega)))
    have HB3 := Lib.hid (HB2.out.trans (hb3.mono (by omega)))
    clear hb3 HR2 HB2 HV2 HFl
    cases K2
    · clear hI3 HN2
      go_wp2_with fail
      refine Calls.mono (l92Polygon_any w3 B a len cap (q) HR3.out (by omega)) ?_
      rintro e w4 ⟨v4, l4, q4, rfl, hV4, m2, m20, r4, hq4, hb4, hK4⟩
      have HX4 := Lib.hid hV4.1
      have HB4 := Lib.hid (HB3.out.trans hb4)
      clear hV4 r4 hb4 hK4 HB3 HR3
      go_wp2
      go_returns
      exact ⟨_, l4, rfl, HX4.out, m2, m20, HB4.out⟩
    · obtain ⟨t3, t30⟩ := HN2.out rfl
      have HS3 := Lib.hid (VecsO.of hI3 (by omega) (by omega))
      clear hI3 HN2
      go_wp2_with fail
      refine Calls.mono (pickG_any _ B a len cap (q) 3 HR3.out (by omega) (by omega)) ?_
      rintro e w4 ⟨⟨y, rfl, y0, y3, R4, -, -, -, q4⟩, g4⟩
      have HS4 := Lib.hid (HS3.out.picked g4 (by omega)).1
      have HB4 := Lib.hid (HB3.out.trans q4)
      have HR4 := Lib.hid R4
      clear g4 q4 R4 HS3 HB3 HR3
      by_cases hy : 0 < y
      · clear HR4
        go_wp2
        go_returns
        exact ⟨_, S2, rfl, HS4.out, t3, t30, HB4.out⟩
      · clear HS4
        go_wp2_with fail
        refine Calls.mono (l92Polygon_any w4 B a len cap (q + 1) HR4.out (by omega)) ?_
        rintro e w5 ⟨v5, l5, q5, rfl, hV5, m2, m20, r5, hq5, hb5, hK5⟩
        have HX5 := Lib.hid hV5.1
        have HB5 := Lib.hid (HB4.out.trans hb5)
        clear hV5 r5 hb5 hK5 HB4 HR4
        go_wp2
        go_returns
        exact ⟨_, l5, rfl, HX5.out, m2, m20, HB5.out⟩
  · obtain ⟨s3, s30⟩ := HN1.out rfl
    have HS2 := Lib.hid (VecsO.of hI2 (by omega) (by omega))
    clear hI2 HN1
    go_wp2_with fail
    refine Calls.mono (pickG_any _ B a len cap q 2 HR2.out (by omega) (by omega)) ?_
    rintro e w3 ⟨⟨x, rfl, x0, x2, R3, -, -, -, q3⟩, g3⟩
    have HS3 := Lib.hid (HS2.out.picked g3 (by omega)).1
    have HB3 := Lib.hid (HB2.out.trans q3)
    have HR3 := Lib.hid R3
    have HV3 := Lib.hid (HV2.out.picked g3 hB)
    have hs3 : w2.heap.size ≤ w3.heap.size := q3.size
    clear q3 R3 g3 HS2 HB2 HR2 HV2
    by_cases hx : x = 0
    · subst hx
      clear HR3 HFl HN2 HV3
      go_wp2
      go_returns
      exact ⟨_, S, rfl, HS3.out, s3, s30, HB3.out⟩
    · have hx' : (x == 0) = false := by simpa using hx
      clear HS3 hx
      go_wp2_with fail
      refine Calls.mono (HFl.out _ HV3.out.1) ?_
      rintro e w4 ⟨v4, rfl, hI4, hb4⟩
      have hs4 := hb4.size
      have HR4 := Lib.hid (HR3.out.below (hb4.mono (by omega)))
      have HB4 := Lib.hid (HB3.out.trans (hb4.mono (by omega)))
      clear hb4 HR3 HB3 HV3 HFl
      cases K2
      · clear hI4 HN2
        go_wp2_with fail
        refine Calls.mono (l92Polygon_any w4 B a len cap (q + 1) HR4.out (by omega)) ?_
        rintro e w5 ⟨v5, l5, q5, rfl, hV5, m2, m20, r5, hq5, hb5, hK5⟩
        have HX5 := Lib.hid hV5.1
        have HB5 := Lib.hid (HB4.out.trans hb5)
        clear hV5 r5 hb5 hK5 HB4 HR4
        go_wp2
        go_returns
        exact ⟨_, l5, rfl, HX5.out, m2, m20, HB5.out⟩
      · obtain ⟨t3, t30⟩ := HN2.out rfl
        have HS4 := Lib.hid (VecsO.of hI4 (by omega) (by omega))
        clear hI4 HN2
        go_wp2_with fail
        refine Calls.mono (pickG_any _ B a len cap (q + 1) 3 HR4.out (by omega) (by omega)) ?_
        rintro e w5 ⟨⟨y, rfl, y0, y3, R5, -, -, -, q5⟩, g5⟩
        have HS5 := Lib.hid (HS4.out.picked g5 (by omega)).1
        have HB5 := Lib.hid (HB4.out.trans q5)
        have HR5 := Lib.hid R5
        clear g5 q5 R5 HS4 HB4 HR4
        by_cases hy : 0 < y
        · clear HR5
          go_wp2
          go_returns
          exact ⟨_, S2, rfl, HS5.out, t3, t30, HB5.out⟩
        · clear HS5
          go_wp2_with fail
          refine Calls.mono (l92Polygon_any w5 B a len cap (q + 1 + 1) HR5.out (by omega)) ?_
          rintro e w6 ⟨v6, l6, q6, rfl, hV6, m2, m20, r6, hq6, hb6, hK6⟩
          have HX6 := Lib.hid hV6.1
          have HB6 := Lib.hid (HB5.out.trans hb6)
          clear hV6 r6 hb6 hK6 HB5 HR5
          go_wp2
          go_returns
          exact ⟨_, l6, rfl, HX6.out, m2, m20, HB6.out⟩
set_option maxHeartbeats 1000000 in
theorem drawReflexiveIn_any (w : World) (a : Option Addr) (len cap : Nat) (h : Bytes w a len cap) :
    Calls Tryz.prog 8 #[.slice a len cap] w (GivenP w) := by
  have HO := Lib.hid (l6Open_any w a len cap h)
  clear h
  go_enter Tryz.func8, Tryz.ntmps8
  go_wp2_with fail
  refine Calls.mono HO.out ?_
  rintro e w1 ⟨l1, c1, rfl, r1, hb1, hs1⟩
  go_wp2_with fail
  refine Calls.mono (l92Reflexive_any w1 w.heap.size a l1 c1 0 r1 (by omega)) ?_
  rintro e w2 ⟨v, l, rfl, hV, h2, h20, hb2⟩
  have HB2 := Lib.hid (hb1.trans hb2)
  have HV := Lib.hid hV
  clear hV hb1 hb2 r1
  go_wp2
  go_returns
  exact ⟨_, l, rfl, HV.out, h2, h20, HB2.out⟩
end Go.Proofs.YtgaeibibeekclabGreatDoor
namespace Go.Proofs.YtgaeibibeekclabGreatDoor
open Go.RowKit
theorem sumZ_I (f : Nat → Int) : ∀ n, sumZ f n = sumI f n := by
  intro n
  induction n with
  | zero => rfl
  | succ n ih => show sumZ f n + f n = sumI f n + f n; rw [ih]
theorem leastK_le (l : List V2) : leastAt l (l.length - 1) ≤ l.length := Nat.le_trans (leastAt_le _ _) (by omega)
end Go.Proofs.YtgaeibibeekclabGreatDoor
namespace Go.Proofs.YtgaeibibeekclabGreatDoor
open Go.RowKit
theorem pc_gcd (n a b : Int) (hn : 0 ≤ n) : gcdZ (n * a) (n * b) = n * gcdZ a b := by
  unfold gcdZ
  rw [Int.natAbs_mul, Int.natAbs_mul, Nat.gcd_mul_left, Int.natCast_mul, Int.natAbs_of_nonneg hn]
end Go.Proofs.YtgaeibibeekclabGreatDoor
