/- The draws of numbers that are often those of a fan. -/
import Derived.Test.YtcieihbknfeddaaI2
import Derived.Test.YtcieihbknfeddaaBf
namespace Go.Proofs.Ytcieihbknfeddaa
open Go.RowKit

def DrewNums (w : World) (B : Nat) (a : Option Addr) (len cap : Nat) (p : Int) (e : Ending) (w' : World) : Prop :=
  ∃ (u : Value) (d : List Int) (q : Int), e = .returned u ∧ Ints w' w.heap.size u d ∧ 3 ≤ d.length ∧ d.length ≤ 20 ∧ Reads w' B a len cap q ∧ q ≤ p + 15 ∧ Below B w w'
theorem Ints.three (w : World) : Ints (w.alloc (.cells #[.int .i64 1, .int .i64 1, .int .i64 1] 3)) w.heap.size (.slice (some ⟨w.heap.size, 0, none⟩) 3 3) [1, 1, 1] :=
  ⟨rfl, .inr ⟨w.heap.size, 3, #[.int .i64 1, .int .i64 1, .int .i64 1], rfl, Nat.le_refl _, heap_alloc_new w _, Nat.le_refl _, by decide, rfl, rfl⟩⟩
set_option maxRecDepth 100000 in
set_option maxHeartbeats 8000000 in
theorem l92Numbers_any (w : World) (B : Nat) (a : Option Addr) (len cap : Nat) (p : Int) (h : Reads w B a len cap p) (hp : p ≤ 80000) :
    Calls Try.prog 9 #[.pointer (some ⟨B, 0, none⟩)] w (DrewNums w B a len cap p) := by
  have hB : B < w.heap.size := h.2.2.2.2.1
  have HO := Lib.hid (l91Smooth_any w B a len cap p h (by omega))
  have HT := Lib.hid (fun w' => Ints.three w')
  clear h
  go_enter Try.func9, Try.ntmps9
  go_wp2_with fail
  refine Calls.mono HO.out ?_
  rintro e w2 ⟨v, l, q, rfl, hV, h2, h20, r2, hq, hb2⟩
  have HF := Lib.hid (specFanNumbers_any v l w2 hV.1)
  have HR2 := Lib.hid r2
  have HB2 := Lib.hid hb2
  have hs2 := hb2.size
  have HN : Hid ((numsZ l).length = l.length) := nums_len l
  have H3 := Lib.hid (fun h : smoothB l = true => (smooth_len h).1)
  obtain ⟨va, vc, rfl, _⟩ := hV.1
  clear hV r2 hb2 HO
  cases hk : smoothB l
  · rw [hk] at HF
    have HF2 : Hid (Calls Try.prog 16 #[.slice va l.length vc] w2 (GivesIntsOk w2 [] false)) := HF.out
    clear HF hk H3 HN
    go_wp2_with fail
    refine Calls.mono HF2.out ?_
    rintro e w3 ⟨v3, rfl, hI3, hb3⟩
    have hs3 := hb3.size
    have HR := Lib.hid (HR2.out.below (hb3.mono (by omega)))
    have HB := Lib.hid (HB2.out.trans (hb3.mono (by omega)))
    have HI := Lib.hid ((HT.out w3).lower (show w.heap.size ≤ w3.heap.size by omega))
    have HR' := Lib.hid (HR.out.below (by go_grown : Below (B + 1) w3 (w3.alloc (.cells #[.int .i64 1, .int .i64 1, .int .i64 1] 3))))
    clear hI3 hb3 HR2 HB2 HF2 HT
    go_wp2
    go_returns
    exact ⟨_, _, q, rfl, HI.out, by simp, by simp, HR'.out, by omega, HB.out.trans (by go_grown)⟩
  · rw [hk] at HF
    have h3 := H3.out hk
    have HF2 : Hid (Calls Try.prog 16 #[.slice va l.length vc] w2 (GivesIntsOk w2 (numsZ l) true)) := HF.out
    clear HF hk HT H3
    generalize numsZ l = L at *
    go_wp2_with fail
    refine Calls.mono HF2.out ?_
    rintro e w3 ⟨v3, rfl, hI3, hb3⟩
    have hs3 := hb3.size
    have hn := HN.out
    have hR3 := HR2.out.below (hb3.mono (by omega))
    have HB3 := Lib.hid (HB2.out.trans (hb3.mono (by omega)))
    have hI3' := hI3.lower (show w.heap.size ≤ w2.heap.size by omega)
    rcases hI3'.form with ⟨h0, _⟩ | ⟨_, g, c, rfl, hgb, hgs, hlc⟩
    · rw [h0] at hn; simp at hn; omega
    have HI3 := Lib.hid hI3'
    clear hI3 hI3' hb3 HR2 HB2 HF2
    have HLK := Lib.hid hn
    rw [hn] at HI3 hlc ⊢
    clear hn HN
    go_wp2_with fail
    refine Calls.mono (pickG_any _ B a len cap q 8 hR3 (by omega) (by omega)) ?_
    rintro e w4 ⟨⟨x, rfl, x0, x8, R4, -, -, -, b4⟩, g4⟩
    have HI4 := Lib.hid (HI3.out.picked g4 hB)
    have HB4 := Lib.hid (HB3.out.trans b4)
    clear hR3 HB3 HI3 g4 b4
    by_cases hx : x = 0
    · subst hx
      go_wp2_with fail
      refine Calls.mono (pickG_any _ B a len cap (q + 1) l.length R4 (by omega) (by omega)) ?_
      rintro e w5 ⟨⟨y, rfl, y0, y8, R5, -, -, -, b5⟩, g5⟩
      obtain ⟨j, rfl⟩ := Int.eq_ofNat_of_zero_le y0
      have HI5 := Lib.hid (HI4.out.picked g5 hB)
      have HB5 := Lib.hid (HB4.out.trans b5)
      clear R4 HB4 HI4 g5 b5
      go_wp2_with fail
      refine Calls.mono (pickG_any _ B a len cap (q + 1 + 1) 5 R5 (by omega) (by omega)) ?_
      rintro e w6 ⟨⟨z, rfl, z0, z8, R6, -, -, -, b6⟩, g6⟩
      have hI6 := HI5.out.picked g6 hB
      have HB6 := Lib.hid (HB5.out.trans b6)
      have hO : w6.ownsRow w.heap.size 3 1 (.slice (some ⟨g, 0, none⟩) l.length c) l.length (intsV L) := by
        have h := hI6
        unfold Ints at h
        rw [HLK.out] at h
        exact h
      have hst := hO.stored j (.int .i64 (z - 2))
      have F := World.ownsRow.frozenAt hO j
      have hc := World.ownsRow.cellAt hO j (by omega)
      obtain ⟨u, hu⟩ : ∃ u, (intsV L)[j]? = some u := ⟨_, List.getElem?_eq_getElem (by have := hO.1; omega)⟩
      rw [hu] at hc
      have HS : Hid (Ints (w6.setCell ⟨g, j, none⟩ (.int .i64 (z - 2))) w.heap.size (.slice (some ⟨g, 0, none⟩) l.length c) (L.set j (z - 2))) := by
        have : (intsV L).set j (.int .i64 (z - 2)) = intsV (L.set j (z - 2)) := by simp [intsV, List.map_set]
        rw [this] at hst
        exact Ints.as (by rw [List.length_set]; exact HLK.out.symm) hst.1
      have HR6 := Lib.hid (R6.below ((Below.refl (B + 1) w6).setCell (p := ⟨g, j, none⟩) (by show B + 1 ≤ g; omega) (.int .i64 (z - 2))))
      have HB7 := Lib.hid (HB6.out.setCell (p := ⟨g, j, none⟩) (by show B ≤ g; omega) (.int .i64 (z - 2)))
      have i1 : (0 : Int) ≤ (j : Int) := by omega
      have i2 : (j : Int) < (l.length : Int) := by omega
      have i3 : j < l.length := by omega
      have hl3 : 3 ≤ (L.set j (z - 2)).length := by rw [List.length_set, HLK.out]; omega
      have hl20 : (L.set j (z - 2)).length ≤ 20 := by rw [List.length_set, HLK.out]; omega
      have HL3 := Lib.hid hl3
      have HL20 := Lib.hid hl20
      have hq4 : q + 1 + 1 + 1 ≤ p + 15 := by omega
      clear hI6 hO hst hu R5 R6 HB5 HB6 HI5 g6 b6 hl3 hl20
      go_wp2
      go_returns
      exact ⟨_, _, q + 1 + 1 + 1, rfl, HS.out, HL3.out, HL20.out, HR6.out, hq4, HB7.out⟩
    · have hx' : (x == 0) = false := by simpa using hx
      have HR4 := Lib.hid R4
      clear hx R4
      go_wp2
      go_returns
      exact ⟨_, L, q + 1, rfl, HI4.out, by rw [HLK.out]; omega, by rw [HLK.out]; omega, HR4.out, by omega, HB4.out⟩
def GivenDI (w : World) (e : Ending) (w' : World) : Prop :=
  ∃ (u : Value) (d : List Int) (i : Int), e = .returned (.tuple #[u, .int .i64 i]) ∧ ReadsInts w' u d ∧ 3 ≤ d.length ∧ d.length ≤ 20 ∧ -1 ≤ i ∧ i ≤ 20 ∧ Below w.heap.size w w'
set_option maxHeartbeats 4000000 in
theorem drawNumbersBlow_any (w : World) (a : Option Addr) (len cap : Nat) (h : Bytes w a len cap) :
    Calls Try.prog 4 #[.slice a len cap] w (GivenDI w) := by
  have HO := Lib.hid (l6Open_any w a len cap h)
  clear h
  go_enter Try.func4, Try.ntmps4
  go_wp2_with fail
  refine Calls.mono HO.out ?_
  rintro e w1 ⟨l1, c1, rfl, r1, hb1, hs1⟩
  go_wp2_with fail
  refine Calls.mono (l92Numbers_any w1 w.heap.size a l1 c1 0 r1 (by omega)) ?_
  rintro e w2 ⟨u, d, q, rfl, hI, h3, h20, r2, hq, hb2⟩
  have HB := Lib.hid (hb1.trans hb2)
  have HI := Lib.hid hI
  rcases hI.form with ⟨h0, _⟩ | ⟨_, g, c, rfl, hgb, hgs, hlc⟩
  · rw [h0] at h3; simp at h3
  have hdl : (d.length : Int) + 1 ≤ 21 := by omega
  clear hI hb1 hb2 r1
  go_wp2_with fail
  refine Calls.mono (pickG_any _ w.heap.size a l1 c1 q ((d.length : Int) + 1) r2 (by omega) (by omega)) ?_
  rintro e w3 ⟨⟨x, rfl, x0, x7, r3, -, -, -, b3⟩, g3⟩
  have HI3 := Lib.hid (HI.out.picked g3 (by omega))
  have HB3 := Lib.hid (HB.out.trans b3)
  clear HI g3 b3 r2 HB
  go_wp2_with fail
  refine Calls.mono (pickG_any _ w.heap.size a l1 c1 (q + 1) 20 r3 (by omega) (by omega)) ?_
  rintro e w4 ⟨⟨y, rfl, y0, y7, r4, -, -, -, b4⟩, g4⟩
  have HI4 := Lib.hid ((HI3.out.picked g4 (by omega)).reads (by omega))
  have HB4 := Lib.hid (HB3.out.trans b4)
  have e9 : y.tdiv 19 = y / 19 := Int.tdiv_eq_ediv_of_nonneg y0
  clear g4 b4 r3 r4 HB3 HI3
  go_wp2
  go_returns
  exact ⟨_, d, _, rfl, HI4.out, h3, h20, by omega, by omega, HB4.out⟩
end Go.Proofs.Ytcieihbknfeddaa
