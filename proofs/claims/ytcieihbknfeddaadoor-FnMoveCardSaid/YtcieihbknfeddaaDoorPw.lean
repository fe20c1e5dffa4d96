/- The draws of the promises of chapter 1, two more: a vector and a number; a matrix and a vector; two matrices. -/
import Derived.Test.YtcieihbknfeddaaDoorBs
import Derived.Test.YtcieihbknfeddaaDoorL4
namespace Go.Proofs.YtcieihbknfeddaaDoor
open Go.RowKit

def DrewMatR (w : World) (B : Nat) (a : Option Addr) (len cap : Nat) (p : Int) (e : Ending) (w' : World) : Prop := ∃ x y z u p' : Int, e = .returned (.agg #[.int .i64 (x), .int .i64 (y), .int .i64 (z), .int .i64 (u)]) ∧ Reads w' B a len cap p' ∧ p' ≤ p + 10 ∧ Below B w w' ∧ Kept w.heap.size B w w'
set_option maxHeartbeats 4000000 in
theorem l91MatR_any (w : World) (B : Nat) (a : Option Addr) (len cap : Nat) (p : Int) (h : Reads w B a len cap p) (hp : p ≤ 90000) :
    Calls Tryd.prog 67 #[.pointer (some ⟨B, 0, none⟩)] w (DrewMatR w B a len cap p) := by
  have hB : B < w.heap.size := h.2.2.2.2.1
  have b0 : w.heap.size ≠ B := by omega
  have b1 : w.heap.size + 1 ≠ B := by omega
  go_enter Tryd.func67, Tryd.ntmps67
  go_wp2_with fail
  refine Calls.mono (pick_any _ B a len cap p 4 (h.below (by go_grown)) (by omega) (by omega)) ?_
  rintro e w1 ⟨n, rfl, n0, n4, r1, k1, f1, s1, q1⟩
  have Q1 : Below B w w1 := Below.trans (by go_grown) q1
  have R1 : MatAt w1 w.heap.size 0 0 0 0 := by
    refine ⟨⟨?_, ?_, ?_, ?_⟩, ?_, ?_, ?_, ?_⟩
    all_goals first | (rw [k1 _ _ b0]; simp; done) | (rw [f1 _ _ b0]; simp; done)
  have M1 : MatAt w1 (w.heap.size + 1) 1 0 0 1 := by
    refine ⟨⟨?_, ?_, ?_, ?_⟩, ?_, ?_, ?_, ?_⟩
    all_goals first | (rw [k1 _ _ b1]; simp; done) | (rw [f1 _ _ b1]; simp; done)
  have S1 : w1.heap.size = w.heap.size + 1 + 1 := by rw [s1]; simp
  have K1 : Kept w.heap.size B w w1 := (Kept.of_below (by go_grown)).trans (Kept.of_pick k1 f1 (by rw [s1]))
  clear k1 f1 s1 q1 h
  have HM := Lib.hid M1
  have HR := Lib.hid R1
  clear M1 R1
  go_wp2
  go_loopw [5] (fun s5 wr => ∃ (k : Nat) (x y z u q : Int), s5 = .int .i64 k ∧ (k : Int) ≤ n ∧ ((-(threes k) ≤ x ∧ x ≤ threes k) ∧ (-(threes k) ≤ y ∧ y ≤ threes k) ∧ (-(threes k) ≤ z ∧ z ≤ threes k) ∧ (-(threes k) ≤ u ∧ u ≤ threes k)) ∧ Hid (MatAt wr (w.heap.size + 1) x y z u) ∧ Hid (MatAt wr w.heap.size 0 0 0 0) ∧ wr.heap.size = w.heap.size + 1 + 1 ∧ Reads wr B a len cap q ∧ q ≤ p + 1 + k ∧ Below B w wr ∧ Kept w.heap.size B w wr) (fun s5 _ => (n - intOf s5).toNat)
  case atStart => exact ⟨0, 1, 0, 0, 1, p + 1, rfl, by omega, by decide, HM, HR, S1, r1, by omega, Q1, K1⟩
  case round =>
    obtain ⟨k, x, y, z, u, q, rfl, hk, hbd, HM', HR', hS, r, hq, hQ, hK⟩ := hrel
    obtain ⟨⟨x0, x1⟩, ⟨y0, y1⟩, ⟨z0, z1⟩, ⟨u0, u1⟩⟩ := hbd
    clear HM HR r1 Q1 S1 K1
    by_cases hlt : (k : Int) < n
    · obtain ⟨t1, t2, t3⟩ := threes_succ (k := k) (by omega)
      go_wp2_with fail
      refine Calls.mono (pick_any _ B a len cap q 5 r (by omega) (by omega)) ?_
      rintro e w2 ⟨v, rfl, v0, v5, r2, k2, f2, s2, q2⟩
      have hM2 := HM'.out.kept (k2 _ · b1) (f2 _ · b1)
      have hR2 := Lib.hid (HR'.out.kept (k2 _ · b0) (f2 _ · b0))
      have hM2' := hM2
      obtain ⟨⟨c0, c1, c2, c3⟩, e0, e1, e2, e3⟩ := hM2
      have hv : -2 ≤ v - 2 ∧ v - 2 ≤ 2 := by omega
      obtain ⟨m0, m1⟩ := mul_two (c := z) hv ⟨z0, z1⟩
      obtain ⟨m2, m3⟩ := mul_two (c := u) hv ⟨u0, u1⟩
      have HM2 := Lib.hid hM2'
      have hS2 : w2.heap.size = w.heap.size + 1 + 1 := by rw [s2]; exact hS
      have hK2 := Lib.hid (hK.trans (Kept.of_pick k2 f2 s2))
      have hQ2 := hQ.trans q2
      clear k2 f2 s2 q2 HM' HR' r hQ hM2' hS hK
      generalize hT : threes k = T at *
      generalize hT' : threes (k + 1) = T' at *
      go_wp2
      go_roundw
      case rel => exact ⟨k + 1, -z, -u, x + (v - 2) * z, y + (v - 2) * u, q + 1, by go_num, by omega, ⟨⟨by omega, by omega⟩, ⟨by omega, by omega⟩, ⟨by omega, by omega⟩, ⟨by omega, by omega⟩⟩, Lib.hid (HM2.out.put _ _ _ _), Lib.hid (hR2.out.other (by omega) _ _ _ _), by simpa using hS2, r2.put (by omega) _ _ _ _, by omega, below_put hQ2 (by omega) _ _ _ _, hK2.out.trans (Kept.of_below (below_put (Below.refl _ _) (by omega) _ _ _ _))⟩
      case measure => simp [intOf]; omega
    · obtain ⟨t2, t3⟩ := threes_le k
      go_wp2_with fail
      refine Calls.mono (pick_any _ B a len cap q 12 r (by omega) (by omega)) ?_
      rintro e w2 ⟨v, rfl, v0, v5, r2, k2, f2, s2, q2⟩
      have hM2 := HM'.out.kept (k2 _ · b1) (f2 _ · b1)
      have hR2 := HR'.out.kept (k2 _ · b0) (f2 _ · b0)
      obtain ⟨⟨c0, c1, c2, c3⟩, e0, e1, e2, e3⟩ := hM2
      obtain ⟨⟨d0, d1, d2, d3⟩, g0, g1, g2, g3⟩ := hR2
      have hQ2 := hQ.trans q2
      have hK2 := Lib.hid (hK.trans (Kept.of_pick k2 f2 s2))
      have hS2 : w2.heap.size = w.heap.size + 1 + 1 := by rw [s2]; exact hS
      have hkn : (k : Int) ≤ 4 := by omega
      have HRd := Lib.hid r2
      clear k2 f2 s2 q2 HM' HR' r hQ r2 hK hS
      generalize hT : threes k = T at *
      obtain hv | hv | hv | hv | ⟨hv0, hv1, hv2, hv3⟩ : v = 0 ∨ v = 1 ∨ v = 2 ∨ v = 3 ∨ ((v == 0) = false ∧ (v == 1) = false ∧ (v == 2) = false ∧ (v == 3) = false) := by
        by_cases h0 : v = 0
        · exact .inl h0
        by_cases h1 : v = 1
        · exact .inr (.inl h1)
        by_cases h2 : v = 2
        · exact .inr (.inr (.inl h2))
        by_cases h3 : v = 3
        · exact .inr (.inr (.inr (.inl h3)))
        · exact .inr (.inr (.inr (.inr ⟨by simpa using h0, by simpa using h1, by simpa using h2, by simpa using h3⟩)))
      all_goals try subst hv
      all_goals go_wp2
      all_goals (refine bodyPost_ret (by simp [results, Tryd.results67, go_sem, *]; try rfl) rfl ?_)
      all_goals exact ⟨_, _, _, _, _, rfl, HRd.out.below (by go_grown), by omega, by go_grown, hK2.out.trans (Kept.of_below (by go_grown))⟩

def VecNum (w : World) (e : Ending) (w' : World) : Prop := ∃ x y n : Int, e = .returned (.tuple #[.agg #[.int .i64 (x), .int .i64 (y)], .int .i64 n]) ∧ Below w.heap.size w w'
end Go.Proofs.YtcieihbknfeddaaDoor
