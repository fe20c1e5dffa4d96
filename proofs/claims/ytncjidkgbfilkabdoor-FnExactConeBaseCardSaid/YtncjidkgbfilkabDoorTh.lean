import Derived.Test.YtncjidkgbfilkabDoorMb
import Derived.Test.YtncjidkgbfilkabDoorTf
import Derived.Handy
namespace Go.Proofs.YtncjidkgbfilkabDoor
open Go.RowKit

theorem ret_int {a b : Int} (h : a = b) : Ending.returned (.int .i64 a) = .returned (.int .i64 b) := by rw [h]

set_option maxHeartbeats 1000000 in
theorem commonDivisor_big (a b : Int) (w : World) (ha : -2000000 ≤ a ∧ a ≤ 2000000) (hb : -2000000 ≤ b ∧ b ≤ 2000000) :
    Calls Tryd.prog 47 #[.int .i64 a, .int .i64 b] w fun e w' => e = .returned (.int .i64 (gcdZ a b)) ∧ Below w.heap.size w w' := by
  go_enter Tryd.func47, Tryd.ntmps47
  go_wp2
  go_loopw [0, 1] (fun s0 s1 wr => ∃ x y : Int, s0 = .int .i64 x ∧ s1 = .int .i64 y ∧ gcdZ x y = gcdZ a b ∧ (-2000000 ≤ x ∧ x ≤ 2000000) ∧ (-2000000 ≤ y ∧ y ≤ 2000000) ∧ Below w.heap.size w wr) (fun _ s1 _ => (intOf s1).natAbs)
  case atStart => exact ⟨a, b, rfl, rfl, rfl, ha, hb, Below.refl _ _⟩
  case round =>
    obtain ⟨x, y, rfl, rfl, hgc, hx, hy, hB⟩ := hrel
    by_cases h0 : y = 0
    · subst h0
      rw [gcdZ_zero] at hgc
      have H := Lib.hid hgc
      clear hgc
      obtain ⟨_, _⟩ := hx
      go_wp2
      all_goals go_returns
      all_goals refine ⟨?_, hB⟩
      all_goals rw [← H.out]
      all_goals (refine ret_int ?_; omega)
    · have hm := tmod_bd (y := y) hx
      have hl := tmod_lt (x := x) h0
      have HS := Lib.hid ((gcdZ_step x y).trans hgc)
      clear hgc
      have hyb : (y == 0) = false := by simpa using h0
      have hyn : (y != 0) = true := by simpa using h0
      go_wp2
      go_region
      all_goals
        go_roundw
        case rel => exact ⟨_, _, _, _, _, _, _, _, ⟨y, x.tmod y, rfl, rfl, HS.out, hy, hm, by go_grown⟩, rfl⟩
        case measure => simpa [intOf] using hl

set_option maxHeartbeats 1000000 in
theorem l1Gcd_big (a b : Int) (w : World) (ha : -2000000 ≤ a ∧ a ≤ 2000000) (hb : -2000000 ≤ b ∧ b ≤ 2000000) :
    Calls Tryd.prog 48 #[.int .i64 a, .int .i64 b] w fun e w' => e = .returned (.int .i64 (gcdZ a b)) ∧ Below w.heap.size w w' := by
  obtain ⟨_, _⟩ := ha
  obtain ⟨_, _⟩ := hb
  go_enter Tryd.func48, Tryd.ntmps48
  go_wp2
  all_goals
    go_loopw [0, 1] (fun s0 s1 wr => ∃ x y : Int, s0 = .int .i64 x ∧ s1 = .int .i64 y ∧ gcdZ x y = gcdZ a b ∧ (0 ≤ x ∧ x ≤ 2000000) ∧ (0 ≤ y ∧ y ≤ 2000000) ∧ Below w.heap.size w wr) (fun _ s1 _ => (intOf s1).natAbs)
    case atStart => exact ⟨_, _, rfl, rfl, by simp [gcdZ], by omega, by omega, by go_grown⟩
    case round =>
      obtain ⟨x, y, rfl, rfl, hgc, hx, hy, hB⟩ := hrel
      by_cases h0 : y = 0
      · subst h0
        rw [gcdZ_zero] at hgc
        have H := Lib.hid hgc
        clear hgc
        obtain ⟨_, _⟩ := hx
        go_wp2
        go_returns
        refine ⟨?_, hB⟩
        rw [← H.out]
        refine ret_int ?_
        omega
      · have hm := tmod_bd (x := x) (y := y) (n := 2000000) ⟨by omega, hx.2⟩
        have hn : 0 ≤ x.tmod y := Int.tmod_nonneg y hx.1
        have hl := tmod_lt (x := x) h0
        have HS := Lib.hid ((gcdZ_step x y).trans hgc)
        clear hgc
        have hyb : (y == 0) = false := by simpa using h0
        have hyn : (y != 0) = true := by simpa using h0
        obtain ⟨_, _⟩ := hx
        obtain ⟨_, _⟩ := hy
        have e1 : x % y = x.tmod y := (Int.tmod_eq_emod_of_nonneg (by omega)).symm
        have E1 := Lib.hid e1
        clear e1
        go_wp2
        go_roundw
        case rel => exact ⟨y, x % y, rfl, rfl, by rw [E1.out]; exact HS.out, by omega, by rw [E1.out]; omega, by go_grown⟩
        case measure => simp only [intOf]; rw [E1.out]; exact hl
theorem commonDivisor_any (a b : Int) (w : World) (ha : -1000 ≤ a ∧ a ≤ 1000) (hb : -1000 ≤ b ∧ b ≤ 1000) :
    Calls Tryd.prog 47 #[.int .i64 a, .int .i64 b] w fun e w' => e = .returned (.int .i64 (gcdZ a b)) ∧ Below w.heap.size w w' :=
  commonDivisor_big a b w (by omega) (by omega)
theorem l1Gcd_any (a b : Int) (w : World) (ha : -1000 ≤ a ∧ a ≤ 1000) (hb : -1000 ≤ b ∧ b ≤ 1000) :
    Calls Tryd.prog 48 #[.int .i64 a, .int .i64 b] w fun e w' => e = .returned (.int .i64 (gcdZ a b)) ∧ Below w.heap.size w w' :=
  l1Gcd_big a b w (by omega) (by omega)
end Go.Proofs.YtncjidkgbfilkabDoor
