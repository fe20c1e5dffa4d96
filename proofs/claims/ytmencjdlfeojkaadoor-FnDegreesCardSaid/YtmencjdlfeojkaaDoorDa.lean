/- The draws' reader: pick. -/
import Derived.Test.YtmencjdlfeojkaaDoorB1
import Derived.WalkSmall
import Derived.Deep.RegionHeld3
namespace Go.Proofs.YtmencjdlfeojkaaDoor
open Go.RowKit

/-- What a call of pick leaves: some number below n; the reader's place is one further on; nothing else has changed. -/
def Picked (n p : Int) (B : Nat) (w : World) (e : Ending) (w' : World) : Prop := ∃ (v : Int) (k : Nat), e = .returned (.int .i64 v) ∧ 0 ≤ v ∧ v < n ∧ w' = (w.setCell ⟨B, 1, none⟩ (.int .i64 (p + 1))).drewN k

set_option maxHeartbeats 1000000 in
theorem pick_none (a : Option Addr) (cap : Nat) (B : Nat) (n p : Int) (w : World) (hn : 1 ≤ n) (hp : 0 ≤ p ∧ p ≤ 100000)
    (h0 : w.cell? ⟨B, 0, none⟩ = some (.slice a 0 cap)) (h1 : w.cell? ⟨B, 1, none⟩ = some (.int .i64 p)) (hf : w.frozen? ⟨B, 1, none⟩ = false) :
    Calls Tryd.prog 96 #[.pointer (some ⟨B, 0, none⟩), .int .i64 n] w (Picked n p B w) := by
  obtain ⟨_, _⟩ := hp
  have hlt : decide (n < 1) = false := by simp; omega
  go_enter Tryd.func96, Tryd.ntmps96
  go_wp2
  go_returns
  exact ⟨0, 0, rfl, by omega, by omega, rfl⟩

set_option maxHeartbeats 1000000 in
theorem pick_low (bb off len cap : Nat) (D : Nat → Int) (B : Nat) (n : Int) (p : Nat) (w : World) (hn : 1 ≤ n) (hl : len ≤ 2000) (hp : p < len)
    (h0 : w.cell? ⟨B, 0, none⟩ = some (.slice (some ⟨bb, off, none⟩) len cap)) (h1 : w.cell? ⟨B, 1, none⟩ = some (.int .i64 p)) (hf : w.frozen? ⟨B, 1, none⟩ = false)
    (hD : w.cell? ⟨bb, off + p, none⟩ = some (.int .u8 (D p))) (hb : 0 ≤ D p ∧ D p ≤ 255) (hne : bb ≠ B) :
    Calls Tryd.prog 96 #[.pointer (some ⟨B, 0, none⟩), .int .i64 n] w (Picked n p B w) := by
  obtain ⟨_, _⟩ := hb
  have hlt : decide (n < 1) = false := by simp; omega
  have hl0 : ((len : Int) == 0) = false := by simp; omega
  have hn0 : (n == 0) = false := by simp; omega
  have hD' : (w.setCell ⟨B, 1, none⟩ (.int .i64 ((p : Int) + 1))).cell? ⟨bb, off + p, none⟩ = some (.int .u8 (D p)) := by
    rw [World.cell?_setCell_far]
    · exact hD
    · exact fun h => hne h.symm
  go_enter Tryd.func96, Tryd.ntmps96
  go_wp2
  go_returns
  exact ⟨_, 0, rfl, by first | (exact Int.emod_nonneg _ (by omega)) | (exact Int.tmod_nonneg _ (by omega)), by first | (exact Int.emod_lt_of_pos _ (by omega)) | (exact Int.tmod_lt_of_pos _ (by omega)), rfl⟩

theorem xor_i64 (a b : Nat) (ha : a < 4611686018427387904) (hb : b < 4611686018427387904) : bits .xor .i64 (a : Int) (b : Int) = ((a ^^^ b : Nat) : Int) := by
  have hx : a ^^^ b < 2 ^ 62 := Nat.xor_lt_two_pow (by omega) (by omega)
  have h1 : (BitVec.ofInt 64 (a : Int)).toNat = a := by
    rw [BitVec.ofInt_natCast, BitVec.toNat_ofNat]; exact Nat.mod_eq_of_lt (by omega)
  have h2 : (BitVec.ofInt 64 (b : Int)).toNat = b := by
    rw [BitVec.ofInt_natCast, BitVec.toNat_ofNat]; exact Nat.mod_eq_of_lt (by omega)
  show IntKind.i64.wrap ((BitVec.ofInt 64 (a : Int) ^^^ BitVec.ofInt 64 (b : Int)).toNat : Int) = _
  rw [BitVec.toNat_xor, h1, h2]
  exact IntWalk.i64_in _ (by omega)
theorem xor_some (X : Int) (h0 : 0 ≤ X) (h1 : X ≤ 20000000) : ∃ Y : Int, 0 ≤ Y ∧ bits .xor .i64 X (X / 64) = Y ∧ bits .xor .i64 X (X.tdiv 64) = Y := by
  obtain ⟨a, rfl⟩ := Int.eq_ofNat_of_zero_le h0
  have e : (a : Int) / 64 = ((a / 64 : Nat) : Int) := rfl
  have e2 : (a : Int).tdiv 64 = ((a / 64 : Nat) : Int) := by rw [Int.tdiv_eq_ediv_of_nonneg (by omega)]; rfl
  have hx := xor_i64 a (a / 64) (by omega) (by omega)
  refine ⟨((a ^^^ a / 64 : Nat) : Int), by omega, ?_, ?_⟩
  · rw [e]; exact hx
  · rw [e2]; exact hx

set_option maxHeartbeats 4000000 in
theorem pick_far (bb off len cap : Nat) (D : Nat → Int) (B : Nat) (n : Int) (p : Nat) (w : World) (hn : 1 ≤ n) (hl : len ≤ 2000) (hl1 : 1 ≤ len) (hp : len ≤ p) (hp2 : p ≤ 100000)
    (h0 : w.cell? ⟨B, 0, none⟩ = some (.slice (some ⟨bb, off, none⟩) len cap)) (h1 : w.cell? ⟨B, 1, none⟩ = some (.int .i64 p)) (hf : w.frozen? ⟨B, 1, none⟩ = false)
    (hD : ∀ i, i < len → w.cell? ⟨bb, off + i, none⟩ = some (.int .u8 (D i)) ∧ 0 ≤ D i ∧ D i ≤ 255) (hne : bb ≠ B) :
    Calls Tryd.prog 96 #[.pointer (some ⟨B, 0, none⟩), .int .i64 n] w (Picked n p B w) := by
  have hlt : decide (n < 1) = false := by simp; omega
  have hl0 : ((len : Int) == 0) = false := by simp; omega
  have hn0 : (n == 0) = false := by simp; omega
  have hpl : decide ((p : Int) < (len : Int)) = false := by simp; omega
  have hfar : ∀ i, i < len → (w.setCell ⟨B, 1, none⟩ (.int .i64 ((p : Int) + 1))).cell? ⟨bb, off + i, none⟩ = some (.int .u8 (D i)) := by
    intro i hi
    rw [World.cell?_setCell_far]
    · exact (hD i hi).1
    · exact fun h => hne h.symm
  obtain ⟨i1, hi1⟩ : ∃ i, i = p % len := ⟨_, rfl⟩
  obtain ⟨i2, hi2⟩ : ∃ i, i = (p * 7 + 3) % len := ⟨_, rfl⟩
  obtain ⟨q, hq⟩ : ∃ i, i = p / len := ⟨_, rfl⟩
  have r1 : Int.tmod (p : Int) (len : Int) = (i1 : Int) := by rw [hi1, Int.tmod_eq_emod_of_nonneg (by omega)]; rfl
  have r2 : Int.tmod ((p : Int) * 7 + 3) (len : Int) = (i2 : Int) := by rw [hi2, Int.tmod_eq_emod_of_nonneg (by omega), show (p : Int) * 7 + 3 = ((p * 7 + 3 : Nat) : Int) by omega]; rfl
  have q1 : Int.tdiv (p : Int) (len : Int) = (q : Int) := by rw [hq, Int.tdiv_eq_ediv_of_nonneg (by omega)]; rfl
  have m1 : i1 < len := by rw [hi1]; exact Nat.mod_lt _ (by omega)
  have m2 : i2 < len := by rw [hi2]; exact Nat.mod_lt _ (by omega)
  have m3 : q ≤ p := by rw [hq]; exact Nat.div_le_self _ _
  have hD1 := hfar _ m1
  have hD2 := hfar _ m2
  have ⟨b1, b2⟩ := (hD _ m1).2
  have ⟨b3, b4⟩ := (hD _ m2).2
  generalize D i1 = x1 at *
  generalize D i2 = x2 at *
  have e1 : IntKind.i64.wrap ((p : Int) * 7) = (p : Int) * 7 := IntWalk.i64_in _ (by omega)
  have e2 : IntKind.i64.wrap ((p : Int) * 7 + 3) = (p : Int) * 7 + 3 := IntWalk.i64_in _ (by omega)
  have e3 : IntKind.i64.wrap x1 = x1 := IntWalk.i64_in _ (by omega)
  have e4 : IntKind.i64.wrap x2 = x2 := IntWalk.i64_in _ (by omega)
  have e5 : IntKind.i64.wrap (x1 * 131) = x1 * 131 := IntWalk.i64_in _ (by omega)
  have e6 : IntKind.i64.wrap (x2 * 1117) = x2 * 1117 := IntWalk.i64_in _ (by omega)
  have e7 : IntKind.i64.wrap (x1 * 131 + x2 * 1117) = x1 * 131 + x2 * 1117 := IntWalk.i64_in _ (by omega)
  have e8 : IntKind.i64.wrap ((p : Int) * 29) = (p : Int) * 29 := IntWalk.i64_in _ (by omega)
  have e9 : IntKind.i64.wrap (x1 * 131 + x2 * 1117 + (p : Int) * 29) = x1 * 131 + x2 * 1117 + (p : Int) * 29 := IntWalk.i64_in _ (by omega)
  have e10 : IntKind.i64.wrap ((q : Int) * 53) = (q : Int) * 53 := IntWalk.i64_in _ (by omega)
  obtain ⟨X, hX⟩ : ∃ X : Int, X = x1 * 131 + x2 * 1117 + (p : Int) * 29 + (q : Int) * 53 := ⟨_, rfl⟩
  have X0 : 0 ≤ X := by omega
  have X1 : X ≤ 20000000 := by omega
  have e11 : IntKind.i64.wrap (x1 * 131 + x2 * 1117 + (p : Int) * 29 + (q : Int) * 53) = X := (IntWalk.i64_in _ (by omega)).trans hX.symm
  clear hX
  have e12 : IntKind.i64.wrap (i1 : Int) = (i1 : Int) := IntWalk.i64_in _ (by omega)
  have e13 : IntKind.i64.wrap (i2 : Int) = (i2 : Int) := IntWalk.i64_in _ (by omega)
  have e14 : IntKind.i64.wrap (q : Int) = (q : Int) := IntWalk.i64_in _ (by omega)
  have n1 : (0 : Int) ≤ (i1 : Int) := by omega
  have n2 : (0 : Int) ≤ (i2 : Int) := by omega
  have n3 : (i1 : Int) < (len : Int) := by omega
  have n4 : (i2 : Int) < (len : Int) := by omega
  have n5 : ¬ (len : Int) = 0 := by omega
  have n6 : ¬ len = 0 := by omega
  clear hi1 hi2 hq
  have h0' : (w.setCell ⟨B, 1, none⟩ (.int .i64 ((p : Int) + 1))).cell? ⟨B, 0, none⟩ = some (.slice (some ⟨bb, off, none⟩) len cap) := by
    rw [World.cell?_setCell_other _ _ _ _ (by simp)]
    exact h0
  clear hD hfar
  go_enter Tryd.func96, Tryd.ntmps96
  go_wp2
  go_region_held3 (fun w' => w'.cell? ⟨B, 0, none⟩ = some (.slice (some ⟨bb, off, none⟩) len cap) ∧ w'.cell? ⟨bb, off + i1, none⟩ = some (.int .u8 x1) ∧ w'.cell? ⟨bb, off + i2, none⟩ = some (.int .u8 x2)) (go_keep) (fail)
  obtain ⟨Y, Y0, y1, y2⟩ := xor_some X X0 X1
  go_wp2
  go_returns
  exact ⟨_, 1, rfl, by first | (exact Int.emod_nonneg _ (by omega)) | (exact Int.tmod_nonneg _ (by omega)), by first | (exact Int.emod_lt_of_pos _ (by omega)) | (exact Int.tmod_lt_of_pos _ (by omega)), rfl⟩
end Go.Proofs.YtmencjdlfeojkaaDoor
