import Derived.Test.YtcieihbknfeddaaB1
import Derived.WalkSmall
import Derived.Deep.RegionHeld3
import Derived.Handy
import Derived.Deep.DeepCutAuto
import Derived.Test.YtcieihbknfeddaaB3
import Derived.Test.YtcieihbknfeddaaB4
/- The draws' reader: pick. -/
namespace Go.Proofs.Ytcieihbknfeddaa
open Go.RowKit

/-- What a call of pick leaves: some number below n; the reader's place is one further on; nothing else has changed. -/
def Picked (n p : Int) (B : Nat) (w : World) (e : Ending) (w' : World) : Prop := ∃ (v : Int) (k : Nat), e = .returned (.int .i64 v) ∧ 0 ≤ v ∧ v < n ∧ w' = (w.setCell ⟨B, 1, none⟩ (.int .i64 (p + 1))).drewN k

set_option maxHeartbeats 1000000 in
theorem pick_none (a : Option Addr) (cap : Nat) (B : Nat) (n p : Int) (w : World) (hn : 1 ≤ n) (hp : 0 ≤ p ∧ p ≤ 100000)
    (h0 : w.cell? ⟨B, 0, none⟩ = some (.slice a 0 cap)) (h1 : w.cell? ⟨B, 1, none⟩ = some (.int .i64 p)) (hf : w.frozen? ⟨B, 1, none⟩ = false) :
    Calls Try.prog 10 #[.pointer (some ⟨B, 0, none⟩), .int .i64 n] w (Picked n p B w) := by
  obtain ⟨_, _⟩ := hp
  have hlt : decide (n < 1) = false := by simp; omega
  go_enter Try.func10, Try.ntmps10
  go_wp2
  go_returns
  exact ⟨0, 0, rfl, by omega, by omega, rfl⟩

set_option maxHeartbeats 1000000 in
theorem pick_low (bb off len cap : Nat) (D : Nat → Int) (B : Nat) (n : Int) (p : Nat) (w : World) (hn : 1 ≤ n) (hl : len ≤ 2000) (hp : p < len)
    (h0 : w.cell? ⟨B, 0, none⟩ = some (.slice (some ⟨bb, off, none⟩) len cap)) (h1 : w.cell? ⟨B, 1, none⟩ = some (.int .i64 p)) (hf : w.frozen? ⟨B, 1, none⟩ = false)
    (hD : w.cell? ⟨bb, off + p, none⟩ = some (.int .u8 (D p))) (hb : 0 ≤ D p ∧ D p ≤ 255) (hne : bb ≠ B) :
    Calls Try.prog 10 #[.pointer (some ⟨B, 0, none⟩), .int .i64 n] w (Picked n p B w) := by
  obtain ⟨_, _⟩ := hb
  have hlt : decide (n < 1) = false := by simp; omega
  have hl0 : ((len : Int) == 0) = false := by simp; omega
  have hn0 : (n == 0) = false := by simp; omega
  have hD' : (w.setCell ⟨B, 1, none⟩ (.int .i64 ((p : Int) + 1))).cell? ⟨bb, off + p, none⟩ = some (.int .u8 (D p)) := by
    rw [World.cell?_setCell_far]
    · exact hD
    · exact fun h => hne h.symm
  go_enter Try.func10, Try.ntmps10
  go_wp2
  go_returns
  exact ⟨_, 0, rfl, by first | (exact Int.emod_nonneg _ (by omega)) | (exact Int.tmod_nonneg _ (by omega)), by first | (exact Int.emod_lt_of_pos _ (by omega)) | (exact Int.tmod_lt_of_pos _ (by omega)), rfl⟩

theorem xor_i64 (a b : Nat) (ha : a < 4611686018427387904) (hb : b < 4611686018427387904) : bits .xor .i64 (a : Int) (b : Int) = ((a ^^^ b : Nat) : Int) := by
  have hx : a ^^^ b < 2 ^ 62 := Nat.xor_lt_two_pow (by omega) (by omega)
  have h1 : (BitVec.ofInt 64 (a : Int)).toNat = a := by
    rw [BitVec.ofInt_natCast, BitVec.toNat_ofNat]; exact Nat.mod_eq_of_lt (by omega)
  have h2 : (BitVec.ofInt 64 (b : Int)).toNat = b := by
    rw [BitVec.ofInt_natCast, BitVec.toNat_ofNat]; exact Nat.mod_eq_of_lt (by omega)
  show IntKind.i64.wrap ((BitVec.ofInt 64 (a : Int) ^^^ BitVec.ofInt 64 (b : Int)).toNat : Int) = _
  rw [BitVec.toNat_xor, h1, h2]
  exact IntWalk.i64_in _ (by omega)
theorem xor_some (X : Int) (h0 : 0 ≤ X) (h1 : X ≤ 20000000) : ∃ Y : Int, 0 ≤ Y ∧ bits .xor .i64 X (X / 64) = Y ∧ bits .xor .i64 X (X.tdiv 64) = Y := by
  obtain ⟨a, rfl⟩ := Int.eq_ofNat_of_zero_le h0
  have e : (a : Int) / 64 = ((a / 64 : Nat) : Int) := rfl
  have e2 : (a : Int).tdiv 64 = ((a / 64 : Nat) : Int) := by rw [Int.tdiv_eq_ediv_of_nonneg (by omega)]; rfl
  have hx := xor_i64 a (a / 64) (by omega) (by omega)
  refine ⟨((a ^^^ a / 64 : Nat) : Int), by omega, ?_, ?_⟩
  · rw [e]; exact hx
  · rw [e2]; exact hx

set_option maxHeartbeats 4000000 in
theorem pick_far (bb off len cap : Nat) (D : Nat → Int) (B : Nat) (n : Int) (p : Nat) (w : World) (hn : 1 ≤ n) (hl : len ≤ 2000) (hl1 : 1 ≤ len) (hp : len ≤ p) (hp2 : p ≤ 100000)
    (h0 : w.cell? ⟨B, 0, none⟩ = some (.slice (some ⟨bb, off, none⟩) len cap)) (h1 : w.cell? ⟨B, 1, none⟩ = some (.int .i64 p)) (hf : w.frozen? ⟨B, 1, none⟩ = false)
    (hD : ∀ i, i < len → w.cell? ⟨bb, off + i, none⟩ = some (.int .u8 (D i)) ∧ 0 ≤ D i ∧ D i ≤ 255) (hne : bb ≠ B) :
    Calls Try.prog 10 #[.pointer (some ⟨B, 0, none⟩), .int .i64 n] w (Picked n p B w) := by
  have hlt : decide (n < 1) = false := by simp; omega
  have hl0 : ((len : Int) == 0) = false := by simp; omega
  have hn0 : (n == 0) = false := by simp; omega
  have hpl : decide ((p : Int) < (len : Int)) = false := by simp; omega
  have hfar : ∀ i, i < len → (w.setCell ⟨B, 1, none⟩ (.int .i64 ((p : Int) + 1))).cell? ⟨bb, off + i, none⟩ = some (.int .u8 (D i)) := by
    intro i hi
    rw [World.cell?_setCell_far]
    · exact (hD i hi).1
    · exact fun h => hne h.symm
  obtain ⟨i1, hi1⟩ : ∃ i, i = p % len := ⟨_, rfl⟩
  obtain ⟨i2, hi2⟩ : ∃ i, i = (p * 7 + 3) % len := ⟨_, rfl⟩
  obtain ⟨q, hq⟩ : ∃ i, i = p / len := ⟨_, rfl⟩
  have r1 : Int.tmod (p : Int) (len : Int) = (i1 : Int) := by rw [hi1, Int.tmod_eq_emod_of_nonneg (by omega)]; rfl
  have r2 : Int.tmod ((p : Int) * 7 + 3) (len : Int) = (i2 : Int) := by rw [hi2, Int.tmod_eq_emod_of_nonneg (by omega), show (p : Int) * 7 + 3 = ((p * 7 + 3 : Nat) : Int) by omega]; rfl
  have q1 : Int.tdiv (p : Int) (len : Int) = (q : Int) := by rw [hq, Int.tdiv_eq_ediv_of_nonneg (by omega)]; rfl
  have m1 : i1 < len := by rw [hi1]; exact Nat.mod_lt _ (by omega)
  have m2 : i2 < len := by rw [hi2]; exact Nat.mod_lt _ (by omega)
  have m3 : q ≤ p := by rw [hq]; exact Nat.div_le_self _ _
  have hD1 := hfar _ m1
  have hD2 := hfar _ m2
  have ⟨b1, b2⟩ := (hD _ m1).2
  have ⟨b3, b4⟩ := (hD _ m2).2
  generalize D i1 = x1 at *
  generalize D i2 = x2 at *
  have e1 : IntKind.i64.wrap ((p : Int) * 7) = (p : Int) * 7 := IntWalk.i64_in _ (by omega)
  have e2 : IntKind.i64.wrap ((p : Int) * 7 + 3) = (p : Int) * 7 + 3 := IntWalk.i64_in _ (by omega)
  have e3 : IntKind.i64.wrap x1 = x1 := IntWalk.i64_in _ (by omega)
  have e4 : IntKind.i64.wrap x2 = x2 := IntWalk.i64_in _ (by omega)
  have e5 : IntKind.i64.wrap (x1 * 131) = x1 * 131 := IntWalk.i64_in _ (by omega)
  have e6 : IntKind.i64.wrap (x2 * 1117) = x2 * 1117 := IntWalk.i64_in _ (by omega)
  have e7 : IntKind.i64.wrap (x1 * 131 + x2 * 1117) = x1 * 131 + x2 * 1117 := IntWalk.i64_in _ (by omega)
  have e8 : IntKind.i64.wrap ((p : Int) * 29) = (p : Int) * 29 := IntWalk.i64_in _ (by omega)
  have e9 : IntKind.i64.wrap (x1 * 131 + x2 * 1117 + (p : Int) * 29) = x1 * 131 + x2 * 1117 + (p : Int) * 29 := IntWalk.i64_in _ (by omega)
  have e10 : IntKind.i64.wrap ((q : Int) * 53) = (q : Int) * 53 := IntWalk.i64_in _ (by omega)
  obtain ⟨X, hX⟩ : ∃ X : Int, X = x1 * 131 + x2 * 1117 + (p : Int) * 29 + (q : Int) * 53 := ⟨_, rfl⟩
  have X0 : 0 ≤ X := by omega
  have X1 : X ≤ 20000000 := by omega
  have e11 : IntKind.i64.wrap (x1 * 131 + x2 * 1117 + (p : Int) * 29 + (q : Int) * 53) = X := (IntWalk.i64_in _ (by omega)).trans hX.symm
  clear hX
  have e12 : IntKind.i64.wrap (i1 : Int) = (i1 : Int) := IntWalk.i64_in _ (by omega)
  have e13 : IntKind.i64.wrap (i2 : Int) = (i2 : Int) := IntWalk.i64_in _ (by omega)
  have e14 : IntKind.i64.wrap (q : Int) = (q : Int) := IntWalk.i64_in _ (by omega)
  have n1 : (0 : Int) ≤ (i1 : Int) := by omega
  have n2 : (0 : Int) ≤ (i2 : Int) := by omega
  have n3 : (i1 : Int) < (len : Int) := by omega
  have n4 : (i2 : Int) < (len : Int) := by omega
  have n5 : ¬ (len : Int) = 0 := by omega
  have n6 : ¬ len = 0 := by omega
  clear hi1 hi2 hq
  have h0' : (w.setCell ⟨B, 1, none⟩ (.int .i64 ((p : Int) + 1))).cell? ⟨B, 0, none⟩ = some (.slice (some ⟨bb, off, none⟩) len cap) := by
    rw [World.cell?_setCell_other _ _ _ _ (by simp)]
    exact h0
  clear hD hfar
  go_enter Try.func10, Try.ntmps10
  go_wp2
  go_region_held3 (fun w' => w'.cell? ⟨B, 0, none⟩ = some (.slice (some ⟨bb, off, none⟩) len cap) ∧ w'.cell? ⟨bb, off + i1, none⟩ = some (.int .u8 x1) ∧ w'.cell? ⟨bb, off + i2, none⟩ = some (.int .u8 x2)) (go_keep) (fail)
  obtain ⟨Y, Y0, y1, y2⟩ := xor_some X X0 X1
  go_wp2
  go_returns
  exact ⟨_, 1, rfl, by first | (exact Int.emod_nonneg _ (by omega)) | (exact Int.tmod_nonneg _ (by omega)), by first | (exact Int.emod_lt_of_pos _ (by omega)) | (exact Int.tmod_lt_of_pos _ (by omega)), rfl⟩
end Go.Proofs.Ytcieihbknfeddaa

/- The draws: what a reader is, and what each draw gives. -/
namespace Go.Proofs.Ytcieihbknfeddaa
open Go.RowKit

/-- The bytes that a reader in block B reads lie below it. -/
def Src (w : World) (B : Nat) (a : Option Addr) (len : Nat) : Prop :=
  len = 0 ∨ ∃ (bb off : Nat) (D : Nat → Int), a = some ⟨bb, off, none⟩ ∧ 1 ≤ len ∧ len ≤ 2000 ∧ bb < B ∧ ∀ i, i < len → w.cell? ⟨bb, off + i, none⟩ = some (.int .u8 (D i)) ∧ 0 ≤ D i ∧ D i ≤ 255
/-- A reader in block B at place p. -/
def Reads (w : World) (B : Nat) (a : Option Addr) (len cap : Nat) (p : Int) : Prop :=
  Src w B a len ∧ w.cell? ⟨B, 0, none⟩ = some (.slice a len cap) ∧ w.cell? ⟨B, 1, none⟩ = some (.int .i64 p) ∧ w.frozen? ⟨B, 1, none⟩ = false ∧ B < w.heap.size ∧ 0 ≤ p
theorem Src.below {w w' : World} {B : Nat} {a : Option Addr} {len : Nat} (h : Src w B a len) (hb : Below B w w') : Src w' B a len := by
  rcases h with h | ⟨bb, off, D, h1, h2, h3, h4, h5⟩
  · exact .inl h
  · refine .inr ⟨bb, off, D, h1, h2, h3, h4, fun i hi => ?_⟩
    rw [hb.cell (p := ⟨bb, off + i, none⟩) h4]
    exact h5 i hi
theorem Reads.below {w w' : World} {B : Nat} {a : Option Addr} {len cap : Nat} {p : Int} (h : Reads w B a len cap p) (hb : Below (B + 1) w w') : Reads w' B a len cap p := by
  obtain ⟨h1, h2, h3, h4, h5, h6⟩ := h
  refine ⟨h1.below (hb.mono (Nat.le_succ _)), ?_, ?_, ?_, Nat.lt_of_lt_of_le h5 hb.size, h6⟩
  · rw [hb.cell (p := ⟨B, 0, none⟩) (Nat.lt_succ_self _)]; exact h2
  · rw [hb.cell (p := ⟨B, 1, none⟩) (Nat.lt_succ_self _)]; exact h3
  · rw [hb.frozen (p := ⟨B, 1, none⟩) (Nat.lt_succ_self _)]; exact h4
/-- What a call of pick leaves, said so that a walk goes on from a world of a letter. -/
def Pick (w : World) (B : Nat) (a : Option Addr) (len cap : Nat) (p n : Int) (e : Ending) (w' : World) : Prop :=
  ∃ v : Int, e = .returned (.int .i64 v) ∧ 0 ≤ v ∧ v < n ∧ Reads w' B a len cap (p + 1) ∧ (∀ b o, b ≠ B → w'.cell? ⟨b, o, none⟩ = w.cell? ⟨b, o, none⟩) ∧ (∀ b o, b ≠ B → w'.frozen? ⟨b, o, none⟩ = w.frozen? ⟨b, o, none⟩) ∧ w'.heap.size = w.heap.size ∧ Below B w w'
theorem pick_of {w : World} {B : Nat} {a : Option Addr} {len cap : Nat} {p n : Int} {e : Ending} {w' : World} (h : Reads w B a len cap p) (hp : Picked n p B w e w') : Pick w B a len cap p n e w' := by
  obtain ⟨v, k, he, hv, hv', rfl⟩ := hp
  obtain ⟨h1, h2, h3, h4, h5, h6⟩ := h
  have hb : Below B w ((w.setCell ⟨B, 1, none⟩ (.int .i64 (p + 1))).drewN k) := below_drewN ((Below.refl B w).setCell (p := ⟨B, 1, none⟩) (Nat.le_refl B) (.int .i64 (p + 1))) k
  refine ⟨v, he, hv, hv', ⟨h1.below hb, ?_, ?_, ?_, ?_, by omega⟩, ?_, ?_, ?_, hb⟩
  · show (w.setCell ⟨B, 1, none⟩ (.int .i64 (p + 1))).cell? ⟨B, 0, none⟩ = _
    rw [World.cell?_setCell_other _ _ _ _ (by simp)]
    exact h2
  · show (w.setCell ⟨B, 1, none⟩ (.int .i64 (p + 1))).cell? ⟨B, 1, none⟩ = _
    exact World.cell?_setCell_same _ _ _ h3
  · show (w.setCell ⟨B, 1, none⟩ (.int .i64 (p + 1))).frozen? ⟨B, 1, none⟩ = _
    rw [World.frozen?_setCell]; exact h4
  · show B < (w.setCell ⟨B, 1, none⟩ (.int .i64 (p + 1))).heap.size
    simpa using h5
  · intro b o hne
    show (w.setCell ⟨B, 1, none⟩ (.int .i64 (p + 1))).cell? ⟨b, o, none⟩ = _
    exact World.cell?_setCell_far _ _ _ _ (fun h => hne h.symm)
  · intro b o hne
    show (w.setCell ⟨B, 1, none⟩ (.int .i64 (p + 1))).frozen? ⟨b, o, none⟩ = _
    simp
  · show (w.setCell ⟨B, 1, none⟩ (.int .i64 (p + 1))).heap.size = _
    simp
theorem pick_any (w : World) (B : Nat) (a : Option Addr) (len cap : Nat) (p n : Int) (h : Reads w B a len cap p) (hn : 1 ≤ n) (hp : p ≤ 100000) :
    Calls Try.prog 10 #[.pointer (some ⟨B, 0, none⟩), .int .i64 n] w (Pick w B a len cap p n) := by
  refine Calls.mono ?_ (fun e w' hp => pick_of h hp)
  obtain ⟨h1, h2, h3, h4, h5, h6⟩ := h
  rcases h1 with rfl | ⟨bb, off, D, rfl, hl1, hl, hbb, hD⟩
  · exact pick_none a cap B n p w hn ⟨h6, hp⟩ h2 h3 h4
  · obtain ⟨q, rfl⟩ := Int.eq_ofNat_of_zero_le h6
    by_cases hq : q < len
    · exact pick_low bb off len cap D B n q w hn hl hq h2 h3 h4 (hD q hq).1 (hD q hq).2 (Nat.ne_of_lt hbb)
    · exact pick_far bb off len cap D B n q w hn hl hl1 (by omega) (by omega) h2 h3 h4 hD (Nat.ne_of_lt hbb)
end Go.Proofs.Ytcieihbknfeddaa

/- The draws of chapter 1: vectors. -/
namespace Go.Proofs.Ytcieihbknfeddaa
open Go.RowKit

/-- All blocks below n0, but B, are as they were. -/
def Kept (n0 B : Nat) (w w' : World) : Prop :=
  (∀ b o, b < n0 → b ≠ B → w'.cell? ⟨b, o, none⟩ = w.cell? ⟨b, o, none⟩ ∧ w'.frozen? ⟨b, o, none⟩ = w.frozen? ⟨b, o, none⟩) ∧ w.heap.size ≤ w'.heap.size
theorem Kept.trans {n0 B : Nat} {a b c : World} (h : Kept n0 B a b) (k : Kept n0 B b c) : Kept n0 B a c :=
  ⟨fun x o h1 h2 => ⟨(k.1 x o h1 h2).1.trans (h.1 x o h1 h2).1, (k.1 x o h1 h2).2.trans (h.1 x o h1 h2).2⟩, Nat.le_trans h.2 k.2⟩
theorem Kept.of_below {n0 B : Nat} {w w' : World} (h : Below n0 w w') : Kept n0 B w w' :=
  ⟨fun _ _ h1 _ => ⟨h.cell (p := ⟨_, _, none⟩) h1, h.frozen (p := ⟨_, _, none⟩) h1⟩, h.size⟩
theorem Kept.of_pick {n0 B : Nat} {w w' : World} (k : ∀ b o, b ≠ B → w'.cell? ⟨b, o, none⟩ = w.cell? ⟨b, o, none⟩) (f : ∀ b o, b ≠ B → w'.frozen? ⟨b, o, none⟩ = w.frozen? ⟨b, o, none⟩) (s : w'.heap.size = w.heap.size) : Kept n0 B w w' :=
  ⟨fun b o _ h => ⟨k b o h, f b o h⟩, Nat.le_of_eq s.symm⟩

/-- Two numbers, and a reader that has gone on. -/
def DrewVec (w : World) (B : Nat) (a : Option Addr) (len cap : Nat) (p : Int) (e : Ending) (w' : World) : Prop :=
  ∃ x y p' : Int, e = .returned (.agg #[.int .i64 (x), .int .i64 (y)]) ∧ (-1001 ≤ x ∧ x ≤ 1001) ∧ (-1001 ≤ y ∧ y ≤ 1001) ∧ p ≤ p' ∧ p' ≤ p + 10 ∧ Reads w' B a len cap p' ∧ Below B w w' ∧ Kept w.heap.size B w w'

end Go.Proofs.Ytcieihbknfeddaa

/- The draws of chapter 1: opening the reader, two vectors. -/
namespace Go.Proofs.Ytcieihbknfeddaa
open Go.RowKit

/-- A slice of bytes that came in: empty, or a row of bytes that lies in the memory. -/
def Bytes (w : World) (a : Option Addr) (len cap : Nat) : Prop :=
  len ≤ cap ∧ cap ≤ maxLen ∧ (len = 0 ∨ ∃ (bb off : Nat) (D : Nat → Int), a = some ⟨bb, off, none⟩ ∧ bb < w.heap.size ∧ ∀ i, i < len → w.cell? ⟨bb, off + i, none⟩ = some (.int .u8 (D i)) ∧ 0 ≤ D i ∧ D i ≤ 255)
theorem Bytes.below {w w' : World} {a : Option Addr} {len cap : Nat} (h : Bytes w a len cap) (hb : Below w.heap.size w w') : Bytes w' a len cap := by
  obtain ⟨h1, h2, h3⟩ := h
  refine ⟨h1, h2, ?_⟩
  rcases h3 with h3 | ⟨bb, off, D, h4, h5, h6⟩
  · exact .inl h3
  · refine .inr ⟨bb, off, D, h4, Nat.lt_of_lt_of_le h5 hb.size, fun i hi => ?_⟩
    rw [hb.cell (p := ⟨bb, off + i, none⟩) h5]
    exact h6 i hi
theorem Bytes.src {w w' : World} {a : Option Addr} {len cap k : Nat} (h : Bytes w a len cap) (hb : Below w.heap.size w w') (hk : k ≤ len) (hk2 : k ≤ 2000) : Src w' w.heap.size a k := by
  obtain ⟨h1, h2, h3⟩ := h
  rcases Nat.eq_zero_or_pos k with hz | hz
  · exact .inl hz
  · rcases h3 with h3 | ⟨bb, off, D, h4, h5, h6⟩
    · omega
    · refine .inr ⟨bb, off, D, h4, hz, hk2, h5, fun i hi => ?_⟩
      rw [hb.cell (p := ⟨bb, off + i, none⟩) h5]
      exact h6 i (by omega)
/-- A reader at the beginning, in the first new block. -/
def Opened (w : World) (a : Option Addr) (e : Ending) (w' : World) : Prop :=
  ∃ len cap : Nat, e = .returned (.pointer (some ⟨w.heap.size, 0, none⟩)) ∧ Reads w' w.heap.size a len cap 0 ∧ Below w.heap.size w w' ∧ w'.heap.size = w.heap.size + 1
set_option maxHeartbeats 2000000 in
theorem l6Open_any (w : World) (a : Option Addr) (len cap : Nat) (h : Bytes w a len cap) :
    Calls Try.prog 8 #[.slice a len cap] w (Opened w a) := by
  have h1 := h.1
  have h2 := h.2.1
  unfold maxLen at h2
  by_cases hl : 2000 < len
  · rcases h.2.2 with h3 | ⟨bb, off, D, rfl, h5, h6⟩
    · omega
    · have hb : Below w.heap.size w (w.alloc (.cells #[.slice (some ⟨bb, off, none⟩) 2000 cap, .int .i64 0] 39)) := by go_grown
      have hs := h.src (k := 2000) hb (by omega) (by omega)
      have c1 : (2000 : Int) ≤ (cap : Int) := by omega
      have c2 : (2000 : Int) < (len : Int) := by omega
      clear h h6
      go_enter Try.func8, Try.ntmps8
      go_wp2
      go_returns
      exact ⟨2000, cap, rfl, ⟨hs, by simp, by simp, by simp, by simp, by omega⟩, hb, by simp⟩
  · have hb : Below w.heap.size w (w.alloc (.cells #[.slice a len cap, .int .i64 0] 39)) := by go_grown
    have hs := h.src (k := len) hb (by omega) (by omega)
    have c2 : (len : Int) ≤ 2000 := by omega
    clear h
    go_enter Try.func8, Try.ntmps8
    go_wp2
    go_returns
    exact ⟨len, cap, rfl, ⟨hs, by simp, by simp, by simp, by simp, by omega⟩, hb, by simp⟩

def TwoVecs (w : World) (e : Ending) (w' : World) : Prop := ∃ x1 y1 x2 y2 : Int, e = .returned (.tuple #[.agg #[.int .i64 (x1), .int .i64 (y1)], .agg #[.int .i64 (x2), .int .i64 (y2)]]) ∧ Below w.heap.size w w'
end Go.Proofs.Ytcieihbknfeddaa

/- The draws of chapter 2: two numbers; a list of numbers. -/
namespace Go.Proofs.Ytcieihbknfeddaa
open Go.RowKit

theorem pickG_any (w : World) (B : Nat) (a : Option Addr) (len cap : Nat) (p n : Int) (h : Reads w B a len cap p) (hn : 1 ≤ n) (hp : p ≤ 100000) :
    Calls Try.prog 10 #[.pointer (some ⟨B, 0, none⟩), .int .i64 n] w fun e w' => Pick w B a len cap p n e w' ∧ w.grownBy w' (some B) := by
  have key : Calls Try.prog 10 #[.pointer (some ⟨B, 0, none⟩), .int .i64 n] w (Picked n p B w) := by
    obtain ⟨h1, h2, h3, h4, h5, h6⟩ := h
    rcases h1 with rfl | ⟨bb, off, D, rfl, hl1, hl, hbb, hD⟩
    · exact pick_none a cap B n p w hn ⟨h6, hp⟩ h2 h3 h4
    · obtain ⟨q, rfl⟩ := Int.eq_ofNat_of_zero_le h6
      by_cases hq : q < len
      · exact pick_low bb off len cap D B n q w hn hl hq h2 h3 h4 (hD q hq).1 (hD q hq).2 (Nat.ne_of_lt hbb)
      · exact pick_far bb off len cap D B n q w hn hl hl1 (by omega) (by omega) h2 h3 h4 hD (Nat.ne_of_lt hbb)
  refine key.mono fun e w' hp' => ⟨pick_of h hp', ?_⟩
  obtain ⟨v, k, _, _, _, rfl⟩ := hp'
  refine ⟨rfl, rfl, rfl, by simp, fun i _ hne => ?_⟩
  show ((w.setCell ⟨B, 1, none⟩ (.int .i64 (p + 1))).drewN k).heap[i]? = _
  rw [World.heap_drewN]
  exact Below.heap_setCell w ⟨B, 1, none⟩ _ i (fun e => hne (by rw [e]))
/-- numbers of the call's own are not the reader -/
theorem Ints.picked {w w' : World} {base B : Nat} {v : Value} {l : List Int} (h : Ints w base v l) (hg : w.grownBy w' (some B)) (hB : B < base) : Ints w' base v l :=
  h.far hg (fun k hk e => by have := (h.block k hk).1; cases e; omega)

def FracTwo (w : World) (e : Ending) (w' : World) : Prop := ∃ n q : Int, e = .returned (.tuple #[.int .i64 n, .int .i64 q]) ∧ Below w.heap.size w w'
def DrewList (w : World) (B : Nat) (e : Ending) (w' : World) : Prop := ∃ (v : Value) (l : List Int), e = .returned v ∧ Ints w' w.heap.size v l ∧ l.length ≤ 4 ∧ Below B w w'
def OneList (w : World) (e : Ending) (w' : World) : Prop := ∃ (v : Value) (l : List Int), e = .returned v ∧ Ints w' w.heap.size v l ∧ l.length ≤ 4 ∧ Below w.heap.size w w'
end Go.Proofs.Ytcieihbknfeddaa
