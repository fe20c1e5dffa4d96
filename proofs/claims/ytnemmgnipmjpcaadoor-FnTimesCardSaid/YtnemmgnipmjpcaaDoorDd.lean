/- The draws of chapter 1: opening the reader, two vectors. -/
import Derived.Test.YtnemmgnipmjpcaaDoorDc
import Derived.Deep.RegionHeld3
import Derived.Deep.DeepCutAuto
namespace Go.Proofs.YtnemmgnipmjpcaaDoor
open Go.RowKit

/-- A slice of bytes that came in: empty, or a row of bytes that lies in the memory. -/
def Bytes (w : World) (a : Option Addr) (len cap : Nat) : Prop :=
  len ≤ cap ∧ cap ≤ maxLen ∧ (len = 0 ∨ ∃ (bb off : Nat) (D : Nat → Int), a = some ⟨bb, off, none⟩ ∧ bb < w.heap.size ∧ ∀ i, i < len → w.cell? ⟨bb, off + i, none⟩ = some (.int .u8 (D i)) ∧ 0 ≤ D i ∧ D i ≤ 255)
theorem Bytes.below {w w' : World} {a : Option Addr} {len cap : Nat} (h : Bytes w a len cap) (hb : Below w.heap.size w w') : Bytes w' a len cap := by
  obtain ⟨h1, h2, h3⟩ := h
  refine ⟨h1, h2, ?_⟩
  rcases h3 with h3 | ⟨bb, off, D, h4, h5, h6⟩
  · exact .inl h3
  · refine .inr ⟨bb, off, D, h4, Nat.lt_of_lt_of_le h5 hb.size, fun i hi => ?_⟩
    rw [hb.cell (p := ⟨bb, off + i, none⟩) h5]
    exact h6 i hi
theorem Bytes.src {w w' : World} {a : Option Addr} {len cap k : Nat} (h : Bytes w a len cap) (hb : Below w.heap.size w w') (hk : k ≤ len) (hk2 : k ≤ 2000) : Src w' w.heap.size a k := by
  obtain ⟨h1, h2, h3⟩ := h
  rcases Nat.eq_zero_or_pos k with hz | hz
  · exact .inl hz
  · rcases h3 with h3 | ⟨bb, off, D, h4, h5, h6⟩
    · omega
    · refine .inr ⟨bb, off, D, h4, hz, hk2, h5, fun i hi => ?_⟩
      rw [hb.cell (p := ⟨bb, off + i, none⟩) h5]
      exact h6 i (by omega)
/-- A reader at the beginning, in the first new block. -/
def Opened (w : World) (a : Option Addr) (e : Ending) (w' : World) : Prop :=
  ∃ len cap : Nat, e = .returned (.pointer (some ⟨w.heap.size, 0, none⟩)) ∧ Reads w' w.heap.size a len cap 0 ∧ Below w.heap.size w w' ∧ w'.heap.size = w.heap.size + 1
set_option maxHeartbeats 2000000 in
theorem l6Open_any (w : World) (a : Option Addr) (len cap : Nat) (h : Bytes w a len cap) :
    Calls Tryd.prog 45 #[.slice a len cap] w (Opened w a) := by
  have h1 := h.1
  have h2 := h.2.1
  unfold maxLen at h2
  by_cases hl : 2000 < len
  · rcases h.2.2 with h3 | ⟨bb, off, D, rfl, h5, h6⟩
    · omega
    · have hb : Below w.heap.size w (w.alloc (.cells #[.slice (some ⟨bb, off, none⟩) 2000 cap, .int .i64 0] 74)) := by go_grown
      have hs := h.src (k := 2000) hb (by omega) (by omega)
      have c1 : (2000 : Int) ≤ (cap : Int) := by omega
      have c2 : (2000 : Int) < (len : Int) := by omega
      clear h h6
      go_enter Tryd.func45, Tryd.ntmps45
      go_wp2
      go_returns
      exact ⟨2000, cap, rfl, ⟨hs, by simp, by simp, by simp, by simp, by omega⟩, hb, by simp⟩
  · have hb : Below w.heap.size w (w.alloc (.cells #[.slice a len cap, .int .i64 0] 74)) := by go_grown
    have hs := h.src (k := len) hb (by omega) (by omega)
    have c2 : (len : Int) ≤ 2000 := by omega
    clear h
    go_enter Tryd.func45, Tryd.ntmps45
    go_wp2
    go_returns
    exact ⟨len, cap, rfl, ⟨hs, by simp, by simp, by simp, by simp, by omega⟩, hb, by simp⟩

def TwoVecs (w : World) (e : Ending) (w' : World) : Prop := ∃ x1 y1 x2 y2 : Int, e = .returned (.tuple #[.agg #[.int .i64 (x1), .int .i64 (y1)], .agg #[.int .i64 (x2), .int .i64 (y2)]]) ∧ Below w.heap.size w w'
set_option maxHeartbeats 4000000 in
theorem l91Two_any (w : World) (a : Option Addr) (len cap : Nat) (h : Bytes w a len cap) :
    Calls Tryd.prog 54 #[.slice a len cap] w (TwoVecs w) := by
  go_enter Tryd.func54, Tryd.ntmps54
  go_wp2_with fail
  refine Calls.mono (l6Open_any _ a len cap (h.below (by go_grown))) ?_
  rintro e w1 ⟨l1, p1, rfl, r1, hb1, s1⟩
  have e0 : w1.cell? ⟨w.heap.size, 0, none⟩ = some (.int .i64 0) := (hb1.cell (p := ⟨w.heap.size, 0, none⟩) (by simp only [World.size_alloc]; omega)).trans (by simp)
  have f0 : w1.frozen? ⟨w.heap.size, 0, none⟩ = false := (hb1.frozen (p := ⟨w.heap.size, 0, none⟩) (by simp only [World.size_alloc]; omega)).trans (by simp)
  have e1 : w1.cell? ⟨w.heap.size, 1, none⟩ = some (.int .i64 0) := (hb1.cell (p := ⟨w.heap.size, 1, none⟩) (by simp only [World.size_alloc]; omega)).trans (by simp)
  have f1 : w1.frozen? ⟨w.heap.size, 1, none⟩ = false := (hb1.frozen (p := ⟨w.heap.size, 1, none⟩) (by simp only [World.size_alloc]; omega)).trans (by simp)
  have e2 : w1.cell? ⟨w.heap.size + 1, 0, none⟩ = some (.int .i64 0) := (hb1.cell (p := ⟨w.heap.size + 1, 0, none⟩) (by simp only [World.size_alloc]; omega)).trans (by simp)
  have f2 : w1.frozen? ⟨w.heap.size + 1, 0, none⟩ = false := (hb1.frozen (p := ⟨w.heap.size + 1, 0, none⟩) (by simp only [World.size_alloc]; omega)).trans (by simp)
  have e3 : w1.cell? ⟨w.heap.size + 1, 1, none⟩ = some (.int .i64 0) := (hb1.cell (p := ⟨w.heap.size + 1, 1, none⟩) (by simp only [World.size_alloc]; omega)).trans (by simp)
  have f3 : w1.frozen? ⟨w.heap.size + 1, 1, none⟩ = false := (hb1.frozen (p := ⟨w.heap.size + 1, 1, none⟩) (by simp only [World.size_alloc]; omega)).trans (by simp)
  have Q1 : Below w.heap.size w w1 := belowTo (by go_grown) hb1
  simp only [World.size_alloc] at r1 s1
  clear hb1 h
  go_wp2_with fail
  refine Calls.mono (l91Vec_any _ (w.heap.size + 1 + 1) a l1 p1 0 r1 (by omega)) ?_
  rintro e w2 ⟨x1, y1, q1, rfl, bx, bY, lo, hi, r2, b2, K2⟩
  replace e0 := (K2.1 (w.heap.size) 0 (by rw [s1]; omega) (by omega)).1.trans e0
  replace f0 := (K2.1 (w.heap.size) 0 (by rw [s1]; omega) (by omega)).2.trans f0
  replace e1 := (K2.1 (w.heap.size) 1 (by rw [s1]; omega) (by omega)).1.trans e1
  replace f1 := (K2.1 (w.heap.size) 1 (by rw [s1]; omega) (by omega)).2.trans f1
  replace e2 := (K2.1 (w.heap.size + 1) 0 (by rw [s1]; omega) (by omega)).1.trans e2
  replace f2 := (K2.1 (w.heap.size + 1) 0 (by rw [s1]; omega) (by omega)).2.trans f2
  replace e3 := (K2.1 (w.heap.size + 1) 1 (by rw [s1]; omega) (by omega)).1.trans e3
  replace f3 := (K2.1 (w.heap.size + 1) 1 (by rw [s1]; omega) (by omega)).2.trans f3
  have Q2 : Below w.heap.size w w2 := Q1.trans (b2.mono (by omega))
  have s2 : w.heap.size + 1 + 1 < w2.heap.size := r2.2.2.2.2.1
  clear K2 b2 r1 s1 Q1
  go_upto_region 3 with fail
  obtain ⟨w3, hW⟩ : ∃ w3, w3 = w2.alloc (.cells #[.int .i64 x1, .int .i64 y1] 24) := ⟨_, rfl⟩
  have g0 : w3.cell? ⟨w.heap.size, 0, none⟩ = some (.int .i64 0) := by rw [hW, World.cell?_alloc_lt _ _ ⟨w.heap.size, 0, none⟩ (by show w.heap.size < w2.heap.size; omega)]; exact e0
  have h0 : w3.frozen? ⟨w.heap.size, 0, none⟩ = false := by rw [hW, World.frozen?_alloc_old _ _ ⟨w.heap.size, 0, none⟩ (by show w.heap.size ≠ w2.heap.size; omega)]; exact f0
  have g1 : w3.cell? ⟨w.heap.size, 1, none⟩ = some (.int .i64 0) := by rw [hW, World.cell?_alloc_lt _ _ ⟨w.heap.size, 1, none⟩ (by show w.heap.size < w2.heap.size; omega)]; exact e1
  have h1 : w3.frozen? ⟨w.heap.size, 1, none⟩ = false := by rw [hW, World.frozen?_alloc_old _ _ ⟨w.heap.size, 1, none⟩ (by show w.heap.size ≠ w2.heap.size; omega)]; exact f1
  have g2 : w3.cell? ⟨w.heap.size + 1, 0, none⟩ = some (.int .i64 0) := by rw [hW, World.cell?_alloc_lt _ _ ⟨w.heap.size + 1, 0, none⟩ (by show w.heap.size + 1 < w2.heap.size; omega)]; exact e2
  have h2 : w3.frozen? ⟨w.heap.size + 1, 0, none⟩ = false := by rw [hW, World.frozen?_alloc_old _ _ ⟨w.heap.size + 1, 0, none⟩ (by show w.heap.size + 1 ≠ w2.heap.size; omega)]; exact f2
  have g3 : w3.cell? ⟨w.heap.size + 1, 1, none⟩ = some (.int .i64 0) := by rw [hW, World.cell?_alloc_lt _ _ ⟨w.heap.size + 1, 1, none⟩ (by show w.heap.size + 1 < w2.heap.size; omega)]; exact e3
  have h3 : w3.frozen? ⟨w.heap.size + 1, 1, none⟩ = false := by rw [hW, World.frozen?_alloc_old _ _ ⟨w.heap.size + 1, 1, none⟩ (by show w.heap.size + 1 ≠ w2.heap.size; omega)]; exact f3
  have i0 : w3.cell? ⟨w2.heap.size, 0, none⟩ = some (.int .i64 x1) := by rw [hW]; simp
  have i1 : w3.cell? ⟨w2.heap.size, 1, none⟩ = some (.int .i64 y1) := by rw [hW]; simp
  have r3 := r2.below (w' := w3) (by rw [hW]; go_grown)
  have Q3 : Below w.heap.size w w3 := by rw [hW]; exact Q2.alloc Q2.size _
  have s3 : w3.heap.size = w2.heap.size + 1 := by rw [hW]; simp
  have m0 : w.heap.size ≠ w2.heap.size := by omega
  have m1 : w.heap.size + 1 ≠ w2.heap.size := by omega
  rw [← hW]
  clear hW e0 e1 e2 e3 f0 f1 f2 f3 r2 Q2
  go_region_held3 (fun w' => w'.cell? ⟨w2.heap.size, 0, none⟩ = some (.int .i64 x1) ∧ w'.cell? ⟨w2.heap.size, 1, none⟩ = some (.int .i64 y1) ∧ Below w.heap.size w w')
    ((refine ⟨?_, ?_, ?_⟩; (first | go_keep | (rw [World.cell?_setCell_far _ _ _ _ m0, World.cell?_setCell_far _ _ _ _ m0]; assumption) | (rw [World.cell?_setCell_far _ _ _ _ m1, World.cell?_setCell_far _ _ _ _ m1, World.cell?_setCell_far _ _ _ _ m0, World.cell?_setCell_far _ _ _ _ m0]; assumption)); (first | go_keep | (rw [World.cell?_setCell_far _ _ _ _ m0, World.cell?_setCell_far _ _ _ _ m0]; assumption) | (rw [World.cell?_setCell_far _ _ _ _ m1, World.cell?_setCell_far _ _ _ _ m1, World.cell?_setCell_far _ _ _ _ m0, World.cell?_setCell_far _ _ _ _ m0]; assumption)); (go_grown; done)))
    (first | (go_at_call 44; refine Calls.mono (l91Vec_any _ (w.heap.size + 1 + 1) a l1 p1 q1 (r3.below (by go_grown)) (by omega)) ?_; rintro e w5 ⟨x2, y2, q2, rfl, bx2, bY2, lo2, hi2, r5, b5, K5⟩; have g0 := (K5.1 (w.heap.size) 0 (by simp; omega) (by omega)).1.trans g0; have h0 := (K5.1 (w.heap.size) 0 (by simp; omega) (by omega)).2.trans h0; have g1 := (K5.1 (w.heap.size) 1 (by simp; omega) (by omega)).1.trans g1; have h1 := (K5.1 (w.heap.size) 1 (by simp; omega) (by omega)).2.trans h1; have g2 := (K5.1 (w.heap.size + 1) 0 (by simp; omega) (by omega)).1.trans g2; have h2 := (K5.1 (w.heap.size + 1) 0 (by simp; omega) (by omega)).2.trans h2; have g3 := (K5.1 (w.heap.size + 1) 1 (by simp; omega) (by omega)).1.trans g3; have h3 := (K5.1 (w.heap.size + 1) 1 (by simp; omega) (by omega)).2.trans h3; have i0 := (K5.1 w2.heap.size 0 (by simp; omega) (by omega)).1.trans i0; have i1 := (K5.1 w2.heap.size 1 (by simp; omega) (by omega)).1.trans i1; have Q5 : Below w.heap.size w w5 := (Q3.drew).trans (b5.mono (by omega)); have s5 := Q5.size))
  all_goals go_wp2
  all_goals (refine bodyPost_ret (by simp [results, Tryd.results54, go_sem, *]; try rfl) rfl ?_)
  all_goals exact ⟨_, _, _, _, rfl, by go_grown⟩

end Go.Proofs.YtnemmgnipmjpcaaDoor
