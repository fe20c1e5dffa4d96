/- The draws of chapter 1: opening the reader, two vectors. -/
import Derived.Test.YtmencjdlfeojkaaDoorDc
import Derived.Deep.RegionHeld3
import Derived.Deep.DeepCutAuto
namespace Go.Proofs.YtmencjdlfeojkaaDoor
open Go.RowKit

/-- A slice of bytes that came in: empty, or a row of bytes that lies in the memory. -/
def Bytes (w : World) (a : Option Addr) (len cap : Nat) : Prop :=
  len ≤ cap ∧ cap ≤ maxLen ∧ (len = 0 ∨ ∃ (bb off : Nat) (D : Nat → Int), a = some ⟨bb, off, none⟩ ∧ bb < w.heap.size ∧ ∀ i, i < len → w.cell? ⟨bb, off + i, none⟩ = some (.int .u8 (D i)) ∧ 0 ≤ D i ∧ D i ≤ 255)
theorem Bytes.below {w w' : World} {a : Option Addr} {len cap : Nat} (h : Bytes w a len cap) (hb : Below w.heap.size w w') : Bytes w' a len cap := by
  obtain ⟨h1, h2, h3⟩ := h
  refine ⟨h1, h2, ?_⟩
  rcases h3 with h3 | ⟨bb, off, D, h4, h5, h6⟩
  · exact .inl h3
  · refine .inr ⟨bb, off, D, h4, Nat.lt_of_lt_of_le h5 hb.size, fun i hi => ?_⟩
    rw [hb.cell (p := ⟨bb, off + i, none⟩) h5]
    exact h6 i hi
theorem Bytes.src {w w' : World} {a : Option Addr} {len cap k : Nat} (h : Bytes w a len cap) (hb : Below w.heap.size w w') (hk : k ≤ len) (hk2 : k ≤ 2000) : Src w' w.heap.size a k := by
  obtain ⟨h1, h2, h3⟩ := h
  rcases Nat.eq_zero_or_pos k with hz | hz
  · exact .inl hz
  · rcases h3 with h3 | ⟨bb, off, D, h4, h5, h6⟩
    · omega
    · refine .inr ⟨bb, off, D, h4, hz, hk2, h5, fun i hi => ?_⟩
      rw [hb.cell (p := ⟨bb, off + i, none⟩) h5]
      exact h6 i (by omega)
/-- A reader at the beginning, in the first new block. -/
def Opened (w : World) (a : Option Addr) (e : Ending) (w' : World) : Prop :=
  ∃ len cap : Nat, e = .returned (.pointer (some ⟨w.heap.size, 0, none⟩)) ∧ Reads w' w.heap.size a len cap 0 ∧ Below w.heap.size w w' ∧ w'.heap.size = w.heap.size + 1
set_option maxHeartbeats 2000000 in
theorem l6Open_any (w : World) (a : Option Addr) (len cap : Nat) (h : Bytes w a len cap) :
    Calls Tryd.prog 70 #[.slice a len cap] w (Opened w a) := by
  have h1 := h.1
  have h2 := h.2.1
  unfold maxLen at h2
  by_cases hl : 2000 < len
  · rcases h.2.2 with h3 | ⟨bb, off, D, rfl, h5, h6⟩
    · omega
    · have hb : Below w.heap.size w (w.alloc (.cells #[.slice (some ⟨bb, off, none⟩) 2000 cap, .int .i64 0] 134)) := by go_grown
      have hs := h.src (k := 2000) hb (by omega) (by omega)
      have c1 : (2000 : Int) ≤ (cap : Int) := by omega
      have c2 : (2000 : Int) < (len : Int) := by omega
      clear h h6
      go_enter Tryd.func70, Tryd.ntmps70
      go_wp2
      go_returns
      exact ⟨2000, cap, rfl, ⟨hs, by simp, by simp, by simp, by simp, by omega⟩, hb, by simp⟩
  · have hb : Below w.heap.size w (w.alloc (.cells #[.slice a len cap, .int .i64 0] 134)) := by go_grown
    have hs := h.src (k := len) hb (by omega) (by omega)
    have c2 : (len : Int) ≤ 2000 := by omega
    clear h
    go_enter Tryd.func70, Tryd.ntmps70
    go_wp2
    go_returns
    exact ⟨len, cap, rfl, ⟨hs, by simp, by simp, by simp, by simp, by omega⟩, hb, by simp⟩

def TwoVecs (w : World) (e : Ending) (w' : World) : Prop := ∃ x1 y1 x2 y2 : Int, e = .returned (.tuple #[.agg #[.int .i64 (x1), .int .i64 (y1)], .agg #[.int .i64 (x2), .int .i64 (y2)]]) ∧ Below w.heap.size w w'
end Go.Proofs.YtmencjdlfeojkaaDoor
