/- The draws: what a reader is, and what each draw gives. -/
import Derived.Test.YtmencjdlfeojkaaDoorDa
import Derived.Handy
namespace Go.Proofs.YtmencjdlfeojkaaDoor
open Go.RowKit

/-- The bytes that a reader in block B reads lie below it. -/
def Src (w : World) (B : Nat) (a : Option Addr) (len : Nat) : Prop :=
  len = 0 ∨ ∃ (bb off : Nat) (D : Nat → Int), a = some ⟨bb, off, none⟩ ∧ 1 ≤ len ∧ len ≤ 2000 ∧ bb < B ∧ ∀ i, i < len → w.cell? ⟨bb, off + i, none⟩ = some (.int .u8 (D i)) ∧ 0 ≤ D i ∧ D i ≤ 255
/-- A reader in block B at place p. -/
def Reads (w : World) (B : Nat) (a : Option Addr) (len cap : Nat) (p : Int) : Prop :=
  Src w B a len ∧ w.cell? ⟨B, 0, none⟩ = some (.slice a len cap) ∧ w.cell? ⟨B, 1, none⟩ = some (.int .i64 p) ∧ w.frozen? ⟨B, 1, none⟩ = false ∧ B < w.heap.size ∧ 0 ≤ p
theorem Src.below {w w' : World} {B : Nat} {a : Option Addr} {len : Nat} (h : Src w B a len) (hb : Below B w w') : Src w' B a len := by
  rcases h with h | ⟨bb, off, D, h1, h2, h3, h4, h5⟩
  · exact .inl h
  · refine .inr ⟨bb, off, D, h1, h2, h3, h4, fun i hi => ?_⟩
    rw [hb.cell (p := ⟨bb, off + i, none⟩) h4]
    exact h5 i hi
theorem Reads.below {w w' : World} {B : Nat} {a : Option Addr} {len cap : Nat} {p : Int} (h : Reads w B a len cap p) (hb : Below (B + 1) w w') : Reads w' B a len cap p := by
  obtain ⟨h1, h2, h3, h4, h5, h6⟩ := h
  refine ⟨h1.below (hb.mono (Nat.le_succ _)), ?_, ?_, ?_, Nat.lt_of_lt_of_le h5 hb.size, h6⟩
  · rw [hb.cell (p := ⟨B, 0, none⟩) (Nat.lt_succ_self _)]; exact h2
  · rw [hb.cell (p := ⟨B, 1, none⟩) (Nat.lt_succ_self _)]; exact h3
  · rw [hb.frozen (p := ⟨B, 1, none⟩) (Nat.lt_succ_self _)]; exact h4
/-- What a call of pick leaves, said so that a walk goes on from a world of a letter. -/
def Pick (w : World) (B : Nat) (a : Option Addr) (len cap : Nat) (p n : Int) (e : Ending) (w' : World) : Prop :=
  ∃ v : Int, e = .returned (.int .i64 v) ∧ 0 ≤ v ∧ v < n ∧ Reads w' B a len cap (p + 1) ∧ (∀ b o, b ≠ B → w'.cell? ⟨b, o, none⟩ = w.cell? ⟨b, o, none⟩) ∧ (∀ b o, b ≠ B → w'.frozen? ⟨b, o, none⟩ = w.frozen? ⟨b, o, none⟩) ∧ w'.heap.size = w.heap.size ∧ Below B w w'
theorem pick_of {w : World} {B : Nat} {a : Option Addr} {len cap : Nat} {p n : Int} {e : Ending} {w' : World} (h : Reads w B a len cap p) (hp : Picked n p B w e w') : Pick w B a len cap p n e w' := by
  obtain ⟨v, k, he, hv, hv', rfl⟩ := hp
  obtain ⟨h1, h2, h3, h4, h5, h6⟩ := h
  have hb : Below B w ((w.setCell ⟨B, 1, none⟩ (.int .i64 (p + 1))).drewN k) := below_drewN ((Below.refl B w).setCell (p := ⟨B, 1, none⟩) (Nat.le_refl B) (.int .i64 (p + 1))) k
  refine ⟨v, he, hv, hv', ⟨h1.below hb, ?_, ?_, ?_, ?_, by omega⟩, ?_, ?_, ?_, hb⟩
  · show (w.setCell ⟨B, 1, none⟩ (.int .i64 (p + 1))).cell? ⟨B, 0, none⟩ = _
    rw [World.cell?_setCell_other _ _ _ _ (by simp)]
    exact h2
  · show (w.setCell ⟨B, 1, none⟩ (.int .i64 (p + 1))).cell? ⟨B, 1, none⟩ = _
    exact World.cell?_setCell_same _ _ _ h3
  · show (w.setCell ⟨B, 1, none⟩ (.int .i64 (p + 1))).frozen? ⟨B, 1, none⟩ = _
    rw [World.frozen?_setCell]; exact h4
  · show B < (w.setCell ⟨B, 1, none⟩ (.int .i64 (p + 1))).heap.size
    simpa using h5
  · intro b o hne
    show (w.setCell ⟨B, 1, none⟩ (.int .i64 (p + 1))).cell? ⟨b, o, none⟩ = _
    exact World.cell?_setCell_far _ _ _ _ (fun h => hne h.symm)
  · intro b o hne
    show (w.setCell ⟨B, 1, none⟩ (.int .i64 (p + 1))).frozen? ⟨b, o, none⟩ = _
    simp
  · show (w.setCell ⟨B, 1, none⟩ (.int .i64 (p + 1))).heap.size = _
    simp
theorem pick_any (w : World) (B : Nat) (a : Option Addr) (len cap : Nat) (p n : Int) (h : Reads w B a len cap p) (hn : 1 ≤ n) (hp : p ≤ 100000) :
    Calls Tryd.prog 96 #[.pointer (some ⟨B, 0, none⟩), .int .i64 n] w (Pick w B a len cap p n) := by
  refine Calls.mono ?_ (fun e w' hp => pick_of h hp)
  obtain ⟨h1, h2, h3, h4, h5, h6⟩ := h
  rcases h1 with rfl | ⟨bb, off, D, rfl, hl1, hl, hbb, hD⟩
  · exact pick_none a cap B n p w hn ⟨h6, hp⟩ h2 h3 h4
  · obtain ⟨q, rfl⟩ := Int.eq_ofNat_of_zero_le h6
    by_cases hq : q < len
    · exact pick_low bb off len cap D B n q w hn hl hq h2 h3 h4 (hD q hq).1 (hD q hq).2 (Nat.ne_of_lt hbb)
    · exact pick_far bb off len cap D B n q w hn hl hl1 (by omega) (by omega) h2 h3 h4 hD (Nat.ne_of_lt hbb)
end Go.Proofs.YtmencjdlfeojkaaDoor
