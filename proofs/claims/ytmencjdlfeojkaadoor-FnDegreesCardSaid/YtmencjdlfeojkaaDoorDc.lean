/- The draws of chapter 1: vectors. -/
import Derived.Test.YtmencjdlfeojkaaDoorDb
import Derived.Deep.DeepCutAuto
namespace Go.Proofs.YtmencjdlfeojkaaDoor
open Go.RowKit

/-- All blocks below n0, but B, are as they were. -/
def Kept (n0 B : Nat) (w w' : World) : Prop :=
  (∀ b o, b < n0 → b ≠ B → w'.cell? ⟨b, o, none⟩ = w.cell? ⟨b, o, none⟩ ∧ w'.frozen? ⟨b, o, none⟩ = w.frozen? ⟨b, o, none⟩) ∧ w.heap.size ≤ w'.heap.size
theorem Kept.trans {n0 B : Nat} {a b c : World} (h : Kept n0 B a b) (k : Kept n0 B b c) : Kept n0 B a c :=
  ⟨fun x o h1 h2 => ⟨(k.1 x o h1 h2).1.trans (h.1 x o h1 h2).1, (k.1 x o h1 h2).2.trans (h.1 x o h1 h2).2⟩, Nat.le_trans h.2 k.2⟩
theorem Kept.of_below {n0 B : Nat} {w w' : World} (h : Below n0 w w') : Kept n0 B w w' :=
  ⟨fun _ _ h1 _ => ⟨h.cell (p := ⟨_, _, none⟩) h1, h.frozen (p := ⟨_, _, none⟩) h1⟩, h.size⟩
theorem Kept.of_pick {n0 B : Nat} {w w' : World} (k : ∀ b o, b ≠ B → w'.cell? ⟨b, o, none⟩ = w.cell? ⟨b, o, none⟩) (f : ∀ b o, b ≠ B → w'.frozen? ⟨b, o, none⟩ = w.frozen? ⟨b, o, none⟩) (s : w'.heap.size = w.heap.size) : Kept n0 B w w' :=
  ⟨fun b o _ h => ⟨k b o h, f b o h⟩, Nat.le_of_eq s.symm⟩

/-- Two numbers, and a reader that has gone on. -/
def DrewVec (w : World) (B : Nat) (a : Option Addr) (len cap : Nat) (p : Int) (e : Ending) (w' : World) : Prop :=
  ∃ x y p' : Int, e = .returned (.agg #[.int .i64 (x), .int .i64 (y)]) ∧ (-1001 ≤ x ∧ x ≤ 1001) ∧ (-1001 ≤ y ∧ y ≤ 1001) ∧ p ≤ p' ∧ p' ≤ p + 10 ∧ Reads w' B a len cap p' ∧ Below B w w' ∧ Kept w.heap.size B w w'

end Go.Proofs.YtmencjdlfeojkaaDoor
