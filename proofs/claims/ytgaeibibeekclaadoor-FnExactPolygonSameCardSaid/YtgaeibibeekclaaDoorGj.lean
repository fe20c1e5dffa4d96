/- Fans: linked. -/
import Derived.Test.YtgaeibibeekclaaDoorB6
import Derived.Test.YtgaeibibeekclaaDoorB5
import Derived.RegionTactic
import Derived.ChangeAlike
import Derived.Deep.RegionHeld3
import Derived.Deep.DeepCutAuto
namespace Go.Proofs.YtgaeibibeekclaaDoor
open Go.RowKit

/-- only links of ns may have been written -/
structure Touched (ns : List Node) (w w' : World) : Prop where
  os : w'.os = w.os
  tape : w'.tape = w.tape
  output : w'.output = w.output
  size : w.heap.size ≤ w'.heap.size
  block : ∀ k, k < w.heap.size → (∀ p ∈ ns, p.1 ≠ k) → w'.heap[k]? = w.heap[k]?
theorem Touched.below {ns : List Node} {w w' : World} (h : Touched ns w w') {b : Nat} (hb : b ≤ w.heap.size) (hl : ∀ p ∈ ns, b ≤ p.1) : Below b w w' :=
  ⟨h.os, h.tape, h.output, h.size, fun k hk => h.block k (by omega) (fun p hp => by have := hl p hp; omega)⟩
theorem Touched.of_below {ns : List Node} {w w' : World} (h : Below w.heap.size w w') : Touched ns w w' := ⟨h.os, h.tape, h.output, h.size, fun k hk _ => h.block k hk⟩
theorem Touched.then {ns : List Node} {w w1 w' : World} (h : Below w.heap.size w w1) (k : Touched ns w1 w') : Touched ns w w' :=
  ⟨k.os.trans h.os, k.tape.trans h.tape, k.output.trans h.output, Nat.le_trans h.size k.size, fun i hi hn => (k.block i (Nat.lt_of_lt_of_le hi h.size) hn).trans (h.block i hi)⟩
theorem Touched.set {ns : List Node} {w w1 : World} (h : Touched ns w w1) {b o : Nat} (hb : ∃ p ∈ ns, p.1 = b) (u : Value) : Touched ns w (w1.setCell ⟨b, o, none⟩ u) := by
  refine ⟨h.os, h.tape, h.output, by simpa using h.size, fun k hk hn => ?_⟩
  obtain ⟨p, hp, rfl⟩ := hb
  rw [Below.heap_setCell w1 ⟨p.1, o, none⟩ u k (fun e => hn p hp e.symm)]
  exact h.block k hk hn
end Go.Proofs.YtgaeibibeekclaaDoor
