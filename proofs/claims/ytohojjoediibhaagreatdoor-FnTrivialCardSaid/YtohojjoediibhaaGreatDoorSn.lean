/- What 'make' makes: zeros. -/
import Derived.Test.YtohojjoediibhaaGreatDoorB3
import Derived.BigFrame
import Derived.OwnWalk
namespace Go.Proofs.YtohojjoediibhaaGreatDoor
open Go.RowKit

theorem wpList_make_want {P : Program} (w : World) {ops : Array Oper} {rest : List Oper} {o : Oper} {a : Act} {Q : Exit → Act → World → Prop}
    (hw : Region.wanted o (yielded ops a.tmps) = true) (l c : Operand) (t : TypeId) (hop : o.op = Op.makeSlice t l c)
    (base : Nat) (e : TypeId) (i : TypeInfo) (z : Value) (size : Nat) (h1 : P.underlying t = some (.slice e)) (h2 : P.info? e = some i) (h3 : i.zero = some z) (h4 : i.size = size)
    (kl kc : IntKind) (L C : Int) (n : Nat) (hl : a.eval l = .int kl L) (hc : a.eval c = .int kc C) (hL : L = (n : Int)) (hC : C = (n : Int)) (b2 : i.bytes * n ≤ 281474976710656) (b3 : n ≤ maxLen) (b4 : base ≤ w.heap.size)
    (hK : ∀ w', w'.ownsRow base e size (.slice (some ⟨w.heap.size, 0, none⟩) n n) n (madeCells z.cells (n * size)).toList → w.grownBy w' none → wpList P ops Q rest (a.put o.dst (.slice (some ⟨w.heap.size, 0, none⟩) n n)) w') :
    wpList P ops Q (o :: rest) a w := by
  refine BigFrame.wpList_want hw fun K hK' => ?_
  obtain ⟨w', hrun, r1, r2⟩ := run_make_full (P := P) w base t e i z size h1 h2 h3 h4 kl kc n b2 b3 b4
  subst hL
  subst hC
  unfold Oper.wp
  simp [execOp, hop, hl, hc, hrun, Result.andThen]
  exact hK' _ _ (hK w' r1 r2)
theorem made_zeros {W : World} {b n : Nat} {v : Value} {g : Nat} (hn : n ≤ 1000) (h : W.ownsRow b 3 1 (.slice (some ⟨g, 0, none⟩) n n) n (madeCells #[Value.int .i64 0] n).toList) (hv : v = .slice (some ⟨g, 0, none⟩) n n := by rfl) : ReadsInts W v (List.replicate n 0) := by
  subst hv
  have e : intsV (List.replicate n 0) = (madeCells #[Value.int .i64 0] n).toList := by
    refine List.ext_getElem (by simp [intsV, madeCells]) (fun i h1 h2 => ?_)
    simp [intsV, madeCells, Nat.mod_one]
  have h0 : Ints W b (.slice (some ⟨g, 0, none⟩) n n) (List.replicate n 0) := by
    unfold Ints
    rw [List.length_replicate, e]
    exact h
  exact h0.reads (by simp; omega)
end Go.Proofs.YtohojjoediibhaaGreatDoor
