/- A variable that is an array: a block that is known whole, as a list. -/
import Derived.Test.YtcieihbknfeddaaQf
import Derived.Laws.Rows
namespace Go.Proofs.Ytcieihbknfeddaa
open Go.RowKit

/-- block g holds just the values cs -/
def RowAt (W : World) (g : Nat) (t : TypeId) (cs : List Value) : Prop := W.heap[g]? = some (.cells cs.toArray t (0, 0))
theorem RowAt.here {W : World} {g : Nat} {t : TypeId} {cs : List Value} (h : RowAt W g t cs) : g < W.heap.size := (Array.getElem?_eq_some_iff.1 h).1
theorem RowAt.val {W : World} {g : Nat} {t : TypeId} {cs : List Value} (h : RowAt W g t cs) (j : Nat) : W.cell? ⟨g, j, none⟩ = cs[j]? := by
  rw [cell_of_row W g j cs.toArray t (0, 0) h]
  simp
theorem RowAt.free {W : World} {g : Nat} {t : TypeId} {cs : List Value} (h : RowAt W g t cs) (j : Nat) : W.frozen? ⟨g, j, none⟩ = false := by
  have h' : W.heap[g]? = some (.cells cs.toArray t (0, 0)) := h
  simp [World.frozen?, h']
theorem RowAt.made (W : World) (t : TypeId) (cs : List Value) : RowAt (W.alloc (.cells cs.toArray t)) W.heap.size t cs := heap_alloc_new W _
theorem RowAt.drawn {W : World} {g : Nat} {t : TypeId} {cs : List Value} (h : RowAt W g t cs) : RowAt W.drew g t cs := h
theorem RowAt.more {W : World} {g : Nat} {t : TypeId} {cs : List Value} (h : RowAt W g t cs) (o : Obj) : RowAt (W.alloc o) g t cs := (Below.heap_alloc W o g h.here).trans h
theorem RowAt.below {W W' : World} {g : Nat} {t : TypeId} {cs : List Value} (h : RowAt W g t cs) (hb : Below W.heap.size W W') : RowAt W' g t cs := (hb.block g h.here).trans h
theorem RowAt.under {W W' : World} {g B : Nat} {t : TypeId} {cs : List Value} (h : RowAt W g t cs) (hb : Below B W W') (hg : g < B) : RowAt W' g t cs := (hb.block g hg).trans h
theorem RowAt.store {W : World} {g : Nat} {t : TypeId} {cs : List Value} (h : RowAt W g t cs) (j : Nat) (u : Value) : RowAt (W.setCell ⟨g, j, none⟩ u) g t (cs.set j u) := by
  have h' : W.heap[g]? = some (.cells cs.toArray t (0, 0)) := h
  show (W.setCell ⟨g, j, none⟩ u).heap[g]? = _
  simp [World.setCell, Array.getElem?_modify, h']
theorem RowAt.beside {W : World} {g k : Nat} {t : TypeId} {cs : List Value} (h : RowAt W g t cs) (hk : g ≠ k) (j : Nat) (u : Value) : RowAt (W.setCell ⟨k, j, none⟩ u) g t cs := (Below.heap_setCell W ⟨k, j, none⟩ u g hk).trans h
theorem RowAt.grown {W W' : World} {g : Nat} {t : TypeId} {cs : List Value} {row : Option Nat} (h : RowAt W g t cs) (hg : W.grownBy W' row) (hne : some g ≠ row) : RowAt W' g t cs := (hg.block g h.here hne).trans h
/-- four numbers -/
def fourV (a b c d : Int) : List Value := [.int .i64 a, .int .i64 b, .int .i64 c, .int .i64 d]
theorem RowAt.put4 {W : World} {g : Nat} {t : TypeId} {a b c d : Int} (h : RowAt W g t (fourV a b c d)) (a' b' c' d' : Int) :
    RowAt ((((W.setCell ⟨g, 0, none⟩ (.int .i64 a')).setCell ⟨g, 1, none⟩ (.int .i64 b')).setCell ⟨g, 2, none⟩ (.int .i64 c')).setCell ⟨g, 3, none⟩ (.int .i64 d')) g t (fourV a' b' c' d') :=
  (((h.store 0 (.int .i64 a')).store 1 (.int .i64 b')).store 2 (.int .i64 c')).store 3 (.int .i64 d')
theorem RowAt.four {W : World} {g : Nat} {t : TypeId} {a b c d : Int} (h : RowAt W g t (fourV a b c d)) :
    W.cell? ⟨g, 0, none⟩ = some (.int .i64 a) ∧ W.cell? ⟨g, 1, none⟩ = some (.int .i64 b) ∧ W.cell? ⟨g, 2, none⟩ = some (.int .i64 c) ∧ W.cell? ⟨g, 3, none⟩ = some (.int .i64 d) :=
  ⟨h.val 0, h.val 1, h.val 2, h.val 3⟩
end Go.Proofs.Ytcieihbknfeddaa
