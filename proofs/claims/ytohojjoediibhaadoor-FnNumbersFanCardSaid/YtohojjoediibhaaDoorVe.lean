/- The whole base: the model's side, cones that are not smooth; ConeBase of the model. -/
import Derived.Test.YtohojjoediibhaaDoorB5
import Derived.Test.YtohojjoediibhaaDoorMv
namespace Go.Proofs.YtohojjoediibhaaDoor
open Go.RowKit

theorem fracC_ne {a b c d : Int} (h : coneB a b c d = true) (hd : detZ a b c d ≠ 1) : fracC a b c d ≠ [] := by
  obtain ⟨_, o1, _, o2, _⟩ := cone_in h
  have hk := kindC_rng h
  have hg := kind_gcd (oneB_true o1) (oneB_true o2)
  have h0 : 0 < kindC a b c d := by
    by_cases h0 : 0 < kindC a b c d
    · exact h0
    · have e : kindZ a b c d = 0 := by show kindC a b c d = 0; omega
      rw [e, gcdZ_zero] at hg
      have : detZ a b c d = 1 := by
        have hp : 0 < detZ a b c d := by omega
        have hq : max (detZ a b c d) (-detZ a b c d) = 1 := hg
        omega
      exact absurd this hd
  unfold fracC
  rw [frac_pos _ h0]
  simp
/-- a variable in block g that holds the vector x, y -/
def VecAt (W : World) (g : Nat) (x y : Int) : Prop := (W.cell? ⟨g, 0, none⟩ = some (.int .i64 x) ∧ W.cell? ⟨g, 1, none⟩ = some (.int .i64 y)) ∧ (W.frozen? ⟨g, 0, none⟩ = false ∧ W.frozen? ⟨g, 1, none⟩ = false) ∧ g < W.heap.size
theorem VecAt.same {W W' : World} {g : Nat} {x y : Int} (h : VecAt W g x y) (e : W'.heap[g]? = W.heap[g]?) (hs : W.heap.size ≤ W'.heap.size) : VecAt W' g x y := by
  obtain ⟨⟨h1, h2⟩, ⟨h3, h4⟩, h5⟩ := h
  exact ⟨⟨(World.cell?_of_block (a := ⟨g, 0, none⟩) e).trans h1, (World.cell?_of_block (a := ⟨g, 1, none⟩) e).trans h2⟩, ⟨(World.frozen?_of_block (a := ⟨g, 0, none⟩) e).trans h3, (World.frozen?_of_block (a := ⟨g, 1, none⟩) e).trans h4⟩, Nat.lt_of_lt_of_le h5 hs⟩
theorem VecAt.alloc {W : World} {g : Nat} {x y : Int} (h : VecAt W g x y) (o : Obj) : VecAt (W.alloc o) g x y := h.same (Below.heap_alloc W o g h.2.2) (by simp)
theorem VecAt.new (W : World) (x y : Int) (t : TypeId) : VecAt (W.alloc (.cells #[.int .i64 x, .int .i64 y] t)) W.heap.size x y := by
  refine ⟨⟨?_, ?_⟩, ⟨?_, ?_⟩, by simp⟩ <;> simp
theorem VecAt.put {W : World} {g : Nat} {x y : Int} (h : VecAt W g x y) (u v : Int) : VecAt ((W.setCell ⟨g, 0, none⟩ (.int .i64 u)).setCell ⟨g, 1, none⟩ (.int .i64 v)) g u v := by
  obtain ⟨⟨h1, h2⟩, ⟨h3, h4⟩, h5⟩ := h
  refine ⟨⟨?_, ?_⟩, ⟨by simp [h3], by simp [h4]⟩, by simpa using h5⟩
  · rw [World.cell?_setCell_other _ _ _ _ (by simp)]
    exact World.cell?_setCell_same _ _ _ h1
  · refine World.cell?_setCell_same (u := .int .i64 y) _ _ _ ?_
    rw [World.cell?_setCell_other _ _ _ _ (by simp)]; exact h2
theorem heap_put {W : World} {g k : Nat} (u v : Value) (h : k ≠ g) : ((W.setCell ⟨g, 0, none⟩ u).setCell ⟨g, 1, none⟩ v).heap[k]? = W.heap[k]? := by
  rw [Below.heap_setCell _ _ _ _ h, Below.heap_setCell _ _ _ _ h]
theorem VecAt.other {W : World} {g g' : Nat} {x y : Int} (h : VecAt W g x y) (hne : g ≠ g') (u v : Value) : VecAt ((W.setCell ⟨g', 0, none⟩ u).setCell ⟨g', 1, none⟩ v) g x y :=
  h.same (heap_put u v hne) (by simp)
/-- numbers that lie in block g from its beginning on -/
def NumsAt (W : World) (g : Nat) (l : List Int) : Prop := (∀ j, j < l.length → W.cell? ⟨g, j, none⟩ = some (.int .i64 (l[j]?.getD 0))) ∧ g < W.heap.size
theorem NumsAt.same {W W' : World} {g : Nat} {l : List Int} (h : NumsAt W g l) (e : W'.heap[g]? = W.heap[g]?) (hs : W.heap.size ≤ W'.heap.size) : NumsAt W' g l :=
  ⟨fun j hj => (World.cell?_of_block (a := ⟨g, j, none⟩) e).trans (h.1 j hj), Nat.lt_of_lt_of_le h.2 hs⟩
/-- the list that is made is none of three blocks -/
def Apart (v : Value) (g1 g2 g3 : Nat) : Prop := ∀ k, v.ownBlock = some k → k ≠ g1 ∧ k ≠ g2 ∧ k ≠ g3
theorem Vecs.put {W : World} {base g : Nat} {v : Value} {l : List (Int × Int)} (h : Vecs W base v l) (hne : ∀ k, v.ownBlock = some k → k ≠ g) (x y : Value) : Vecs ((W.setCell ⟨g, 0, none⟩ x).setCell ⟨g, 1, none⟩ y) base v l := by
  have hg : W.grownBy ((W.setCell ⟨g, 0, none⟩ x).setCell ⟨g, 1, none⟩ y) (some g) := ⟨rfl, rfl, rfl, by simp, fun k _ hk => heap_put x y (fun e => hk (by rw [e]))⟩
  exact h.far hg (fun k hk e => hne k hk (by cases e; rfl))

end Go.Proofs.YtohojjoediibhaaDoor
