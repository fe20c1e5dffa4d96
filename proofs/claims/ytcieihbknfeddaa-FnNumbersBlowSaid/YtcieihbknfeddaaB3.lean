import Derived.Test.YtcieihbknfeddaaB1
import Derived.Handy
import Derived.Lib.Hide
import Derived.Deep.AppendLies
import Derived.Laws.OwnMore
import Derived.Laws.MakeOwn
import Derived.OwnWalk
import Derived.Deep.RegionHeld3
import Derived.Deep.DeepCutAuto
import Derived.Test.YtcieihbknfeddaaB2
/- Slices of whole numbers that the call owns: read, compared, marked. -/
namespace Go.Proofs.Ytcieihbknfeddaa
open Go.RowKit

theorem infoInt : (Try.prog.info? 3).map (fun i => (i.zero, i.size, i.bytes)) = some (some (.int .i64 0), 1, 8) := by kernel_rfl
def intsV (l : List Int) : List Value := l.map (Value.int .i64)
/-- A slice of the call's own, from block 'base' on, that holds the numbers l. -/
def Ints (w : World) (base : Nat) (v : Value) (l : List Int) : Prop := w.ownsRow base 3 1 v l.length (intsV l)
theorem grown_of_below {w w' : World} (h : Below w.heap.size w w') (row : Option Nat) : w.grownBy w' row := ⟨h.os, h.tape, h.output, h.size, fun i hi _ => h.block i hi⟩
theorem Ints.below {w w' : World} {base : Nat} {v : Value} {l : List Int} (h : Ints w base v l) (hb : Below w.heap.size w w') : Ints w' base v l := by
  unfold Ints at *
  refine h.kept (row := none) (grown_of_below hb none) ?_
  cases v.ownBlock with
  | none => exact .inl rfl
  | some k => exact .inr (by simp)
theorem Ints.far {w w' : World} {base : Nat} {v : Value} {l : List Int} {row : Option Nat} (h : Ints w base v l) (hg : w.grownBy w' row) (hne : ∀ k, v.ownBlock = some k → row ≠ some k) : Ints w' base v l := by
  unfold Ints at *
  refine h.kept hg ?_
  cases hv : v.ownBlock with
  | none => exact .inl rfl
  | some k => exact .inr (fun e => hne k hv e.symm)
theorem Ints.nil (w : World) (base : Nat) : Ints w base (.slice none 0 0) [] := World.ownsRow_nil _ _ _ _
theorem Ints.lower {w : World} {base base' : Nat} {v : Value} {l : List Int} (h : Ints w base v l) (hb : base' ≤ base) : Ints w base' v l := by
  obtain ⟨h1, h2⟩ := h
  refine ⟨h1, ?_⟩
  rcases h2 with h2 | ⟨g, cap, cur, e1, e2, r⟩
  · exact .inl h2
  · exact .inr ⟨g, cap, cur, e1, Nat.le_trans hb e2, r⟩
/-- its form: empty, or its first cells lie in a block of their own -/
theorem Ints.form {w : World} {base : Nat} {v : Value} {l : List Int} (h : Ints w base v l) :
    (l = [] ∧ ∃ a c, v = .slice a 0 c) ∨ (l ≠ [] ∧ ∃ g c, v = .slice (some ⟨g, 0, none⟩) l.length c ∧ base ≤ g ∧ g < w.heap.size ∧ l.length ≤ c) := by
  rcases h.2 with ⟨h1, h2⟩ | ⟨g, cap, cur, rfl, h3, h4, h5, _⟩
  · exact .inl ⟨List.eq_nil_of_length_eq_zero h2, none, 0, h1⟩
  · rcases Nat.eq_zero_or_pos l.length with h0 | h0
    · exact .inl ⟨List.eq_nil_of_length_eq_zero h0, _, cap, by rw [h0]⟩
    · refine .inr ⟨fun e => by simp [e] at h0, g, cap, rfl, h3, ?_, h5⟩
      rcases Nat.lt_or_ge g w.heap.size with hlt | hge
      · exact hlt
      · rw [Array.getElem?_eq_none hge] at h4; cases h4
theorem intsV_get (l : List Int) (j : Nat) (h : j < l.length) : (intsV l)[j]? = some (.int .i64 (l[j]?.getD 0)) := by
  simp [intsV, h]
theorem Ints.cell {w : World} {base g c : Nat} {l : List Int} (h : Ints w base (.slice (some ⟨g, 0, none⟩) l.length c) l) (j : Nat) (hj : j < l.length) : w.cell? ⟨g, j, none⟩ = some (.int .i64 (l[j]?.getD 0)) := by
  rw [World.ownsRow.cellAt h j (by omega), intsV_get l j hj]
theorem Ints.free {w : World} {base g c n : Nat} {l : List Int} (h : w.ownsRow base 3 1 (.slice (some ⟨g, 0, none⟩) n c) n (intsV l)) (j : Nat) : w.frozen? ⟨g, j, none⟩ = false := World.ownsRow.frozenAt h j
theorem Ints.len_le {w : World} {base : Nat} {v : Value} {l : List Int} (h : Ints w base v l) : l.length ≤ maxLen := by
  rcases h.2 with ⟨_, h2⟩ | ⟨g, cap, cur, _, _, _, h5, h6, _⟩
  · omega
  · omega
theorem Ints.block {w : World} {base : Nat} {v : Value} {l : List Int} (h : Ints w base v l) : ∀ k, v.ownBlock = some k → base ≤ k ∧ k < w.heap.size := World.ownsRow.lt h
/-- What a call leaves that hands back numbers in memory of its own. -/
def GivesInts (w : World) (l : List Int) (e : Ending) (w' : World) : Prop := ∃ v, e = .returned v ∧ Ints w' w.heap.size v l ∧ Below w.heap.size w w'
def GivesIntsOk (w : World) (l : List Int) (b : Bool) (e : Ending) (w' : World) : Prop := ∃ v, e = .returned (.tuple #[v, .bool b]) ∧ Ints w' w.heap.size v l ∧ Below w.heap.size w w'

/-! two that hold the same -/
/-! marked -/
/-- k, k + 1, .. -/
def marks (k : Nat) (n : Nat) : List Int := (List.range n).map fun j => ((k + j : Nat) : Int)
theorem marks_len (k n : Nat) : (marks k n).length = n := by simp [marks]
theorem marks_get (k n j : Nat) (h : j < n) : (marks k n)[j]?.getD 0 = ((k + j : Nat) : Int) := by simp [marks, h]
theorem marks_succ (k n : Nat) : marks k (n + 1) = marks k n ++ [((k + n : Nat) : Int)] := by simp [marks, List.range_succ]
theorem set_mark (l : List Int) (k j : Nat) (h : j < l.length) : (intsV (marks k j ++ l.drop j)).set j (.int .i64 ((k + j : Nat) : Int)) = intsV (marks k (j + 1) ++ l.drop (j + 1)) := by
  unfold intsV
  rw [← List.map_set, List.set_append_right _ _ (by rw [marks_len]; exact Nat.le_refl _), marks_len, Nat.sub_self, marks_succ]
  rw [List.drop_eq_getElem_cons h, List.set_cons_zero]
  simp
theorem Ints.marked {w : World} {base g c n : Nat} {l : List Int} {k j : Nat} (hn : n = l.length) (hj : j < n) (h : w.ownsRow base 3 1 (.slice (some ⟨g, 0, none⟩) n c) n (intsV (marks k j ++ l.drop j))) :
    (w.setCell ⟨g, j, none⟩ (.int .i64 ((k + j : Nat) : Int))).ownsRow base 3 1 (.slice (some ⟨g, 0, none⟩) n c) n (intsV (marks k (j + 1) ++ l.drop (j + 1))) ∧ w.grownBy (w.setCell ⟨g, j, none⟩ (.int .i64 ((k + j : Nat) : Int))) (some g) := by
  have := h.stored j (.int .i64 ((k + j : Nat) : Int))
  rwa [set_mark l k j (by omega)] at this
def Marked (w : World) (b g c k n : Nat) (e : Ending) (w' : World) : Prop := e = .returned (.int .i64 ((k + n : Nat) : Int)) ∧ w'.ownsRow b 3 1 (.slice (some ⟨g, 0, none⟩) n c) n (intsV (marks k n)) ∧ w.grownBy w' (some g)
end Go.Proofs.Ytcieihbknfeddaa

/- Slices of whole numbers: held, copied; fractions made. -/
namespace Go.Proofs.Ytcieihbknfeddaa
open Go.RowKit

/-- A slice that came in: it may begin anywhere. -/
def ReadsInts (w : World) (v : Value) (l : List Int) : Prop := ∃ a c, v = .slice a l.length c ∧ l.length ≤ 1152921504606846976 ∧ (0 < l.length → ∃ bb off, a = some ⟨bb, off, none⟩ ∧ bb < w.heap.size ∧ ∀ j, j < l.length → w.cell? ⟨bb, off + j, none⟩ = some (.int .i64 (l[j]?.getD 0)))
theorem ReadsInts.below {w w' : World} {v : Value} {l : List Int} (h : ReadsInts w v l) (hb : Below w.heap.size w w') : ReadsInts w' v l := by
  obtain ⟨a, c, h1, h2, h3⟩ := h
  refine ⟨a, c, h1, h2, fun h0 => ?_⟩
  obtain ⟨bb, off, h4, h5, h6⟩ := h3 h0
  exact ⟨bb, off, h4, Nat.lt_of_lt_of_le h5 hb.size, fun j hj => (hb.cell (p := ⟨bb, off + j, none⟩) h5).trans (h6 j hj)⟩
theorem Ints.reads {w : World} {base : Nat} {v : Value} {l : List Int} (h : Ints w base v l) (hl : l.length ≤ 1152921504606846976) : ReadsInts w v l := by
  rcases h.form with ⟨rfl, a, c, rfl⟩ | ⟨hne, g, c, rfl, _, hg, _⟩
  · exact ⟨a, c, rfl, hl, fun h0 => absurd h0 (by simp)⟩
  · exact ⟨_, c, rfl, hl, fun _ => ⟨g, 0, rfl, hg, fun j hj => by rw [Nat.zero_add]; exact h.cell j hj⟩⟩

/-! fractions made -/
end Go.Proofs.Ytcieihbknfeddaa

/- Slices of whole numbers: marked, held: for whatever slice the call owns. -/
namespace Go.Proofs.Ytcieihbknfeddaa
open Go.RowKit

theorem Ints.as {w : World} {b g c n : Nat} {l : List Int} (hn : n = l.length) (h : w.ownsRow b 3 1 (.slice (some ⟨g, 0, none⟩) n c) n (intsV l)) : Ints w b (.slice (some ⟨g, 0, none⟩) n c) l := by
  subst hn; exact h
def MarkedV (w : World) (b : Nat) (v : Value) (n : Nat) (e : Ending) (w' : World) : Prop := e = .returned (.int .i64 ((1 + n : Nat) : Int)) ∧ Ints w' b v (marks 1 n) ∧ w.grownBy w' v.ownBlock
/-- what a write into one block of the call's own leaves of the rest -/
theorem grown_below {w w' : World} {v : Value} {b : Nat} (hg : w.grownBy w' v.ownBlock) (hb : b ≤ w.heap.size) (hv : ∀ k, v.ownBlock = some k → b ≤ k) : Below b w w' := (Below.refl b w).grown hg hb hv
end Go.Proofs.Ytcieihbknfeddaa

/- Slices of vectors that the call owns: read, compared, marked, held. -/
namespace Go.Proofs.Ytcieihbknfeddaa
open Go.RowKit

/-- the numbers of a list of vectors, one behind the other -/
def flat : List (Int × Int) → List Int
  | [] => []
  | p :: l => p.1 :: p.2 :: flat l
theorem flat_len (l : List (Int × Int)) : (flat l).length = 2 * l.length := by
  induction l with
  | nil => rfl
  | cons p l ih => simp only [flat, List.length_cons, ih]; omega
theorem flat_app (l m : List (Int × Int)) : flat (l ++ m) = flat l ++ flat m := by
  induction l with
  | nil => rfl
  | cons p l ih => simp only [List.cons_append, flat, ih]
/-- A slice of the call's own of n vectors, from block 'base' on, whose cells hold the numbers f. -/
def VRow (w : World) (base : Nat) (v : Value) (n : Nat) (f : List Int) : Prop := w.ownsRow base 51 2 v n (intsV f)
/-- .. that holds the vectors l -/
def Vecs (w : World) (base : Nat) (v : Value) (l : List (Int × Int)) : Prop := VRow w base v l.length (flat l)
theorem VRow.below {w w' : World} {base n : Nat} {v : Value} {f : List Int} (h : VRow w base v n f) (hb : Below w.heap.size w w') : VRow w' base v n f := by
  unfold VRow at *
  refine h.kept (row := none) (grown_of_below hb none) ?_
  cases v.ownBlock with
  | none => exact .inl rfl
  | some k => exact .inr (by simp)
theorem VRow.far {w w' : World} {base n : Nat} {v : Value} {f : List Int} {row : Option Nat} (h : VRow w base v n f) (hg : w.grownBy w' row) (hne : ∀ k, v.ownBlock = some k → row ≠ some k) : VRow w' base v n f := by
  unfold VRow at *
  refine h.kept hg ?_
  cases hv : v.ownBlock with
  | none => exact .inl rfl
  | some k => exact .inr (fun e => hne k hv e.symm)
theorem VRow.lower {w : World} {base base' n : Nat} {v : Value} {f : List Int} (h : VRow w base v n f) (hb : base' ≤ base) : VRow w base' v n f := by
  obtain ⟨h1, h2⟩ := h
  refine ⟨h1, ?_⟩
  rcases h2 with h2 | ⟨g, cap, cur, e1, e2, r⟩
  · exact .inl h2
  · exact .inr ⟨g, cap, cur, e1, Nat.le_trans hb e2, r⟩
theorem VRow.block {w : World} {base n : Nat} {v : Value} {f : List Int} (h : VRow w base v n f) : ∀ k, v.ownBlock = some k → base ≤ k ∧ k < w.heap.size := World.ownsRow.lt h
theorem VRow.flen {w : World} {base n : Nat} {v : Value} {f : List Int} (h : VRow w base v n f) : f.length = n * 2 := by
  have := h.1
  simpa [intsV] using this
theorem VRow.len_le {w : World} {base n : Nat} {v : Value} {f : List Int} (h : VRow w base v n f) : n ≤ maxLen := by
  rcases h.2 with ⟨_, h2⟩ | ⟨g, cap, cur, _, _, _, h5, h6, _⟩
  · omega
  · omega
theorem VRow.form {w : World} {base n : Nat} {v : Value} {f : List Int} (h : VRow w base v n f) :
    (n = 0 ∧ f = [] ∧ ∃ a c, v = .slice a 0 c) ∨ (0 < n ∧ ∃ g c, v = .slice (some ⟨g, 0, none⟩) n c ∧ base ≤ g ∧ g < w.heap.size ∧ n ≤ c) := by
  have hf := h.flen
  rcases h.2 with ⟨h1, h2⟩ | ⟨g, cap, cur, rfl, h3, h4, h5, _⟩
  · subst h2
    exact .inl ⟨rfl, List.eq_nil_of_length_eq_zero (by omega), none, 0, h1⟩
  · rcases Nat.eq_zero_or_pos n with h0 | h0
    · subst h0
      exact .inl ⟨rfl, List.eq_nil_of_length_eq_zero (by omega), _, cap, rfl⟩
    · refine .inr ⟨h0, g, cap, rfl, h3, ?_, h5⟩
      rcases Nat.lt_or_ge g w.heap.size with hlt | hge
      · exact hlt
      · rw [Array.getElem?_eq_none hge] at h4; cases h4
theorem VRow.cell {w : World} {base g c n : Nat} {f : List Int} (h : VRow w base (.slice (some ⟨g, 0, none⟩) n c) n f) (j : Nat) (hj : j < n * 2) : w.cell? ⟨g, j, none⟩ = some (.int .i64 (f[j]?.getD 0)) := by
  have hf := h.flen
  unfold VRow at h
  rw [World.ownsRow.cellAt h j (by omega), intsV_get f j (by omega)]
theorem Vecs.nil (w : World) (base : Nat) : Vecs w base (.slice none 0 0) [] := World.ownsRow_nil _ _ _ _
theorem Vecs.below {w w' : World} {base : Nat} {v : Value} {l : List (Int × Int)} (h : Vecs w base v l) (hb : Below w.heap.size w w') : Vecs w' base v l := VRow.below h hb
theorem Vecs.far {w w' : World} {base : Nat} {v : Value} {l : List (Int × Int)} {row : Option Nat} (h : Vecs w base v l) (hg : w.grownBy w' row) (hne : ∀ k, v.ownBlock = some k → row ≠ some k) : Vecs w' base v l := VRow.far h hg hne
theorem Vecs.lower {w : World} {base base' : Nat} {v : Value} {l : List (Int × Int)} (h : Vecs w base v l) (hb : base' ≤ base) : Vecs w base' v l := VRow.lower h hb
theorem Vecs.block {w : World} {base : Nat} {v : Value} {l : List (Int × Int)} (h : Vecs w base v l) : ∀ k, v.ownBlock = some k → base ≤ k ∧ k < w.heap.size := VRow.block h
def GivesVecs (w : World) (l : List (Int × Int)) (e : Ending) (w' : World) : Prop := ∃ v, e = .returned v ∧ Vecs w' w.heap.size v l ∧ Below w.heap.size w w'
def GivesVecsOk (w : World) (l : List (Int × Int)) (b : Bool) (e : Ending) (w' : World) : Prop := ∃ v, e = .returned (.tuple #[v, .bool b]) ∧ Vecs w' w.heap.size v l ∧ Below w.heap.size w w'

/-! two that hold the same -/
end Go.Proofs.Ytcieihbknfeddaa

/- Slices of vectors that the call owns: marked, held; whatever slice. -/
namespace Go.Proofs.Ytcieihbknfeddaa
open Go.RowKit

theorem VRow.marked {w : World} {base g c n : Nat} {l : List Int} {k j : Nat} (hn : l.length = n * 2) (hj : j < n * 2) (h : w.ownsRow base 51 2 (.slice (some ⟨g, 0, none⟩) n c) n (intsV (marks k j ++ l.drop j))) :
    (w.setCell ⟨g, j, none⟩ (.int .i64 ((k + j : Nat) : Int))).ownsRow base 51 2 (.slice (some ⟨g, 0, none⟩) n c) n (intsV (marks k (j + 1) ++ l.drop (j + 1))) ∧ w.grownBy (w.setCell ⟨g, j, none⟩ (.int .i64 ((k + j : Nat) : Int))) (some g) := by
  have := h.stored j (.int .i64 ((k + j : Nat) : Int))
  rwa [set_mark l k j (by omega)] at this
def VMarked (w : World) (b g c k n : Nat) (e : Ending) (w' : World) : Prop := e = .returned (.int .i64 ((k + n * 2 : Nat) : Int)) ∧ w'.ownsRow b 51 2 (.slice (some ⟨g, 0, none⟩) n c) n (intsV (marks k (n * 2))) ∧ w.grownBy w' (some g)
end Go.Proofs.Ytcieihbknfeddaa
