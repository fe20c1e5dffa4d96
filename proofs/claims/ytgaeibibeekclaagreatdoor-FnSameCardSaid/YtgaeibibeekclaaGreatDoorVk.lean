/- Slices of vectors that may be a part of a longer row: compared, marked, held. -/
import Derived.Test.YtgaeibibeekclaaGreatDoorB5
import Derived.Test.YtgaeibibeekclaaGreatDoorL4
namespace Go.Proofs.YtgaeibibeekclaaGreatDoor
open Go.RowKit

/-- A slice of the call's own of n vectors, at the beginning of a row that is perhaps longer. -/
def VRowR (w : World) (b : Nat) (v : Value) (n : Nat) (f : List Int) : Prop :=
  (n = 0 ∧ f = [] ∧ ∃ a c, v = .slice a 0 c ∧ ∀ x, a = some x → b ≤ x.block ∧ x.block < w.heap.size) ∨ (0 < n ∧ ∃ g c c1, v = .slice (some ⟨g, 0, none⟩) n c1 ∧ VRow w b (.slice (some ⟨g, 0, none⟩) n c) n f ∧ n ≤ c1)
def VecsR (w : World) (b : Nat) (v : Value) (l : List (Int × Int)) : Prop := VRowR w b v l.length (flat l)
theorem VRowR.below {w w' : World} {b n : Nat} {v : Value} {f : List Int} (h : VRowR w b v n f) (hb : Below w.heap.size w w') : VRowR w' b v n f := by
  rcases h with ⟨h1, h2, a, c, h3, h4⟩ | ⟨h1, g, c, c1, h2, h3, h4⟩
  · exact .inl ⟨h1, h2, a, c, h3, fun x hx => ⟨(h4 x hx).1, Nat.lt_of_lt_of_le (h4 x hx).2 hb.size⟩⟩
  · exact .inr ⟨h1, g, c, c1, h2, h3.below hb, h4⟩
theorem VRowR.block {w : World} {b n : Nat} {v : Value} {f : List Int} (h : VRowR w b v n f) : ∀ k, v.ownBlock = some k → b ≤ k ∧ k < w.heap.size := by
  rcases h with ⟨_, _, a, c, rfl, h4⟩ | ⟨_, g, c, c1, rfl, h3, _⟩
  · intro k hk
    cases a with
    | none => cases hk
    | some x =>
      obtain rfl : x.block = k := Option.some.inj hk
      exact h4 x rfl
  · intro k hk
    obtain rfl : g = k := Option.some.inj hk
    exact h3.block g rfl
theorem VRowR.far {w w' : World} {b n : Nat} {v : Value} {f : List Int} {row : Option Nat} (h : VRowR w b v n f) (hg : w.grownBy w' row) (hne : ∀ k, v.ownBlock = some k → row ≠ some k) : VRowR w' b v n f := by
  rcases h with ⟨h1, h2, a, c, h3, h4⟩ | ⟨h1, g, c, c1, rfl, h3, h4⟩
  · exact .inl ⟨h1, h2, a, c, h3, fun x hx => ⟨(h4 x hx).1, Nat.lt_of_lt_of_le (h4 x hx).2 hg.size⟩⟩
  · exact .inr ⟨h1, g, c, c1, rfl, h3.far hg (fun k hk => hne k hk), h4⟩
theorem VRowR.lower {w : World} {b b' n : Nat} {v : Value} {f : List Int} (h : VRowR w b v n f) (hb : b' ≤ b) : VRowR w b' v n f := by
  rcases h with ⟨h1, h2, a, c, h3, h4⟩ | ⟨h1, g, c, c1, h2, h3, h4⟩
  · exact .inl ⟨h1, h2, a, c, h3, fun x hx => ⟨Nat.le_trans hb (h4 x hx).1, (h4 x hx).2⟩⟩
  · exact .inr ⟨h1, g, c, c1, h2, h3.lower hb, h4⟩
theorem VecsR.below {w w' : World} {b : Nat} {v : Value} {l : List (Int × Int)} (h : VecsR w b v l) (hb : Below w.heap.size w w') : VecsR w' b v l := VRowR.below h hb
theorem VecsR.far {w w' : World} {b : Nat} {v : Value} {l : List (Int × Int)} {row : Option Nat} (h : VecsR w b v l) (hg : w.grownBy w' row) (hne : ∀ k, v.ownBlock = some k → row ≠ some k) : VecsR w' b v l := VRowR.far h hg hne
theorem VecsR.lower {w : World} {b b' : Nat} {v : Value} {l : List (Int × Int)} (h : VecsR w b v l) (hb : b' ≤ b) : VecsR w b' v l := VRowR.lower h hb
theorem VecsR.block {w : World} {b : Nat} {v : Value} {l : List (Int × Int)} (h : VecsR w b v l) : ∀ k, v.ownBlock = some k → b ≤ k ∧ k < w.heap.size := VRowR.block h
theorem Vecs.R {w : World} {b : Nat} {v : Value} {l : List (Int × Int)} (h : Vecs w b v l) : VecsR w b v l := by
  have hf := flat_len l
  rcases VRow.form h with ⟨h1, _, a, c, h2⟩ | ⟨h1, g, c, h2, _, _, h3⟩
  · refine .inl ⟨h1, ?_, a, c, ?_, ?_⟩
    · exact List.eq_nil_of_length_eq_zero (by omega)
    · rw [h2]
    · intro x hx
      subst hx
      subst h2
      exact h.block x.block rfl
  · subst h2
    exact .inr ⟨h1, g, c, c, rfl, h, h3⟩
theorem VecsR.nil (w : World) (b : Nat) : VecsR w b (.slice none 0 0) [] := .inl ⟨rfl, rfl, none, 0, rfl, fun x h => by cases h⟩
theorem VecsR.reads {w : World} {b : Nat} {v : Value} {l : List V2} (h : VecsR w b v l) (hl : l.length ≤ 576460752303423488) : ReadsVecs w v l := by
  rcases h with ⟨h1, _, a, c, h3, _⟩ | ⟨h1, g, c, c1, rfl, h3, h4⟩
  · rw [h3]
    refine ⟨a, c, ?_, by omega, by omega, fun h => by omega⟩
    rw [h1]
  · have q : Vecs w b (.slice (some ⟨g, 0, none⟩) l.length c) l := h3
    obtain ⟨a, c2, e, _, _, h6⟩ := q.reads hl
    obtain ⟨e1, e2⟩ : some (⟨g, 0, none⟩ : Addr) = a ∧ c = c2 := by
      injection e with e1 e2 e3
      exact ⟨e1, e3⟩
    subst e1
    exact ⟨_, c1, rfl, h4, hl, h6⟩
def VMarkedR (w : World) (b : Nat) (v : Value) (n : Nat) (e : Ending) (w' : World) : Prop := e = .returned (.int .i64 ((1 + n * 2 : Nat) : Int)) ∧ VRowR w' b v n (marks 1 (n * 2)) ∧ w.grownBy w' v.ownBlock
def GivesVecsR (w : World) (l : List (Int × Int)) (b : Bool) (e : Ending) (w' : World) : Prop := ∃ v, e = .returned (.tuple #[v, .bool b]) ∧ VecsR w' w.heap.size v l ∧ Below w.heap.size w w'
end Go.Proofs.YtgaeibibeekclaaGreatDoor
