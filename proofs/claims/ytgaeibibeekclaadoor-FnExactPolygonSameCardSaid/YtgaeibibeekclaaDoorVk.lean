/- Slices of vectors that may be a part of a longer row: compared, marked, held. -/
import Derived.Test.YtgaeibibeekclaaDoorB5
import Derived.Test.YtgaeibibeekclaaDoorGb
namespace Go.Proofs.YtgaeibibeekclaaDoor
open Go.RowKit

set_option maxHeartbeats 4000000 in
theorem eqVecS_rowC (g g2 c d c1 d1 b1 b2 n : Nat) (f : List Int) (w : World) (h1 : VRow w b1 (.slice (some ⟨g, 0, none⟩) n c) n f) (h2 : VRow w b2 (.slice (some ⟨g2, 0, none⟩) n d) n f)
    (hg : g < w.heap.size) (hg2 : g2 < w.heap.size) :
    Calls Tryd.prog 31 #[.slice (some ⟨g, 0, none⟩) n c1, .slice (some ⟨g2, 0, none⟩) n d1] w fun e w' => e = .returned (.bool true) ∧ Below w.heap.size w w' := by
  have hm : n ≤ 9223372036854775807 := by have := h1.len_le; unfold maxLen at this; omega
  have HC : Hid (∀ j, j < n * 2 → w.cell? ⟨g, j, none⟩ = some (.int .i64 (f[j]?.getD 0)) ∧ w.cell? ⟨g2, j, none⟩ = some (.int .i64 (f[j]?.getD 0))) := by
    intro j hj
    exact ⟨h1.cell j (by omega), h2.cell j (by omega)⟩
  clear h1 h2
  go_enter Tryd.func31, Tryd.ntmps31
  go_wp2
  go_loopw [5] (fun i wr => ∃ k : Nat, k ≤ n ∧ i = .int .i64 k ∧ Below w.heap.size w wr) (fun i _ => n - (intOf i).toNat)
  case atStart => exact ⟨0, Nat.zero_le _, rfl, Below.refl _ _⟩
  case round =>
    obtain ⟨k, hk, rfl, hB⟩ := hrel
    by_cases hlt : k < n
    · have c1 : wr.cell? ⟨g, k * 2, none⟩ = some (.int .i64 (f[k * 2]?.getD 0)) := (hB.cell (p := ⟨g, k * 2, none⟩) hg).trans (HC.out _ (by omega)).1
      have c2 : wr.cell? ⟨g2, k * 2, none⟩ = some (.int .i64 (f[k * 2]?.getD 0)) := (hB.cell (p := ⟨g2, k * 2, none⟩) hg2).trans (HC.out _ (by omega)).2
      have c3 : wr.cell? ⟨g, k * 2 + 1, none⟩ = some (.int .i64 (f[k * 2 + 1]?.getD 0)) := (hB.cell (p := ⟨g, k * 2 + 1, none⟩) hg).trans (HC.out _ (by omega)).1
      have c4 : wr.cell? ⟨g2, k * 2 + 1, none⟩ = some (.int .i64 (f[k * 2 + 1]?.getD 0)) := (hB.cell (p := ⟨g2, k * 2 + 1, none⟩) hg2).trans (HC.out _ (by omega)).2
      generalize f[k * 2]?.getD 0 = x at c1 c2
      generalize f[k * 2 + 1]?.getD 0 = y at c3 c4
      have hgr := Nat.lt_of_lt_of_le hg hB.size
      have hgr2 := Nat.lt_of_lt_of_le hg2 hB.size
      have i1 : (0 : Int) ≤ (k : Int) := by omega
      have i2 : (k : Int) < (n : Int) := by omega
      have hBw : Below wr.heap.size wr wr := Below.refl _ _
      go_upto_region 6 with fail
      go_region_held3 (fun w' => w'.cell? ⟨g, k * 2, none⟩ = some (.int .i64 (x)) ∧ w'.cell? ⟨g, k * 2 + 1, none⟩ = some (.int .i64 (y)) ∧ w'.cell? ⟨g2, k * 2, none⟩ = some (.int .i64 (x)) ∧ w'.cell? ⟨g2, k * 2 + 1, none⟩ = some (.int .i64 (y)) ∧ Below wr.heap.size wr w') ((go_split_ands; refine ⟨by (first | (with_reducible assumption) | (go_keep; done) | (go_cell; done) | (go_simp; done) | (simp [*]; done)), by (first | (with_reducible assumption) | (go_keep; done) | (go_cell; done) | (go_simp; done) | (simp [*]; done)), by (first | (with_reducible assumption) | (go_keep; done) | (go_cell; done) | (go_simp; done) | (simp [*]; done)), by (first | (with_reducible assumption) | (go_keep; done) | (go_cell; done) | (go_simp; done) | (simp [*]; done)), by first | (with_reducible assumption) | (go_grown; done)⟩)) (first | (go_at_call 62; go_call (eqVec_same x y _) as e w1 ⟨rfl, hb0⟩; go_split_ands; have q0 : w1.cell? ⟨g, k * 2, none⟩ = some (.int .i64 (x)) := (hb0.cell (p := ⟨g, k * 2, none⟩) (by first | (with_reducible assumption) | (go_size; done) | (simp; omega))).trans (by first | (with_reducible assumption) | (go_keep; done) | (go_cell; done) | (go_simp; done) | (simp [*]; done)); have q1 : w1.cell? ⟨g, k * 2 + 1, none⟩ = some (.int .i64 (y)) := (hb0.cell (p := ⟨g, k * 2 + 1, none⟩) (by first | (with_reducible assumption) | (go_size; done) | (simp; omega))).trans (by first | (with_reducible assumption) | (go_keep; done) | (go_cell; done) | (go_simp; done) | (simp [*]; done)); have q2 : w1.cell? ⟨g2, k * 2, none⟩ = some (.int .i64 (x)) := (hb0.cell (p := ⟨g2, k * 2, none⟩) (by first | (with_reducible assumption) | (go_size; done) | (simp; omega))).trans (by first | (with_reducible assumption) | (go_keep; done) | (go_cell; done) | (go_simp; done) | (simp [*]; done)); have q3 : w1.cell? ⟨g2, k * 2 + 1, none⟩ = some (.int .i64 (y)) := (hb0.cell (p := ⟨g2, k * 2 + 1, none⟩) (by first | (with_reducible assumption) | (go_size; done) | (simp; omega))).trans (by first | (with_reducible assumption) | (go_keep; done) | (go_cell; done) | (go_simp; done) | (simp [*]; done)); have hs0 : g < w1.heap.size := Nat.lt_of_lt_of_le (by first | (with_reducible assumption) | (go_size; done) | (simp; omega)) hb0.size; have hs1 : g2 < w1.heap.size := Nat.lt_of_lt_of_le (by first | (with_reducible assumption) | (go_size; done) | (simp; omega)) hb0.size; have hT : Below wr.heap.size wr w1 := belowTo (by first | (with_reducible assumption) | (go_grown; done)) hb0; have hTs := hT.size; clear hb0))
      all_goals go_wp2
      all_goals go_roundw
      all_goals first
        | (case rel => exact ⟨k + 1, by omega, by go_num, belowTo hB (by go_grown)⟩)
        | skip
      all_goals (simp [intOf]; omega)
    · go_wp2
      go_returns
      exact ⟨rfl, hB⟩
/-- A slice of the call's own of n vectors, at the beginning of a row that is perhaps longer. -/
def VRowR (w : World) (b : Nat) (v : Value) (n : Nat) (f : List Int) : Prop :=
  (n = 0 ∧ f = [] ∧ ∃ a c, v = .slice a 0 c ∧ ∀ x, a = some x → b ≤ x.block ∧ x.block < w.heap.size) ∨ (0 < n ∧ ∃ g c c1, v = .slice (some ⟨g, 0, none⟩) n c1 ∧ VRow w b (.slice (some ⟨g, 0, none⟩) n c) n f ∧ n ≤ c1)
def VecsR (w : World) (b : Nat) (v : Value) (l : List (Int × Int)) : Prop := VRowR w b v l.length (flat l)
theorem VRowR.below {w w' : World} {b n : Nat} {v : Value} {f : List Int} (h : VRowR w b v n f) (hb : Below w.heap.size w w') : VRowR w' b v n f := by
  rcases h with ⟨h1, h2, a, c, h3, h4⟩ | ⟨h1, g, c, c1, h2, h3, h4⟩
  · exact .inl ⟨h1, h2, a, c, h3, fun x hx => ⟨(h4 x hx).1, Nat.lt_of_lt_of_le (h4 x hx).2 hb.size⟩⟩
  · exact .inr ⟨h1, g, c, c1, h2, h3.below hb, h4⟩
theorem VRowR.block {w : World} {b n : Nat} {v : Value} {f : List Int} (h : VRowR w b v n f) : ∀ k, v.ownBlock = some k → b ≤ k ∧ k < w.heap.size := by
  rcases h with ⟨_, _, a, c, rfl, h4⟩ | ⟨_, g, c, c1, rfl, h3, _⟩
  · intro k hk
    cases a with
    | none => cases hk
    | some x =>
      obtain rfl : x.block = k := Option.some.inj hk
      exact h4 x rfl
  · intro k hk
    obtain rfl : g = k := Option.some.inj hk
    exact h3.block g rfl
theorem VRowR.far {w w' : World} {b n : Nat} {v : Value} {f : List Int} {row : Option Nat} (h : VRowR w b v n f) (hg : w.grownBy w' row) (hne : ∀ k, v.ownBlock = some k → row ≠ some k) : VRowR w' b v n f := by
  rcases h with ⟨h1, h2, a, c, h3, h4⟩ | ⟨h1, g, c, c1, rfl, h3, h4⟩
  · exact .inl ⟨h1, h2, a, c, h3, fun x hx => ⟨(h4 x hx).1, Nat.lt_of_lt_of_le (h4 x hx).2 hg.size⟩⟩
  · exact .inr ⟨h1, g, c, c1, rfl, h3.far hg (fun k hk => hne k hk), h4⟩
theorem VRowR.lower {w : World} {b b' n : Nat} {v : Value} {f : List Int} (h : VRowR w b v n f) (hb : b' ≤ b) : VRowR w b' v n f := by
  rcases h with ⟨h1, h2, a, c, h3, h4⟩ | ⟨h1, g, c, c1, h2, h3, h4⟩
  · exact .inl ⟨h1, h2, a, c, h3, fun x hx => ⟨Nat.le_trans hb (h4 x hx).1, (h4 x hx).2⟩⟩
  · exact .inr ⟨h1, g, c, c1, h2, h3.lower hb, h4⟩
theorem VecsR.below {w w' : World} {b : Nat} {v : Value} {l : List (Int × Int)} (h : VecsR w b v l) (hb : Below w.heap.size w w') : VecsR w' b v l := VRowR.below h hb
theorem VecsR.far {w w' : World} {b : Nat} {v : Value} {l : List (Int × Int)} {row : Option Nat} (h : VecsR w b v l) (hg : w.grownBy w' row) (hne : ∀ k, v.ownBlock = some k → row ≠ some k) : VecsR w' b v l := VRowR.far h hg hne
theorem VecsR.lower {w : World} {b b' : Nat} {v : Value} {l : List (Int × Int)} (h : VecsR w b v l) (hb : b' ≤ b) : VecsR w b' v l := VRowR.lower h hb
theorem VecsR.block {w : World} {b : Nat} {v : Value} {l : List (Int × Int)} (h : VecsR w b v l) : ∀ k, v.ownBlock = some k → b ≤ k ∧ k < w.heap.size := VRowR.block h
theorem Vecs.R {w : World} {b : Nat} {v : Value} {l : List (Int × Int)} (h : Vecs w b v l) : VecsR w b v l := by
  have hf := flat_len l
  rcases VRow.form h with ⟨h1, _, a, c, h2⟩ | ⟨h1, g, c, h2, _, _, h3⟩
  · refine .inl ⟨h1, ?_, a, c, ?_, ?_⟩
    · exact List.eq_nil_of_length_eq_zero (by omega)
    · rw [h2]
    · intro x hx
      subst hx
      subst h2
      exact h.block x.block rfl
  · subst h2
    exact .inr ⟨h1, g, c, c, rfl, h, h3⟩
theorem VecsR.nil (w : World) (b : Nat) : VecsR w b (.slice none 0 0) [] := .inl ⟨rfl, rfl, none, 0, rfl, fun x h => by cases h⟩
theorem VecsR.reads {w : World} {b : Nat} {v : Value} {l : List V2} (h : VecsR w b v l) (hl : l.length ≤ 576460752303423488) : ReadsVecs w v l := by
  rcases h with ⟨h1, _, a, c, h3, _⟩ | ⟨h1, g, c, c1, rfl, h3, h4⟩
  · rw [h3]
    refine ⟨a, c, ?_, by omega, by omega, fun h => by omega⟩
    rw [h1]
  · have q : Vecs w b (.slice (some ⟨g, 0, none⟩) l.length c) l := h3
    obtain ⟨a, c2, e, _, _, h6⟩ := q.reads hl
    obtain ⟨e1, e2⟩ : some (⟨g, 0, none⟩ : Addr) = a ∧ c = c2 := by
      injection e with e1 e2 e3
      exact ⟨e1, e3⟩
    subst e1
    exact ⟨_, c1, rfl, h4, hl, h6⟩
theorem eqVecS_R (v1 v2 : Value) (b1 b2 : Nat) (l : List (Int × Int)) (w : World) (h1 : VecsR w b1 v1 l) (h2 : VecsR w b2 v2 l) :
    Calls Tryd.prog 31 #[v1, v2] w fun e w' => e = .returned (.bool true) ∧ Below w.heap.size w w' := by
  rcases h1 with ⟨h1, _, a, c, rfl, _⟩ | ⟨h1, g, c, c1, rfl, k1, _⟩
  · rcases h2 with ⟨_, _, a2, d, rfl, _⟩ | ⟨hp, _⟩
    · exact eqVecS_nil a a2 c d w
    · omega
  · rcases h2 with ⟨h0, _⟩ | ⟨_, g2, d, d1, rfl, k2, _⟩
    · omega
    · exact eqVecS_rowC g g2 c d c1 d1 b1 b2 l.length (flat l) w k1 k2 (k1.block g rfl).2 (k2.block g2 rfl).2
def VMarkedR (w : World) (b : Nat) (v : Value) (n : Nat) (e : Ending) (w' : World) : Prop := e = .returned (.int .i64 ((1 + n * 2 : Nat) : Int)) ∧ VRowR w' b v n (marks 1 (n * 2)) ∧ w.grownBy w' v.ownBlock
def GivesVecsR (w : World) (l : List (Int × Int)) (b : Bool) (e : Ending) (w' : World) : Prop := ∃ v, e = .returned (.tuple #[v, .bool b]) ∧ VecsR w' w.heap.size v l ∧ Below w.heap.size w w'
end Go.Proofs.YtgaeibibeekclaaDoor
