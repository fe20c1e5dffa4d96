/- Slices of vectors that may be a part of a longer row: compared, marked, held. -/
import Derived.Test.YtkcnpbgbgdgkpaaDoorB5
import Derived.Test.YtkcnpbgbgdgkpaaDoorGb
namespace Go.Proofs.YtkcnpbgbgdgkpaaDoor
open Go.RowKit

set_option maxHeartbeats 4000000 in
theorem eqVecS_rowC (g g2 c d c1 d1 b1 b2 n : Nat) (f : List Int) (w : World) (h1 : VRow w b1 (.slice (some ⟨g, 0, none⟩) n c) n f) (h2 : VRow w b2 (.slice (some ⟨g2, 0, none⟩) n d) n f)
    (hg : g < w.heap.size) (hg2 : g2 < w.heap.size) :
    Calls Tryd.prog 13 #[.slice (some ⟨g, 0, none⟩) n c1, .slice (some ⟨g2, 0, none⟩) n d1] w fun e w' => e = .returned (.bool true) ∧ Below w.heap.size w w' := by
  have hm : n ≤ 9223372036854775807 := by have := h1.len_le; unfold maxLen at this; omega
  have HC : Hid (∀ j, j < n * 2 → w.cell? ⟨g, j, none⟩ = some (.int .i64 (f[j]?.getD 0)) ∧ w.cell? ⟨g2, j, none⟩ = some (.int .i64 (f[j]?.getD 0))) := by
    intro j hj
    exact ⟨h1.cell j (by omega), h2.cell j (by omega)⟩
  clear h1 h2
  go_enter Tryd.func13, Tryd.ntmps13
  go_wp2
  go_loopw [5] (fun i wr => ∃ k : Nat, k ≤ n ∧ i = .int .i64 k ∧ Below w.heap.size w wr) (fun i _ => n - (intOf i).toNat)
  case atStart => exact ⟨0, Nat.zero_le _, rfl, Below.refl _ _⟩
  case round =>
    obtain ⟨k, hk, rfl, hB⟩ := hrel
    by_cases hlt : k < n
    · have c1 : wr.cell? ⟨g, k * 2, none⟩ = some (.int .i64 (f[k * 2]?.getD 0)) := (hB.cell (p := ⟨g, k * 2, none⟩) hg).trans (HC.out _ (by omega)).1
      have c2 : wr.cell? ⟨g2, k * 2, none⟩ = some (.int .i64 (f[k * 2]?.getD 0)) := (hB.cell (p := ⟨g2, k * 2, none⟩) hg2).trans (HC.out _ (by omega)).2
      have c3 : wr.cell? ⟨g, k * 2 + 1, none⟩ = some (.int .i64 (f[k * 2 + 1]?.getD 0)) := (hB.cell (p := ⟨g, k * 2 + 1, none⟩) hg).trans (HC.out _ (by omega)).1
      have c4 : wr.cell? ⟨g2, k * 2 + 1, none⟩ = some (.int .i64 (f[k * 2 + 1]?.getD 0)) := (hB.cell (p := ⟨g2, k * 2 + 1, none⟩) hg2).trans (HC.out _ (by omega)).2
      generalize f[k * 2]?.getD 0 = x at c1 c2
      generalize f[k * 2 + 1]?.getD 0 = y at c3 c4
      have hgr := Nat.lt_of_lt_of_le hg hB.size
      have hgr2 := Nat.lt_of_lt_of_le hg2 hB.size
      have i1 : (0 : Int) ≤ (k : Int) := by omega
      have i2 : (k : Int) < (n : Int) := by omega
      have hBw : Below wr.heap.size wr wr := Below.refl _ _
      go_upto_region 6 with fail
      go_region_held3 (fun w' => w'.cell? ⟨g, k * 2, none⟩ = some (.int .i64 (x)) ∧ w'.cell? ⟨g, k * 2 + 1, none⟩ = some (.int .i64 (y)) ∧ w'.cell? ⟨g2, k * 2, none⟩ = some (.int .i64 (x)) ∧ w'.cell? ⟨g2, k * 2 + 1, none⟩ = some (.int .i64 (y)) ∧ Below wr.heap.size wr w') ((go_split_ands; refine ⟨by (first | (with_reducible assumption) | (go_keep; done) | (go_cell; done) | (go_simp; done) | (simp [*]; done)), by (first | (with_reducible assumption) | (go_keep; done) | (go_cell; done) | (go_simp; done) | (simp [*]; done)), by (first | (with_reducible assumption) | (go_keep; done) | (go_cell; done) | (go_simp; done) | (simp [*]; done)), by (first | (with_reducible assumption) | (go_keep; done) | (go_cell; done) | (go_simp; done) | (simp [*]; done)), by first | (with_reducible assumption) | (go_grown; done)⟩)) (first | (go_at_call 33; go_call (eqVec_same x y _) as e w1 ⟨rfl, hb0⟩; go_split_ands; have q0 : w1.cell? ⟨g, k * 2, none⟩ = some (.int .i64 (x)) := (hb0.cell (p := ⟨g, k * 2, none⟩) (by first | (with_reducible assumption) | (go_size; done) | (simp; omega))).trans (by first | (with_reducible assumption) | (go_keep; done) | (go_cell; done) | (go_simp; done) | (simp [*]; done)); have q1 : w1.cell? ⟨g, k * 2 + 1, none⟩ = some (.int .i64 (y)) := (hb0.cell (p := ⟨g, k * 2 + 1, none⟩) (by first | (with_reducible assumption) | (go_size; done) | (simp; omega))).trans (by first | (with_reducible assumption) | (go_keep; done) | (go_cell; done) | (go_simp; done) | (simp [*]; done)); have q2 : w1.cell? ⟨g2, k * 2, none⟩ = some (.int .i64 (x)) := (hb0.cell (p := ⟨g2, k * 2, none⟩) (by first | (with_reducible assumption) | (go_size; done) | (simp; omega))).trans (by first | (with_reducible assumption) | (go_keep; done) | (go_cell; done) | (go_simp; done) | (simp [*]; done)); have q3 : w1.cell? ⟨g2, k * 2 + 1, none⟩ = some (.int .i64 (y)) := (hb0.cell (p := ⟨g2, k * 2 + 1, none⟩) (by first | (with_reducible assumption) | (go_size; done) | (simp; omega))).trans (by first | (with_reducible assumption) | (go_keep; done) | (go_cell; done) | (go_simp; done) | (simp [*]; done)); have hs0 : g < w1.heap.size := Nat.lt_of_lt_of_le (by first | (with_reducible assumption) | (go_size; done) | (simp; omega)) hb0.size; have hs1 : g2 < w1.heap.size := Nat.lt_of_lt_of_le (by first | (with_reducible assumption) | (go_size; done) | (simp; omega)) hb0.size; have hT : Below wr.heap.size wr w1 := belowTo (by first | (with_reducible assumption) | (go_grown; done)) hb0; have hTs := hT.size; clear hb0))
      all_goals go_wp2
      all_goals go_roundw
      all_goals first
        | (case rel => exact ⟨k + 1, by omega, by go_num, belowTo hB (by go_grown)⟩)
        | skip
      all_goals (simp [intOf]; omega)
    · go_wp2
      go_returns
      exact ⟨rfl, hB⟩
set_option maxHeartbeats 4000000 in
theorem markVecS_rowC (g c c1 b k n : Nat) (l : List Int) (w : World) (hn : l.length = n * 2) (h1 : w.ownsRow b 38 2 (.slice (some ⟨g, 0, none⟩) n c) n (intsV l)) (hk : k ≤ 1000) (hm : n ≤ 576460752303423488) :
    Calls Tryd.prog 14 #[.slice (some ⟨g, 0, none⟩) n c1, .int .i64 k] w (VMarked w b g c k n) := by
  have HN := Lib.hid hn
  clear hn
  have HO : Hid (w.ownsRow b 38 2 (.slice (some ⟨g, 0, none⟩) n c) n (intsV (marks k 0 ++ l.drop 0))) := h1
  clear h1
  go_enter Tryd.func14, Tryd.ntmps14
  go_wp2
  go_loopw [1, 5] (fun m i wr => ∃ j : Nat, j ≤ n ∧ m = .int .i64 ((k + j * 2 : Nat) : Int) ∧ i = .int .i64 j ∧ Hid (wr.ownsRow b 38 2 (.slice (some ⟨g, 0, none⟩) n c) n (intsV (marks k (j * 2) ++ l.drop (j * 2)))) ∧ w.grownBy wr (some g)) (fun _ i _ => n - (intOf i).toNat)
  case atStart => exact ⟨0, Nat.zero_le _, rfl, rfl, HO, World.grownBy.refl _ _⟩
  case round =>
    obtain ⟨j, hj, rfl, rfl, hO, hG⟩ := hrel
    by_cases hlt : j < n
    · have R := VRow.marked HN.out (by omega) hO.out
      have R' := VRow.marked HN.out (by omega) R.1
      have F := World.ownsRow.frozenAt hO.out (j * 2)
      have hc := World.ownsRow.cellAt hO.out (j * 2) (by omega)
      obtain ⟨u, hu⟩ : ∃ u, (intsV (marks k (j * 2) ++ l.drop (j * 2)))[j * 2]? = some u := ⟨_, List.getElem?_eq_getElem (by have := hO.out.1; omega)⟩
      rw [hu] at hc
      have F2 := World.ownsRow.frozenAt hO.out (j * 2 + 1)
      have hc2 := World.ownsRow.cellAt hO.out (j * 2 + 1) (by omega)
      obtain ⟨u2, hu2⟩ : ∃ u, (intsV (marks k (j * 2) ++ l.drop (j * 2)))[j * 2 + 1]? = some u := ⟨_, List.getElem?_eq_getElem (by have := hO.out.1; omega)⟩
      rw [hu2] at hc2
      have e1 : IntKind.i64.wrap (((k + j * 2 : Nat) : Int) + 1) = ((k + (j * 2 + 1) : Nat) : Int) := by rw [IntKind.wrap_i64]; omega
      have e2 : IntKind.i64.wrap (((k + (j * 2 + 1) : Nat) : Int) + 1) = ((k + (j + 1) * 2 : Nat) : Int) := by rw [IntKind.wrap_i64]; omega
      have R1 : Hid (World.ownsRow ((wr.setCell ⟨g, j * 2, none⟩ (.int .i64 ((k + j * 2 : Nat) : Int))).setCell ⟨g, j * 2 + 1, none⟩ (.int .i64 ((k + (j * 2 + 1) : Nat) : Int))) b 38 2 (.slice (some ⟨g, 0, none⟩) n c) n (intsV (marks k ((j + 1) * 2) ++ l.drop ((j + 1) * 2)))) := by
        have := R'.1
        rwa [show j * 2 + 1 + 1 = (j + 1) * 2 by omega] at this
      have R2 := Lib.hid ((hG.trans R.2).trans R'.2)
      clear R R' hO hG hu hu2
      go_wp2
      go_roundw
      case rel => exact ⟨j + 1, by omega, by go_num, by go_num, R1, R2.out⟩
      case measure => simp [intOf]; omega
    · have : j = n := by omega
      subst this
      have hO' := hO.out
      rw [List.drop_of_length_le (by have := HN.out; omega), List.append_nil] at hO'
      have HO2 := Lib.hid hO'
      clear hO hO'
      go_wp2
      go_returns
      exact ⟨rfl, HO2.out, hG⟩
set_option maxHeartbeats 4000000 in
theorem heldVecS_rowC (g c c1 b k n : Nat) (w : World) (h1 : VRow w b (.slice (some ⟨g, 0, none⟩) n c) n (marks k (n * 2))) (hk : k ≤ 1000) (hm : n ≤ 576460752303423488) :
    Calls Tryd.prog 15 #[.slice (some ⟨g, 0, none⟩) n c1, .int .i64 k] w fun e w' => e = .returned (.int .i64 ((k + n * 2 : Nat) : Int)) ∧ w = w' := by
  have HC : Hid (∀ j, j < n * 2 → w.cell? ⟨g, j, none⟩ = some (.int .i64 ((k + j : Nat) : Int))) := by
    intro j hj
    rw [h1.cell j hj, marks_get k (n * 2) j hj]
  clear h1
  go_enter Tryd.func15, Tryd.ntmps15
  go_wp2
  go_loop [1, 5] (fun m i => ∃ j : Nat, j ≤ n ∧ m = .int .i64 ((k + j * 2 : Nat) : Int) ∧ i = .int .i64 j) (fun _ i => n - (intOf i).toNat)
  case atStart => exact ⟨0, Nat.zero_le _, rfl, rfl⟩
  case round =>
    obtain ⟨j, hj, rfl, rfl⟩ := hrel
    by_cases hlt : j < n
    · have c1 := HC.out (j * 2) (by omega)
      have c2 := HC.out (j * 2 + 1) (by omega)
      have e1 : IntKind.i64.wrap (((k + j * 2 : Nat) : Int) + 1) = ((k + (j * 2 + 1) : Nat) : Int) := by rw [IntKind.wrap_i64]; omega
      have e2 : IntKind.i64.wrap (((k + (j * 2 + 1) : Nat) : Int) + 1) = ((k + (j + 1) * 2 : Nat) : Int) := by rw [IntKind.wrap_i64]; omega
      go_wp2
      go_round
      case rel => exact ⟨j + 1, by omega, by go_num, by go_num⟩
      case measure => simp [intOf]; omega
    · have : j = n := by omega
      subst this
      go_wp2
      go_returns
      exact ⟨rfl, rfl⟩
/-- A slice of the call's own of n vectors, at the beginning of a row that is perhaps longer. -/
def VRowR (w : World) (b : Nat) (v : Value) (n : Nat) (f : List Int) : Prop :=
  (n = 0 ∧ f = [] ∧ ∃ a c, v = .slice a 0 c ∧ ∀ x, a = some x → b ≤ x.block ∧ x.block < w.heap.size) ∨ (0 < n ∧ ∃ g c c1, v = .slice (some ⟨g, 0, none⟩) n c1 ∧ VRow w b (.slice (some ⟨g, 0, none⟩) n c) n f ∧ n ≤ c1)
def VecsR (w : World) (b : Nat) (v : Value) (l : List (Int × Int)) : Prop := VRowR w b v l.length (flat l)
theorem VRowR.below {w w' : World} {b n : Nat} {v : Value} {f : List Int} (h : VRowR w b v n f) (hb : Below w.heap.size w w') : VRowR w' b v n f := by
  rcases h with ⟨h1, h2, a, c, h3, h4⟩ | ⟨h1, g, c, c1, h2, h3, h4⟩
  · exact .inl ⟨h1, h2, a, c, h3, fun x hx => ⟨(h4 x hx).1, Nat.lt_of_lt_of_le (h4 x hx).2 hb.size⟩⟩
  · exact .inr ⟨h1, g, c, c1, h2, h3.below hb, h4⟩
theorem VRowR.block {w : World} {b n : Nat} {v : Value} {f : List Int} (h : VRowR w b v n f) : ∀ k, v.ownBlock = some k → b ≤ k ∧ k < w.heap.size := by
  rcases h with ⟨_, _, a, c, rfl, h4⟩ | ⟨_, g, c, c1, rfl, h3, _⟩
  · intro k hk
    cases a with
    | none => cases hk
    | some x =>
      obtain rfl : x.block = k := Option.some.inj hk
      exact h4 x rfl
  · intro k hk
    obtain rfl : g = k := Option.some.inj hk
    exact h3.block g rfl
theorem VRowR.far {w w' : World} {b n : Nat} {v : Value} {f : List Int} {row : Option Nat} (h : VRowR w b v n f) (hg : w.grownBy w' row) (hne : ∀ k, v.ownBlock = some k → row ≠ some k) : VRowR w' b v n f := by
  rcases h with ⟨h1, h2, a, c, h3, h4⟩ | ⟨h1, g, c, c1, rfl, h3, h4⟩
  · exact .inl ⟨h1, h2, a, c, h3, fun x hx => ⟨(h4 x hx).1, Nat.lt_of_lt_of_le (h4 x hx).2 hg.size⟩⟩
  · exact .inr ⟨h1, g, c, c1, rfl, h3.far hg (fun k hk => hne k hk), h4⟩
theorem VRowR.lower {w : World} {b b' n : Nat} {v : Value} {f : List Int} (h : VRowR w b v n f) (hb : b' ≤ b) : VRowR w b' v n f := by
  rcases h with ⟨h1, h2, a, c, h3, h4⟩ | ⟨h1, g, c, c1, h2, h3, h4⟩
  · exact .inl ⟨h1, h2, a, c, h3, fun x hx => ⟨Nat.le_trans hb (h4 x hx).1, (h4 x hx).2⟩⟩
  · exact .inr ⟨h1, g, c, c1, h2, h3.lower hb, h4⟩
theorem VecsR.below {w w' : World} {b : Nat} {v : Value} {l : List (Int × Int)} (h : VecsR w b v l) (hb : Below w.heap.size w w') : VecsR w' b v l := VRowR.below h hb
theorem VecsR.far {w w' : World} {b : Nat} {v : Value} {l : List (Int × Int)} {row : Option Nat} (h : VecsR w b v l) (hg : w.grownBy w' row) (hne : ∀ k, v.ownBlock = some k → row ≠ some k) : VecsR w' b v l := VRowR.far h hg hne
theorem VecsR.lower {w : World} {b b' : Nat} {v : Value} {l : List (Int × Int)} (h : VecsR w b v l) (hb : b' ≤ b) : VecsR w b' v l := VRowR.lower h hb
theorem VecsR.block {w : World} {b : Nat} {v : Value} {l : List (Int × Int)} (h : VecsR w b v l) : ∀ k, v.ownBlock = some k → b ≤ k ∧ k < w.heap.size := VRowR.block h
theorem Vecs.R {w : World} {b : Nat} {v : Value} {l : List (Int × Int)} (h : Vecs w b v l) : VecsR w b v l := by
  have hf := flat_len l
  rcases VRow.form h with ⟨h1, _, a, c, h2⟩ | ⟨h1, g, c, h2, _, _, h3⟩
  · refine .inl ⟨h1, ?_, a, c, ?_, ?_⟩
    · exact List.eq_nil_of_length_eq_zero (by omega)
    · rw [h2]
    · intro x hx
      subst hx
      subst h2
      exact h.block x.block rfl
  · subst h2
    exact .inr ⟨h1, g, c, c, rfl, h, h3⟩
theorem VecsR.nil (w : World) (b : Nat) : VecsR w b (.slice none 0 0) [] := .inl ⟨rfl, rfl, none, 0, rfl, fun x h => by cases h⟩
theorem VecsR.reads {w : World} {b : Nat} {v : Value} {l : List V2} (h : VecsR w b v l) (hl : l.length ≤ 576460752303423488) : ReadsVecs w v l := by
  rcases h with ⟨h1, _, a, c, h3, _⟩ | ⟨h1, g, c, c1, rfl, h3, h4⟩
  · rw [h3]
    refine ⟨a, c, ?_, by omega, by omega, fun h => by omega⟩
    rw [h1]
  · have q : Vecs w b (.slice (some ⟨g, 0, none⟩) l.length c) l := h3
    obtain ⟨a, c2, e, _, _, h6⟩ := q.reads hl
    obtain ⟨e1, e2⟩ : some (⟨g, 0, none⟩ : Addr) = a ∧ c = c2 := by
      injection e with e1 e2 e3
      exact ⟨e1, e3⟩
    subst e1
    exact ⟨_, c1, rfl, h4, hl, h6⟩
theorem eqVecS_R (v1 v2 : Value) (b1 b2 : Nat) (l : List (Int × Int)) (w : World) (h1 : VecsR w b1 v1 l) (h2 : VecsR w b2 v2 l) :
    Calls Tryd.prog 13 #[v1, v2] w fun e w' => e = .returned (.bool true) ∧ Below w.heap.size w w' := by
  rcases h1 with ⟨h1, _, a, c, rfl, _⟩ | ⟨h1, g, c, c1, rfl, k1, _⟩
  · rcases h2 with ⟨_, _, a2, d, rfl, _⟩ | ⟨hp, _⟩
    · exact eqVecS_nil a a2 c d w
    · omega
  · rcases h2 with ⟨h0, _⟩ | ⟨_, g2, d, d1, rfl, k2, _⟩
    · omega
    · exact eqVecS_rowC g g2 c d c1 d1 b1 b2 l.length (flat l) w k1 k2 (k1.block g rfl).2 (k2.block g2 rfl).2
def VMarkedR (w : World) (b : Nat) (v : Value) (n : Nat) (e : Ending) (w' : World) : Prop := e = .returned (.int .i64 ((1 + n * 2 : Nat) : Int)) ∧ VRowR w' b v n (marks 1 (n * 2)) ∧ w.grownBy w' v.ownBlock
theorem markVecS_R (v : Value) (b : Nat) (l : List (Int × Int)) (w : World) (I : VecsR w b v l) (hm : l.length ≤ 576460752303423488) :
    Calls Tryd.prog 14 #[v, .int .i64 1] w (VMarkedR w b v l.length) := by
  have h1 : (1 : Int) = ((1 : Nat) : Int) := rfl
  rw [h1]
  have hf := flat_len l
  rcases I with ⟨h0, hfl, a, c, rfl, hx⟩ | ⟨hp, g, c, c1, rfl, k1, k2⟩
  · refine Calls.mono (markVecS_nil a c 1 w) ?_
    rintro e w' ⟨rfl, rfl⟩
    rw [h0]
    refine ⟨rfl, .inl ⟨rfl, rfl, a, c, rfl, hx⟩, ?_⟩
    have := World.grownBy.refl w (row := (Value.slice a 0 c).ownBlock)
    exact this
  · refine Calls.mono (markVecS_rowC g c c1 b 1 l.length (flat l) w (by omega) k1 (by omega) hm) ?_
    rintro e w' ⟨rfl, h2, h3⟩
    exact ⟨rfl, .inr ⟨hp, g, c, c1, rfl, h2, k2⟩, h3⟩
theorem heldVecS_R (v : Value) (b n : Nat) (w : World) (I : VRowR w b v n (marks 1 (n * 2))) (hm : n ≤ 576460752303423488) :
    Calls Tryd.prog 15 #[v, .int .i64 1] w fun e w' => e = .returned (.int .i64 ((1 + n * 2 : Nat) : Int)) ∧ w = w' := by
  have h1 : (1 : Int) = ((1 : Nat) : Int) := rfl
  rw [h1]
  rcases I with ⟨rfl, _, a, c, rfl, _⟩ | ⟨hp, g, c, c1, rfl, k1, _⟩
  · exact heldVecS_nil a c 1 w
  · exact heldVecS_rowC g c c1 b 1 n w k1 (by omega) hm
def GivesVecsR (w : World) (l : List (Int × Int)) (b : Bool) (e : Ending) (w' : World) : Prop := ∃ v, e = .returned (.tuple #[v, .bool b]) ∧ VecsR w' w.heap.size v l ∧ Below w.heap.size w w'
end Go.Proofs.YtkcnpbgbgdgkpaaDoor
