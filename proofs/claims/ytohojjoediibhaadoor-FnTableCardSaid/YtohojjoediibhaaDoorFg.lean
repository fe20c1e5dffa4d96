/- Lists of numbers: copied, compared, turned over. -/
import Derived.Test.YtohojjoediibhaaDoorB3
namespace Go.Proofs.YtohojjoediibhaaDoor
open Go.RowKit

theorem set_copy (l : List Int) (xs : List Value) (k : Nat) (h : k < l.length) (hx : xs.length = l.length) :
    (intsV (l.take k) ++ xs.drop k).set k (.int .i64 (l[k]?.getD 0)) = intsV (l.take (k + 1)) ++ xs.drop (k + 1) := by
  have e1 : (intsV (l.take k)).length = k := by simp [intsV]; omega
  rw [List.set_append_right _ _ (by omega), e1, Nat.sub_self, List.drop_eq_getElem_cons (by omega), List.set_cons_zero]
  have e2 : l.take (k + 1) = l.take k ++ [l[k]?.getD 0] := by
    rw [List.take_add_one]
    simp [h]
  rw [e2]
  simp [intsV]
/-! compared, as the laws of the promises do it -/
set_option maxHeartbeats 2000000 in
theorem sameInts_nil (a b : Option Addr) (c d : Nat) (w : World) :
    Calls Tryd.prog 24 #[.slice a 0 c, .slice b 0 d] w fun e w' => e = .returned (.bool true) ∧ Below w.heap.size w w' := by
  go_enter Tryd.func24, Tryd.ntmps24
  go_wp2
  refine wp_loop_rounds 1 ?_
  rw [rounds_succ]
  go_wp2
  go_returns
  exact ⟨rfl, Below.refl _ _⟩
set_option maxHeartbeats 4000000 in
theorem sameInts_row (g g2 c d b1 b2 : Nat) (l : List Int) (w : World) (h1 : Ints w b1 (.slice (some ⟨g, 0, none⟩) l.length c) l) (h2 : Ints w b2 (.slice (some ⟨g2, 0, none⟩) l.length d) l)
    (hg : g < w.heap.size) (hg2 : g2 < w.heap.size) :
    Calls Tryd.prog 24 #[.slice (some ⟨g, 0, none⟩) l.length c, .slice (some ⟨g2, 0, none⟩) l.length d] w fun e w' => e = .returned (.bool true) ∧ Below w.heap.size w w' := by
  obtain ⟨n, hn⟩ : ∃ n, n = l.length := ⟨_, rfl⟩
  have hm : n ≤ 9223372036854775807 := by have := h1.len_le; unfold maxLen at this; omega
  have HC : Hid (∀ j, j < n → w.cell? ⟨g, j, none⟩ = some (.int .i64 (l[j]?.getD 0)) ∧ w.cell? ⟨g2, j, none⟩ = some (.int .i64 (l[j]?.getD 0))) := by
    intro j hj
    exact ⟨h1.cell j (by omega), h2.cell j (by omega)⟩
  rw [← hn]
  clear h1 h2 hn
  go_enter Tryd.func24, Tryd.ntmps24
  go_wp2
  go_loopw [5] (fun i wr => ∃ k : Nat, k ≤ n ∧ i = .int .i64 k ∧ Below w.heap.size w wr) (fun i _ => n - (intOf i).toNat)
  case atStart => exact ⟨0, Nat.zero_le _, rfl, Below.refl _ _⟩
  case round =>
    obtain ⟨k, hk, rfl, hB⟩ := hrel
    by_cases hlt : k < n
    · have c1 : wr.cell? ⟨g, k, none⟩ = some (.int .i64 (l[k]?.getD 0)) := (hB.cell (p := ⟨g, k, none⟩) hg).trans (HC.out k hlt).1
      have c2 : wr.cell? ⟨g2, k, none⟩ = some (.int .i64 (l[k]?.getD 0)) := (hB.cell (p := ⟨g2, k, none⟩) hg2).trans (HC.out k hlt).2
      generalize l[k]?.getD 0 = z at c1 c2
      have i1 : (0 : Int) ≤ (k : Int) := by omega
      have i2 : (k : Int) < (n : Int) := by omega
      go_wp2_with fail
      go_quiet (fail)
      go_wp2
      go_roundw
      case rel => exact ⟨k + 1, by omega, by go_num, below_drewN hB _⟩
      case measure => simp [intOf]; omega
    · go_wp2
      go_returns
      exact ⟨rfl, hB⟩
theorem sameInts_same (v1 v2 : Value) (b1 b2 : Nat) (l : List Int) (w : World) (h1 : Ints w b1 v1 l) (h2 : Ints w b2 v2 l) :
    Calls Tryd.prog 24 #[v1, v2] w fun e w' => e = .returned (.bool true) ∧ Below w.heap.size w w' := by
  rcases h1.form with ⟨rfl, a, c, rfl⟩ | ⟨hne, g, c, rfl, _, hg, _⟩
  · rcases h2.form with ⟨_, a2, d, rfl⟩ | ⟨hne, _⟩
    · exact sameInts_nil a a2 c d w
    · exact absurd rfl hne
  · rcases h2.form with ⟨h, _⟩ | ⟨_, g2, d, rfl, _, hg2, _⟩
    · exact absurd h hne
    · exact sameInts_row g g2 c d b1 b2 l w h1 h2 hg hg2
end Go.Proofs.YtohojjoediibhaaDoor
