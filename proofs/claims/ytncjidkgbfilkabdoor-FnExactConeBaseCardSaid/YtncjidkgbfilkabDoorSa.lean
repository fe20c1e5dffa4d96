/- Slices of whole numbers that the call owns: read, compared, marked. -/
import Derived.Test.YtncjidkgbfilkabDoorKit
import Derived.Handy
import Derived.Lib.Hide
import Derived.Deep.AppendLies
import Derived.Laws.OwnMore
import Derived.Laws.MakeOwn
import Derived.OwnWalk
import Derived.Deep.RegionHeld3
import Derived.Deep.DeepCutAuto
namespace Go.Proofs.YtncjidkgbfilkabDoor
open Go.RowKit

theorem infoInt : (Tryd.prog.info? 3).map (fun i => (i.zero, i.size, i.bytes)) = some (some (.int .i64 0), 1, 8) := by kernel_rfl
def intsV (l : List Int) : List Value := l.map (Value.int .i64)
/-- A slice of the call's own, from block 'base' on, that holds the numbers l. -/
def Ints (w : World) (base : Nat) (v : Value) (l : List Int) : Prop := w.ownsRow base 3 1 v l.length (intsV l)
theorem grown_of_below {w w' : World} (h : Below w.heap.size w w') (row : Option Nat) : w.grownBy w' row := ⟨h.os, h.tape, h.output, h.size, fun i hi _ => h.block i hi⟩
theorem Ints.below {w w' : World} {base : Nat} {v : Value} {l : List Int} (h : Ints w base v l) (hb : Below w.heap.size w w') : Ints w' base v l := by
  unfold Ints at *
  refine h.kept (row := none) (grown_of_below hb none) ?_
  cases v.ownBlock with
  | none => exact .inl rfl
  | some k => exact .inr (by simp)
theorem Ints.far {w w' : World} {base : Nat} {v : Value} {l : List Int} {row : Option Nat} (h : Ints w base v l) (hg : w.grownBy w' row) (hne : ∀ k, v.ownBlock = some k → row ≠ some k) : Ints w' base v l := by
  unfold Ints at *
  refine h.kept hg ?_
  cases hv : v.ownBlock with
  | none => exact .inl rfl
  | some k => exact .inr (fun e => hne k hv e.symm)
theorem Ints.nil (w : World) (base : Nat) : Ints w base (.slice none 0 0) [] := World.ownsRow_nil _ _ _ _
theorem Ints.lower {w : World} {base base' : Nat} {v : Value} {l : List Int} (h : Ints w base v l) (hb : base' ≤ base) : Ints w base' v l := by
  obtain ⟨h1, h2⟩ := h
  refine ⟨h1, ?_⟩
  rcases h2 with h2 | ⟨g, cap, cur, e1, e2, r⟩
  · exact .inl h2
  · exact .inr ⟨g, cap, cur, e1, Nat.le_trans hb e2, r⟩
/-- its form: empty, or its first cells lie in a block of their own -/
theorem Ints.form {w : World} {base : Nat} {v : Value} {l : List Int} (h : Ints w base v l) :
    (l = [] ∧ ∃ a c, v = .slice a 0 c) ∨ (l ≠ [] ∧ ∃ g c, v = .slice (some ⟨g, 0, none⟩) l.length c ∧ base ≤ g ∧ g < w.heap.size ∧ l.length ≤ c) := by
  rcases h.2 with ⟨h1, h2⟩ | ⟨g, cap, cur, rfl, h3, h4, h5, _⟩
  · exact .inl ⟨List.eq_nil_of_length_eq_zero h2, none, 0, h1⟩
  · rcases Nat.eq_zero_or_pos l.length with h0 | h0
    · exact .inl ⟨List.eq_nil_of_length_eq_zero h0, _, cap, by rw [h0]⟩
    · refine .inr ⟨fun e => by simp [e] at h0, g, cap, rfl, h3, ?_, h5⟩
      rcases Nat.lt_or_ge g w.heap.size with hlt | hge
      · exact hlt
      · rw [Array.getElem?_eq_none hge] at h4; cases h4
theorem intsV_get (l : List Int) (j : Nat) (h : j < l.length) : (intsV l)[j]? = some (.int .i64 (l[j]?.getD 0)) := by
  simp [intsV, h]
theorem Ints.cell {w : World} {base g c : Nat} {l : List Int} (h : Ints w base (.slice (some ⟨g, 0, none⟩) l.length c) l) (j : Nat) (hj : j < l.length) : w.cell? ⟨g, j, none⟩ = some (.int .i64 (l[j]?.getD 0)) := by
  rw [World.ownsRow.cellAt h j (by omega), intsV_get l j hj]
theorem Ints.free {w : World} {base g c n : Nat} {l : List Int} (h : w.ownsRow base 3 1 (.slice (some ⟨g, 0, none⟩) n c) n (intsV l)) (j : Nat) : w.frozen? ⟨g, j, none⟩ = false := World.ownsRow.frozenAt h j
theorem Ints.len_le {w : World} {base : Nat} {v : Value} {l : List Int} (h : Ints w base v l) : l.length ≤ maxLen := by
  rcases h.2 with ⟨_, h2⟩ | ⟨g, cap, cur, _, _, _, h5, h6, _⟩
  · omega
  · omega
theorem Ints.block {w : World} {base : Nat} {v : Value} {l : List Int} (h : Ints w base v l) : ∀ k, v.ownBlock = some k → base ≤ k ∧ k < w.heap.size := World.ownsRow.lt h
/-- What a call leaves that hands back numbers in memory of its own. -/
def GivesInts (w : World) (l : List Int) (e : Ending) (w' : World) : Prop := ∃ v, e = .returned v ∧ Ints w' w.heap.size v l ∧ Below w.heap.size w w'
def GivesIntsOk (w : World) (l : List Int) (b : Bool) (e : Ending) (w' : World) : Prop := ∃ v, e = .returned (.tuple #[v, .bool b]) ∧ Ints w' w.heap.size v l ∧ Below w.heap.size w w'

/-! two that hold the same -/
set_option maxHeartbeats 2000000 in
theorem eqIntS_nil (a b : Option Addr) (c d : Nat) (w : World) :
    Calls Tryd.prog 19 #[.slice a 0 c, .slice b 0 d] w fun e w' => e = .returned (.bool true) ∧ Below w.heap.size w w' := by
  go_enter Tryd.func19, Tryd.ntmps19
  go_wp2
  refine wp_loop_rounds 1 ?_
  rw [rounds_succ]
  go_wp2
  go_returns
  exact ⟨rfl, Below.refl _ _⟩
set_option maxHeartbeats 4000000 in
theorem eqIntS_row (g g2 c d b1 b2 : Nat) (l : List Int) (w : World) (h1 : Ints w b1 (.slice (some ⟨g, 0, none⟩) l.length c) l) (h2 : Ints w b2 (.slice (some ⟨g2, 0, none⟩) l.length d) l)
    (hg : g < w.heap.size) (hg2 : g2 < w.heap.size) :
    Calls Tryd.prog 19 #[.slice (some ⟨g, 0, none⟩) l.length c, .slice (some ⟨g2, 0, none⟩) l.length d] w fun e w' => e = .returned (.bool true) ∧ Below w.heap.size w w' := by
  obtain ⟨n, hn⟩ : ∃ n, n = l.length := ⟨_, rfl⟩
  have hm : n ≤ 9223372036854775807 := by have := h1.len_le; unfold maxLen at this; omega
  have HC : Hid (∀ j, j < n → w.cell? ⟨g, j, none⟩ = some (.int .i64 (l[j]?.getD 0)) ∧ w.cell? ⟨g2, j, none⟩ = some (.int .i64 (l[j]?.getD 0))) := by
    intro j hj
    exact ⟨h1.cell j (by omega), h2.cell j (by omega)⟩
  rw [← hn]
  clear h1 h2 hn
  go_enter Tryd.func19, Tryd.ntmps19
  go_wp2
  go_loopw [5] (fun i wr => ∃ k : Nat, k ≤ n ∧ i = .int .i64 k ∧ Below w.heap.size w wr) (fun i _ => n - (intOf i).toNat)
  case atStart => exact ⟨0, Nat.zero_le _, rfl, Below.refl _ _⟩
  case round =>
    obtain ⟨k, hk, rfl, hB⟩ := hrel
    by_cases hlt : k < n
    · have c1 : wr.cell? ⟨g, k, none⟩ = some (.int .i64 (l[k]?.getD 0)) := (hB.cell (p := ⟨g, k, none⟩) hg).trans (HC.out k hlt).1
      have c2 : wr.cell? ⟨g2, k, none⟩ = some (.int .i64 (l[k]?.getD 0)) := (hB.cell (p := ⟨g2, k, none⟩) hg2).trans (HC.out k hlt).2
      generalize l[k]?.getD 0 = z at c1 c2
      have i1 : (0 : Int) ≤ (k : Int) := by omega
      have i2 : (k : Int) < (n : Int) := by omega
      go_wp2_with fail
      go_quiet (fail)
      go_wp2
      go_roundw
      case rel => exact ⟨k + 1, by omega, by go_num, below_drewN hB _⟩
      case measure => simp [intOf]; omega
    · go_wp2
      go_returns
      exact ⟨rfl, hB⟩
theorem eqIntS_same (v1 v2 : Value) (b1 b2 : Nat) (l : List Int) (w : World) (h1 : Ints w b1 v1 l) (h2 : Ints w b2 v2 l) :
    Calls Tryd.prog 19 #[v1, v2] w fun e w' => e = .returned (.bool true) ∧ Below w.heap.size w w' := by
  rcases h1.form with ⟨rfl, a, c, rfl⟩ | ⟨hne, g, c, rfl, _, hg, _⟩
  · rcases h2.form with ⟨_, a2, d, rfl⟩ | ⟨hne, _⟩
    · exact eqIntS_nil a a2 c d w
    · exact absurd rfl hne
  · rcases h2.form with ⟨h, _⟩ | ⟨_, g2, d, rfl, _, hg2, _⟩
    · exact absurd h hne
    · exact eqIntS_row g g2 c d b1 b2 l w h1 h2 hg hg2

/-! marked -/
/-- k, k + 1, .. -/
def marks (k : Nat) (n : Nat) : List Int := (List.range n).map fun j => ((k + j : Nat) : Int)
theorem marks_len (k n : Nat) : (marks k n).length = n := by simp [marks]
theorem marks_get (k n j : Nat) (h : j < n) : (marks k n)[j]?.getD 0 = ((k + j : Nat) : Int) := by simp [marks, h]
theorem marks_succ (k n : Nat) : marks k (n + 1) = marks k n ++ [((k + n : Nat) : Int)] := by simp [marks, List.range_succ]
theorem set_mark (l : List Int) (k j : Nat) (h : j < l.length) : (intsV (marks k j ++ l.drop j)).set j (.int .i64 ((k + j : Nat) : Int)) = intsV (marks k (j + 1) ++ l.drop (j + 1)) := by
  unfold intsV
  rw [← List.map_set, List.set_append_right _ _ (by rw [marks_len]; exact Nat.le_refl _), marks_len, Nat.sub_self, marks_succ]
  rw [List.drop_eq_getElem_cons h, List.set_cons_zero]
  simp
theorem Ints.marked {w : World} {base g c n : Nat} {l : List Int} {k j : Nat} (hn : n = l.length) (hj : j < n) (h : w.ownsRow base 3 1 (.slice (some ⟨g, 0, none⟩) n c) n (intsV (marks k j ++ l.drop j))) :
    (w.setCell ⟨g, j, none⟩ (.int .i64 ((k + j : Nat) : Int))).ownsRow base 3 1 (.slice (some ⟨g, 0, none⟩) n c) n (intsV (marks k (j + 1) ++ l.drop (j + 1))) ∧ w.grownBy (w.setCell ⟨g, j, none⟩ (.int .i64 ((k + j : Nat) : Int))) (some g) := by
  have := h.stored j (.int .i64 ((k + j : Nat) : Int))
  rwa [set_mark l k j (by omega)] at this
set_option maxHeartbeats 2000000 in
theorem markIntS_nil (a : Option Addr) (c : Nat) (k : Nat) (w : World) :
    Calls Tryd.prog 22 #[.slice a 0 c, .int .i64 k] w fun e w' => e = .returned (.int .i64 k) ∧ w = w' := by
  go_enter Tryd.func22, Tryd.ntmps22
  go_wp2
  refine wp_loop_rounds 1 ?_
  rw [rounds_succ]
  go_wp2
  go_returns
  exact ⟨rfl, rfl⟩
def Marked (w : World) (b g c k n : Nat) (e : Ending) (w' : World) : Prop := e = .returned (.int .i64 ((k + n : Nat) : Int)) ∧ w'.ownsRow b 3 1 (.slice (some ⟨g, 0, none⟩) n c) n (intsV (marks k n)) ∧ w.grownBy w' (some g)
set_option maxHeartbeats 4000000 in
theorem markIntS_row (g c b k n : Nat) (l : List Int) (w : World) (hn : n = l.length) (h1 : w.ownsRow b 3 1 (.slice (some ⟨g, 0, none⟩) n c) n (intsV l)) (hk : k ≤ 1000) (hm : n ≤ 1152921504606846976) :
    Calls Tryd.prog 22 #[.slice (some ⟨g, 0, none⟩) n c, .int .i64 k] w (Marked w b g c k n) := by
  have HN := Lib.hid hn
  clear hn
  have HO : Hid (w.ownsRow b 3 1 (.slice (some ⟨g, 0, none⟩) n c) n (intsV (marks k 0 ++ l.drop 0))) := h1
  clear h1
  go_enter Tryd.func22, Tryd.ntmps22
  go_wp2
  go_loopw [1, 5] (fun m i wr => ∃ j : Nat, j ≤ n ∧ m = .int .i64 ((k + j : Nat) : Int) ∧ i = .int .i64 j ∧ Hid (wr.ownsRow b 3 1 (.slice (some ⟨g, 0, none⟩) n c) n (intsV (marks k j ++ l.drop j))) ∧ w.grownBy wr (some g)) (fun _ i _ => n - (intOf i).toNat)
  case atStart => exact ⟨0, Nat.zero_le _, rfl, rfl, HO, World.grownBy.refl _ _⟩
  case round =>
    obtain ⟨j, hj, rfl, rfl, hO, hG⟩ := hrel
    by_cases hlt : j < n
    · have R := Ints.marked HN.out hlt hO.out
      have F := World.ownsRow.frozenAt hO.out j
      have hc := World.ownsRow.cellAt hO.out j (by omega)
      obtain ⟨u, hu⟩ : ∃ u, (intsV (marks k j ++ l.drop j))[j]? = some u := ⟨_, List.getElem?_eq_getElem (by have := hO.out.1; omega)⟩
      rw [hu] at hc
      have R1 := Lib.hid R.1
      have R2 := Lib.hid (hG.trans R.2)
      clear R hO hG hu
      have e1 : IntKind.i64.wrap (((k + j : Nat) : Int) + 1) = ((k + (j + 1) : Nat) : Int) := by rw [IntKind.wrap_i64]; omega
      go_wp2
      go_roundw
      case rel => exact ⟨j + 1, by omega, by go_num, by go_num, R1, R2.out⟩
      case measure => simp [intOf]; omega
    · have : j = n := by omega
      subst this
      have hO' := hO.out
      rw [List.drop_of_length_le (by have := HN.out; omega), List.append_nil] at hO'
      have HO2 := Lib.hid hO'
      clear hO hO'
      go_wp2
      go_returns
      exact ⟨rfl, HO2.out, hG⟩
end Go.Proofs.YtncjidkgbfilkabDoor
