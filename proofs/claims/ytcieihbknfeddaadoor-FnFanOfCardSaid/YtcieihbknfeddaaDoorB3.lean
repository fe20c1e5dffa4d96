import Derived.Test.YtcieihbknfeddaaDoorB1
import Derived.Handy
import Derived.Lib.Hide
import Derived.Deep.AppendLies
import Derived.Laws.OwnMore
import Derived.Laws.MakeOwn
import Derived.OwnWalk
import Derived.Deep.RegionHeld3
import Derived.Deep.DeepCutAuto
import Derived.Test.YtcieihbknfeddaaDoorB2
/- Slices of whole numbers that the call owns: read, compared, marked. -/
namespace Go.Proofs.YtcieihbknfeddaaDoor
open Go.RowKit

theorem infoInt : (Tryd.prog.info? 3).map (fun i => (i.zero, i.size, i.bytes)) = some (some (.int .i64 0), 1, 8) := by kernel_rfl
def intsV (l : List Int) : List Value := l.map (Value.int .i64)
/-- A slice of the call's own, from block 'base' on, that holds the numbers l. -/
def Ints (w : World) (base : Nat) (v : Value) (l : List Int) : Prop := w.ownsRow base 3 1 v l.length (intsV l)
theorem grown_of_below {w w' : World} (h : Below w.heap.size w w') (row : Option Nat) : w.grownBy w' row := ⟨h.os, h.tape, h.output, h.size, fun i hi _ => h.block i hi⟩
theorem Ints.below {w w' : World} {base : Nat} {v : Value} {l : List Int} (h : Ints w base v l) (hb : Below w.heap.size w w') : Ints w' base v l := by
  unfold Ints at *
  refine h.kept (row := none) (grown_of_below hb none) ?_
  cases v.ownBlock with
  | none => exact .inl rfl
  | some k => exact .inr (by simp)
theorem Ints.far {w w' : World} {base : Nat} {v : Value} {l : List Int} {row : Option Nat} (h : Ints w base v l) (hg : w.grownBy w' row) (hne : ∀ k, v.ownBlock = some k → row ≠ some k) : Ints w' base v l := by
  unfold Ints at *
  refine h.kept hg ?_
  cases hv : v.ownBlock with
  | none => exact .inl rfl
  | some k => exact .inr (fun e => hne k hv e.symm)
theorem Ints.nil (w : World) (base : Nat) : Ints w base (.slice none 0 0) [] := World.ownsRow_nil _ _ _ _
theorem Ints.lower {w : World} {base base' : Nat} {v : Value} {l : List Int} (h : Ints w base v l) (hb : base' ≤ base) : Ints w base' v l := by
  obtain ⟨h1, h2⟩ := h
  refine ⟨h1, ?_⟩
  rcases h2 with h2 | ⟨g, cap, cur, e1, e2, r⟩
  · exact .inl h2
  · exact .inr ⟨g, cap, cur, e1, Nat.le_trans hb e2, r⟩
/-- its form: empty, or its first cells lie in a block of their own -/
theorem Ints.form {w : World} {base : Nat} {v : Value} {l : List Int} (h : Ints w base v l) :
    (l = [] ∧ ∃ a c, v = .slice a 0 c) ∨ (l ≠ [] ∧ ∃ g c, v = .slice (some ⟨g, 0, none⟩) l.length c ∧ base ≤ g ∧ g < w.heap.size ∧ l.length ≤ c) := by
  rcases h.2 with ⟨h1, h2⟩ | ⟨g, cap, cur, rfl, h3, h4, h5, _⟩
  · exact .inl ⟨List.eq_nil_of_length_eq_zero h2, none, 0, h1⟩
  · rcases Nat.eq_zero_or_pos l.length with h0 | h0
    · exact .inl ⟨List.eq_nil_of_length_eq_zero h0, _, cap, by rw [h0]⟩
    · refine .inr ⟨fun e => by simp [e] at h0, g, cap, rfl, h3, ?_, h5⟩
      rcases Nat.lt_or_ge g w.heap.size with hlt | hge
      · exact hlt
      · rw [Array.getElem?_eq_none hge] at h4; cases h4
theorem intsV_get (l : List Int) (j : Nat) (h : j < l.length) : (intsV l)[j]? = some (.int .i64 (l[j]?.getD 0)) := by
  simp [intsV, h]
theorem Ints.cell {w : World} {base g c : Nat} {l : List Int} (h : Ints w base (.slice (some ⟨g, 0, none⟩) l.length c) l) (j : Nat) (hj : j < l.length) : w.cell? ⟨g, j, none⟩ = some (.int .i64 (l[j]?.getD 0)) := by
  rw [World.ownsRow.cellAt h j (by omega), intsV_get l j hj]
theorem Ints.free {w : World} {base g c n : Nat} {l : List Int} (h : w.ownsRow base 3 1 (.slice (some ⟨g, 0, none⟩) n c) n (intsV l)) (j : Nat) : w.frozen? ⟨g, j, none⟩ = false := World.ownsRow.frozenAt h j
theorem Ints.len_le {w : World} {base : Nat} {v : Value} {l : List Int} (h : Ints w base v l) : l.length ≤ maxLen := by
  rcases h.2 with ⟨_, h2⟩ | ⟨g, cap, cur, _, _, _, h5, h6, _⟩
  · omega
  · omega
theorem Ints.block {w : World} {base : Nat} {v : Value} {l : List Int} (h : Ints w base v l) : ∀ k, v.ownBlock = some k → base ≤ k ∧ k < w.heap.size := World.ownsRow.lt h
/-- What a call leaves that hands back numbers in memory of its own. -/
def GivesInts (w : World) (l : List Int) (e : Ending) (w' : World) : Prop := ∃ v, e = .returned v ∧ Ints w' w.heap.size v l ∧ Below w.heap.size w w'
def GivesIntsOk (w : World) (l : List Int) (b : Bool) (e : Ending) (w' : World) : Prop := ∃ v, e = .returned (.tuple #[v, .bool b]) ∧ Ints w' w.heap.size v l ∧ Below w.heap.size w w'

/-! two that hold the same -/
set_option maxHeartbeats 2000000 in
theorem eqIntS_nil (a b : Option Addr) (c d : Nat) (w : World) :
    Calls Tryd.prog 45 #[.slice a 0 c, .slice b 0 d] w fun e w' => e = .returned (.bool true) ∧ Below w.heap.size w w' := by
  go_enter Tryd.func45, Tryd.ntmps45
  go_wp2
  refine wp_loop_rounds 1 ?_
  rw [rounds_succ]
  go_wp2
  go_returns
  exact ⟨rfl, Below.refl _ _⟩
set_option maxHeartbeats 4000000 in
theorem eqIntS_row (g g2 c d b1 b2 : Nat) (l : List Int) (w : World) (h1 : Ints w b1 (.slice (some ⟨g, 0, none⟩) l.length c) l) (h2 : Ints w b2 (.slice (some ⟨g2, 0, none⟩) l.length d) l)
    (hg : g < w.heap.size) (hg2 : g2 < w.heap.size) :
    Calls Tryd.prog 45 #[.slice (some ⟨g, 0, none⟩) l.length c, .slice (some ⟨g2, 0, none⟩) l.length d] w fun e w' => e = .returned (.bool true) ∧ Below w.heap.size w w' := by
  obtain ⟨n, hn⟩ : ∃ n, n = l.length := ⟨_, rfl⟩
  have hm : n ≤ 9223372036854775807 := by have := h1.len_le; unfold maxLen at this; omega
  have HC : Hid (∀ j, j < n → w.cell? ⟨g, j, none⟩ = some (.int .i64 (l[j]?.getD 0)) ∧ w.cell? ⟨g2, j, none⟩ = some (.int .i64 (l[j]?.getD 0))) := by
    intro j hj
    exact ⟨h1.cell j (by omega), h2.cell j (by omega)⟩
  rw [← hn]
  clear h1 h2 hn
  go_enter Tryd.func45, Tryd.ntmps45
  go_wp2
  go_loopw [5] (fun i wr => ∃ k : Nat, k ≤ n ∧ i = .int .i64 k ∧ Below w.heap.size w wr) (fun i _ => n - (intOf i).toNat)
  case atStart => exact ⟨0, Nat.zero_le _, rfl, Below.refl _ _⟩
  case round =>
    obtain ⟨k, hk, rfl, hB⟩ := hrel
    by_cases hlt : k < n
    · have c1 : wr.cell? ⟨g, k, none⟩ = some (.int .i64 (l[k]?.getD 0)) := (hB.cell (p := ⟨g, k, none⟩) hg).trans (HC.out k hlt).1
      have c2 : wr.cell? ⟨g2, k, none⟩ = some (.int .i64 (l[k]?.getD 0)) := (hB.cell (p := ⟨g2, k, none⟩) hg2).trans (HC.out k hlt).2
      generalize l[k]?.getD 0 = z at c1 c2
      have i1 : (0 : Int) ≤ (k : Int) := by omega
      have i2 : (k : Int) < (n : Int) := by omega
      go_wp2_with fail
      go_quiet (fail)
      go_wp2
      go_roundw
      case rel => exact ⟨k + 1, by omega, by go_num, below_drewN hB _⟩
      case measure => simp [intOf]; omega
    · go_wp2
      go_returns
      exact ⟨rfl, hB⟩
theorem eqIntS_same (v1 v2 : Value) (b1 b2 : Nat) (l : List Int) (w : World) (h1 : Ints w b1 v1 l) (h2 : Ints w b2 v2 l) :
    Calls Tryd.prog 45 #[v1, v2] w fun e w' => e = .returned (.bool true) ∧ Below w.heap.size w w' := by
  rcases h1.form with ⟨rfl, a, c, rfl⟩ | ⟨hne, g, c, rfl, _, hg, _⟩
  · rcases h2.form with ⟨_, a2, d, rfl⟩ | ⟨hne, _⟩
    · exact eqIntS_nil a a2 c d w
    · exact absurd rfl hne
  · rcases h2.form with ⟨h, _⟩ | ⟨_, g2, d, rfl, _, hg2, _⟩
    · exact absurd h hne
    · exact eqIntS_row g g2 c d b1 b2 l w h1 h2 hg hg2

/-! marked -/
/-- k, k + 1, .. -/
def marks (k : Nat) (n : Nat) : List Int := (List.range n).map fun j => ((k + j : Nat) : Int)
theorem marks_len (k n : Nat) : (marks k n).length = n := by simp [marks]
theorem marks_get (k n j : Nat) (h : j < n) : (marks k n)[j]?.getD 0 = ((k + j : Nat) : Int) := by simp [marks, h]
theorem marks_succ (k n : Nat) : marks k (n + 1) = marks k n ++ [((k + n : Nat) : Int)] := by simp [marks, List.range_succ]
theorem set_mark (l : List Int) (k j : Nat) (h : j < l.length) : (intsV (marks k j ++ l.drop j)).set j (.int .i64 ((k + j : Nat) : Int)) = intsV (marks k (j + 1) ++ l.drop (j + 1)) := by
  unfold intsV
  rw [← List.map_set, List.set_append_right _ _ (by rw [marks_len]; exact Nat.le_refl _), marks_len, Nat.sub_self, marks_succ]
  rw [List.drop_eq_getElem_cons h, List.set_cons_zero]
  simp
theorem Ints.marked {w : World} {base g c n : Nat} {l : List Int} {k j : Nat} (hn : n = l.length) (hj : j < n) (h : w.ownsRow base 3 1 (.slice (some ⟨g, 0, none⟩) n c) n (intsV (marks k j ++ l.drop j))) :
    (w.setCell ⟨g, j, none⟩ (.int .i64 ((k + j : Nat) : Int))).ownsRow base 3 1 (.slice (some ⟨g, 0, none⟩) n c) n (intsV (marks k (j + 1) ++ l.drop (j + 1))) ∧ w.grownBy (w.setCell ⟨g, j, none⟩ (.int .i64 ((k + j : Nat) : Int))) (some g) := by
  have := h.stored j (.int .i64 ((k + j : Nat) : Int))
  rwa [set_mark l k j (by omega)] at this
set_option maxHeartbeats 2000000 in
theorem markIntS_nil (a : Option Addr) (c : Nat) (k : Nat) (w : World) :
    Calls Tryd.prog 46 #[.slice a 0 c, .int .i64 k] w fun e w' => e = .returned (.int .i64 k) ∧ w = w' := by
  go_enter Tryd.func46, Tryd.ntmps46
  go_wp2
  refine wp_loop_rounds 1 ?_
  rw [rounds_succ]
  go_wp2
  go_returns
  exact ⟨rfl, rfl⟩
def Marked (w : World) (b g c k n : Nat) (e : Ending) (w' : World) : Prop := e = .returned (.int .i64 ((k + n : Nat) : Int)) ∧ w'.ownsRow b 3 1 (.slice (some ⟨g, 0, none⟩) n c) n (intsV (marks k n)) ∧ w.grownBy w' (some g)
set_option maxHeartbeats 4000000 in
theorem markIntS_row (g c b k n : Nat) (l : List Int) (w : World) (hn : n = l.length) (h1 : w.ownsRow b 3 1 (.slice (some ⟨g, 0, none⟩) n c) n (intsV l)) (hk : k ≤ 1125899906842624) (hm : n ≤ 1152921504606846976) :
    Calls Tryd.prog 46 #[.slice (some ⟨g, 0, none⟩) n c, .int .i64 k] w (Marked w b g c k n) := by
  have HN := Lib.hid hn
  clear hn
  have HO : Hid (w.ownsRow b 3 1 (.slice (some ⟨g, 0, none⟩) n c) n (intsV (marks k 0 ++ l.drop 0))) := h1
  clear h1
  go_enter Tryd.func46, Tryd.ntmps46
  go_wp2
  go_loopw [1, 5] (fun m i wr => ∃ j : Nat, j ≤ n ∧ m = .int .i64 ((k + j : Nat) : Int) ∧ i = .int .i64 j ∧ Hid (wr.ownsRow b 3 1 (.slice (some ⟨g, 0, none⟩) n c) n (intsV (marks k j ++ l.drop j))) ∧ w.grownBy wr (some g)) (fun _ i _ => n - (intOf i).toNat)
  case atStart => exact ⟨0, Nat.zero_le _, rfl, rfl, HO, World.grownBy.refl _ _⟩
  case round =>
    obtain ⟨j, hj, rfl, rfl, hO, hG⟩ := hrel
    by_cases hlt : j < n
    · have R := Ints.marked HN.out hlt hO.out
      have F := World.ownsRow.frozenAt hO.out j
      have hc := World.ownsRow.cellAt hO.out j (by omega)
      obtain ⟨u, hu⟩ : ∃ u, (intsV (marks k j ++ l.drop j))[j]? = some u := ⟨_, List.getElem?_eq_getElem (by have := hO.out.1; omega)⟩
      rw [hu] at hc
      have R1 := Lib.hid R.1
      have R2 := Lib.hid (hG.trans R.2)
      clear R hO hG hu
      have e1 : IntKind.i64.wrap (((k + j : Nat) : Int) + 1) = ((k + (j + 1) : Nat) : Int) := by rw [IntKind.wrap_i64]; omega
      go_wp2
      go_roundw
      case rel => exact ⟨j + 1, by omega, by go_num, by go_num, R1, R2.out⟩
      case measure => simp [intOf]; omega
    · have : j = n := by omega
      subst this
      have hO' := hO.out
      rw [List.drop_of_length_le (by have := HN.out; omega), List.append_nil] at hO'
      have HO2 := Lib.hid hO'
      clear hO hO'
      go_wp2
      go_returns
      exact ⟨rfl, HO2.out, hG⟩
end Go.Proofs.YtcieihbknfeddaaDoor

/- Slices of whole numbers: held, copied; fractions made. -/
namespace Go.Proofs.YtcieihbknfeddaaDoor
open Go.RowKit

set_option maxHeartbeats 2000000 in
theorem heldIntS_nil (a : Option Addr) (c : Nat) (k : Nat) (w : World) :
    Calls Tryd.prog 47 #[.slice a 0 c, .int .i64 k] w fun e w' => e = .returned (.int .i64 k) ∧ w = w' := by
  go_enter Tryd.func47, Tryd.ntmps47
  go_wp2
  refine wp_loop_rounds 1 ?_
  rw [rounds_succ]
  go_wp2
  go_returns
  exact ⟨rfl, rfl⟩
set_option maxHeartbeats 4000000 in
theorem heldIntS_row (g c b k n : Nat) (w : World) (h1 : w.ownsRow b 3 1 (.slice (some ⟨g, 0, none⟩) n c) n (intsV (marks k n))) (hk : k ≤ 1000) (hm : n ≤ 1152921504606846976) :
    Calls Tryd.prog 47 #[.slice (some ⟨g, 0, none⟩) n c, .int .i64 k] w fun e w' => e = .returned (.int .i64 ((k + n : Nat) : Int)) ∧ w = w' := by
  have HC : Hid (∀ j, j < n → w.cell? ⟨g, j, none⟩ = some (.int .i64 ((k + j : Nat) : Int))) := by
    intro j hj
    rw [World.ownsRow.cellAt h1 j (by omega), intsV_get _ j (by rw [marks_len]; exact hj), marks_get k n j hj]
  clear h1
  go_enter Tryd.func47, Tryd.ntmps47
  go_wp2
  go_loop [1, 5] (fun m i => ∃ j : Nat, j ≤ n ∧ m = .int .i64 ((k + j : Nat) : Int) ∧ i = .int .i64 j) (fun _ i => n - (intOf i).toNat)
  case atStart => exact ⟨0, Nat.zero_le _, rfl, rfl⟩
  case round =>
    obtain ⟨j, hj, rfl, rfl⟩ := hrel
    by_cases hlt : j < n
    · have c1 := HC.out j hlt
      go_wp2
      go_round
      case rel => exact ⟨j + 1, by omega, by go_num, by go_num⟩
      case measure => simp [intOf]; omega
    · have : j = n := by omega
      subst this
      go_wp2
      go_returns
      exact ⟨rfl, rfl⟩
/-- A slice that came in: it may begin anywhere. -/
def ReadsInts (w : World) (v : Value) (l : List Int) : Prop := ∃ a c, v = .slice a l.length c ∧ l.length ≤ 1152921504606846976 ∧ (0 < l.length → ∃ bb off, a = some ⟨bb, off, none⟩ ∧ bb < w.heap.size ∧ ∀ j, j < l.length → w.cell? ⟨bb, off + j, none⟩ = some (.int .i64 (l[j]?.getD 0)))
theorem ReadsInts.below {w w' : World} {v : Value} {l : List Int} (h : ReadsInts w v l) (hb : Below w.heap.size w w') : ReadsInts w' v l := by
  obtain ⟨a, c, h1, h2, h3⟩ := h
  refine ⟨a, c, h1, h2, fun h0 => ?_⟩
  obtain ⟨bb, off, h4, h5, h6⟩ := h3 h0
  exact ⟨bb, off, h4, Nat.lt_of_lt_of_le h5 hb.size, fun j hj => (hb.cell (p := ⟨bb, off + j, none⟩) h5).trans (h6 j hj)⟩
theorem Ints.reads {w : World} {base : Nat} {v : Value} {l : List Int} (h : Ints w base v l) (hl : l.length ≤ 1152921504606846976) : ReadsInts w v l := by
  rcases h.form with ⟨rfl, a, c, rfl⟩ | ⟨hne, g, c, rfl, _, hg, _⟩
  · exact ⟨a, c, rfl, hl, fun h0 => absurd h0 (by simp)⟩
  · exact ⟨_, c, rfl, hl, fun _ => ⟨g, 0, rfl, hg, fun j hj => by rw [Nat.zero_add]; exact h.cell j hj⟩⟩

/-! fractions made -/
set_option maxHeartbeats 4000000 in
theorem fractionOf_any (n q : Int) (w : World) (h0 : 0 ≤ q) (h1 : q < n) (h2 : n ≤ 2000000) :
    Calls Tryd.prog 178 #[.int .i64 n, .int .i64 q] w (GivesInts w (fracZ n q)) := by
  obtain ⟨i0, hi, hz0, hz1, hz2⟩ := info_parts infoInt
  go_enter Tryd.func178, Tryd.ntmps178
  go_wp2
  go_loopw [0, 1, 5] (fun s0 s1 s5 wr => ∃ (x y : Int) (done : List Int), s0 = .int .i64 x ∧ s1 = .int .i64 y ∧ Hid (Ints wr w.heap.size s5 done ∧ fracZ n q = done ++ fracZ x y) ∧ 0 ≤ y ∧ y < x ∧ x ≤ 2000000 ∧ done.length + y.toNat ≤ 2000000 ∧ Below w.heap.size w wr) (fun _ s1 _ _ => (intOf s1).toNat)
  case atStart => exact ⟨n, q, [], rfl, rfl, ⟨Ints.nil _ _, rfl⟩, h0, h1, h2, by simp; omega, Below.refl _ _⟩
  case round =>
    obtain ⟨x, y, done, rfl, rfl, HH, y0, yx, xm, hl, hB⟩ := hrel
    by_cases hy : 0 < y
    · have f1 : x ≤ (x + y - 1) / y * y := up_ge hy
      have f2 : (x + y - 1) / y * y < x + y := up_lt hy
      have f3 : (x + y - 1) / y ≤ x := up_le hy (by omega)
      have f4 : 2 ≤ (x + y - 1) / y := up_two hy yx
      have hown : wr.ownsRow w.heap.size 3 1 _ _ _ := HH.out.1
      have hbs := hB.size
      have hnext := HH.out.2
      rw [frac_pos x hy] at hnext
      have HN := Lib.hid hnext
      clear hnext HH
      go_wp2_with (at_builtin; refine wpList_append_own _ rfl _ _ 163 rfl w.heap.size 3 i0 (.int .i64 0) 1 8 Tryd.underlying163 hi hz0 hz1 hz2 rfl (by decide) _ _ _ rfl (hown.alloc _) ⟨wr.heap.size, 0, none⟩ 1 1 [.int .i64 ((x + y - 1) / y)] rfl rfl ?c1 ?c2 ?c3 ?c4 ?c5 ?_)
      case c1 =>
        intro j u hj
        match j, hj with
        | 0, hj => simp at hj; subst hj; simp [Addr.add]
      case c2 => intro u hu; simp at hu; subst hu; rfl
      case c3 => unfold maxLen; omega
      case c4 => omega
      case c5 => simp; omega
      intro v' w1 hown' hgrow _
      have hB1 : Below w.heap.size w w1 := (hB.alloc hbs _).grown hgrow (by simp; omega) (fun k hk => (hown.lt k hk).1)
      have H1 : Hid (Ints w1 w.heap.size v' (done ++ [upZ x y]) ∧ fracZ n q = (done ++ [upZ x y]) ++ fracZ y (upZ x y * y - x)) := by
        refine ⟨?_, by rw [HN.out]; simp⟩
        have : intsV (done ++ [upZ x y]) = intsV done ++ [.int .i64 ((x + y - 1) / y)] := by simp [intsV, upZ]
        unfold Ints
        rw [this, List.length_append]
        exact hown'
      clear hown hown' hgrow HN hB
      go_wp2
      go_roundw
      case rel => exact ⟨y, (x + y - 1) / y * y - x, done ++ [upZ x y], rfl, rfl, H1, by omega, by omega, by omega, by simp; omega, hB1⟩
      case measure => simp [intOf]; omega
    · have H := HH.out.1
      have he := HH.out.2
      rw [frac_zero x hy, List.append_nil] at he
      rw [← he] at H
      have H' := Lib.hid H
      clear H he HH
      go_wp2
      go_returns
      exact ⟨_, rfl, H'.out, hB⟩
end Go.Proofs.YtcieihbknfeddaaDoor

/- Slices of whole numbers: marked, held: for whatever slice the call owns. -/
namespace Go.Proofs.YtcieihbknfeddaaDoor
open Go.RowKit

theorem Ints.as {w : World} {b g c n : Nat} {l : List Int} (hn : n = l.length) (h : w.ownsRow b 3 1 (.slice (some ⟨g, 0, none⟩) n c) n (intsV l)) : Ints w b (.slice (some ⟨g, 0, none⟩) n c) l := by
  subst hn; exact h
def MarkedV (w : World) (b : Nat) (v : Value) (n : Nat) (e : Ending) (w' : World) : Prop := e = .returned (.int .i64 ((1 + n : Nat) : Int)) ∧ Ints w' b v (marks 1 n) ∧ w.grownBy w' v.ownBlock
theorem markIntS_own (v : Value) (b : Nat) (l : List Int) (w : World) (I : Ints w b v l) (hm : l.length ≤ 1152921504606846976) :
    Calls Tryd.prog 46 #[v, .int .i64 1] w (MarkedV w b v l.length) := by
  have h1 : (1 : Int) = ((1 : Nat) : Int) := rfl
  rw [h1]
  rcases I.form with ⟨rfl, a, c, rfl⟩ | ⟨hne, g, c, rfl, _, _, _⟩
  · refine Calls.mono (markIntS_nil a c 1 w) ?_
    rintro e w' ⟨rfl, rfl⟩
    exact ⟨rfl, I, World.grownBy.refl _ _⟩
  · refine Calls.mono (markIntS_row g c b 1 l.length l w rfl I (by omega) hm) ?_
    rintro e w' ⟨rfl, h2, h3⟩
    exact ⟨rfl, Ints.as (marks_len 1 l.length).symm h2, h3⟩
theorem heldIntS_own (v : Value) (b n : Nat) (w : World) (I : Ints w b v (marks 1 n)) (hm : n ≤ 1152921504606846976) :
    Calls Tryd.prog 47 #[v, .int .i64 1] w fun e w' => e = .returned (.int .i64 ((1 + n : Nat) : Int)) ∧ w = w' := by
  have h1 : (1 : Int) = ((1 : Nat) : Int) := rfl
  rw [h1]
  rcases I.form with ⟨h0, a, c, rfl⟩ | ⟨hne, g, c, rfl, _, _, _⟩
  · have hn : n = 0 := by have := marks_len 1 n; rw [h0] at this; exact this.symm
    subst hn
    exact heldIntS_nil a c 1 w
  · rw [marks_len] at I ⊢
    have I' : w.ownsRow b 3 1 (.slice (some ⟨g, 0, none⟩) n c) n (intsV (marks 1 n)) := by
      have := I; unfold Ints at this; rwa [marks_len] at this
    exact heldIntS_row g c b 1 n w I' (by omega) hm
/-- what a write into one block of the call's own leaves of the rest -/
theorem grown_below {w w' : World} {v : Value} {b : Nat} (hg : w.grownBy w' v.ownBlock) (hb : b ≤ w.heap.size) (hv : ∀ k, v.ownBlock = some k → b ≤ k) : Below b w w' := (Below.refl b w).grown hg hb hv
end Go.Proofs.YtcieihbknfeddaaDoor

/- Slices of vectors that the call owns: read, compared, marked, held. -/
namespace Go.Proofs.YtcieihbknfeddaaDoor
open Go.RowKit

/-- the numbers of a list of vectors, one behind the other -/
def flat : List (Int × Int) → List Int
  | [] => []
  | p :: l => p.1 :: p.2 :: flat l
theorem flat_len (l : List (Int × Int)) : (flat l).length = 2 * l.length := by
  induction l with
  | nil => rfl
  | cons p l ih => simp only [flat, List.length_cons, ih]; omega
theorem flat_app (l m : List (Int × Int)) : flat (l ++ m) = flat l ++ flat m := by
  induction l with
  | nil => rfl
  | cons p l ih => simp only [List.cons_append, flat, ih]
/-- A slice of the call's own of n vectors, from block 'base' on, whose cells hold the numbers f. -/
def VRow (w : World) (base : Nat) (v : Value) (n : Nat) (f : List Int) : Prop := w.ownsRow base 26 2 v n (intsV f)
/-- .. that holds the vectors l -/
def Vecs (w : World) (base : Nat) (v : Value) (l : List (Int × Int)) : Prop := VRow w base v l.length (flat l)
theorem VRow.below {w w' : World} {base n : Nat} {v : Value} {f : List Int} (h : VRow w base v n f) (hb : Below w.heap.size w w') : VRow w' base v n f := by
  unfold VRow at *
  refine h.kept (row := none) (grown_of_below hb none) ?_
  cases v.ownBlock with
  | none => exact .inl rfl
  | some k => exact .inr (by simp)
theorem VRow.far {w w' : World} {base n : Nat} {v : Value} {f : List Int} {row : Option Nat} (h : VRow w base v n f) (hg : w.grownBy w' row) (hne : ∀ k, v.ownBlock = some k → row ≠ some k) : VRow w' base v n f := by
  unfold VRow at *
  refine h.kept hg ?_
  cases hv : v.ownBlock with
  | none => exact .inl rfl
  | some k => exact .inr (fun e => hne k hv e.symm)
theorem VRow.lower {w : World} {base base' n : Nat} {v : Value} {f : List Int} (h : VRow w base v n f) (hb : base' ≤ base) : VRow w base' v n f := by
  obtain ⟨h1, h2⟩ := h
  refine ⟨h1, ?_⟩
  rcases h2 with h2 | ⟨g, cap, cur, e1, e2, r⟩
  · exact .inl h2
  · exact .inr ⟨g, cap, cur, e1, Nat.le_trans hb e2, r⟩
theorem VRow.block {w : World} {base n : Nat} {v : Value} {f : List Int} (h : VRow w base v n f) : ∀ k, v.ownBlock = some k → base ≤ k ∧ k < w.heap.size := World.ownsRow.lt h
theorem VRow.flen {w : World} {base n : Nat} {v : Value} {f : List Int} (h : VRow w base v n f) : f.length = n * 2 := by
  have := h.1
  simpa [intsV] using this
theorem VRow.len_le {w : World} {base n : Nat} {v : Value} {f : List Int} (h : VRow w base v n f) : n ≤ maxLen := by
  rcases h.2 with ⟨_, h2⟩ | ⟨g, cap, cur, _, _, _, h5, h6, _⟩
  · omega
  · omega
theorem VRow.form {w : World} {base n : Nat} {v : Value} {f : List Int} (h : VRow w base v n f) :
    (n = 0 ∧ f = [] ∧ ∃ a c, v = .slice a 0 c) ∨ (0 < n ∧ ∃ g c, v = .slice (some ⟨g, 0, none⟩) n c ∧ base ≤ g ∧ g < w.heap.size ∧ n ≤ c) := by
  have hf := h.flen
  rcases h.2 with ⟨h1, h2⟩ | ⟨g, cap, cur, rfl, h3, h4, h5, _⟩
  · subst h2
    exact .inl ⟨rfl, List.eq_nil_of_length_eq_zero (by omega), none, 0, h1⟩
  · rcases Nat.eq_zero_or_pos n with h0 | h0
    · subst h0
      exact .inl ⟨rfl, List.eq_nil_of_length_eq_zero (by omega), _, cap, rfl⟩
    · refine .inr ⟨h0, g, cap, rfl, h3, ?_, h5⟩
      rcases Nat.lt_or_ge g w.heap.size with hlt | hge
      · exact hlt
      · rw [Array.getElem?_eq_none hge] at h4; cases h4
theorem VRow.cell {w : World} {base g c n : Nat} {f : List Int} (h : VRow w base (.slice (some ⟨g, 0, none⟩) n c) n f) (j : Nat) (hj : j < n * 2) : w.cell? ⟨g, j, none⟩ = some (.int .i64 (f[j]?.getD 0)) := by
  have hf := h.flen
  unfold VRow at h
  rw [World.ownsRow.cellAt h j (by omega), intsV_get f j (by omega)]
theorem Vecs.nil (w : World) (base : Nat) : Vecs w base (.slice none 0 0) [] := World.ownsRow_nil _ _ _ _
theorem Vecs.below {w w' : World} {base : Nat} {v : Value} {l : List (Int × Int)} (h : Vecs w base v l) (hb : Below w.heap.size w w') : Vecs w' base v l := VRow.below h hb
theorem Vecs.far {w w' : World} {base : Nat} {v : Value} {l : List (Int × Int)} {row : Option Nat} (h : Vecs w base v l) (hg : w.grownBy w' row) (hne : ∀ k, v.ownBlock = some k → row ≠ some k) : Vecs w' base v l := VRow.far h hg hne
theorem Vecs.lower {w : World} {base base' : Nat} {v : Value} {l : List (Int × Int)} (h : Vecs w base v l) (hb : base' ≤ base) : Vecs w base' v l := VRow.lower h hb
theorem Vecs.block {w : World} {base : Nat} {v : Value} {l : List (Int × Int)} (h : Vecs w base v l) : ∀ k, v.ownBlock = some k → base ≤ k ∧ k < w.heap.size := VRow.block h
def GivesVecs (w : World) (l : List (Int × Int)) (e : Ending) (w' : World) : Prop := ∃ v, e = .returned v ∧ Vecs w' w.heap.size v l ∧ Below w.heap.size w w'
def GivesVecsOk (w : World) (l : List (Int × Int)) (b : Bool) (e : Ending) (w' : World) : Prop := ∃ v, e = .returned (.tuple #[v, .bool b]) ∧ Vecs w' w.heap.size v l ∧ Below w.heap.size w w'

/-! two that hold the same -/
set_option maxHeartbeats 2000000 in
theorem eqVecS_nil (a b : Option Addr) (c d : Nat) (w : World) :
    Calls Tryd.prog 28 #[.slice a 0 c, .slice b 0 d] w fun e w' => e = .returned (.bool true) ∧ Below w.heap.size w w' := by
  go_enter Tryd.func28, Tryd.ntmps28
  go_wp2
  refine wp_loop_rounds 1 ?_
  rw [rounds_succ]
  go_wp2
  go_returns
  exact ⟨rfl, Below.refl _ _⟩
set_option maxHeartbeats 4000000 in
theorem eqVecS_row (g g2 c d b1 b2 n : Nat) (f : List Int) (w : World) (h1 : VRow w b1 (.slice (some ⟨g, 0, none⟩) n c) n f) (h2 : VRow w b2 (.slice (some ⟨g2, 0, none⟩) n d) n f)
    (hg : g < w.heap.size) (hg2 : g2 < w.heap.size) :
    Calls Tryd.prog 28 #[.slice (some ⟨g, 0, none⟩) n c, .slice (some ⟨g2, 0, none⟩) n d] w fun e w' => e = .returned (.bool true) ∧ Below w.heap.size w w' := by
  have hm : n ≤ 9223372036854775807 := by have := h1.len_le; unfold maxLen at this; omega
  have HC : Hid (∀ j, j < n * 2 → w.cell? ⟨g, j, none⟩ = some (.int .i64 (f[j]?.getD 0)) ∧ w.cell? ⟨g2, j, none⟩ = some (.int .i64 (f[j]?.getD 0))) := by
    intro j hj
    exact ⟨h1.cell j (by omega), h2.cell j (by omega)⟩
  clear h1 h2
  go_enter Tryd.func28, Tryd.ntmps28
  go_wp2
  go_loopw [5] (fun i wr => ∃ k : Nat, k ≤ n ∧ i = .int .i64 k ∧ Below w.heap.size w wr) (fun i _ => n - (intOf i).toNat)
  case atStart => exact ⟨0, Nat.zero_le _, rfl, Below.refl _ _⟩
  case round =>
    obtain ⟨k, hk, rfl, hB⟩ := hrel
    by_cases hlt : k < n
    · have c1 : wr.cell? ⟨g, k * 2, none⟩ = some (.int .i64 (f[k * 2]?.getD 0)) := (hB.cell (p := ⟨g, k * 2, none⟩) hg).trans (HC.out _ (by omega)).1
      have c2 : wr.cell? ⟨g2, k * 2, none⟩ = some (.int .i64 (f[k * 2]?.getD 0)) := (hB.cell (p := ⟨g2, k * 2, none⟩) hg2).trans (HC.out _ (by omega)).2
      have c3 : wr.cell? ⟨g, k * 2 + 1, none⟩ = some (.int .i64 (f[k * 2 + 1]?.getD 0)) := (hB.cell (p := ⟨g, k * 2 + 1, none⟩) hg).trans (HC.out _ (by omega)).1
      have c4 : wr.cell? ⟨g2, k * 2 + 1, none⟩ = some (.int .i64 (f[k * 2 + 1]?.getD 0)) := (hB.cell (p := ⟨g2, k * 2 + 1, none⟩) hg2).trans (HC.out _ (by omega)).2
      generalize f[k * 2]?.getD 0 = x at c1 c2
      generalize f[k * 2 + 1]?.getD 0 = y at c3 c4
      have hgr := Nat.lt_of_lt_of_le hg hB.size
      have hgr2 := Nat.lt_of_lt_of_le hg2 hB.size
      have i1 : (0 : Int) ≤ (k : Int) := by omega
      have i2 : (k : Int) < (n : Int) := by omega
      have hBw : Below wr.heap.size wr wr := Below.refl _ _
      go_upto_region 6 with fail
      go_region_held3 (fun w' => w'.cell? ⟨g, k * 2, none⟩ = some (.int .i64 (x)) ∧ w'.cell? ⟨g, k * 2 + 1, none⟩ = some (.int .i64 (y)) ∧ w'.cell? ⟨g2, k * 2, none⟩ = some (.int .i64 (x)) ∧ w'.cell? ⟨g2, k * 2 + 1, none⟩ = some (.int .i64 (y)) ∧ Below wr.heap.size wr w') ((go_split_ands; refine ⟨by (first | (with_reducible assumption) | (go_keep; done) | (go_cell; done) | (go_simp; done) | (simp [*]; done)), by (first | (with_reducible assumption) | (go_keep; done) | (go_cell; done) | (go_simp; done) | (simp [*]; done)), by (first | (with_reducible assumption) | (go_keep; done) | (go_cell; done) | (go_simp; done) | (simp [*]; done)), by (first | (with_reducible assumption) | (go_keep; done) | (go_cell; done) | (go_simp; done) | (simp [*]; done)), by first | (with_reducible assumption) | (go_grown; done)⟩)) (first | (go_at_call 87; go_call (eqVec_same x y _) as e w1 ⟨rfl, hb0⟩; go_split_ands; have q0 : w1.cell? ⟨g, k * 2, none⟩ = some (.int .i64 (x)) := (hb0.cell (p := ⟨g, k * 2, none⟩) (by first | (with_reducible assumption) | (go_size; done) | (simp; omega))).trans (by first | (with_reducible assumption) | (go_keep; done) | (go_cell; done) | (go_simp; done) | (simp [*]; done)); have q1 : w1.cell? ⟨g, k * 2 + 1, none⟩ = some (.int .i64 (y)) := (hb0.cell (p := ⟨g, k * 2 + 1, none⟩) (by first | (with_reducible assumption) | (go_size; done) | (simp; omega))).trans (by first | (with_reducible assumption) | (go_keep; done) | (go_cell; done) | (go_simp; done) | (simp [*]; done)); have q2 : w1.cell? ⟨g2, k * 2, none⟩ = some (.int .i64 (x)) := (hb0.cell (p := ⟨g2, k * 2, none⟩) (by first | (with_reducible assumption) | (go_size; done) | (simp; omega))).trans (by first | (with_reducible assumption) | (go_keep; done) | (go_cell; done) | (go_simp; done) | (simp [*]; done)); have q3 : w1.cell? ⟨g2, k * 2 + 1, none⟩ = some (.int .i64 (y)) := (hb0.cell (p := ⟨g2, k * 2 + 1, none⟩) (by first | (with_reducible assumption) | (go_size; done) | (simp; omega))).trans (by first | (with_reducible assumption) | (go_keep; done) | (go_cell; done) | (go_simp; done) | (simp [*]; done)); have hs0 : g < w1.heap.size := Nat.lt_of_lt_of_le (by first | (with_reducible assumption) | (go_size; done) | (simp; omega)) hb0.size; have hs1 : g2 < w1.heap.size := Nat.lt_of_lt_of_le (by first | (with_reducible assumption) | (go_size; done) | (simp; omega)) hb0.size; have hT : Below wr.heap.size wr w1 := belowTo (by first | (with_reducible assumption) | (go_grown; done)) hb0; have hTs := hT.size; clear hb0))
      all_goals go_wp2
      all_goals go_roundw
      all_goals first
        | (case rel => exact ⟨k + 1, by omega, by go_num, belowTo hB (by go_grown)⟩)
        | skip
      all_goals (simp [intOf]; omega)
    · go_wp2
      go_returns
      exact ⟨rfl, hB⟩
end Go.Proofs.YtcieihbknfeddaaDoor

/- Slices of vectors that the call owns: marked, held; whatever slice. -/
namespace Go.Proofs.YtcieihbknfeddaaDoor
open Go.RowKit

theorem eqVecS_same (v1 v2 : Value) (b1 b2 : Nat) (l : List (Int × Int)) (w : World) (h1 : Vecs w b1 v1 l) (h2 : Vecs w b2 v2 l) :
    Calls Tryd.prog 28 #[v1, v2] w fun e w' => e = .returned (.bool true) ∧ Below w.heap.size w w' := by
  unfold Vecs at h1 h2
  generalize l.length = n at *
  rcases h1.form with ⟨rfl, _, a, c, rfl⟩ | ⟨hp, g, c, rfl, _, hg, _⟩
  · rcases h2.form with ⟨_, _, a2, d, rfl⟩ | ⟨hp, _⟩
    · exact eqVecS_nil a a2 c d w
    · exact absurd hp (Nat.lt_irrefl _)
  · rcases h2.form with ⟨h0, _⟩ | ⟨_, g2, d, rfl, _, hg2, _⟩
    · omega
    · exact eqVecS_row g g2 c d b1 b2 n (flat l) w h1 h2 hg hg2
theorem VRow.marked {w : World} {base g c n : Nat} {l : List Int} {k j : Nat} (hn : l.length = n * 2) (hj : j < n * 2) (h : w.ownsRow base 26 2 (.slice (some ⟨g, 0, none⟩) n c) n (intsV (marks k j ++ l.drop j))) :
    (w.setCell ⟨g, j, none⟩ (.int .i64 ((k + j : Nat) : Int))).ownsRow base 26 2 (.slice (some ⟨g, 0, none⟩) n c) n (intsV (marks k (j + 1) ++ l.drop (j + 1))) ∧ w.grownBy (w.setCell ⟨g, j, none⟩ (.int .i64 ((k + j : Nat) : Int))) (some g) := by
  have := h.stored j (.int .i64 ((k + j : Nat) : Int))
  rwa [set_mark l k j (by omega)] at this
set_option maxHeartbeats 2000000 in
theorem markVecS_nil (a : Option Addr) (c : Nat) (k : Nat) (w : World) :
    Calls Tryd.prog 31 #[.slice a 0 c, .int .i64 k] w fun e w' => e = .returned (.int .i64 k) ∧ w = w' := by
  go_enter Tryd.func31, Tryd.ntmps31
  go_wp2
  refine wp_loop_rounds 1 ?_
  rw [rounds_succ]
  go_wp2
  go_returns
  exact ⟨rfl, rfl⟩
def VMarked (w : World) (b g c k n : Nat) (e : Ending) (w' : World) : Prop := e = .returned (.int .i64 ((k + n * 2 : Nat) : Int)) ∧ w'.ownsRow b 26 2 (.slice (some ⟨g, 0, none⟩) n c) n (intsV (marks k (n * 2))) ∧ w.grownBy w' (some g)
set_option maxHeartbeats 4000000 in
theorem markVecS_row (g c b k n : Nat) (l : List Int) (w : World) (hn : l.length = n * 2) (h1 : w.ownsRow b 26 2 (.slice (some ⟨g, 0, none⟩) n c) n (intsV l)) (hk : k ≤ 1000) (hm : n ≤ 576460752303423488) :
    Calls Tryd.prog 31 #[.slice (some ⟨g, 0, none⟩) n c, .int .i64 k] w (VMarked w b g c k n) := by
  have HN := Lib.hid hn
  clear hn
  have HO : Hid (w.ownsRow b 26 2 (.slice (some ⟨g, 0, none⟩) n c) n (intsV (marks k 0 ++ l.drop 0))) := h1
  clear h1
  go_enter Tryd.func31, Tryd.ntmps31
  go_wp2
  go_loopw [1, 5] (fun m i wr => ∃ j : Nat, j ≤ n ∧ m = .int .i64 ((k + j * 2 : Nat) : Int) ∧ i = .int .i64 j ∧ Hid (wr.ownsRow b 26 2 (.slice (some ⟨g, 0, none⟩) n c) n (intsV (marks k (j * 2) ++ l.drop (j * 2)))) ∧ w.grownBy wr (some g)) (fun _ i _ => n - (intOf i).toNat)
  case atStart => exact ⟨0, Nat.zero_le _, rfl, rfl, HO, World.grownBy.refl _ _⟩
  case round =>
    obtain ⟨j, hj, rfl, rfl, hO, hG⟩ := hrel
    by_cases hlt : j < n
    · have R := VRow.marked HN.out (by omega) hO.out
      have R' := VRow.marked HN.out (by omega) R.1
      have F := World.ownsRow.frozenAt hO.out (j * 2)
      have hc := World.ownsRow.cellAt hO.out (j * 2) (by omega)
      obtain ⟨u, hu⟩ : ∃ u, (intsV (marks k (j * 2) ++ l.drop (j * 2)))[j * 2]? = some u := ⟨_, List.getElem?_eq_getElem (by have := hO.out.1; omega)⟩
      rw [hu] at hc
      have F2 := World.ownsRow.frozenAt hO.out (j * 2 + 1)
      have hc2 := World.ownsRow.cellAt hO.out (j * 2 + 1) (by omega)
      obtain ⟨u2, hu2⟩ : ∃ u, (intsV (marks k (j * 2) ++ l.drop (j * 2)))[j * 2 + 1]? = some u := ⟨_, List.getElem?_eq_getElem (by have := hO.out.1; omega)⟩
      rw [hu2] at hc2
      have e1 : IntKind.i64.wrap (((k + j * 2 : Nat) : Int) + 1) = ((k + (j * 2 + 1) : Nat) : Int) := by rw [IntKind.wrap_i64]; omega
      have e2 : IntKind.i64.wrap (((k + (j * 2 + 1) : Nat) : Int) + 1) = ((k + (j + 1) * 2 : Nat) : Int) := by rw [IntKind.wrap_i64]; omega
      have R1 : Hid (World.ownsRow ((wr.setCell ⟨g, j * 2, none⟩ (.int .i64 ((k + j * 2 : Nat) : Int))).setCell ⟨g, j * 2 + 1, none⟩ (.int .i64 ((k + (j * 2 + 1) : Nat) : Int))) b 26 2 (.slice (some ⟨g, 0, none⟩) n c) n (intsV (marks k ((j + 1) * 2) ++ l.drop ((j + 1) * 2)))) := by
        have := R'.1
        rwa [show j * 2 + 1 + 1 = (j + 1) * 2 by omega] at this
      have R2 := Lib.hid ((hG.trans R.2).trans R'.2)
      clear R R' hO hG hu hu2
      go_wp2
      go_roundw
      case rel => exact ⟨j + 1, by omega, by go_num, by go_num, R1, R2.out⟩
      case measure => simp [intOf]; omega
    · have : j = n := by omega
      subst this
      have hO' := hO.out
      rw [List.drop_of_length_le (by have := HN.out; omega), List.append_nil] at hO'
      have HO2 := Lib.hid hO'
      clear hO hO'
      go_wp2
      go_returns
      exact ⟨rfl, HO2.out, hG⟩
set_option maxHeartbeats 2000000 in
theorem heldVecS_nil (a : Option Addr) (c : Nat) (k : Nat) (w : World) :
    Calls Tryd.prog 32 #[.slice a 0 c, .int .i64 k] w fun e w' => e = .returned (.int .i64 k) ∧ w = w' := by
  go_enter Tryd.func32, Tryd.ntmps32
  go_wp2
  refine wp_loop_rounds 1 ?_
  rw [rounds_succ]
  go_wp2
  go_returns
  exact ⟨rfl, rfl⟩
set_option maxHeartbeats 4000000 in
theorem heldVecS_row (g c b k n : Nat) (w : World) (h1 : VRow w b (.slice (some ⟨g, 0, none⟩) n c) n (marks k (n * 2))) (hk : k ≤ 1000) (hm : n ≤ 576460752303423488) :
    Calls Tryd.prog 32 #[.slice (some ⟨g, 0, none⟩) n c, .int .i64 k] w fun e w' => e = .returned (.int .i64 ((k + n * 2 : Nat) : Int)) ∧ w = w' := by
  have HC : Hid (∀ j, j < n * 2 → w.cell? ⟨g, j, none⟩ = some (.int .i64 ((k + j : Nat) : Int))) := by
    intro j hj
    rw [h1.cell j hj, marks_get k (n * 2) j hj]
  clear h1
  go_enter Tryd.func32, Tryd.ntmps32
  go_wp2
  go_loop [1, 5] (fun m i => ∃ j : Nat, j ≤ n ∧ m = .int .i64 ((k + j * 2 : Nat) : Int) ∧ i = .int .i64 j) (fun _ i => n - (intOf i).toNat)
  case atStart => exact ⟨0, Nat.zero_le _, rfl, rfl⟩
  case round =>
    obtain ⟨j, hj, rfl, rfl⟩ := hrel
    by_cases hlt : j < n
    · have c1 := HC.out (j * 2) (by omega)
      have c2 := HC.out (j * 2 + 1) (by omega)
      have e1 : IntKind.i64.wrap (((k + j * 2 : Nat) : Int) + 1) = ((k + (j * 2 + 1) : Nat) : Int) := by rw [IntKind.wrap_i64]; omega
      have e2 : IntKind.i64.wrap (((k + (j * 2 + 1) : Nat) : Int) + 1) = ((k + (j + 1) * 2 : Nat) : Int) := by rw [IntKind.wrap_i64]; omega
      go_wp2
      go_round
      case rel => exact ⟨j + 1, by omega, by go_num, by go_num⟩
      case measure => simp [intOf]; omega
    · have : j = n := by omega
      subst this
      go_wp2
      go_returns
      exact ⟨rfl, rfl⟩
end Go.Proofs.YtcieihbknfeddaaDoor
