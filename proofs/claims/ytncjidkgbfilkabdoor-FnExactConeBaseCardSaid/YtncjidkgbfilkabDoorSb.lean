/- Slices of whole numbers: held, copied; fractions made. -/
import Derived.Test.YtncjidkgbfilkabDoorSa
import Derived.Test.YtncjidkgbfilkabDoorMf
namespace Go.Proofs.YtncjidkgbfilkabDoor
open Go.RowKit

set_option maxHeartbeats 2000000 in
theorem heldIntS_nil (a : Option Addr) (c : Nat) (k : Nat) (w : World) :
    Calls Tryd.prog 23 #[.slice a 0 c, .int .i64 k] w fun e w' => e = .returned (.int .i64 k) ∧ w = w' := by
  go_enter Tryd.func23, Tryd.ntmps23
  go_wp2
  refine wp_loop_rounds 1 ?_
  rw [rounds_succ]
  go_wp2
  go_returns
  exact ⟨rfl, rfl⟩
set_option maxHeartbeats 4000000 in
theorem heldIntS_row (g c b k n : Nat) (w : World) (h1 : w.ownsRow b 3 1 (.slice (some ⟨g, 0, none⟩) n c) n (intsV (marks k n))) (hk : k ≤ 1000) (hm : n ≤ 1152921504606846976) :
    Calls Tryd.prog 23 #[.slice (some ⟨g, 0, none⟩) n c, .int .i64 k] w fun e w' => e = .returned (.int .i64 ((k + n : Nat) : Int)) ∧ w = w' := by
  have HC : Hid (∀ j, j < n → w.cell? ⟨g, j, none⟩ = some (.int .i64 ((k + j : Nat) : Int))) := by
    intro j hj
    rw [World.ownsRow.cellAt h1 j (by omega), intsV_get _ j (by rw [marks_len]; exact hj), marks_get k n j hj]
  clear h1
  go_enter Tryd.func23, Tryd.ntmps23
  go_wp2
  go_loop [1, 5] (fun m i => ∃ j : Nat, j ≤ n ∧ m = .int .i64 ((k + j : Nat) : Int) ∧ i = .int .i64 j) (fun _ i => n - (intOf i).toNat)
  case atStart => exact ⟨0, Nat.zero_le _, rfl, rfl⟩
  case round =>
    obtain ⟨j, hj, rfl, rfl⟩ := hrel
    by_cases hlt : j < n
    · have c1 := HC.out j hlt
      go_wp2
      go_round
      case rel => exact ⟨j + 1, by omega, by go_num, by go_num⟩
      case measure => simp [intOf]; omega
    · have : j = n := by omega
      subst this
      go_wp2
      go_returns
      exact ⟨rfl, rfl⟩
/-- A slice that came in: it may begin anywhere. -/
def ReadsInts (w : World) (v : Value) (l : List Int) : Prop := ∃ a c, v = .slice a l.length c ∧ l.length ≤ 1152921504606846976 ∧ (0 < l.length → ∃ bb off, a = some ⟨bb, off, none⟩ ∧ bb < w.heap.size ∧ ∀ j, j < l.length → w.cell? ⟨bb, off + j, none⟩ = some (.int .i64 (l[j]?.getD 0)))
theorem ReadsInts.below {w w' : World} {v : Value} {l : List Int} (h : ReadsInts w v l) (hb : Below w.heap.size w w') : ReadsInts w' v l := by
  obtain ⟨a, c, h1, h2, h3⟩ := h
  refine ⟨a, c, h1, h2, fun h0 => ?_⟩
  obtain ⟨bb, off, h4, h5, h6⟩ := h3 h0
  exact ⟨bb, off, h4, Nat.lt_of_lt_of_le h5 hb.size, fun j hj => (hb.cell (p := ⟨bb, off + j, none⟩) h5).trans (h6 j hj)⟩
theorem Ints.reads {w : World} {base : Nat} {v : Value} {l : List Int} (h : Ints w base v l) (hl : l.length ≤ 1152921504606846976) : ReadsInts w v l := by
  rcases h.form with ⟨rfl, a, c, rfl⟩ | ⟨hne, g, c, rfl, _, hg, _⟩
  · exact ⟨a, c, rfl, hl, fun h0 => absurd h0 (by simp)⟩
  · exact ⟨_, c, rfl, hl, fun _ => ⟨g, 0, rfl, hg, fun j hj => by rw [Nat.zero_add]; exact h.cell j hj⟩⟩

/-! fractions made -/
set_option maxHeartbeats 4000000 in
theorem fractionOf_any (n q : Int) (w : World) (h0 : 0 ≤ q) (h1 : q < n) (h2 : n ≤ 2000000) :
    Calls Tryd.prog 44 #[.int .i64 n, .int .i64 q] w (GivesInts w (fracZ n q)) := by
  obtain ⟨i0, hi, hz0, hz1, hz2⟩ := info_parts infoInt
  go_enter Tryd.func44, Tryd.ntmps44
  go_wp2
  go_loopw [0, 1, 5] (fun s0 s1 s5 wr => ∃ (x y : Int) (done : List Int), s0 = .int .i64 x ∧ s1 = .int .i64 y ∧ Hid (Ints wr w.heap.size s5 done ∧ fracZ n q = done ++ fracZ x y) ∧ 0 ≤ y ∧ y < x ∧ x ≤ 2000000 ∧ done.length + y.toNat ≤ 2000000 ∧ Below w.heap.size w wr) (fun _ s1 _ _ => (intOf s1).toNat)
  case atStart => exact ⟨n, q, [], rfl, rfl, ⟨Ints.nil _ _, rfl⟩, h0, h1, h2, by simp; omega, Below.refl _ _⟩
  case round =>
    obtain ⟨x, y, done, rfl, rfl, HH, y0, yx, xm, hl, hB⟩ := hrel
    by_cases hy : 0 < y
    · have f1 : x ≤ (x + y - 1) / y * y := up_ge hy
      have f2 : (x + y - 1) / y * y < x + y := up_lt hy
      have f3 : (x + y - 1) / y ≤ x := up_le hy (by omega)
      have f4 : 2 ≤ (x + y - 1) / y := up_two hy yx
      have hown : wr.ownsRow w.heap.size 3 1 _ _ _ := HH.out.1
      have hbs := hB.size
      have hnext := HH.out.2
      rw [frac_pos x hy] at hnext
      have HN := Lib.hid hnext
      clear hnext HH
      go_wp2_with (at_builtin; refine wpList_append_own _ rfl _ _ 69 rfl w.heap.size 3 i0 (.int .i64 0) 1 8 Tryd.underlying69 hi hz0 hz1 hz2 rfl (by decide) _ _ _ rfl (hown.alloc _) ⟨wr.heap.size, 0, none⟩ 1 1 [.int .i64 ((x + y - 1) / y)] rfl rfl ?c1 ?c2 ?c3 ?c4 ?c5 ?_)
      case c1 =>
        intro j u hj
        match j, hj with
        | 0, hj => simp at hj; subst hj; simp [Addr.add]
      case c2 => intro u hu; simp at hu; subst hu; rfl
      case c3 => unfold maxLen; omega
      case c4 => omega
      case c5 => simp; omega
      intro v' w1 hown' hgrow _
      have hB1 : Below w.heap.size w w1 := (hB.alloc hbs _).grown hgrow (by simp; omega) (fun k hk => (hown.lt k hk).1)
      have H1 : Hid (Ints w1 w.heap.size v' (done ++ [upZ x y]) ∧ fracZ n q = (done ++ [upZ x y]) ++ fracZ y (upZ x y * y - x)) := by
        refine ⟨?_, by rw [HN.out]; simp⟩
        have : intsV (done ++ [upZ x y]) = intsV done ++ [.int .i64 ((x + y - 1) / y)] := by simp [intsV, upZ]
        unfold Ints
        rw [this, List.length_append]
        exact hown'
      clear hown hown' hgrow HN hB
      go_wp2
      go_roundw
      case rel => exact ⟨y, (x + y - 1) / y * y - x, done ++ [upZ x y], rfl, rfl, H1, by omega, by omega, by omega, by simp; omega, hB1⟩
      case measure => simp [intOf]; omega
    · have H := HH.out.1
      have he := HH.out.2
      rw [frac_zero x hy, List.append_nil] at he
      rw [← he] at H
      have H' := Lib.hid H
      clear H he HH
      go_wp2
      go_returns
      exact ⟨_, rfl, H'.out, hB⟩
end Go.Proofs.YtncjidkgbfilkabDoor
