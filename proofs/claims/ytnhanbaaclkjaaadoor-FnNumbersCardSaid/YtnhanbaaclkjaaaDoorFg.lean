/- Lists of numbers: copied, compared, turned over. -/
import Derived.Test.YtnhanbaaclkjaaaDoorB3
namespace Go.Proofs.YtnhanbaaclkjaaaDoor
open Go.RowKit

theorem set_copy (l : List Int) (xs : List Value) (k : Nat) (h : k < l.length) (hx : xs.length = l.length) :
    (intsV (l.take k) ++ xs.drop k).set k (.int .i64 (l[k]?.getD 0)) = intsV (l.take (k + 1)) ++ xs.drop (k + 1) := by
  have e1 : (intsV (l.take k)).length = k := by simp [intsV]; omega
  rw [List.set_append_right _ _ (by omega), e1, Nat.sub_self, List.drop_eq_getElem_cons (by omega), List.set_cons_zero]
  have e2 : l.take (k + 1) = l.take k ++ [l[k]?.getD 0] := by
    rw [List.take_add_one]
    simp [h]
  rw [e2]
  simp [intsV]
set_option maxHeartbeats 4000000 in
theorem toIntS_any (v : Value) (l : List Int) (w : World) (h : ReadsInts w v l) (hm : l.length ≤ 1048576) :
    Calls Tryd.prog 21 #[v] w (GivesInts w l) := by
  obtain ⟨i0, hi, hz0, hz1, hz2⟩ := info_parts infoInt
  obtain ⟨a, c, rfl, _, hc⟩ := h
  have HC := Lib.hid hc
  obtain ⟨n, hn⟩ : ∃ n, n = l.length := ⟨_, rfl⟩
  have HN := Lib.hid hn
  have hn2 : n ≤ 1048576 := by omega
  rw [← hn]
  clear hc hm hn
  go_enter Tryd.func21, Tryd.ntmps21
  go_wp2_with (at_make; refine wpList_make_full _ rfl _ _ 25 rfl w.heap.size 3 i0 (.int .i64 0) 1 Tryd.underlying25 hi hz0 hz1 .i64 .i64 _ _ n rfl rfl rfl rfl ?c1 ?c2 ?c3 ?_)
  case c1 => rw [hz2]; omega
  case c2 => unfold maxLen; omega
  case c3 => exact Nat.le_refl _
  intro w1 hown hgrow
  have hx : (madeCells #[Value.int .i64 0] n).toList.length = n := by simp [size_madeCells]
  generalize (madeCells #[Value.int .i64 0] n).toList = xs at hown hx
  have hB1 : Below w.heap.size w w1 := (Below.refl _ w).grown hgrow (Nat.le_refl _) (fun k e => by cases e)
  have HO : Hid (w1.ownsRow w.heap.size 3 1 (.slice (some ⟨w.heap.size, 0, none⟩) n n) n (intsV (l.take 0) ++ xs.drop 0)) := hown
  have HX := Lib.hid hx
  clear hown hgrow hx
  go_wp2
  go_loopw [4] (fun s wr => ∃ k : Nat, s = .int .i64 k ∧ k ≤ n ∧ Hid (wr.ownsRow w.heap.size 3 1 (.slice (some ⟨w.heap.size, 0, none⟩) n n) n (intsV (l.take k) ++ xs.drop k)) ∧ Below w.heap.size w wr) (fun s _ => n - (intOf s).toNat)
  case atStart => exact ⟨0, rfl, Nat.zero_le _, HO, hB1⟩
  case round =>
    obtain ⟨k, rfl, hk, hO, hB⟩ := hrel
    clear HO
    by_cases hlt : k < n
    · have hkl : k < l.length := by have := HN.out; omega
      obtain ⟨bb, off, rfl, hb, hcell⟩ := HC.out (by omega)
      have c1 : wr.cell? ⟨bb, off + k, none⟩ = some (.int .i64 (l[k]?.getD 0)) := (hB.cell (p := ⟨bb, off + k, none⟩) hb).trans (hcell k hkl)
      have hr0 := hO.out.stored k (.int .i64 (l[k]?.getD 0))
      rw [set_copy l xs k hkl (by rw [HX.out, HN.out])] at hr0
      have F := World.ownsRow.frozenAt hO.out k
      have hc := World.ownsRow.cellAt hO.out k (by omega)
      obtain ⟨u, hu⟩ : ∃ u, (intsV (l.take k) ++ xs.drop k)[k]? = some u := ⟨_, List.getElem?_eq_getElem (by have := hO.out.1; omega)⟩
      rw [hu] at hc
      have hbw := hB.size
      have R1 := Lib.hid hr0.1
      have R2 := hB.setCell (p := ⟨w.heap.size, k, none⟩) (Nat.le_refl _) (.int .i64 (l[k]?.getD 0))
      clear hr0 hO hu hcell
      generalize l[k]?.getD 0 = z at c1 R1 R2
      have j1 : (0 : Int) ≤ (k : Int) := by omega
      have j2 : (k : Int) < (n : Int) := by omega
      go_wp2
      go_roundw
      case rel => exact ⟨k + 1, by go_num, by omega, R1, R2⟩
      case measure => simp [intOf]; omega
    · have hkn : k = n := by omega
      subst hkn
      have hO' := hO.out
      rw [List.take_of_length_le (by have := HN.out; omega), List.drop_of_length_le (by have := HX.out; omega), List.append_nil] at hO'
      have HO2 := Lib.hid (Ints.as HN.out hO')
      clear hO hO'
      go_wp2
      go_returns
      exact ⟨_, rfl, HO2.out, hB⟩

/-! compared, as the laws of the promises do it -/
set_option maxHeartbeats 2000000 in
theorem sameInts_nil (a b : Option Addr) (c d : Nat) (w : World) :
    Calls Tryd.prog 15 #[.slice a 0 c, .slice b 0 d] w fun e w' => e = .returned (.bool true) ∧ Below w.heap.size w w' := by
  go_enter Tryd.func15, Tryd.ntmps15
  go_wp2
  refine wp_loop_rounds 1 ?_
  rw [rounds_succ]
  go_wp2
  go_returns
  exact ⟨rfl, Below.refl _ _⟩
set_option maxHeartbeats 4000000 in
theorem sameInts_row (g g2 c d b1 b2 : Nat) (l : List Int) (w : World) (h1 : Ints w b1 (.slice (some ⟨g, 0, none⟩) l.length c) l) (h2 : Ints w b2 (.slice (some ⟨g2, 0, none⟩) l.length d) l)
    (hg : g < w.heap.size) (hg2 : g2 < w.heap.size) :
    Calls Tryd.prog 15 #[.slice (some ⟨g, 0, none⟩) l.length c, .slice (some ⟨g2, 0, none⟩) l.length d] w fun e w' => e = .returned (.bool true) ∧ Below w.heap.size w w' := by
  obtain ⟨n, hn⟩ : ∃ n, n = l.length := ⟨_, rfl⟩
  have hm : n ≤ 9223372036854775807 := by have := h1.len_le; unfold maxLen at this; omega
  have HC : Hid (∀ j, j < n → w.cell? ⟨g, j, none⟩ = some (.int .i64 (l[j]?.getD 0)) ∧ w.cell? ⟨g2, j, none⟩ = some (.int .i64 (l[j]?.getD 0))) := by
    intro j hj
    exact ⟨h1.cell j (by omega), h2.cell j (by omega)⟩
  rw [← hn]
  clear h1 h2 hn
  go_enter Tryd.func15, Tryd.ntmps15
  go_wp2
  go_loopw [5] (fun i wr => ∃ k : Nat, k ≤ n ∧ i = .int .i64 k ∧ Below w.heap.size w wr) (fun i _ => n - (intOf i).toNat)
  case atStart => exact ⟨0, Nat.zero_le _, rfl, Below.refl _ _⟩
  case round =>
    obtain ⟨k, hk, rfl, hB⟩ := hrel
    by_cases hlt : k < n
    · have c1 : wr.cell? ⟨g, k, none⟩ = some (.int .i64 (l[k]?.getD 0)) := (hB.cell (p := ⟨g, k, none⟩) hg).trans (HC.out k hlt).1
      have c2 : wr.cell? ⟨g2, k, none⟩ = some (.int .i64 (l[k]?.getD 0)) := (hB.cell (p := ⟨g2, k, none⟩) hg2).trans (HC.out k hlt).2
      generalize l[k]?.getD 0 = z at c1 c2
      have i1 : (0 : Int) ≤ (k : Int) := by omega
      have i2 : (k : Int) < (n : Int) := by omega
      go_wp2_with fail
      go_quiet (fail)
      go_wp2
      go_roundw
      case rel => exact ⟨k + 1, by omega, by go_num, below_drewN hB _⟩
      case measure => simp [intOf]; omega
    · go_wp2
      go_returns
      exact ⟨rfl, hB⟩
theorem sameInts_same (v1 v2 : Value) (b1 b2 : Nat) (l : List Int) (w : World) (h1 : Ints w b1 v1 l) (h2 : Ints w b2 v2 l) :
    Calls Tryd.prog 15 #[v1, v2] w fun e w' => e = .returned (.bool true) ∧ Below w.heap.size w w' := by
  rcases h1.form with ⟨rfl, a, c, rfl⟩ | ⟨hne, g, c, rfl, _, hg, _⟩
  · rcases h2.form with ⟨_, a2, d, rfl⟩ | ⟨hne, _⟩
    · exact sameInts_nil a a2 c d w
    · exact absurd rfl hne
  · rcases h2.form with ⟨h, _⟩ | ⟨_, g2, d, rfl, _, hg2, _⟩
    · exact absurd h hne
    · exact sameInts_row g g2 c d b1 b2 l w h1 h2 hg hg2
end Go.Proofs.YtnhanbaaclkjaaaDoor
