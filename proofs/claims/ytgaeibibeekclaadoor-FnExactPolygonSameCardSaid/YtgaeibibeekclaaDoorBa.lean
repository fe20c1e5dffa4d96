import Derived.Test.YtgaeibibeekclaaDoorGb
import Derived.Test.YtgaeibibeekclaaDoorB7
import Derived.Test.YtgaeibibeekclaaDoorB4
import Derived.Test.YtgaeibibeekclaaDoorB2
import Derived.Test.YtgaeibibeekclaaDoorB9
import Derived.Test.YtgaeibibeekclaaDoorB5
/- Fans, the model's side: what is a fan. -/
namespace Go.Proofs.YtgaeibibeekclaaDoor
open Go.RowKit

theorem con_prim {l : List V2} {i : Nat} (h1 : primB (cyc l i).1 (cyc l i).2 = true) (h2 : primB (cyc l (i + 1)).1 (cyc l (i + 1)).2 = true) : conB l i = posB (cyc l i).1 (cyc l i).2 (cyc l (i + 1)).1 (cyc l (i + 1)).2 := by
  simp [conB, coneB, h1, h2]
theorem fanIs {l : List V2} (hr : rng l = true) (h : ∀ i, i < l.length → conB l i = true) : fanB l = oneBack l := by
  have : allC l = true := List.all_eq_true.2 (fun i hi => h i (List.mem_range.1 hi))
  unfold fanB
  rw [hr, this]
  simp
theorem fanNot {l : List V2} {i : Nat} (hi : i < l.length) (h : conB l i = false) : fanB l = false := by
  have : allC l = false := by
    unfold allC
    rw [List.all_eq_false]
    exact ⟨i, List.mem_range.2 hi, by rw [h]; decide⟩
  unfold fanB
  rw [this]
  simp
theorem cnt_range (p : Nat → Bool) (k : Nat) : cnt p (List.range (k + 1)) = cnt p (List.range k) + (if p k then 1 else 0) := by
  rw [List.range_succ, cnt_snoc]
end Go.Proofs.YtgaeibibeekclaaDoor

/- Fans, the model's side: smooth ones; cones. -/
namespace Go.Proofs.YtgaeibibeekclaaDoor
open Go.RowKit

theorem smNot {l : List V2} {i : Nat} (hi : i < l.length) (h : smB l i = false) : allS l = false := by
  unfold allS
  rw [List.all_eq_false]
  exact ⟨i, List.mem_range.2 hi, by rw [h]; decide⟩
end Go.Proofs.YtgaeibibeekclaaDoor

/- Fans, the model's side: tidied; pieces of a list put together. -/
namespace Go.Proofs.YtgaeibibeekclaaDoor
open Go.RowKit

theorem cyc_piece {l : List V2} {s m q : Nat} (hq : q < m) (h : s + m ≤ l.length) : cyc ((l.drop s).take m) q = cyc l (s + q) := by
  rw [cyc_lt (by simp; omega), cyc_lt (by omega), List.getElem?_take_of_lt hq, List.getElem?_drop]
theorem piece_cells {wr : World} {l : List V2} {bb off s m : Nat} (hc : ∀ j, j < l.length → wr.cell? ⟨bb, off + j * 2, none⟩ = some (.int .i64 (cyc l j).1) ∧ wr.cell? ⟨bb, off + j * 2 + 1, none⟩ = some (.int .i64 (cyc l j).2)) (h : s + m ≤ l.length) :
    ∀ j u, (intsV (flat ((l.drop s).take m)))[j]? = some u → wr.cell? ((⟨bb, off + s * 2, none⟩ : Addr).add j) = some u := by
  intro j u hj
  have hml : ((l.drop s).take m).length = m := by simp; omega
  have hlen : j < (flat ((l.drop s).take m)).length := by
    have := (List.getElem?_eq_some_iff.1 hj).1
    simpa [intsV] using this
  have hj2 : j < 2 * m := by rw [flat_len, hml] at hlen; exact hlen
  rw [intsV_get _ _ hlen] at hj
  obtain ⟨e1, e2⟩ := flat_get ((l.drop s).take m) (j / 2) (by rw [hml]; omega)
  rw [cyc_piece (by omega) h] at e1 e2
  obtain ⟨c1, c2⟩ := hc (s + j / 2) (by omega)
  rcases Nat.mod_two_eq_zero_or_one j with h0 | h0
  · have : j / 2 * 2 = j := by omega
    rw [this] at e1
    rw [e1] at hj
    rw [← hj, ← c1]
    rw [show (⟨bb, off + s * 2, none⟩ : Addr).add j = ⟨bb, off + (s + j / 2) * 2, none⟩ from by unfold Addr.add; split <;> simp <;> omega]
  · have : j / 2 * 2 + 1 = j := by omega
    rw [this] at e2
    rw [e2] at hj
    rw [← hj, ← c2]
    rw [show (⟨bb, off + s * 2, none⟩ : Addr).add j = ⟨bb, off + (s + j / 2) * 2 + 1, none⟩ from by unfold Addr.add; split <;> simp <;> omega]
theorem piece_one (l : List Int) : ∀ u ∈ intsV l, u.oneCell' = true := by
  intro u hu
  simp [intsV] at hu
  obtain ⟨a, _, rfl⟩ := hu
  rfl
theorem piece_len {l : List V2} {s m : Nat} (h : s + m ≤ l.length) : (intsV (flat ((l.drop s).take m))).length = m * 2 := by
  have hml : ((l.drop s).take m).length = m := by simp; omega
  simp [intsV, flat_len, hml]
  omega
theorem Vecs.empty (w : World) : Vecs (w.alloc (.cells #[] 31)) w.heap.size (.slice (some ⟨w.heap.size, 0, none⟩) 0 0) [] :=
  World.ownsRow_made w #[] 0 (Nat.le_refl _) (by simp [maxLen]) rfl
theorem Vecs.join {w : World} {base n : Nat} {v : Value} {l m : List V2} (h : w.ownsRow base 31 2 v n (intsV (flat l) ++ intsV (flat m))) (hn : n = l.length + m.length) : Vecs w base v (l ++ m) := by
  unfold Vecs VRow
  rw [flat_app, List.length_append, ← hn]
  have : intsV (flat l ++ flat m) = intsV (flat l) ++ intsV (flat m) := by simp [intsV]
  rw [this]
  exact h
theorem tidyAt_one (l : List V2) : tidyAt l (List.range 1) = 0 := by
  show (if aheadV (cyc l 0) (cyc l 0) then 0 else 0) = 0
  split <;> rfl
end Go.Proofs.YtgaeibibeekclaaDoor
