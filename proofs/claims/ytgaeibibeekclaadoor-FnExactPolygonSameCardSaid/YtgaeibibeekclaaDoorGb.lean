/- Slices of vectors, wherever they lie; copied. -/
import Derived.Test.YtgaeibibeekclaaDoorB5
import Derived.Test.YtgaeibibeekclaaDoorB6
namespace Go.Proofs.YtgaeibibeekclaaDoor
open Go.RowKit

/-- A slice of vectors: it may begin anywhere. -/
def ReadsVecs (w : World) (v : Value) (l : List V2) : Prop := ∃ a c, v = .slice a l.length c ∧ l.length ≤ c ∧ l.length ≤ 576460752303423488 ∧ (0 < l.length → ∃ bb off, a = some ⟨bb, off, none⟩ ∧ bb < w.heap.size ∧
  ∀ j, j < l.length → w.cell? ⟨bb, off + j * 2, none⟩ = some (.int .i64 (cyc l j).1) ∧ w.cell? ⟨bb, off + j * 2 + 1, none⟩ = some (.int .i64 (cyc l j).2))
theorem ReadsVecs.below {w w' : World} {v : Value} {l : List V2} (h : ReadsVecs w v l) (hb : Below w.heap.size w w') : ReadsVecs w' v l := by
  obtain ⟨a, c, h1, h2, h3, h4⟩ := h
  refine ⟨a, c, h1, h2, h3, fun h0 => ?_⟩
  obtain ⟨bb, off, h5, h6, h7⟩ := h4 h0
  exact ⟨bb, off, h5, Nat.lt_of_lt_of_le h6 hb.size, fun j hj => ⟨(hb.cell (p := ⟨bb, off + j * 2, none⟩) h6).trans (h7 j hj).1, (hb.cell (p := ⟨bb, off + j * 2 + 1, none⟩) h6).trans (h7 j hj).2⟩⟩
theorem flat_get (l : List V2) (j : Nat) (h : j < l.length) : (flat l)[j * 2]?.getD 0 = (cyc l j).1 ∧ (flat l)[j * 2 + 1]?.getD 0 = (cyc l j).2 := by
  rw [cyc_lt h]
  induction l generalizing j with
  | nil => simp at h
  | cons p l ih =>
    cases j with
    | zero => simp [flat]
    | succ j =>
      have := ih j (by simpa using h)
      simpa [flat, Nat.add_mul, Nat.succ_mul] using this
theorem Vecs.reads {w : World} {base : Nat} {v : Value} {l : List V2} (h : Vecs w base v l) (hl : l.length ≤ 576460752303423488) : ReadsVecs w v l := by
  have h' := h
  unfold Vecs at h
  rcases h.form with ⟨h0, _, a, c, rfl⟩ | ⟨hp, g, c, rfl, _, hg, hc⟩
  · exact ⟨a, c, by rw [h0], by omega, hl, fun h1 => by omega⟩
  · exact ⟨_, c, rfl, hc, hl, fun _ => ⟨g, 0, rfl, hg, fun j hj => by
      rw [Nat.zero_add]
      obtain ⟨e1, e2⟩ := flat_get l j hj
      rw [← e1, ← e2]
      exact ⟨h.cell (j * 2) (by omega), h.cell (j * 2 + 1) (by omega)⟩⟩⟩

theorem flat_take (l : List V2) (k : Nat) (h : k < l.length) : flat (l.take (k + 1)) = flat (l.take k) ++ [(cyc l k).1, (cyc l k).2] := by
  rw [List.take_add_one, flat_app, cyc_get h]
  rfl
theorem set_copy2 (l : List V2) (xs : List Value) (k : Nat) (h : k < l.length) (hx : xs.length = l.length * 2) :
    ((intsV (flat (l.take k)) ++ xs.drop (k * 2)).set (k * 2) (.int .i64 (cyc l k).1)).set (k * 2 + 1) (.int .i64 (cyc l k).2) = intsV (flat (l.take (k + 1))) ++ xs.drop ((k + 1) * 2) := by
  have e1 : (intsV (flat (l.take k))).length = k * 2 := by simp [intsV, flat_len]; omega
  rw [List.set_append_right _ _ (by omega), e1, Nat.sub_self, List.drop_eq_getElem_cons (by omega), List.set_cons_zero, List.set_append_right _ _ (by omega), e1, Nat.add_sub_cancel_left, List.drop_eq_getElem_cons (by omega), List.set_cons_succ, List.set_cons_zero, flat_take l k h]
  simp [intsV, Nat.add_mul]
set_option maxHeartbeats 1000000 in
theorem szVecS_any (a : Option Addr) (n c : Nat) (w : World) (hn : n ≤ 9223372036854775807) :
    Calls Tryd.prog 27 #[.slice a n c, .int .i64 1048576] w fun e w' => e = .returned (.int .i64 (if n ≤ 1048576 then 1048576 - (n : Int) else -1)) ∧ w = w' := by
  have q1 : IntKind.i64.wrap (1048576 - (n : Int)) = 1048576 - (n : Int) := by rw [IntKind.wrap_i64]; omega
  by_cases h : n ≤ 1048576
  · have j1 : ¬ 1048576 - (n : Int) < 0 := by omega
    rw [if_pos h]
    go_enter Tryd.func27, Tryd.ntmps27
    go_wp2
    go_returns
    exact ⟨rfl, rfl⟩
  · have j1 : 1048576 - (n : Int) < 0 := by omega
    rw [if_neg h]
    go_enter Tryd.func27, Tryd.ntmps27
    go_wp2
    go_returns
    exact ⟨rfl, rfl⟩
theorem next_is (k n : Nat) : Int.tmod ((k : Int) + 1) (n : Int) = (((k + 1) % n : Nat) : Int) := by
  rw [show ((k : Int) + 1) = ((k + 1 : Nat) : Int) by simp, Int.ofNat_tmod]
theorem cyc_nx {l : List V2} (k : Nat) : cyc l ((k + 1) % l.length) = cyc l (k + 1) := cyc_mod l (k + 1)
/-- what is read in whatever later world -/
theorem ReadsVecs.open {w : World} {v : Value} {l : List V2} (h : ReadsVecs w v l) (h0 : 0 < l.length) : ∃ bb off c, v = .slice (some ⟨bb, off, none⟩) l.length c ∧ l.length ≤ c ∧ l.length ≤ 576460752303423488 ∧ bb < w.heap.size ∧
    ∀ wr, Below w.heap.size w wr → ∀ j, j < l.length → wr.cell? ⟨bb, off + j * 2, none⟩ = some (.int .i64 (cyc l j).1) ∧ wr.cell? ⟨bb, off + j * 2 + 1, none⟩ = some (.int .i64 (cyc l j).2) := by
  obtain ⟨a, c, rfl, hc, hm, hcell⟩ := h
  obtain ⟨bb, off, rfl, hb, hcs⟩ := hcell h0
  exact ⟨bb, off, c, rfl, hc, hm, hb, fun wr hw j hj => ⟨(hw.cell (p := ⟨bb, off + j * 2, none⟩) hb).trans (hcs j hj).1, (hw.cell (p := ⟨bb, off + j * 2 + 1, none⟩) hb).trans (hcs j hj).2⟩⟩
theorem cell_lt {w : World} {b o : Nat} {v : Value} (h : w.cell? ⟨b, o, none⟩ = some v) : b < w.heap.size := World.block_lt_of_cell? w _ h
end Go.Proofs.YtgaeibibeekclaaDoor
