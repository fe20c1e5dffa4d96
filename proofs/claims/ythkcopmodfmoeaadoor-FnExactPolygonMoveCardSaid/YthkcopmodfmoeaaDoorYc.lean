/- A block of the call's own that holds vectors: read, written, sorted, turned round. -/
import Derived.Test.YthkcopmodfmoeaaDoorYb
import Derived.Test.YthkcopmodfmoeaaDoorVk
namespace Go.Proofs.YthkcopmodfmoeaaDoor
open Go.RowKit Go.Sort

/-- block g is the call's own and holds the vectors c 0 .. c (M - 1) -/
def OwnC (W : World) (b g M : Nat) (c : Nat → V2) : Prop :=
  b ≤ g ∧ M ≤ 1048576 ∧ ∃ cur, W.heap[g]? = some (.cells cur 38 (0, 0)) ∧ cur.size = M * 2 ∧ ∀ j, j < M → cur[j * 2]? = some (.int .i64 (c j).1) ∧ cur[j * 2 + 1]? = some (.int .i64 (c j).2)
theorem OwnC.lt {W : World} {b g M : Nat} {c : Nat → V2} (h : OwnC W b g M c) : g < W.heap.size := by
  obtain ⟨_, _, cur, h1, _⟩ := h
  exact (Array.getElem?_eq_some_iff.1 h1).1
theorem OwnC.row {W : World} {b g M : Nat} {c : Nat → V2} (h : OwnC W b g M c) : RowC W g c M := by
  obtain ⟨_, _, cur, h1, h2, h3⟩ := h
  intro j hj
  obtain ⟨e1, e2⟩ := h3 j hj
  exact ⟨⟨by rw [cell_of_row W g _ cur _ (0, 0) h1, e1], by rw [cell_of_row W g _ cur _ (0, 0) h1, e2]⟩, frozen_of_row W g _ cur _ h1, frozen_of_row W g _ cur _ h1⟩
theorem OwnC.kept {W W' : World} {b g M : Nat} {c : Nat → V2} (h : OwnC W b g M c) (e : W'.heap[g]? = W.heap[g]?) : OwnC W' b g M c := by
  obtain ⟨h0, hm, cur, h1, h2⟩ := h
  exact ⟨h0, hm, cur, by rw [e, h1], h2⟩
theorem OwnC.below {W W' : World} {b g M n : Nat} {c : Nat → V2} (h : OwnC W b g M c) (hB : Below n W W') (hn : g < n) : OwnC W' b g M c := h.kept (hB.block g hn)
theorem OwnC.drew {W : World} {b g M : Nat} {c : Nat → V2} (h : OwnC W b g M c) : OwnC W.drew b g M c := h
theorem OwnC.lower {W : World} {b b' g M : Nat} {c : Nat → V2} (h : OwnC W b g M c) (hb : b' ≤ b) : OwnC W b' g M c := ⟨Nat.le_trans hb h.1, h.2⟩
theorem OwnC.congr {W : World} {b g M : Nat} {c c' : Nat → V2} (h : OwnC W b g M c) (e : ∀ j, j < M → c j = c' j) : OwnC W b g M c' := by
  obtain ⟨h0, hm, cur, h1, h2, h3⟩ := h
  exact ⟨h0, hm, cur, h1, h2, fun j hj => by rw [← e j hj]; exact h3 j hj⟩
theorem OwnC.set {W : World} {b g M k : Nat} {c : Nat → V2} (h : OwnC W b g M c) (hk : k < M) (x : V2) :
    OwnC ((W.setCell ⟨g, k * 2, none⟩ (.int .i64 x.1)).setCell ⟨g, k * 2 + 1, none⟩ (.int .i64 x.2)) b g M (fun j => if j = k then x else c j) := by
  obtain ⟨h0, hm, cur, h1, h2, h3⟩ := h
  refine ⟨h0, hm, _, heap_setCell_same _ g (k * 2 + 1) _ _ _ (heap_setCell_same W g (k * 2) cur _ _ h1), by simpa using h2, fun j hj => ?_⟩
  obtain ⟨e1, e2⟩ := h3 j hj
  simp only [Array.getElem?_setIfInBounds, Array.size_setIfInBounds]
  by_cases e : j = k
  · subst e
    constructor
    · rw [if_neg (by omega), if_pos rfl, if_pos (by omega), if_pos rfl]
    · rw [if_pos rfl, if_pos (by omega), if_pos rfl]
  · constructor
    · rw [if_neg (by omega), if_neg (by omega), if_neg e, e1]
    · rw [if_neg (by omega), if_neg (by omega), if_neg e, e2]
theorem OwnC.lay {W : World} {b g M o : Nat} {c : Nat → V2} (h : OwnC W b g M c) (d : Array V2) :
    OwnC (putRowK encN 2 W g (o * 2) d) b g M (fun j => if o ≤ j ∧ j < o + d.size then d[j - o]! else c j) := by
  obtain ⟨h0, hm, cur, h1, h2, h3⟩ := h
  refine ⟨h0, hm, putCells id (o * 2) (flatK encN 2 d) cur, ?_, by simp [putCells, h2], fun j hj => ?_⟩
  · show (W.heap.modify g _)[g]? = _
    rw [Array.getElem?_modify, if_pos rfl, h1]
    rfl
  · obtain ⟨e1, e2⟩ := h3 j hj
    simp only [putCells, Array.getElem?_mapIdx, e1, e2, Option.map_some, size_flatK, id_eq]
    by_cases k : o ≤ j ∧ j < o + d.size
    · have q := flat_encN d (j := j - o) (by omega)
      rw [if_pos k, if_pos (by omega), if_pos (by omega), show j * 2 - o * 2 = (j - o) * 2 by omega, show j * 2 + 1 - o * 2 = (j - o) * 2 + 1 by omega, q.1, q.2]
      exact ⟨rfl, rfl⟩
    · rw [if_neg k, if_neg (by omega), if_neg (by omega)]
      exact ⟨rfl, rfl⟩
theorem OwnC.grown {W : World} {b g M : Nat} {c : Nat → V2} (h : OwnC W b g M c) (os : Array Obj) : OwnC (grow W os) b g M c := h.kept (heap_grow_old W os h.lt)
theorem OwnC.vecs {W : World} {b g M cap : Nat} {c : Nat → V2} {l : List V2} (h : OwnC W b g M c) (hl : l.length ≤ M) (hc : l.length ≤ cap) (e : ∀ j, j < l.length → c j = cyc l j) : VecsR W b (.slice (some ⟨g, 0, none⟩) l.length cap) l := by
  have hlt := h.lt
  obtain ⟨h0, hm, cur, h1, h2, h3⟩ := h
  have hfl := flat_len l
  rcases Nat.eq_zero_or_pos l.length with z | z
  · have : l = [] := List.eq_nil_of_length_eq_zero z
    subst this
    exact .inl ⟨rfl, rfl, _, cap, rfl, fun x hx => by obtain rfl := Option.some.inj hx; exact ⟨h0, hlt⟩⟩
  · refine .inr ⟨z, g, M, cap, rfl, ⟨by rw [intsV, List.length_map]; omega, .inr ⟨g, M, cur, rfl, h0, h1, hl, by unfold maxLen; omega, h2, ?_⟩⟩, hc⟩
    apply List.ext_getElem?
    intro t
    rw [List.getElem?_take]
    by_cases ht : t < l.length * 2
    · rw [if_pos ht, intsV_get _ t (by omega)]
      obtain ⟨a1, a2⟩ := h3 (t / 2) (by omega)
      obtain ⟨f1, f2⟩ := flat_get l (t / 2) (by omega)
      rw [e (t / 2) (by omega)] at a1 a2
      rw [Array.getElem?_toList]
      rcases Nat.mod_two_eq_zero_or_one t with q | q
      · rw [show t / 2 * 2 = t by omega] at a1 f1
        rw [a1, f1]
      · rw [show t / 2 * 2 + 1 = t by omega] at a2 f2
        rw [a2, f2]
    · rw [if_neg ht, List.getElem?_eq_none (by rw [intsV, List.length_map]; omega)]
theorem OwnC.holds {W : World} {b g M o : Nat} {c : Nat → V2} (h : OwnC W b g M c) (d : Array V2) (hd : o + d.size ≤ M) (e : ∀ j, j < d.size → c (o + j) = d[j]!) : HoldsK encN 2 W g (o * 2) d := by
  intro t ht
  rw [size_flatK] at ht
  obtain ⟨⟨c1, c2⟩, f1, f2⟩ := h.row (o + t / 2) (by omega)
  rw [e _ (by omega)] at c1 c2
  rcases Nat.mod_two_eq_zero_or_one t with q | q
  · have e2 : t = t / 2 * 2 := by omega
    have e3 : o * 2 + t = (o + t / 2) * 2 := by omega
    rw [e3]
    refine ⟨?_, f1⟩
    rw [c1, e2, (flat_encN d (by omega)).1, show t / 2 * 2 / 2 = t / 2 by omega]
    rfl
  · have e2 : t = t / 2 * 2 + 1 := by omega
    have e3 : o * 2 + t = (o + t / 2) * 2 + 1 := by omega
    rw [e3]
    refine ⟨?_, f2⟩
    rw [c2, e2, (flat_encN d (by omega)).2, show (t / 2 * 2 + 1) / 2 = t / 2 by omega]
    rfl
theorem list_get! {l : List V2} {j : Nat} (hj : j < l.length) : l.toArray[j]! = cyc l j := by
  rw [cyc_lt hj, getElem!_pos _ j (by simpa using hj), List.getElem?_eq_getElem hj]
  simp
/-- slices.SortFunc, of the first vectors of a block -/
theorem sortC_any (b g M cap : Nat) (c : Nat → V2) (l : List V2) (w : World) (h : OwnC w b g M c) (hl : l.length ≤ M) (e : ∀ j, j < l.length → c j = cyc l j) :
    Calls Tryd.prog 89 #[.slice (some ⟨g, 0, none⟩) l.length cap, .func (.func 72) #[] #[]] w fun e w' =>
      e = .returned (.tuple #[]) ∧ ∃ l', l'.Perm l ∧ Wk l' ∧ OwnC w' b g M (fun j => if j < l.length then cyc l' j else c j) ∧ Below b w w' := by
  have eg : ∀ args w, (callFunc 72 args).run Tryd.prog w = .ok (.enter 72 args) w := enters_of Tryd.func72 (by kernel_rfl) rfl
  have hs : l.toArray.size = l.length := by simp
  have hg := h.lt
  have hH : HoldsK encN 2 w g 0 l.toArray := by
    have := h.holds (o := 0) l.toArray (by rw [hs]; omega) (fun j hj => by rw [Nat.zero_add, e j (by omega), list_get! (by omega)])
    rwa [Nat.zero_mul] at this
  have hcon := AnyQ.slices_SortFunc Tryd.sortV 2 Tryd.isAgg38 Tryd.sizeOf38 encN (fun _ => rfl) (fun x v hv => by simp [encN] at hv; rcases hv with rfl | rfl <;> rfl) cfN swoN 72 #[] g 0 cap l.toArray w eg (cmpLaysN g 0 _ w) hH hg (by have := h.2.1; omega)
  change Calls Tryd.prog 89 _ _ _ at hcon
  rw [hs] at hcon
  refine hcon.mono ?_
  rintro e w' ⟨rfl, d', n, os, hP, hS, rfl⟩
  obtain ⟨hsz, _, hperm⟩ := hP
  have e1 : d'.extract 0 l.length = d' := by rw [← hs, ← hsz]; exact Array.extract_size
  have e2 : l.toArray.extract 0 l.length = l.toArray := by rw [← hs]; exact Array.extract_size
  rw [e1, e2] at hperm
  have hg' : ∀ i, i < d'.size → cyc d'.toList i = d'[i]! := fun i hi => by
    rw [cyc_lt (by simpa using hi), getElem!_pos _ i hi]
    simp [hi]
  refine ⟨rfl, d'.toList, by simpa using hperm, ?_, ?_, below_sortN w g n d' os h.1 hg⟩
  · unfold Wk
    rw [List.pairwise_iff_getElem]
    intro i j hi hj hij
    have hi' : i < d'.size := by simpa using hi
    have hj' : j < d'.size := by simpa using hj
    have q := hS i j (Nat.zero_le _) hij (by omega)
    rw [ltN_is] at q
    have ei : d'.toList[i] = d'[i]! := by rw [getElem!_pos _ i hi']; simp
    have ej : d'.toList[j] = d'[j]! := by rw [getElem!_pos _ j hj']; simp
    rw [ei, ej]
    rcases less_not q with k | k
    · exact .inl k.symm
    · exact .inr k
  · have q := (OwnC.lay (W := Sort.ahead w n) (o := 0) h d').grown os
    rw [Nat.zero_mul] at q
    refine q.congr fun j hj => ?_
    by_cases k : j < l.length
    · rw [if_pos ⟨Nat.zero_le _, by omega⟩, if_pos k, hg' j (by omega), Nat.sub_zero]
    · rw [if_neg (by omega), if_neg k]
/-- slices.Reverse, of some vectors of a block -/
theorem revC_any (b g M o off cap : Nat) (c : Nat → V2) (l : List V2) (w : World) (ho : off = o * 2) (h : OwnC w b g M c) (hl : o + l.length ≤ M) (e : ∀ j, j < l.length → c (o + j) = cyc l j) :
    Calls Tryd.prog 90 #[.slice (some ⟨g, off, none⟩) l.length cap] w fun e w' =>
      e = .returned (.tuple #[]) ∧ OwnC w' b g M (fun j => if o ≤ j ∧ j < o + l.length then cyc l.reverse (j - o) else c j) ∧ Below b w w' := by
  subst ho
  have hs : l.toArray.size = l.length := by simp
  have hH : HoldsK encN 2 w g (o * 2) l.toArray := h.holds (o := o) l.toArray (by rw [hs]; omega) (fun j hj => by rw [e j (by omega), list_get! (by omega)])
  have hcon := AnyQ.slices_Reverse Tryd.revV 2 Tryd.isAgg38 Tryd.sizeOf38 encN (fun _ => rfl) (fun x v hv => by simp [encN] at hv; rcases hv with rfl | rfl <;> rfl) g (o * 2) cap l.toArray w hH (by have := h.2.1; omega)
  change Calls Tryd.prog 90 _ _ _ at hcon
  rw [hs] at hcon
  refine hcon.mono ?_
  rintro e w' ⟨rfl, n, rfl⟩
  have q := OwnC.lay (W := Sort.ahead w n) (o := o) h l.toArray.reverse
  refine ⟨rfl, q.congr fun j hj => ?_, ?_⟩
  · have hr : l.toArray.reverse.size = l.length := by simp
    rw [hr]
    by_cases k : o ≤ j ∧ j < o + l.length
    · rw [if_pos k, if_pos k, show l.toArray.reverse = l.reverse.toArray by simp, list_get! (by simp; omega)]
    · rw [if_neg k, if_neg k]
  · have hg := h.1
    unfold putRowK
    refine ⟨rfl, rfl, rfl, by rw [size_putRow]; exact Nat.le_refl _, fun k hk => ?_⟩
    show (w.heap.modify g _)[k]? = _
    rw [Array.getElem?_modify, if_neg (by omega)]
end Go.Proofs.YthkcopmodfmoeaaDoor
