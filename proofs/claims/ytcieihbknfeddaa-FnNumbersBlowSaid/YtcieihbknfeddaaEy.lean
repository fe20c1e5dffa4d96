/- slices.Insert of one number into a slice of the call's own (the shelf's four roads, bridged). -/
import Derived.Test.YtcieihbknfeddaaSi
import Derived.Test.YtcieihbknfeddaaEi
import Derived.Test.YtcieihbknfeddaaI3
import Derived.Laws.IdiomCopy
namespace Go.Proofs.Ytcieihbknfeddaa
open Go.RowKit

/-- values written one by one from place o on -/
def setL : List Value → Nat → List Value → List Value
  | cs, _, [] => cs
  | cs, o, v :: r => setL (cs.set o v) (o + 1) r
theorem setL_len : ∀ (vs : List Value) (o : Nat) (cs : List Value), (setL cs o vs).length = cs.length
  | [], _, _ => rfl
  | v :: r, o, cs => by rw [setL, setL_len r]; simp
theorem setL_get : ∀ (vs : List Value) (o : Nat) (cs : List Value) (j : Nat), o + vs.length ≤ cs.length → (setL cs o vs)[j]? = if o ≤ j ∧ j < o + vs.length then vs[j - o]? else cs[j]?
  | [], o, cs, j, _ => by rw [if_neg (by simp)]; rfl
  | v :: r, o, cs, j, h => by
    have h' : o + (r.length + 1) ≤ cs.length := h
    rw [setL, setL_get r (o + 1) _ j (by simp; omega), List.getElem?_set]
    simp only [List.length_cons]
    by_cases e : o = j
    · subst e
      rw [if_neg (by omega), if_pos rfl, if_pos (by omega), if_pos (by omega), Nat.sub_self]
      rfl
    · rw [if_neg e]
      by_cases h1 : o + 1 ≤ j ∧ j < o + 1 + r.length
      · rw [if_pos h1, if_pos (by omega), show j - o = (j - (o + 1)) + 1 by omega, List.getElem?_cons_succ]
      · rw [if_neg h1, if_neg (by omega)]
theorem RowAt.cells {g : Nat} {t : TypeId} : ∀ (vs : List Value) (o : Nat) {W : World} {cs : List Value}, RowAt W g t cs → RowAt (W.setCells g o vs) g t (setL cs o vs)
  | [], _, _, _, h => h
  | v :: r, o, _, _, h => RowAt.cells r (o + 1) (h.store o v)
theorem belowCells (B g : Nat) (hg : B ≤ g) : ∀ (vs : List Value) (o : Nat) (w : World), Below B w (w.setCells g o vs)
  | [], _, _ => Below.refl _ _
  | v :: r, o, _ => ((Below.refl B _).setCell (p := ⟨g, o, none⟩) hg v).trans (belowCells B g hg r (o + 1) _)
/-- a slice of the call's own whose block is known whole -/
theorem Ints.block' {w : World} {base : Nat} {v : Value} {d : List Int} (h : Ints w base v d) (h0 : 0 < d.length) : ∃ g cap cur, v = .slice (some ⟨g, 0, none⟩) d.length cap ∧ base ≤ g ∧ RowAt w g 3 cur ∧ d.length ≤ cap ∧ cap ≤ maxLen ∧ cur.length = cap ∧ cur.take d.length = intsV d := by
  rcases h.2 with ⟨_, h⟩ | ⟨g, cap, cur, e, hb, hg, hc, hm, hs, ht⟩
  · omega
  · exact ⟨g, cap, cur.toList, e, hb, (by unfold RowAt; rw [Array.toArray_toList]; exact hg), hc, hm, by simpa using hs, by simpa using ht⟩
theorem Ints.of' {w : World} {base g cap : Nat} {cur : List Value} {d : List Int} {n : Nat} (hn : n = d.length) (hb : base ≤ g) (h : RowAt w g 3 cur) (hc : d.length ≤ cap) (hm : cap ≤ maxLen) (hs : cur.length = cap) (ht : ∀ j, j < d.length → cur[j]? = some (.int .i64 (gz d j))) : Ints w base (.slice (some ⟨g, 0, none⟩) n cap) d := by
  subst hn
  refine ⟨by simp [intsV], .inr ⟨g, cap, cur.toArray, rfl, hb, h, hc, hm, by simpa using hs, ?_⟩⟩
  refine List.ext_getElem? (fun j => ?_)
  rw [List.toList_toArray, Nat.mul_one, List.getElem?_take]
  by_cases hj : j < d.length
  · rw [if_pos hj, ht j hj, intsV_get d j hj]
    rfl
  · rw [if_neg hj, List.getElem?_eq_none (by simp [intsV]; omega)]
theorem cur_at {cur : List Value} {d : List Int} {j : Nat} (ht : cur.take d.length = intsV d) (hj : j < d.length) : cur[j]? = some (.int .i64 (gz d j)) := by
  have h : (cur.take d.length)[j]? = (intsV d)[j]? := by rw [ht]
  rw [List.getElem?_take, if_pos hj, intsV_get d j hj] at h
  exact h
theorem putN_len {d : List Int} {i : Nat} (x : Int) (h : i ≤ d.length) : (putN d i x).length = d.length + 1 := by simp [putN]; omega
theorem putN_at {d : List Int} {i j : Nat} (x : Int) (h : i ≤ d.length) : gz (putN d i x) j = if j < i then gz d j else if j = i then x else gz d (j - 1) := by
  unfold gz putN
  by_cases h1 : j < i
  · rw [if_pos h1, List.getElem?_append_left (by simp; omega), List.getElem?_take, if_pos h1]
  · rw [if_neg h1, List.getElem?_append_right (by simp; omega)]
    have e : j - (d.take i).length = j - i := by simp; omega
    rw [e]
    by_cases h2 : j = i
    · rw [if_pos h2, h2, Nat.sub_self]; rfl
    · rw [if_neg h2, show j - i = (j - 1 - i) + 1 by omega, List.getElem?_cons_succ, List.getElem?_drop]
      congr 2
      omega
theorem RowAt.new (W : World) (t : TypeId) (arr : Array Value) : RowAt (W.alloc (.cells arr t)) W.heap.size t arr.toList := by
  unfold RowAt
  rw [Array.toArray_toList]
  exact heap_alloc_new W _
theorem zerosLen (k : Nat) : (Builtin.zeroCells (Value.int .i64 0).cells k).size = k := by simp [Builtin.zeroCells, Value.cells]
theorem frozen_row {W : World} {g : Nat} {t : TypeId} {cs : List Value} (h : RowAt W g t cs) (j : Nat) : W.frozen? ⟨g, j, none⟩ = false := h.free j
set_option maxHeartbeats 4000000 in
theorem insert_any (base i vb : Nat) (v : Value) (d : List Int) (x : Int) (w : World) (h : Ints w base v d) (h0 : 0 < d.length) (hd : d.length ≤ 1000) (hi : i ≤ d.length) (hv : RowAt w vb 3 [.int .i64 x]) (hne : v.ownBlock ≠ some vb) (hb : base ≤ w.heap.size) :
    Calls Try.prog 13 #[v, .int .i64 i, .slice (some ⟨vb, 0, none⟩) 1 1] w fun e w' => ∃ v', e = .returned v' ∧ Ints w' base v' (putN d i x) ∧ Below base w w' := by
  obtain ⟨g, cap, cur, rfl, hg, hR, hc, hm, hs, ht⟩ := h.block' h0
  have hgb : g ≠ vb := fun e => hne (by rw [e]; rfl)
  have hcl : (intsV d).length = d.length := by simp [intsV]
  have hcs : ∀ j u, (intsV d)[j]? = some u → w.cell? ⟨g, 0 + j, none⟩ = some u := by
    intro j u hj
    have hlt : j < d.length := by have := (List.getElem?_eq_some_iff.1 hj).1; rwa [hcl] at this
    rw [Nat.zero_add, hR.val, cur_at ht hlt]
    exact (intsV_get d j hlt).symm.trans hj
  have hvs : ∀ j u, [Value.int .i64 x][j]? = some u → w.cell? ⟨vb, 0 + j, none⟩ = some u := by
    intro j u hj
    rw [Nat.zero_add, hv.val]
    exact hj
  have h1c := ints_one d
  have h1v : ∀ u ∈ [Value.int .i64 x], u.oneCell' = true := by
    intro u hu
    rw [List.mem_singleton] at hu
    subst hu
    rfl
  have hsp : ∀ j, j < cap → (w.cell? ⟨g, 0 + j, none⟩).isSome = true := by
    intro j hj
    rw [Nat.zero_add, hR.val, List.getElem?_eq_getElem (by omega)]
    rfl
  have hfz : ∀ j, w.frozen? ⟨g, 0 + j, none⟩ = false := fun j => hR.free _
  have hm63 : cap ≤ 9223372036854775807 := by unfold maxLen at hm; exact hm
  have hpl := putN_len x hi
  have hgs := hR.here
  by_cases hroom : d.length + 1 ≤ cap
  · by_cases hin : i < d.length
    · refine (Any2.slices_Insert_int_shift Try.insI g 0 d.length cap i vb 0 1 1 (intsV d) [.int .i64 x] w hin (by omega) hroom hm63 (fun e => hgb e.symm) hcl rfl hcs (fun j hj => hsp j (by omega)) (fun j _ => hfz j) hvs h1c h1v 3 3 1 cap ?_ ?_ (by omega) (hv.free _) (hv.free _)).mono ?_
      · have hv' : w.heap[vb]? = some (.cells [.int .i64 x].toArray 3 (0, 0)) := hv
        simp [World.shape?, hv']
      · have hR' : w.heap[g]? = some (.cells cur.toArray 3 (0, 0)) := hR
        simp [World.shape?, hR', hs]
      · rintro e w' ⟨rfl, rfl⟩
        have R1 : RowAt w.drew g 3 cur := hR
        have R2 := (R1.cells ((intsV d).drop i) (0 + (i + 1))).cells [.int .i64 x] (0 + i)
        refine ⟨_, rfl, Ints.of' hpl.symm hg R2 (by omega) hm (by rw [setL_len, setL_len]; exact hs) (fun j hj => ?_), (show Below base w w.drew from (by go_grown)).trans ((belowCells _ _ hg _ _ _).trans (belowCells _ _ hg _ _ _))⟩
        rw [hpl] at hj
        have l1 : ((intsV d).drop i).length = d.length - i := by simp [intsV]
        rw [setL_get _ _ _ _ (by rw [setL_len]; simp; omega), setL_get _ _ _ _ (by rw [l1]; omega), putN_at x hi, l1]
        simp only [List.length_singleton, Nat.zero_add]
        by_cases c1 : j < i
        · rw [if_neg (by omega), if_neg (by omega), if_pos c1]
          exact cur_at ht (by omega)
        · by_cases c2 : j = i
          · subst c2
            rw [if_pos (by omega), if_neg (by omega), if_pos rfl, Nat.sub_self]
            rfl
          · rw [if_neg (by omega), if_pos (by omega), if_neg c1, if_neg c2, List.getElem?_drop, show i + (j - (i + 1)) = j - 1 by omega]
            exact intsV_get d (j - 1) (by omega)
    · obtain rfl : i = d.length := by omega
      refine (Any2.slices_Insert_int_end_room Try.insI g 0 d.length cap vb 0 1 1 [.int .i64 x] w (by omega) hroom hm63 rfl (fun j hj => by have := hsp (d.length + j) (by omega); rwa [show 0 + (d.length + j) = 0 + d.length + j by omega] at this) (fun j hj => hR.free _) hvs h1v).mono ?_
      rintro e w' ⟨rfl, rfl⟩
      have R2 := hR.cells [.int .i64 x] (0 + d.length)
      refine ⟨_, rfl, Ints.of' hpl.symm hg R2 (by omega) hm (by rw [setL_len]; exact hs) (fun j hj => ?_), belowCells _ _ hg _ _ _⟩
      rw [hpl] at hj
      rw [setL_get _ _ _ _ (by simp; omega), putN_at x hi]
      simp only [List.length_singleton, Nat.zero_add]
      by_cases c1 : j < d.length
      · rw [if_neg (by omega), if_pos c1]
        exact cur_at ht c1
      · obtain rfl : j = d.length := by omega
        rw [if_pos (by omega), if_neg c1, if_pos rfl, Nat.sub_self]
        rfl
  · obtain rfl : cap = d.length := by omega
    have hmax : d.length + 1 ≤ maxLen := by unfold maxLen; omega
    have g1 := grownCap_ge w (d.length + 1) d.length 3
    have g2 := grownCap_le_maxLen w (d.length + 1) d.length 3 hmax
    by_cases hin : i < d.length
    · refine (Any2.slices_Insert_int_grow Try.insI g 0 d.length d.length i vb 0 1 1 (intsV d) [.int .i64 x] w hin (by omega) (by omega) (by omega) (by omega) hcl rfl hcs hvs h1c h1v).mono ?_
      rintro e w' ⟨rfl, rfl⟩
      have e9 : grownCap w (d.length + 1) d.length (Try.insI_ren.t 3) = grownCap w (d.length + 1) d.length 3 := rfl
      rw [e9]
      generalize grownCap w (d.length + 1) d.length 3 = cap at *
      have R0 := RowAt.new w 3 (((intsV d).take i).toArray ++ Builtin.zeroCells (Value.int .i64 0).cells (d.length + 1 - i) ++ Builtin.zeroCells (Value.int .i64 0).cells (cap - (d.length + 1)))
      have l0 : (((intsV d).take i).toArray ++ Builtin.zeroCells (Value.int .i64 0).cells (d.length + 1 - i) ++ Builtin.zeroCells (Value.int .i64 0).cells (cap - (d.length + 1))).toList.length = cap := by
        rw [Array.length_toList, Array.size_append, Array.size_append, zerosLen, zerosLen, List.size_toArray, List.length_take, hcl]
        omega
      have p0 : ∀ j, j < i → (((intsV d).take i).toArray ++ Builtin.zeroCells (Value.int .i64 0).cells (d.length + 1 - i) ++ Builtin.zeroCells (Value.int .i64 0).cells (cap - (d.length + 1))).toList[j]? = some (.int .i64 (gz d j)) := by
        intro j hj
        rw [Array.toList_append, Array.toList_append, List.getElem?_append_left (by simp; omega), List.getElem?_append_left (by simp; omega), List.toList_toArray, List.getElem?_take, if_pos hj]
        exact intsV_get d j (by omega)
      have hBa : Below base w (w.alloc (.cells (((intsV d).take i).toArray ++ Builtin.zeroCells (Value.int .i64 0).cells (d.length + 1 - i) ++ Builtin.zeroCells (Value.int .i64 0).cells (cap - (d.length + 1))) 3)) := (Below.refl _ _).alloc hb _
      generalize (((intsV d).take i).toArray ++ Builtin.zeroCells (Value.int .i64 0).cells (d.length + 1 - i) ++ Builtin.zeroCells (Value.int .i64 0).cells (cap - (d.length + 1))) = arr at *
      have R2 := (RowAt.cells [.int .i64 x] i R0.drawn).drawn.cells ((intsV d).drop i) (i + 1)
      refine ⟨_, rfl, Ints.of' hpl.symm hb R2 (by omega) g2 (by rw [setL_len, setL_len]; exact l0) (fun j hj => ?_), ((hBa.drew.trans (belowCells _ _ hb _ _ _)).drew).trans (belowCells _ _ hb _ _ _)⟩
      rw [hpl] at hj
      have l1 : ((intsV d).drop i).length = d.length - i := by simp [intsV]
      rw [setL_get _ _ _ _ (by rw [setL_len, l1]; omega), setL_get _ _ _ _ (by rw [List.length_singleton]; omega), putN_at x hi, l1]
      simp only [List.length_singleton]
      by_cases c1 : j < i
      · rw [if_neg (by omega), if_neg (by omega), if_pos c1]
        exact p0 j c1
      · by_cases c2 : j = i
        · subst c2
          rw [if_neg (by omega), if_pos (by omega), if_neg c1, if_pos rfl, Nat.sub_self]
          rfl
        · rw [if_pos (by omega), if_neg c1, if_neg c2, List.getElem?_drop, show i + (j - (i + 1)) = j - 1 by omega]
          exact intsV_get d (j - 1) (by omega)
    · obtain rfl : i = d.length := by omega
      refine (Any2.slices_Insert_int_end_grow Try.insI (some ⟨g, 0, none⟩) d.length d.length vb 0 1 1 (intsV d) [.int .i64 x] w (by omega) (by omega) (by omega) (by omega) hcl rfl (fun e => by cases e) ?_ hvs h1v).mono ?_
      · rintro a ⟨rfl⟩ j u hj
        rw [addr_add]
        exact hcs j u hj
      · rintro e w' ⟨rfl, rfl⟩
        have e9 : grownCap w (d.length + 1) d.length (Try.insI_ren.t 3) = grownCap w (d.length + 1) d.length 3 := rfl
        rw [e9]
        generalize grownCap w (d.length + 1) d.length 3 = cap at *
        have R0 := RowAt.new w.drew 3 ((intsV d ++ [Value.int .i64 x]).toArray ++ Builtin.zeroCells (Value.int .i64 0).cells (cap - (d.length + 1)))
        have l0 : ((intsV d ++ [Value.int .i64 x]).toArray ++ Builtin.zeroCells (Value.int .i64 0).cells (cap - (d.length + 1))).toList.length = cap := by
          rw [Array.length_toList, Array.size_append, zerosLen, List.size_toArray, List.length_append, hcl]
          simp
          omega
        refine ⟨_, rfl, Ints.of' hpl.symm hb R0 (by omega) g2 l0 (fun j hj => ?_), (show Below base w w.drew from (by go_grown)).alloc hb _⟩
        rw [hpl] at hj
        rw [Array.toList_append, List.getElem?_append_left (by simp [intsV]; omega), List.toList_toArray, putN_at x hi]
        by_cases c1 : j < d.length
        · rw [if_pos c1, List.getElem?_append_left (by rw [hcl]; exact c1)]
          exact intsV_get d j c1
        · obtain rfl : j = d.length := by omega
          rw [if_neg c1, if_pos rfl, List.getElem?_append_right (by rw [hcl]; omega), hcl, Nat.sub_self]
          rfl
end Go.Proofs.Ytcieihbknfeddaa
