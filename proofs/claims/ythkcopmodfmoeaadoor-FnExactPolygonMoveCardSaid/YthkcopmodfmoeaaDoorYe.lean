/- Vectors that are copied, appended; a block that is made: the laws for impl.hull. -/
import Derived.Test.YthkcopmodfmoeaaDoorYc
import Derived.Deep.RegionLaw
import Derived.Laws.MakeOwn
import Derived.ArgAppend
namespace Go.Proofs.YthkcopmodfmoeaaDoor
open Go.RowKit

/-- vectors written into a block -/
theorem OwnC.cells {b g M : Nat} : ∀ (l : List V2) (o : Nat) (W : World) (c : Nat → V2), OwnC W b g M c → o + l.length ≤ M →
    OwnC (W.setCells g (o * 2) (intsV (flat l))) b g M (fun j => if o ≤ j ∧ j < o + l.length then cyc l (j - o) else c j)
  | [], o, W, c, h, _ => h.congr fun j _ => by rw [if_neg (by rw [List.length_nil]; omega)]
  | v :: l, o, W, c, h, hl => by
    rw [List.length_cons] at hl
    have h1 := h.set (k := o) (by omega) v
    have h2 := OwnC.cells l (o + 1) _ _ h1 (by omega)
    have e : W.setCells g (o * 2) (intsV (flat (v :: l))) = ((W.setCell ⟨g, o * 2, none⟩ (.int .i64 v.1)).setCell ⟨g, o * 2 + 1, none⟩ (.int .i64 v.2)).setCells g ((o + 1) * 2) (intsV (flat l)) := by
      rw [show (o + 1) * 2 = o * 2 + 1 + 1 by omega]
      rfl
    rw [e]
    refine h2.congr fun j hj => ?_
    rw [List.length_cons]
    by_cases k1 : j = o
    · subst k1
      rw [if_neg (by omega), if_pos rfl, if_pos (by omega), Nat.sub_self]
      rfl
    · by_cases k2 : o + 1 ≤ j ∧ j < o + 1 + l.length
      · rw [if_pos k2, if_pos (by omega), cyc_lt (by omega), cyc_lt (by simp; omega), show j - o = (j - (o + 1)) + 1 by omega, List.getElem?_cons_succ]
      · rw [if_neg k2, if_neg k1, if_neg (by omega)]
theorem made_own (w : World) (M : Nat) (hM : M ≤ 1048576) : OwnC (w.alloc (.cells (madeCells #[.int .i64 0, .int .i64 0] (M * 2)) 38)) w.heap.size w.heap.size M (fun _ => (0, 0)) := by
  refine ⟨Nat.le_refl _, hM, _, heap_alloc_new w _, size_madeCells _ _, fun j hj => ?_⟩
  unfold madeCells
  rw [Array.getElem?_map, Array.getElem?_map, Array.getElem?_range, Array.getElem?_range, if_pos (by omega), if_pos (by omega)]
  have e1 : j * 2 % 2 = 0 := by omega
  have e2 : (j * 2 + 1) % 2 = 1 := by omega
  constructor
  · simp [e1]
  · simp [e2]
theorem run_makeV (N : Nat) (hN : N ≤ 1048576) (w : World) :
    (Instr.makeSlice 24 (.int .i64 (N : Int)) (.int .i64 (N : Int))).run Tryd.prog w = .ok (.slice (some ⟨w.heap.size, 0, none⟩) N N) (w.alloc (.cells (madeCells #[.int .i64 0, .int .i64 0] (N * 2)) 38)) := by
  obtain ⟨i0, hi, hz0, hz1, hz2⟩ := info_parts infoVec
  have h := run_make (P := Tryd.prog) w 24 38 i0 (.agg #[.int .i64 (0), .int .i64 (0)]) Tryd.underlying24 hi hz0 .i64 .i64 (N : Int) (N : Int) (by omega) (Int.le_refl _) (by rw [hz2]; omega) (by omega)
  simp only [Int.toNat_natCast, hz1] at h
  exact h
theorem flatV_one (l : List V2) : ∀ v ∈ intsV (flat l), v.oneCell' = true := by
  intro v hv
  simp only [intsV, List.mem_map] at hv
  obtain ⟨x, _, rfl⟩ := hv
  rfl
theorem flatV_len (l : List V2) : (intsV (flat l)).length = l.length * 2 := by
  rw [intsV, List.length_map, flat_len]
  omega
theorem flatV_cells {w : World} {bb off : Nat} {l : List V2} (h : ∀ j, j < l.length → w.cell? ⟨bb, off + j * 2, none⟩ = some (.int .i64 (cyc l j).1) ∧ w.cell? ⟨bb, off + j * 2 + 1, none⟩ = some (.int .i64 (cyc l j).2)) :
    ∀ j v, (intsV (flat l))[j]? = some v → w.cell? ((⟨bb, off, none⟩ : Addr).add j) = some v := by
  intro j v hj
  have hlt : j < l.length * 2 := by
    rcases Nat.lt_or_ge j (l.length * 2) with h | h
    · exact h
    · rw [List.getElem?_eq_none (by rw [flatV_len]; omega)] at hj
      cases hj
  have hfl := flat_len l
  rw [intsV_get _ j (by omega)] at hj
  obtain ⟨e1, e2⟩ := flat_get l (j / 2) (by omega)
  obtain ⟨c1, c2⟩ := h (j / 2) (by omega)
  rw [Addr.add_lit]
  rcases Nat.mod_two_eq_zero_or_one j with q | q
  · rw [show j / 2 * 2 = j by omega] at e1 c1
    rw [c1, ← hj, e1]
  · rw [show j / 2 * 2 + 1 = j by omega] at e2
    rw [show off + j / 2 * 2 + 1 = off + j by omega] at c2
    rw [c2, ← hj, e2]
theorem run_copyV (w : World) (ty : TypeId) (g o dLen dCap : Nat) (v : Value) (l : List V2) (hR : ReadsVecs w v l) (hle : l.length ≤ dLen)
    (hc : ∀ j, j < l.length * 2 → (w.cell? ⟨g, o + j, none⟩).isSome = true ∧ w.frozen? ⟨g, o + j, none⟩ = false) :
    (Builtin.copy_ #[24, 24] ty #[.slice (some ⟨g, o, none⟩) dLen dCap, v]).run Tryd.prog w = .ok (goInt l.length) (w.setCells g o (intsV (flat l))) := by
  obtain ⟨i0, hi, hz0, hz1, hz2⟩ := info_parts infoVec
  obtain ⟨a, c, rfl, h1, h2, h3⟩ := hR
  have hmin : Nat.min l.length dLen = l.length := Nat.min_eq_left hle
  rcases Nat.eq_zero_or_pos l.length with z | z
  · have : l = [] := List.eq_nil_of_length_eq_zero z
    subst this
    have hl : ∀ (x : Addr), (loadCells x 0).run Tryd.prog w = .ok #[] w := fun x => by simpa using run_loadCells_list (P := Tryd.prog) w x [] (by simp)
    cases a <;> simp [Builtin.copy_, run_underlying Tryd.underlying24, Builtin.lenOf, Builtin.firstCells, sizeOf, typeInfo, hi, storeCells, hl, flat, intsV, World.setCells]
  · obtain ⟨bb, off, rfl, _, h5⟩ := h3 z
    have hl := run_loadCells_list (P := Tryd.prog) w ⟨bb, off, none⟩ (intsV (flat l)) (flatV_cells h5)
    have hst := run_storeCells_cells (P := Tryd.prog) g o (intsV (flat l)) 0 w (by rw [flatV_len]; intro j hj; exact (hc j hj).1) (by rw [flatV_len]; intro j hj; exact (hc j hj).2) (flatV_one l)
    rw [flatV_len] at hl
    simp only [Nat.add_zero] at hst
    simp [Builtin.copy_, run_underlying Tryd.underlying24, Builtin.lenOf, Builtin.firstCells, sizeOf, typeInfo, hi, hz1, hmin, hl, hst]
theorem wpList_copyV {w : World} {ops : Array Oper} {rest : List Oper} {o : Oper} {a : Act} {Q : Exit → Act → World → Prop} (hgd : o.guard = none) (d s : Operand)
    (ho : o.op = .call { callee := .builtin .copy, args := #[d, s], argTypes := #[24, 24] })
    (g off dLen dCap : Nat) (hd : a.eval d = .slice (some ⟨g, off, none⟩) dLen dCap) (v : Value) (hs : a.eval s = v) (l : List V2) (hR : ReadsVecs w v l) (hle : l.length ≤ dLen)
    (hc : ∀ j, j < l.length * 2 → (w.cell? ⟨g, off + j, none⟩).isSome = true ∧ w.frozen? ⟨g, off + j, none⟩ = false)
    (h : wpList Tryd.prog ops Q rest (a.put o.dst (goInt l.length)) (w.setCells g off (intsV (flat l)))) :
    wpList Tryd.prog ops Q (o :: rest) a w := by
  refine wpList_plain hgd fun K hK' => ?_
  have hrun := run_copyV w o.type g off dLen dCap v l hR hle hc
  unfold Oper.wp
  simp [execOp, ho, resolve, invoke, builtin, hd, hs, hrun, Result.andThen]
  exact hK' _ _ h
theorem step_copyV {ops : Array Oper} {o : Oper} {a : Act} {w : World} {K : Act → World → Prop} {Q : Exit → Act → World → Prop} {E : Prop} (hgd : o.guard = none) (d s : Operand)
    (ho : o.op = .call { callee := .builtin .copy, args := #[d, s], argTypes := #[24, 24] })
    (g off dLen dCap : Nat) (hd : a.eval d = .slice (some ⟨g, off, none⟩) dLen dCap) (v : Value) (hs : a.eval s = v) (l : List V2) (hR : ReadsVecs w v l) (hle : l.length ≤ dLen)
    (hc : ∀ j, j < l.length * 2 → (w.cell? ⟨g, off + j, none⟩).isSome = true ∧ w.frozen? ⟨g, off + j, none⟩ = false)
    (h : K (a.put o.dst (goInt l.length)) (w.setCells g off (intsV (flat l)))) :
    if Region.wanted o (yielded ops a.tmps) = true then Oper.wp Tryd.prog o a w K Q else E := by
  have hw : Region.wanted o (yielded ops a.tmps) = true := by simp [Region.wanted, hgd]
  rw [if_pos hw]
  have hrun := run_copyV w o.type g off dLen dCap v l hR hle hc
  unfold Oper.wp
  simp [execOp, ho, resolve, invoke, builtin, hd, hs, hrun, Result.andThen]
  exact h
/-- one half of a block, and then the other -/
theorem run_joinV (w : World) (ty : TypeId) (b g M n cap2 : Nat) (c : Nat → V2) (r1 r2 : List V2) (h : OwnC w b g M c) (hM : n + n ≤ M) (h1 : r1.length ≤ n) (h2 : r2.length ≤ n) (e1 : ∀ j, j < r1.length → c j = cyc r1 j) (e2 : ∀ j, j < r2.length → c (n + j) = cyc r2 j) :
    ∃ v' w', (Builtin.append_ #[24, 24] ty #[.slice (some ⟨g, 0, none⟩) r1.length n, .slice (some ⟨g, n * 2, none⟩) r2.length cap2]).run Tryd.prog w = .ok v' w' ∧ VecsR w' b v' (r1 ++ r2) ∧ Below b w w' := by
  obtain ⟨i0, hi, hz0, hz1, hz2⟩ := info_parts infoVec
  have hmx := h.2.1
  have hb := h.1
  have hlt := h.lt
  have q1 : ∀ j, j < r1.length → w.cell? ⟨g, 0 + j * 2, none⟩ = some (.int .i64 (cyc r1 j).1) ∧ w.cell? ⟨g, 0 + j * 2 + 1, none⟩ = some (.int .i64 (cyc r1 j).2) := fun j hj => by
    rw [Nat.zero_add, ← e1 j hj]
    exact (h.row j (by omega)).1
  have q2 : ∀ j, j < r2.length → w.cell? ⟨g, n * 2 + j * 2, none⟩ = some (.int .i64 (cyc r2 j).1) ∧ w.cell? ⟨g, n * 2 + j * 2 + 1, none⟩ = some (.int .i64 (cyc r2 j).2) := fun j hj => by
    rw [← e2 j hj, show n * 2 + j * 2 = (n + j) * 2 by omega]
    exact (h.row (n + j) (by omega)).1
  have hl2 := flatV_len r2
  by_cases hr : r1.length + r2.length ≤ n
  · have hrun := run_append_room_cells (P := Tryd.prog) w 24 ty 38 i0 Tryd.underlying24 hi g 0 r1.length n ⟨g, n * 2, none⟩ r2.length cap2 (intsV (flat r2)) (by rw [hl2, hz1]) (flatV_cells q2) (flatV_one r2) hr
      (by
        rw [hl2, hz1]
        intro j hj
        obtain ⟨⟨u1, u2⟩, _⟩ := h.row (r1.length + j / 2) (by omega)
        rcases Nat.mod_two_eq_zero_or_one j with q | q
        · rw [show (r1.length + j / 2) * 2 = 0 + r1.length * 2 + j by omega] at u1
          rw [u1]; rfl
        · rw [show (r1.length + j / 2) * 2 + 1 = 0 + r1.length * 2 + j by omega] at u2
          rw [u2]; rfl)
      (by
        rw [hl2, hz1]
        intro j hj
        obtain ⟨_, u3, u4⟩ := h.row (r1.length + j / 2) (by omega)
        rcases Nat.mod_two_eq_zero_or_one j with q | q
        · rwa [show (r1.length + j / 2) * 2 = 0 + r1.length * 2 + j by omega] at u3
        · rwa [show (r1.length + j / 2) * 2 + 1 = 0 + r1.length * 2 + j by omega] at u4)
    rw [hz1, Nat.zero_add] at hrun
    refine ⟨_, _, hrun, ?_, below_setCells b g hb _ _ _⟩
    have ho := OwnC.cells r2 r1.length w c h (by omega)
    have := ho.vecs (cap := n) (l := r1 ++ r2) (by simp; omega) (by simp; omega) (fun j hj => by
      rw [List.length_append] at hj
      by_cases k : j < r1.length
      · rw [if_neg (by omega), e1 j k, cyc_lt k, cyc_lt (by simp; omega), List.getElem?_append_left k]
      · rw [if_pos (by omega), cyc_lt (by omega), cyc_lt (by simp; omega), List.getElem?_append_right (by omega)])
    rwa [List.length_append] at this
  · obtain ⟨v', w', hrun, r3, r4⟩ := run_append_arg_grows (P := Tryd.prog) w 24 ty 38 i0 (.agg #[.int .i64 (0), .int .i64 (0)]) 2 16 Tryd.underlying24 hi hz0 hz1 hz2 rfl (by decide) ⟨g, 0, none⟩ r1.length n (intsV (flat r1)) (flatV_len r1) (flatV_cells q1) ⟨g, n * 2, none⟩ r2.length cap2 (intsV (flat r2)) hl2 (flatV_cells q2) (by omega) (by unfold maxLen; omega) (by omega)
    refine ⟨v', w', hrun, ?_, ?_⟩
    · have : Vecs w' w.heap.size v' (r1 ++ r2) := by
        unfold Vecs VRow
        rw [List.length_append, flat_app]
        have e : intsV (flat r1 ++ flat r2) = intsV (flat r1) ++ intsV (flat r2) := by simp [intsV]
        rw [e]
        exact r3
      exact this.R.lower (by omega)
    · exact (Below.refl b w).grown r4 (by omega) (fun q hq => by cases hq)
theorem step_joinV {ops : Array Oper} {o : Oper} {a : Act} {w : World} {K : Act → World → Prop} {Q : Exit → Act → World → Prop} {E : Prop} (hgd : o.guard = none) (s x : Operand)
    (ho : o.op = .call { callee := .builtin .append, args := #[s, x], argTypes := #[24, 24] })
    (b g M n cap2 m1 m2 : Nat) (c : Nat → V2) (r1 r2 : List V2) (hs : a.eval s = .slice (some ⟨g, 0, none⟩) m1 n) (hx : a.eval x = .slice (some ⟨g, n * 2, none⟩) m2 cap2) (k1 : m1 = r1.length) (k2 : m2 = r2.length)
    (h : OwnC w b g M c) (hM : n + n ≤ M) (h1 : r1.length ≤ n) (h2 : r2.length ≤ n) (e1 : ∀ j, j < r1.length → c j = cyc r1 j) (e2 : ∀ j, j < r2.length → c (n + j) = cyc r2 j)
    (hK : ∀ v' w', VecsR w' b v' (r1 ++ r2) → Below b w w' → K (a.put o.dst v') w') :
    if Region.wanted o (yielded ops a.tmps) = true then Oper.wp Tryd.prog o a w K Q else E := by
  have hw : Region.wanted o (yielded ops a.tmps) = true := by simp [Region.wanted, hgd]
  rw [if_pos hw]
  subst k1
  subst k2
  obtain ⟨v', w', hrun, r3, r4⟩ := run_joinV w o.type b g M n cap2 c r1 r2 h hM h1 h2 e1 e2
  unfold Oper.wp
  simp [execOp, ho, resolve, invoke, builtin, hs, hx, hrun, Result.andThen]
  exact hK v' w' r3 r4
theorem push_len : ∀ (st : List V2) (c : V2), (pushH st c).length ≤ st.length + 1
  | [], _ => by simp [pushH]
  | [_], _ => by simp [pushH]
  | b :: a :: st, c => by
    rw [pushH]
    split
    · simp
    · have := push_len (a :: st) c
      simp only [List.length_cons] at this ⊢
      omega
theorem fold_len : ∀ (l st : List V2), (l.foldl pushH st).length ≤ st.length + l.length
  | [], _ => by simp
  | c :: l, st => by
    have h1 := fold_len l (pushH st c)
    have h2 := push_len st c
    simp only [List.foldl_cons, List.length_cons]
    omega
theorem half_len (l : List V2) : ((halfH l).tail.reverse).length ≤ l.length := by
  have := fold_len l []
  rw [List.length_reverse, List.length_tail]
  unfold halfH
  simp only [List.length_nil] at this
  omega
end Go.Proofs.YthkcopmodfmoeaaDoor
