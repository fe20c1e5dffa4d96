import Derived.Laws.StructEq
import Derived.Test.YtcieihbknfeddaaL4
import Derived.Test.YtcieihbknfeddaaI8
import Derived.Test.YtcieihbknfeddaaB7
import Derived.Laws.IdiomCopy
/- Vectors compared by ==. -/
namespace Go.Proofs.Ytcieihbknfeddaa
open Go.RowKit

theorem run_eqV (x1 y1 x2 y2 : Int) (w : World) : (binOp .eql 51 (.agg #[.int .i64 (x1), .int .i64 (y1)]) (.agg #[.int .i64 (x2), .int .i64 (y2)])).run Try.prog w = .ok (.bool (decide (x1 = x2) && decide (y1 = y2))) w := by
  have hS : Try.prog.underlying 51 = some (.struct (Try.prog.fieldsOf 51)) := by kernel_rfl
  have hp : Try.prog.stoodInHeld 51 = false := by kernel_rfl
  have u3 := Try.underlying3
  have a3 := Try.isAgg3
  have z3 := Try.sizeOf3
  rw [run_eql_struct, show (10000 : Nat) = 9999 + 1 from rfl, run_equalIn_agg w 9999 51 _ _ hS hp]
  simp only [Program.fieldsOf, Try.underlying51]
  go_simp
  by_cases h1 : x1 = x2 <;> by_cases h2 : y1 = y2 <;> simp [h1, h2]
theorem run_neV (x1 y1 x2 y2 : Int) (w : World) : (binOp .neq 51 (.agg #[.int .i64 (x1), .int .i64 (y1)]) (.agg #[.int .i64 (x2), .int .i64 (y2)])).run Try.prog w = .ok (.bool (!(decide (x1 = x2) && decide (y1 = y2)))) w := by
  have hS : Try.prog.underlying 51 = some (.struct (Try.prog.fieldsOf 51)) := by kernel_rfl
  have hp : Try.prog.stoodInHeld 51 = false := by kernel_rfl
  have u3 := Try.underlying3
  have a3 := Try.isAgg3
  have z3 := Try.sizeOf3
  rw [run_neq_struct, show (10000 : Nat) = 9999 + 1 from rfl, run_equalIn_agg w 9999 51 _ _ hS hp]
  simp only [Program.fieldsOf, Try.underlying51]
  go_simp
  by_cases h1 : x1 = x2 <;> by_cases h2 : y1 = y2 <;> simp [h1, h2]
theorem guardV : Try.prog.eqGuardType Try.prog.depth 51 = false := by kernel_rfl
end Go.Proofs.Ytcieihbknfeddaa

/- slices.Compact at vectors. -/
namespace Go.Proofs.Ytcieihbknfeddaa
open Go.RowKit

/-- clear, of vectors -/
theorem run_clearV (w : World) (g o n c : Nat) (hn : 0 < n) (hc : ∀ j, j < n * 2 → (w.cell? ⟨g, o + j, none⟩).isSome = true) (hf : ∀ j, j < n * 2 → w.frozen? ⟨g, o + j, none⟩ = false) :
    ∃ zs : List Value, zs.length = n * 2 ∧ ∀ ty, (Builtin.clear_ #[40] ty #[.slice (some ⟨g, o, none⟩) n c]).run Try.prog w = .ok (.tuple #[]) (w.setCells g o zs) := by
  refine ⟨(Builtin.zeroCells #[.int .i64 0, .int .i64 0] n).toList, by simp [Builtin.zeroCells], fun ty => ?_⟩
  have hl : (Builtin.zeroCells #[.int .i64 0, .int .i64 0] n).toList.length = n * 2 := by simp [Builtin.zeroCells]
  have h1 : ∀ v ∈ (Builtin.zeroCells #[.int .i64 0, .int .i64 0] n).toList, v.oneCell' = true := by
    intro v hv
    simp [Builtin.zeroCells] at hv
    obtain ⟨i, _, rfl⟩ := hv
    have : i % 2 = 0 ∨ i % 2 = 1 := by omega
    rcases this with h | h <;> rw [h] <;> rfl
  have hst := run_storeCells_cells (P := Try.prog) g o (Builtin.zeroCells #[.int .i64 0, .int .i64 0] n).toList 0 w (by rw [hl]; simpa using hc) (by rw [hl]; simpa using hf) h1
  simp only [Nat.add_zero] at hst
  obtain ⟨m, rfl⟩ : ∃ m, n = m + 1 := ⟨n - 1, by omega⟩
  have hv : ∀ w, (zeroValue 51).run Try.prog w = .ok (.agg #[.int .i64 (0), .int .i64 (0)]) w := fun w => Try.zeroValue51 w
  simp [Builtin.clear_, run_underlying Try.underlying40, hv, Value.cells, hst]
theorem below_setCells (B g : Nat) (hg : B ≤ g) : ∀ (vs : List Value) (o : Nat) (w : World), Below B w (w.setCells g o vs)
  | [], _, w => Below.refl _ _
  | v :: r, o, w => by
    rw [World.setCells]
    exact ((Below.refl B w).setCell (p := ⟨g, o, none⟩) hg v).trans (below_setCells B g hg r (o + 1) _)
/-- n vectors in block g, from its first cell on -/
def RowC (W : World) (g : Nat) (c : Nat → V2) (n : Nat) : Prop :=
  ∀ j, j < n → (W.cell? ⟨g, j * 2, none⟩ = some (.int .i64 (c j).1) ∧ W.cell? ⟨g, j * 2 + 1, none⟩ = some (.int .i64 (c j).2)) ∧ W.frozen? ⟨g, j * 2, none⟩ = false ∧ W.frozen? ⟨g, j * 2 + 1, none⟩ = false
theorem RowC.put {W : World} {g : Nat} {c : Nat → V2} {n k : Nat} (h : RowC W g c n) (hk : k < n) (x : V2) :
    RowC ((W.setCell ⟨g, k * 2, none⟩ (.int .i64 x.1)).setCell ⟨g, k * 2 + 1, none⟩ (.int .i64 x.2)) g (fun j => if j = k then x else c j) n := by
  intro j hj
  obtain ⟨⟨c1, c2⟩, f1, f2⟩ := h j hj
  refine ⟨?_, by simpa using f1, by simpa using f2⟩
  by_cases e : j = k
  · subst e
    simp only [if_pos]
    refine ⟨?_, World.cell?_setCell_same _ _ _ (u := .int .i64 (c j).2) ?_⟩
    · rw [World.cell?_setCell_other _ _ _ _ (by simp)]
      exact World.cell?_setCell_same _ _ _ c1
    · rw [World.cell?_setCell_other _ _ _ _ (by simp)]
      exact c2
  · simp only [if_neg e]
    constructor
    · rw [World.cell?_setCell_other _ _ _ _ (by first | (simp; done) | (simp; omega)), World.cell?_setCell_other _ _ _ _ (by first | (simp; done) | (simp; omega))]
      exact c1
    · rw [World.cell?_setCell_other _ _ _ _ (by first | (simp; done) | (simp; omega)), World.cell?_setCell_other _ _ _ _ (by first | (simp; done) | (simp; omega))]
      exact c2
theorem RowC.drew {W : World} {g : Nat} {c : Nat → V2} {n : Nat} (h : RowC W g c n) : RowC W.drew g c n := h
theorem RowC.congr {W : World} {g : Nat} {c c' : Nat → V2} {n m : Nat} (h : RowC W g c n) (hm : m ≤ n) (e : ∀ j, j < m → c j = c' j) : RowC W g c' m := fun j hj => by
  rw [← e j hj]
  exact h j (by omega)
theorem RowC.reads {W : World} {g : Nat} {c : Nat → V2} {n cap : Nat} {o : List V2} (h : RowC W g c n) (hg : g < W.heap.size) (ho : o.length ≤ n) (hn : n ≤ 1048576) (hc : n ≤ cap) (e : ∀ j, j < o.length → c j = cyc o j) : ReadsVecs W (.slice (some ⟨g, 0, none⟩) o.length cap) o :=
  ⟨_, cap, rfl, by omega, by omega, fun _ => ⟨g, 0, rfl, hg, fun j hj => by
    rw [Nat.zero_add, ← e j hj]
    exact (h j (by omega)).1⟩⟩
/-- vectors in order, of which some may stand more than once -/
def Sorted (l : List V2) : Prop := ∀ i j, i < j → j < l.length → aheadV (cyc l j) (cyc l i) = false
theorem strict_snoc {o : List V2} {p x : V2} (h : Strict (o ++ [p])) (hp : AllP (o ++ [p])) (hx : primB x.1 x.2 = true) (ha : aheadV p x = true) : Strict ((o ++ [p]) ++ [x]) := by
  unfold Strict at *
  refine List.pairwise_append.2 ⟨h, by simp, fun y hy z hz => ?_⟩
  obtain rfl := List.mem_singleton.1 hz
  rcases List.mem_append.1 hy with hy' | hy'
  · have h1 := (List.pairwise_append.1 h).2.2 y hy' p (by simp)
    exact ahead_trans (prim_nz (hp y hy)) (prim_nz (hp p (by simp))) (prim_nz hx) h1 ha
  · obtain rfl := List.mem_singleton.1 hy'
    exact ha
/-- what is left of the first m vectors -/
structure Comp (l : List V2) (m : Nat) (o : List V2) (p : V2) : Prop where
  strict : Strict (o ++ [p])
  mem : ∀ x, x ∈ o ++ [p] ↔ x ∈ l.take m
  last : p = cyc l (m - 1)
  pos : 1 ≤ m
  le : m ≤ l.length
theorem take_cyc {l : List V2} {m : Nat} (h : m < l.length) : l.take (m + 1) = l.take m ++ [cyc l m] := by
  rw [List.take_add_one, cyc_get h]
  rfl
theorem Comp.allP {l : List V2} {m : Nat} {o : List V2} {p : V2} (h : Comp l m o p) (hp : AllP l) : AllP (o ++ [p]) := fun v hv => hp v (List.mem_of_mem_take ((h.mem v).1 hv))
theorem Comp.one {l : List V2} (h0 : 0 < l.length) : Comp l 1 [] (cyc l 0) :=
  ⟨by simp [Strict], fun x => by rw [take_cyc h0]; simp, rfl, Nat.le_refl _, h0⟩
theorem Comp.skip {l : List V2} {m : Nat} {o : List V2} {p : V2} (h : Comp l m o p) (hm : m < l.length) (e : cyc l m = cyc l (m - 1)) : Comp l (m + 1) o p := by
  refine ⟨h.strict, fun x => ?_, by rw [Nat.add_sub_cancel, e]; exact h.last, by omega, hm⟩
  rw [h.mem, take_cyc hm, List.mem_append, List.mem_singleton]
  constructor
  · exact .inl
  · rintro (h1 | rfl)
    · exact h1
    · rw [e, ← h.last, ← h.mem]
      simp
theorem Comp.keep {l : List V2} {m : Nat} {o : List V2} {p : V2} (h : Comp l m o p) (hm : m < l.length) (hp : AllP l) (hs : Sorted l) (e : cyc l m ≠ cyc l (m - 1)) : Comp l (m + 1) (o ++ [p]) (cyc l m) := by
  have hx : primB (cyc l m).1 (cyc l m).2 = true := hp _ (cyc_mem (by omega) m)
  have hpp := h.allP hp
  have ha : aheadV p (cyc l m) = true := by
    cases k : aheadV p (cyc l m)
    · have k2 := hs (m - 1) m (by have := h.pos; omega) hm
      rw [← h.last] at k2
      have := ahead_total (prim_one (hpp p (by simp))) (prim_one hx) k k2
      rw [h.last] at this
      exact absurd this.symm e
    · rfl
  refine ⟨strict_snoc h.strict hpp hx ha, fun x => ?_, by rw [Nat.add_sub_cancel], by omega, hm⟩
  rw [List.mem_append, h.mem, take_cyc hm, List.mem_append]
theorem Comp.done {l : List V2} {o : List V2} {p : V2} (h : Comp l l.length o p) (hp : AllP l) : o ++ [p] = sortL l :=
  sort_is hp h.strict (fun x => by rw [h.mem, List.take_of_length_le (Nat.le_refl _)])
theorem Vecs.rowC {w : World} {b g c : Nat} {l : List V2} (h : Vecs w b (.slice (some ⟨g, 0, none⟩) l.length c) l) : RowC w g (cyc l) l.length := by
  intro j hj
  obtain ⟨e1, e2⟩ := flat_get l j hj
  have h' : w.ownsRow b 51 2 (.slice (some ⟨g, 0, none⟩) l.length c) l.length (intsV (flat l)) := h
  rw [← e1, ← e2]
  exact ⟨⟨VRow.cell h (j * 2) (by omega), VRow.cell h (j * 2 + 1) (by omega)⟩, World.ownsRow.frozenAt h' (j * 2), World.ownsRow.frozenAt h' (j * 2 + 1)⟩
end Go.Proofs.Ytcieihbknfeddaa

/- slices.Compact at vectors: the walk. -/
namespace Go.Proofs.Ytcieihbknfeddaa
open Go.RowKit

theorem cyc_snoc_low {o : List V2} {x : V2} {j : Nat} (h : j < o.length) : cyc (o ++ [x]) j = cyc o j := by
  rw [cyc_lt (by simp; omega), cyc_lt h, List.getElem?_append_left h]
theorem cyc_snoc_top {o : List V2} {x : V2} {j : Nat} (h : j = o.length) : cyc (o ++ [x]) j = x := by
  subst h
  rw [cyc_lt (by simp), List.getElem?_append_right (Nat.le_refl _)]
  simp
/-- what holds in the second loop -/
structure KeptS (l : List V2) (g m kk : Nat) (o : List V2) (p : V2) (c : Nat → V2) (W : World) : Prop where
  comp : Comp l m o p
  len : kk = o.length + 1
  row : RowC W g c l.length
  low : ∀ j, j < kk → c j = cyc (o ++ [p]) j
  high : ∀ j, m - 1 ≤ j → j < l.length → c j = cyc l j
theorem KeptS.next {l : List V2} {g m kk : Nat} {o : List V2} {p : V2} {c : Nat → V2} {W : World} (h : KeptS l g m kk o p c W) (hm : m < l.length) (e : cyc l m = cyc l (m - 1)) : KeptS l g (m + 1) kk o p c W.drew :=
  ⟨h.comp.skip hm e, h.len, h.row, h.low, fun j h1 h2 => h.high j (by omega) h2⟩
theorem KeptS.store {l : List V2} {g m kk : Nat} {o : List V2} {p : V2} {c : Nat → V2} {W : World} (h : KeptS l g m kk o p c W) (hm : m < l.length) (hk : kk ≤ m - 1) (hp : AllP l) (hs : Sorted l) (e : cyc l m ≠ cyc l (m - 1)) :
    KeptS l g (m + 1) (kk + 1) (o ++ [p]) (cyc l m) (fun j => if j = kk then cyc l m else c j) ((W.drew.setCell ⟨g, kk * 2, none⟩ (.int .i64 (cyc l m).1)).setCell ⟨g, kk * 2 + 1, none⟩ (.int .i64 (cyc l m).2)) := by
  have hl := h.len
  have hp1 := h.comp.pos
  refine ⟨h.comp.keep hm hp hs e, by simp; omega, RowC.put (W := W.drew) h.row (by omega) _, fun j hj => ?_, fun j h1 h2 => ?_⟩
  · by_cases e2 : j = kk
    · rw [if_pos e2, cyc_snoc_top (by simp; omega)]
    · rw [if_neg e2, cyc_snoc_low (by simp; omega)]
      exact h.low j (by omega)
  · have e2 : ¬ j = kk := by omega
    rw [if_neg e2]
    exact h.high j (by omega) h2
end Go.Proofs.Ytcieihbknfeddaa
