import Derived.Laws.StructEq
import Derived.Test.YtcieihbknfeddaaDoorL4
import Derived.Test.YtcieihbknfeddaaDoorI8
import Derived.Test.YtcieihbknfeddaaDoorB7
import Derived.Laws.IdiomCopy
/- Vectors compared by ==. -/
namespace Go.Proofs.YtcieihbknfeddaaDoor
open Go.RowKit

theorem run_eqV (x1 y1 x2 y2 : Int) (w : World) : (binOp .eql 26 (.agg #[.int .i64 (x1), .int .i64 (y1)]) (.agg #[.int .i64 (x2), .int .i64 (y2)])).run Tryd.prog w = .ok (.bool (decide (x1 = x2) && decide (y1 = y2))) w := by
  have hS : Tryd.prog.underlying 26 = some (.struct (Tryd.prog.fieldsOf 26)) := by kernel_rfl
  have hp : Tryd.prog.stoodInHeld 26 = false := by kernel_rfl
  have u3 := Tryd.underlying3
  have a3 := Tryd.isAgg3
  have z3 := Tryd.sizeOf3
  rw [run_eql_struct, show (10000 : Nat) = 9999 + 1 from rfl, run_equalIn_agg w 9999 26 _ _ hS hp]
  simp only [Program.fieldsOf, Tryd.underlying26]
  go_simp
  by_cases h1 : x1 = x2 <;> by_cases h2 : y1 = y2 <;> simp [h1, h2]
theorem run_neV (x1 y1 x2 y2 : Int) (w : World) : (binOp .neq 26 (.agg #[.int .i64 (x1), .int .i64 (y1)]) (.agg #[.int .i64 (x2), .int .i64 (y2)])).run Tryd.prog w = .ok (.bool (!(decide (x1 = x2) && decide (y1 = y2)))) w := by
  have hS : Tryd.prog.underlying 26 = some (.struct (Tryd.prog.fieldsOf 26)) := by kernel_rfl
  have hp : Tryd.prog.stoodInHeld 26 = false := by kernel_rfl
  have u3 := Tryd.underlying3
  have a3 := Tryd.isAgg3
  have z3 := Tryd.sizeOf3
  rw [run_neq_struct, show (10000 : Nat) = 9999 + 1 from rfl, run_equalIn_agg w 9999 26 _ _ hS hp]
  simp only [Program.fieldsOf, Tryd.underlying26]
  go_simp
  by_cases h1 : x1 = x2 <;> by_cases h2 : y1 = y2 <;> simp [h1, h2]
theorem guardV : Tryd.prog.eqGuardType Tryd.prog.depth 26 = false := by kernel_rfl
end Go.Proofs.YtcieihbknfeddaaDoor

/- slices.Compact at vectors. -/
namespace Go.Proofs.YtcieihbknfeddaaDoor
open Go.RowKit

/-- clear, of vectors -/
theorem run_clearV (w : World) (g o n c : Nat) (hn : 0 < n) (hc : ∀ j, j < n * 2 → (w.cell? ⟨g, o + j, none⟩).isSome = true) (hf : ∀ j, j < n * 2 → w.frozen? ⟨g, o + j, none⟩ = false) :
    ∃ zs : List Value, zs.length = n * 2 ∧ ∀ ty, (Builtin.clear_ #[39] ty #[.slice (some ⟨g, o, none⟩) n c]).run Tryd.prog w = .ok (.tuple #[]) (w.setCells g o zs) := by
  refine ⟨(Builtin.zeroCells #[.int .i64 0, .int .i64 0] n).toList, by simp [Builtin.zeroCells], fun ty => ?_⟩
  have hl : (Builtin.zeroCells #[.int .i64 0, .int .i64 0] n).toList.length = n * 2 := by simp [Builtin.zeroCells]
  have h1 : ∀ v ∈ (Builtin.zeroCells #[.int .i64 0, .int .i64 0] n).toList, v.oneCell' = true := by
    intro v hv
    simp [Builtin.zeroCells] at hv
    obtain ⟨i, _, rfl⟩ := hv
    have : i % 2 = 0 ∨ i % 2 = 1 := by omega
    rcases this with h | h <;> rw [h] <;> rfl
  have hst := run_storeCells_cells (P := Tryd.prog) g o (Builtin.zeroCells #[.int .i64 0, .int .i64 0] n).toList 0 w (by rw [hl]; simpa using hc) (by rw [hl]; simpa using hf) h1
  simp only [Nat.add_zero] at hst
  obtain ⟨m, rfl⟩ : ∃ m, n = m + 1 := ⟨n - 1, by omega⟩
  have hv : ∀ w, (zeroValue 26).run Tryd.prog w = .ok (.agg #[.int .i64 (0), .int .i64 (0)]) w := fun w => Tryd.zeroValue26 w
  simp [Builtin.clear_, run_underlying Tryd.underlying39, hv, Value.cells, hst]
theorem below_setCells (B g : Nat) (hg : B ≤ g) : ∀ (vs : List Value) (o : Nat) (w : World), Below B w (w.setCells g o vs)
  | [], _, w => Below.refl _ _
  | v :: r, o, w => by
    rw [World.setCells]
    exact ((Below.refl B w).setCell (p := ⟨g, o, none⟩) hg v).trans (below_setCells B g hg r (o + 1) _)
/-- n vectors in block g, from its first cell on -/
def RowC (W : World) (g : Nat) (c : Nat → V2) (n : Nat) : Prop :=
  ∀ j, j < n → (W.cell? ⟨g, j * 2, none⟩ = some (.int .i64 (c j).1) ∧ W.cell? ⟨g, j * 2 + 1, none⟩ = some (.int .i64 (c j).2)) ∧ W.frozen? ⟨g, j * 2, none⟩ = false ∧ W.frozen? ⟨g, j * 2 + 1, none⟩ = false
theorem RowC.put {W : World} {g : Nat} {c : Nat → V2} {n k : Nat} (h : RowC W g c n) (hk : k < n) (x : V2) :
    RowC ((W.setCell ⟨g, k * 2, none⟩ (.int .i64 x.1)).setCell ⟨g, k * 2 + 1, none⟩ (.int .i64 x.2)) g (fun j => if j = k then x else c j) n := by
  intro j hj
  obtain ⟨⟨c1, c2⟩, f1, f2⟩ := h j hj
  refine ⟨?_, by simpa using f1, by simpa using f2⟩
  by_cases e : j = k
  · subst e
    simp only [if_pos]
    refine ⟨?_, World.cell?_setCell_same _ _ _ (u := .int .i64 (c j).2) ?_⟩
    · rw [World.cell?_setCell_other _ _ _ _ (by simp)]
      exact World.cell?_setCell_same _ _ _ c1
    · rw [World.cell?_setCell_other _ _ _ _ (by simp)]
      exact c2
  · simp only [if_neg e]
    constructor
    · rw [World.cell?_setCell_other _ _ _ _ (by first | (simp; done) | (simp; omega)), World.cell?_setCell_other _ _ _ _ (by first | (simp; done) | (simp; omega))]
      exact c1
    · rw [World.cell?_setCell_other _ _ _ _ (by first | (simp; done) | (simp; omega)), World.cell?_setCell_other _ _ _ _ (by first | (simp; done) | (simp; omega))]
      exact c2
theorem RowC.drew {W : World} {g : Nat} {c : Nat → V2} {n : Nat} (h : RowC W g c n) : RowC W.drew g c n := h
theorem RowC.congr {W : World} {g : Nat} {c c' : Nat → V2} {n m : Nat} (h : RowC W g c n) (hm : m ≤ n) (e : ∀ j, j < m → c j = c' j) : RowC W g c' m := fun j hj => by
  rw [← e j hj]
  exact h j (by omega)
theorem RowC.reads {W : World} {g : Nat} {c : Nat → V2} {n cap : Nat} {o : List V2} (h : RowC W g c n) (hg : g < W.heap.size) (ho : o.length ≤ n) (hn : n ≤ 1048576) (hc : n ≤ cap) (e : ∀ j, j < o.length → c j = cyc o j) : ReadsVecs W (.slice (some ⟨g, 0, none⟩) o.length cap) o :=
  ⟨_, cap, rfl, by omega, by omega, fun _ => ⟨g, 0, rfl, hg, fun j hj => by
    rw [Nat.zero_add, ← e j hj]
    exact (h j (by omega)).1⟩⟩
/-- vectors in order, of which some may stand more than once -/
def Sorted (l : List V2) : Prop := ∀ i j, i < j → j < l.length → aheadV (cyc l j) (cyc l i) = false
theorem strict_snoc {o : List V2} {p x : V2} (h : Strict (o ++ [p])) (hp : AllP (o ++ [p])) (hx : primB x.1 x.2 = true) (ha : aheadV p x = true) : Strict ((o ++ [p]) ++ [x]) := by
  unfold Strict at *
  refine List.pairwise_append.2 ⟨h, by simp, fun y hy z hz => ?_⟩
  obtain rfl := List.mem_singleton.1 hz
  rcases List.mem_append.1 hy with hy' | hy'
  · have h1 := (List.pairwise_append.1 h).2.2 y hy' p (by simp)
    exact ahead_trans (prim_nz (hp y hy)) (prim_nz (hp p (by simp))) (prim_nz hx) h1 ha
  · obtain rfl := List.mem_singleton.1 hy'
    exact ha
/-- what is left of the first m vectors -/
structure Comp (l : List V2) (m : Nat) (o : List V2) (p : V2) : Prop where
  strict : Strict (o ++ [p])
  mem : ∀ x, x ∈ o ++ [p] ↔ x ∈ l.take m
  last : p = cyc l (m - 1)
  pos : 1 ≤ m
  le : m ≤ l.length
theorem take_cyc {l : List V2} {m : Nat} (h : m < l.length) : l.take (m + 1) = l.take m ++ [cyc l m] := by
  rw [List.take_add_one, cyc_get h]
  rfl
theorem Comp.allP {l : List V2} {m : Nat} {o : List V2} {p : V2} (h : Comp l m o p) (hp : AllP l) : AllP (o ++ [p]) := fun v hv => hp v (List.mem_of_mem_take ((h.mem v).1 hv))
theorem Comp.one {l : List V2} (h0 : 0 < l.length) : Comp l 1 [] (cyc l 0) :=
  ⟨by simp [Strict], fun x => by rw [take_cyc h0]; simp, rfl, Nat.le_refl _, h0⟩
theorem Comp.skip {l : List V2} {m : Nat} {o : List V2} {p : V2} (h : Comp l m o p) (hm : m < l.length) (e : cyc l m = cyc l (m - 1)) : Comp l (m + 1) o p := by
  refine ⟨h.strict, fun x => ?_, by rw [Nat.add_sub_cancel, e]; exact h.last, by omega, hm⟩
  rw [h.mem, take_cyc hm, List.mem_append, List.mem_singleton]
  constructor
  · exact .inl
  · rintro (h1 | rfl)
    · exact h1
    · rw [e, ← h.last, ← h.mem]
      simp
theorem Comp.keep {l : List V2} {m : Nat} {o : List V2} {p : V2} (h : Comp l m o p) (hm : m < l.length) (hp : AllP l) (hs : Sorted l) (e : cyc l m ≠ cyc l (m - 1)) : Comp l (m + 1) (o ++ [p]) (cyc l m) := by
  have hx : primB (cyc l m).1 (cyc l m).2 = true := hp _ (cyc_mem (by omega) m)
  have hpp := h.allP hp
  have ha : aheadV p (cyc l m) = true := by
    cases k : aheadV p (cyc l m)
    · have k2 := hs (m - 1) m (by have := h.pos; omega) hm
      rw [← h.last] at k2
      have := ahead_total (prim_one (hpp p (by simp))) (prim_one hx) k k2
      rw [h.last] at this
      exact absurd this.symm e
    · rfl
  refine ⟨strict_snoc h.strict hpp hx ha, fun x => ?_, by rw [Nat.add_sub_cancel], by omega, hm⟩
  rw [List.mem_append, h.mem, take_cyc hm, List.mem_append]
theorem Comp.done {l : List V2} {o : List V2} {p : V2} (h : Comp l l.length o p) (hp : AllP l) : o ++ [p] = sortL l :=
  sort_is hp h.strict (fun x => by rw [h.mem, List.take_of_length_le (Nat.le_refl _)])
theorem Vecs.rowC {w : World} {b g c : Nat} {l : List V2} (h : Vecs w b (.slice (some ⟨g, 0, none⟩) l.length c) l) : RowC w g (cyc l) l.length := by
  intro j hj
  obtain ⟨e1, e2⟩ := flat_get l j hj
  have h' : w.ownsRow b 26 2 (.slice (some ⟨g, 0, none⟩) l.length c) l.length (intsV (flat l)) := h
  rw [← e1, ← e2]
  exact ⟨⟨VRow.cell h (j * 2) (by omega), VRow.cell h (j * 2 + 1) (by omega)⟩, World.ownsRow.frozenAt h' (j * 2), World.ownsRow.frozenAt h' (j * 2 + 1)⟩
end Go.Proofs.YtcieihbknfeddaaDoor

/- slices.Compact at vectors: the walk. -/
namespace Go.Proofs.YtcieihbknfeddaaDoor
open Go.RowKit

theorem cyc_snoc_low {o : List V2} {x : V2} {j : Nat} (h : j < o.length) : cyc (o ++ [x]) j = cyc o j := by
  rw [cyc_lt (by simp; omega), cyc_lt h, List.getElem?_append_left h]
theorem cyc_snoc_top {o : List V2} {x : V2} {j : Nat} (h : j = o.length) : cyc (o ++ [x]) j = x := by
  subst h
  rw [cyc_lt (by simp), List.getElem?_append_right (Nat.le_refl _)]
  simp
/-- what holds in the second loop -/
structure KeptS (l : List V2) (g m kk : Nat) (o : List V2) (p : V2) (c : Nat → V2) (W : World) : Prop where
  comp : Comp l m o p
  len : kk = o.length + 1
  row : RowC W g c l.length
  low : ∀ j, j < kk → c j = cyc (o ++ [p]) j
  high : ∀ j, m - 1 ≤ j → j < l.length → c j = cyc l j
theorem KeptS.next {l : List V2} {g m kk : Nat} {o : List V2} {p : V2} {c : Nat → V2} {W : World} (h : KeptS l g m kk o p c W) (hm : m < l.length) (e : cyc l m = cyc l (m - 1)) : KeptS l g (m + 1) kk o p c W.drew :=
  ⟨h.comp.skip hm e, h.len, h.row, h.low, fun j h1 h2 => h.high j (by omega) h2⟩
theorem KeptS.store {l : List V2} {g m kk : Nat} {o : List V2} {p : V2} {c : Nat → V2} {W : World} (h : KeptS l g m kk o p c W) (hm : m < l.length) (hk : kk ≤ m - 1) (hp : AllP l) (hs : Sorted l) (e : cyc l m ≠ cyc l (m - 1)) :
    KeptS l g (m + 1) (kk + 1) (o ++ [p]) (cyc l m) (fun j => if j = kk then cyc l m else c j) ((W.drew.setCell ⟨g, kk * 2, none⟩ (.int .i64 (cyc l m).1)).setCell ⟨g, kk * 2 + 1, none⟩ (.int .i64 (cyc l m).2)) := by
  have hl := h.len
  have hp1 := h.comp.pos
  refine ⟨h.comp.keep hm hp hs e, by simp; omega, RowC.put (W := W.drew) h.row (by omega) _, fun j hj => ?_, fun j h1 h2 => ?_⟩
  · by_cases e2 : j = kk
    · rw [if_pos e2, cyc_snoc_top (by simp; omega)]
    · rw [if_neg e2, cyc_snoc_low (by simp; omega)]
      exact h.low j (by omega)
  · have e2 : ¬ j = kk := by omega
    rw [if_neg e2]
    exact h.high j (by omega) h2
set_option maxHeartbeats 8000000 in
theorem compact_any (g cap : Nat) (l : List V2) (base : Nat) (w : World) (hR : RowC w g (cyc l) l.length) (hg : g < w.heap.size) (hb : base ≤ g) (h0 : 0 < l.length) (hm : l.length ≤ 1048576) (hc : l.length ≤ cap) (hp : AllP l) (hs : Sorted l) :
    Calls Tryd.prog 128 #[.slice (some ⟨g, 0, none⟩) l.length cap] w fun e w' => (∃ v, e = .returned v ∧ ReadsVecs w' v (sortL l)) ∧ Below base w w' := by
  have HRow := Lib.hid hR
  have HOne := Lib.hid (Comp.one h0)
  have HD := Lib.hid (fun o p m (e : m = l.length) (h : Comp l m o p) => Comp.done (l := l) (o := o) (p := p) (by rw [← e]; exact h) hp)
  have HPS := Lib.hid (And.intro hp hs)
  have HT := Lib.hid (fun k (hk : k < l.length) => take_cyc hk)
  obtain ⟨n, hn⟩ : ∃ n, n = l.length := ⟨_, rfl⟩
  have HN := Lib.hid hn
  rw [← hn] at h0 hm hc
  rw [← hn]
  have hgd := guardV
  clear hR hp hs hn
  by_cases h2 : n < 2
  · have h1 : n = 1 := by omega
    have HF : Hid (ReadsVecs w (.slice (some ⟨g, 0, none⟩) n cap) (sortL l)) := by
      have e := HD.out _ _ 1 (by have := HN.out; omega) HOne.out
      have e2 : (sortL l).length = 1 := by rw [← e]; simp
      have := RowC.reads (o := sortL l) (cap := cap) HRow.out hg (by rw [e2]; have := HN.out; omega) (by have := HN.out; omega) (by have := HN.out; omega) (fun j hj => by
        rw [e2] at hj
        obtain rfl : j = 0 := by omega
        rw [← e]
        rfl)
      rw [e2] at this
      rw [h1]
      exact this
    have i1 : (n : Int) < 2 := by omega
    clear h1
    go_enter Tryd.func128, Tryd.ntmps128
    go_wp2
    go_returns
    exact ⟨⟨_, rfl, HF.out⟩, Below.refl _ _⟩
  · have i1 : ¬ (n : Int) < 2 := by omega
    go_enter Tryd.func128, Tryd.ntmps128
    go_wp2
    go_loopw [3] (fun s3 wr => ∃ (k : Nat) (o : List V2) (p : V2), s3 = .int .i64 k ∧ 1 ≤ k ∧ k ≤ n ∧ Hid (Comp l k o p ∧ o ++ [p] = l.take k ∧ RowC wr g (cyc l) l.length) ∧ Below base w wr) (fun s3 _ => n - (intOf s3).toNat)
    case atStart => exact ⟨1, [], _, rfl, Nat.le_refl _, by omega, ⟨HOne.out, by rw [HT.out 0 (by have := HN.out; omega)]; rfl, HRow.out⟩, Below.refl _ _⟩
    case round =>
      obtain ⟨k, o, p, rfl, hk1, hk, hO, hB⟩ := hrel
      have j1 : (0 : Int) ≤ (k : Int) := by omega
      have gl := Nat.lt_of_lt_of_le hg hB.size
      by_cases hlt : k < n
      · have j2 : (k : Int) < (n : Int) := by omega
        have j3 : (0 : Int) ≤ (k : Int) - 1 := by omega
        have j4 : (k : Int) - 1 < (n : Int) := by omega
        have j5 : ((k : Int) - 1).toNat = k - 1 := by omega
        have j6 : IntKind.i64.wrap ((k : Int) - 1) = (k : Int) - 1 := by rw [IntKind.wrap_i64]; omega
        have j7 : k - 1 < n := by omega
        have j8 : (1 : Int) ≤ (k : Int) := by omega
        have hkl : k < l.length := by have := HN.out; omega
        obtain ⟨⟨c1, c2⟩, _⟩ := hO.out.2.2 k hkl
        obtain ⟨⟨p1, p2⟩, _⟩ := hO.out.2.2 (k - 1) (by omega)
        by_cases e : cyc l k = cyc l (k - 1)
        · have HC : Hid (Comp l (k + 1) o p ∧ k = o.length + 1 ∧ RowC wr g (cyc l) l.length ∧ ∀ j, j < k → cyc l j = cyc (o ++ [p]) j) := by
            obtain ⟨h1, h2', h3⟩ := hO.out
            refine ⟨h1.skip hkl e, ?_, h3, fun j hj => ?_⟩
            · have := congrArg List.length h2'
              simp at this
              omega
            · rw [h2', cyc_lt (by omega), cyc_lt (by simp; omega), List.getElem?_take, if_pos hj]
          rw [e] at c1 c2
          generalize cyc l (k - 1) = z at c1 c2 p1 p2
          clear e hO hkl
          obtain ⟨x, y⟩ := z
          dsimp only at c1 c2 p1 p2
          have qe : ∀ w', (binOp .eql 26 (.agg #[.int .i64 (x), .int .i64 (y)]) (.agg #[.int .i64 (x), .int .i64 (y)])).run Tryd.prog w' = .ok (.bool true) w' := fun w' => by rw [run_eqV]; simp
          go_wp2
          refine wp_region_any (by kernel_rfl) ?_
          try (change wpAny _ _ _ _ _ _ _ (World.drew _))
          refine wpAny_take (i := 0) (v := ?_) rfl (by kernel_rfl) (by kernel_rfl) (by kernel_rfl) (fun _ _ _ h => h) (Or.inl ⟨by rfl, ?_⟩) ?_
          rotate_left
          focus (intro w0; go_simp; try with_reducible rfl)
          refine wpAny_take (i := 1) (v := ?_) rfl (by kernel_rfl) (by kernel_rfl) (by kernel_rfl) (fun _ _ _ h => h) (Or.inl ⟨by rfl, ?_⟩) ?_
          rotate_left
          focus (intro w0; go_simp; try with_reducible rfl)
          refine wpAny_take (i := 2) (v := ?_) rfl (by kernel_rfl) (by kernel_rfl) (by kernel_rfl) (fun _ _ _ h => h) (Or.inl ⟨by rfl, ?_⟩) ?_
          rotate_left
          focus (intro w0; go_simp; try with_reducible rfl)
          refine wpAny_take (i := 4) (v := ?_) rfl (by kernel_rfl) (by kernel_rfl) (by kernel_rfl) (fun _ _ _ h => h) (Or.inl ⟨by rfl, ?_⟩) ?_
          rotate_left
          focus (intro w0; go_simp; try with_reducible rfl)
          refine wpAny_take (i := 5) (v := ?_) rfl (by kernel_rfl) (by kernel_rfl) (by kernel_rfl) (fun _ _ _ h => h) (Or.inl ⟨by rfl, ?_⟩) ?_
          rotate_left
          focus (intro w0; go_simp; try with_reducible rfl)
          refine wpAny_take (i := 6) (v := ?_) rfl (by kernel_rfl) (by kernel_rfl) (by kernel_rfl) (fun _ _ _ h => h) (Or.inl ⟨by rfl, ?_⟩) ?_
          rotate_left
          focus (intro w0; go_simp; try with_reducible rfl)
          refine wpAny_take (i := 7) (v := ?_) rfl (by kernel_rfl) (by kernel_rfl) (by kernel_rfl) (fun _ _ _ h => h) (Or.inl ⟨by rfl, ?_⟩) ?_
          rotate_left
          focus (intro w0; go_simp; try with_reducible rfl)
          refine wpAny_ready (rs := [3, 8]) (by kernel_rfl) (by simp) (AllReady.cons rfl (fun K hK => ?_) (AllReady.cons rfl (fun K hK => ?_) (AllReady.nil)))
          focus
            go_simp
            refine hK _ _ ?_
            clear hK K
            refine wpAny_ready (rs := [8]) (by kernel_rfl) (by simp) (AllReady.cons rfl (fun K hK => ?_) (AllReady.nil))
            go_simp
            refine hK _ _ ?_
            clear hK K
            refine wpAny_seq 9 rfl (by kernel_rfl) ?_
            simp only [List.drop_succ_cons, List.drop_zero]
          rotate_left 1
          focus
            go_simp
            refine hK _ _ ?_
            clear hK K
            refine wpAny_ready (rs := [3]) (by kernel_rfl) (by simp) (AllReady.cons rfl (fun K hK => ?_) (AllReady.nil))
            go_simp
            refine hK _ _ ?_
            clear hK K
            refine wpAny_seq 9 rfl (by kernel_rfl) ?_
            simp only [List.drop_succ_cons, List.drop_zero]
          all_goals go_wp2
          all_goals
            have hk2 : 1 ≤ k := hk1
            clear c1 c2 p1 p2 qe
            have HK0 : Hid (KeptS l g (k + 1) k o p (cyc l) wr.drew) := ⟨HC.out.1, HC.out.2.1, HC.out.2.2.1, HC.out.2.2.2, fun j _ _ => rfl⟩
            clear HC
            go_loopw [3, 5] (fun s3 s5 wr => ∃ (kk k2 : Nat) (o : List V2) (p : V2) (c : Nat → V2), s3 = .int .i64 kk ∧ s5 = .int .i64 k2 ∧ 1 ≤ k2 ∧ k + k2 ≤ n ∧ 1 ≤ kk ∧ kk ≤ k + k2 - 1 ∧ Hid (KeptS l g (k + k2) kk o p c wr) ∧ Below base w wr) (fun _ s5 _ => n - k - (intOf s5).toNat)
            case atStart => exact ⟨k, 1, o, p, _, rfl, rfl, Nat.le_refl _, by omega, hk1, by omega, HK0, hB.drew⟩
            case round =>
              clear HK0 hB gl
              obtain ⟨kk, k2, o, p, c, rfl, rfl, h1, hle, hkk1, hkk, hK, hB⟩ := hrel
              have gl := Nat.lt_of_lt_of_le hg hB.size
              have t1 : (0 : Int) ≤ (k2 : Int) := by omega
              have t2 : (0 : Int) ≤ (kk : Int) := by omega
              by_cases hlt2 : k + k2 < n
              · have hml : k + k2 < l.length := by have := HN.out; omega
                have t3 : (k2 : Int) < ((n - k : Nat) : Int) := by omega
                have t4 : (1 : Int) ≤ (k2 : Int) := by omega
                have t5 : (k2 : Int) - 1 < ((n - k : Nat) : Int) := by omega
                have t6 : ((k2 : Int) - 1).toNat = k2 - 1 := by omega
                have t7 : IntKind.i64.wrap ((k2 : Int) - 1) = (k2 : Int) - 1 := by rw [IntKind.wrap_i64]; omega
                have t8 : (0 : Int) ≤ (k2 : Int) - 1 := by omega
                have t9 : (kk : Int) < (n : Int) := by omega
                have t10 : k2 < n - k := by omega
                have t11 : k2 - 1 < n - k := by omega
                obtain ⟨⟨c1, c2⟩, _⟩ := hK.out.row (k + k2) hml
                obtain ⟨⟨p1, p2⟩, _⟩ := hK.out.row (k + k2 - 1) (by omega)
                obtain ⟨⟨d1, d2⟩, f1, f2⟩ := hK.out.row kk (by omega)
                rw [hK.out.high _ (by omega) hml, show (k + k2) * 2 = k * 2 + k2 * 2 by omega] at c1 c2
                rw [hK.out.high _ (Nat.le_refl _) (by omega), show (k + k2 - 1) * 2 = k * 2 + (k2 - 1) * 2 by omega] at p1 p2
                generalize (c kk).1 = old1 at d1
                generalize (c kk).2 = old2 at d2
                by_cases e : cyc l (k + k2) = cyc l (k + k2 - 1)
                · have HK2 := Lib.hid (hK.out.next hml e)
                  have hBd : Below base w wr.drew := hB.drew
                  rw [e] at c1 c2
                  generalize cyc l (k + k2 - 1) = z at c1 c2 p1 p2
                  clear e hK hml
                  obtain ⟨x, y⟩ := z
                  dsimp only at c1 c2 p1 p2
                  have qe : ∀ w', (binOp .neq 26 (.agg #[.int .i64 (x), .int .i64 (y)]) (.agg #[.int .i64 (x), .int .i64 (y)])).run Tryd.prog w' = .ok (.bool false) w' := fun w' => by rw [run_neV]; simp
                  go_wp2
                  refine wp_region_any (by kernel_rfl) ?_
                  try (change wpAny _ _ _ _ _ _ _ (World.drew _))
                  refine wpAny_take (i := 0) (v := ?_) rfl (by kernel_rfl) (by kernel_rfl) (by kernel_rfl) (fun _ _ _ h => h) (Or.inl ⟨by rfl, ?_⟩) ?_
                  rotate_left
                  focus (intro w0; go_simp; try with_reducible rfl)
                  refine wpAny_take (i := 1) (v := ?_) rfl (by kernel_rfl) (by kernel_rfl) (by kernel_rfl) (fun _ _ _ h => h) (Or.inl ⟨by rfl, ?_⟩) ?_
                  rotate_left
                  focus (intro w0; go_simp; try with_reducible rfl)
                  refine wpAny_take (i := 2) (v := ?_) rfl (by kernel_rfl) (by kernel_rfl) (by kernel_rfl) (fun _ _ _ h => h) (Or.inl ⟨by rfl, ?_⟩) ?_
                  rotate_left
                  focus (intro w0; go_simp; try with_reducible rfl)
                  refine wpAny_take (i := 4) (v := ?_) rfl (by kernel_rfl) (by kernel_rfl) (by kernel_rfl) (fun _ _ _ h => h) (Or.inl ⟨by rfl, ?_⟩) ?_
                  rotate_left
                  focus (intro w0; go_simp; try with_reducible rfl)
                  refine wpAny_take (i := 5) (v := ?_) rfl (by kernel_rfl) (by kernel_rfl) (by kernel_rfl) (fun _ _ _ h => h) (Or.inl ⟨by rfl, ?_⟩) ?_
                  rotate_left
                  focus (intro w0; go_simp; try with_reducible rfl)
                  refine wpAny_take (i := 6) (v := ?_) rfl (by kernel_rfl) (by kernel_rfl) (by kernel_rfl) (fun _ _ _ h => h) (Or.inl ⟨by rfl, ?_⟩) ?_
                  rotate_left
                  focus (intro w0; go_simp; try with_reducible rfl)
                  refine wpAny_take (i := 7) (v := ?_) rfl (by kernel_rfl) (by kernel_rfl) (by kernel_rfl) (fun _ _ _ h => h) (Or.inl ⟨by rfl, ?_⟩) ?_
                  rotate_left
                  focus (intro w0; go_simp; try with_reducible rfl)
                  refine wpAny_ready (rs := [3, 8]) (by kernel_rfl) (by simp) (AllReady.cons rfl (fun K hK => ?_) (AllReady.cons rfl (fun K hK => ?_) (AllReady.nil)))
                  focus
                    go_simp
                    refine hK _ _ ?_
                    clear hK K
                    refine wpAny_ready (rs := [8]) (by kernel_rfl) (by simp) (AllReady.cons rfl (fun K hK => ?_) (AllReady.nil))
                    go_simp
                    refine hK _ _ ?_
                    clear hK K
                    refine wpAny_seq 9 rfl (by kernel_rfl) ?_
                    simp only [List.drop_succ_cons, List.drop_zero]
                  rotate_left 1
                  focus
                    go_simp
                    refine hK _ _ ?_
                    clear hK K
                    refine wpAny_ready (rs := [3]) (by kernel_rfl) (by simp) (AllReady.cons rfl (fun K hK => ?_) (AllReady.nil))
                    go_simp
                    refine hK _ _ ?_
                    clear hK K
                    refine wpAny_seq 9 rfl (by kernel_rfl) ?_
                    simp only [List.drop_succ_cons, List.drop_zero]
                  all_goals go_wp2
                  all_goals go_roundw
                  all_goals first
                    | (case rel => exact ⟨kk, k2 + 1, o, p, c, rfl, by go_num, by omega, by omega, hkk1, by omega, HK2, hBd⟩)
                    | skip
                  all_goals (simp [intOf]; omega)
                · have HK2 := Lib.hid (hK.out.store hml hkk HPS.out.1 HPS.out.2 e)
                  have hB2 : Below base w ((wr.drew.setCell ⟨g, kk * 2, none⟩ (.int .i64 (cyc l (k + k2)).1)).setCell ⟨g, kk * 2 + 1, none⟩ (.int .i64 (cyc l (k + k2)).2)) := (hB.drew.setCell (p := ⟨g, kk * 2, none⟩) hb _).setCell (p := ⟨g, kk * 2 + 1, none⟩) hb _
                  generalize cyc l (k + k2 - 1) = z' at e p1 p2
                  generalize cyc l (k + k2) = z at e c1 c2 HK2 hB2
                  clear hK hml
                  have qe : ∀ w', (binOp .neq 26 (.agg #[.int .i64 (z.1), .int .i64 (z.2)]) (.agg #[.int .i64 (z'.1), .int .i64 (z'.2)])).run Tryd.prog w' = .ok (.bool true) w' := fun w' => by
                    rw [run_neV]
                    have : (decide (z.1 = z'.1) && decide (z.2 = z'.2)) = false := by
                      apply Bool.eq_false_iff.2
                      intro h
                      rw [Bool.and_eq_true] at h
                      exact e (Prod.ext (of_decide_eq_true h.1) (of_decide_eq_true h.2))
                    rw [this]
                    rfl
                  clear e
                  obtain ⟨x, y⟩ := z
                  obtain ⟨x', y'⟩ := z'
                  dsimp only at c1 c2 p1 p2 qe HK2 hB2
                  go_wp2
                  refine wp_region_any (by kernel_rfl) ?_
                  try (change wpAny _ _ _ _ _ _ _ (World.drew _))
                  refine wpAny_take (i := 0) (v := ?_) rfl (by kernel_rfl) (by kernel_rfl) (by kernel_rfl) (fun _ _ _ h => h) (Or.inl ⟨by rfl, ?_⟩) ?_
                  rotate_left
                  focus (intro w0; go_simp; try with_reducible rfl)
                  refine wpAny_take (i := 1) (v := ?_) rfl (by kernel_rfl) (by kernel_rfl) (by kernel_rfl) (fun _ _ _ h => h) (Or.inl ⟨by rfl, ?_⟩) ?_
                  rotate_left
                  focus (intro w0; go_simp; try with_reducible rfl)
                  refine wpAny_take (i := 2) (v := ?_) rfl (by kernel_rfl) (by kernel_rfl) (by kernel_rfl) (fun _ _ _ h => h) (Or.inl ⟨by rfl, ?_⟩) ?_
                  rotate_left
                  focus (intro w0; go_simp; try with_reducible rfl)
                  refine wpAny_take (i := 4) (v := ?_) rfl (by kernel_rfl) (by kernel_rfl) (by kernel_rfl) (fun _ _ _ h => h) (Or.inl ⟨by rfl, ?_⟩) ?_
                  rotate_left
                  focus (intro w0; go_simp; try with_reducible rfl)
                  refine wpAny_take (i := 5) (v := ?_) rfl (by kernel_rfl) (by kernel_rfl) (by kernel_rfl) (fun _ _ _ h => h) (Or.inl ⟨by rfl, ?_⟩) ?_
                  rotate_left
                  focus (intro w0; go_simp; try with_reducible rfl)
                  refine wpAny_take (i := 6) (v := ?_) rfl (by kernel_rfl) (by kernel_rfl) (by kernel_rfl) (fun _ _ _ h => h) (Or.inl ⟨by rfl, ?_⟩) ?_
                  rotate_left
                  focus (intro w0; go_simp; try with_reducible rfl)
                  refine wpAny_take (i := 7) (v := ?_) rfl (by kernel_rfl) (by kernel_rfl) (by kernel_rfl) (fun _ _ _ h => h) (Or.inl ⟨by rfl, ?_⟩) ?_
                  rotate_left
                  focus (intro w0; go_simp; try with_reducible rfl)
                  refine wpAny_ready (rs := [3, 8]) (by kernel_rfl) (by simp) (AllReady.cons rfl (fun K hK => ?_) (AllReady.cons rfl (fun K hK => ?_) (AllReady.nil)))
                  focus
                    go_simp
                    refine hK _ _ ?_
                    clear hK K
                    refine wpAny_ready (rs := [8]) (by kernel_rfl) (by simp) (AllReady.cons rfl (fun K hK => ?_) (AllReady.nil))
                    go_simp
                    refine hK _ _ ?_
                    clear hK K
                    refine wpAny_seq 9 rfl (by kernel_rfl) ?_
                    simp only [List.drop_succ_cons, List.drop_zero]
                  rotate_left 1
                  focus
                    go_simp
                    refine hK _ _ ?_
                    clear hK K
                    refine wpAny_ready (rs := [3]) (by kernel_rfl) (by simp) (AllReady.cons rfl (fun K hK => ?_) (AllReady.nil))
                    go_simp
                    refine hK _ _ ?_
                    clear hK K
                    refine wpAny_seq 9 rfl (by kernel_rfl) ?_
                    simp only [List.drop_succ_cons, List.drop_zero]
                  all_goals go_wp2
                  all_goals go_roundw
                  all_goals first
                    | (case rel => exact ⟨kk + 1, k2 + 1, _, _, _, by go_num, by go_num, by omega, by omega, by omega, by omega, HK2, hB2⟩)
                    | skip
                  all_goals (simp [intOf]; omega)
              · have hend : k + k2 = n := by omega
                have t3 : ¬ (k2 : Int) < ((n - k : Nat) : Int) := by omega
                have t9 : (kk : Int) ≤ (n : Int) := by omega
                have t10 : kk ≤ n := by omega
                have t11 : n ≤ cap := hc
                obtain ⟨zs, hzl, hcl⟩ := run_clearV wr g (kk * 2) (n - kk) (cap - kk) (by omega) (fun j hj => by
                  obtain ⟨⟨q1, q2⟩, _⟩ := hK.out.row (kk + j / 2) (by have := HN.out; omega)
                  rcases Nat.mod_two_eq_zero_or_one j with h | h
                  · rw [show kk * 2 + j = (kk + j / 2) * 2 by omega, q1]; rfl
                  · rw [show kk * 2 + j = (kk + j / 2) * 2 + 1 by omega, q2]; rfl) (fun j hj => by
                  obtain ⟨_, q1, q2⟩ := hK.out.row (kk + j / 2) (by have := HN.out; omega)
                  rcases Nat.mod_two_eq_zero_or_one j with h | h
                  · rw [show kk * 2 + j = (kk + j / 2) * 2 by omega]; exact q1
                  · rw [show kk * 2 + j = (kk + j / 2) * 2 + 1 by omega]; exact q2)
                have hB2 : Below base w (wr.setCells g (kk * 2) zs) := hB.trans (below_setCells base g hb zs _ wr)
                have HF : Hid (ReadsVecs (wr.setCells g (kk * 2) zs) (.slice (some ⟨g, 0, none⟩) kk cap) (sortL l)) := by
                  have e2 := HD.out o p (k + k2) (by have := HN.out; omega) hK.out.comp
                  have e3 : (o ++ [p]).length = kk := by rw [hK.out.len]; simp
                  have hrow : RowC (wr.setCells g (kk * 2) zs) g (cyc (o ++ [p])) kk := fun j hj => by
                    obtain ⟨⟨q1, q2⟩, q3, q4⟩ := hK.out.row j (by have := HN.out; omega)
                    rw [hK.out.low j hj] at q1 q2
                    refine ⟨⟨?_, ?_⟩, ?_, ?_⟩
                    · rw [World.cell?_setCells_out g zs _ _ _ (fun _ _ => .inl (by dsimp only; omega))]; exact q1
                    · rw [World.cell?_setCells_out g zs _ _ _ (fun _ _ => .inl (by dsimp only; omega))]; exact q2
                    · rw [World.frozen?_setCells]; exact q3
                    · rw [World.frozen?_setCells]; exact q4
                  have := RowC.reads (o := o ++ [p]) (cap := cap) hrow (Nat.lt_of_lt_of_le gl (below_setCells base g hb zs _ wr).size) (by rw [e3]; exact Nat.le_refl _) (by omega) (by omega) (fun _ _ => rfl)
                  rw [e3] at this
                  rw [← e2]
                  exact this
                clear hK hzl
                go_wp2
                go_returns
                exact ⟨⟨_, rfl, HF.out⟩, hB2⟩
        · have HC : Hid (Comp l (k + 1) (o ++ [p]) (cyc l k) ∧ (o ++ [p]) ++ [cyc l k] = l.take (k + 1) ∧ RowC wr.drew g (cyc l) l.length) := by
            obtain ⟨h1, h2', h3⟩ := hO.out
            exact ⟨h1.keep hkl HPS.out.1 HPS.out.2 e, by rw [HT.out k hkl, h2'], h3⟩
          have hBd : Below base w wr.drew := hB.drew
          generalize cyc l (k - 1) = z' at e p1 p2
          generalize cyc l k = z at e c1 c2 HC
          clear hO hkl
          have qe : ∀ w', (binOp .eql 26 (.agg #[.int .i64 (z.1), .int .i64 (z.2)]) (.agg #[.int .i64 (z'.1), .int .i64 (z'.2)])).run Tryd.prog w' = .ok (.bool false) w' := fun w' => by
            rw [run_eqV]
            have : (decide (z.1 = z'.1) && decide (z.2 = z'.2)) = false := by
              apply Bool.eq_false_iff.2
              intro h
              rw [Bool.and_eq_true] at h
              exact e (Prod.ext (of_decide_eq_true h.1) (of_decide_eq_true h.2))
            rw [this]
          clear e
          have HZ := HC
          clear HC
          obtain ⟨x', y'⟩ := z'
          generalize hx : z.1 = x at c1 qe
          generalize hy : z.2 = y at c2 qe
          clear hx hy
          dsimp only at p1 p2 qe
          go_wp2
          refine wp_region_any (by kernel_rfl) ?_
          try (change wpAny _ _ _ _ _ _ _ (World.drew _))
          refine wpAny_take (i := 0) (v := ?_) rfl (by kernel_rfl) (by kernel_rfl) (by kernel_rfl) (fun _ _ _ h => h) (Or.inl ⟨by rfl, ?_⟩) ?_
          rotate_left
          focus (intro w0; go_simp; try with_reducible rfl)
          refine wpAny_take (i := 1) (v := ?_) rfl (by kernel_rfl) (by kernel_rfl) (by kernel_rfl) (fun _ _ _ h => h) (Or.inl ⟨by rfl, ?_⟩) ?_
          rotate_left
          focus (intro w0; go_simp; try with_reducible rfl)
          refine wpAny_take (i := 2) (v := ?_) rfl (by kernel_rfl) (by kernel_rfl) (by kernel_rfl) (fun _ _ _ h => h) (Or.inl ⟨by rfl, ?_⟩) ?_
          rotate_left
          focus (intro w0; go_simp; try with_reducible rfl)
          refine wpAny_take (i := 4) (v := ?_) rfl (by kernel_rfl) (by kernel_rfl) (by kernel_rfl) (fun _ _ _ h => h) (Or.inl ⟨by rfl, ?_⟩) ?_
          rotate_left
          focus (intro w0; go_simp; try with_reducible rfl)
          refine wpAny_take (i := 5) (v := ?_) rfl (by kernel_rfl) (by kernel_rfl) (by kernel_rfl) (fun _ _ _ h => h) (Or.inl ⟨by rfl, ?_⟩) ?_
          rotate_left
          focus (intro w0; go_simp; try with_reducible rfl)
          refine wpAny_take (i := 6) (v := ?_) rfl (by kernel_rfl) (by kernel_rfl) (by kernel_rfl) (fun _ _ _ h => h) (Or.inl ⟨by rfl, ?_⟩) ?_
          rotate_left
          focus (intro w0; go_simp; try with_reducible rfl)
          refine wpAny_take (i := 7) (v := ?_) rfl (by kernel_rfl) (by kernel_rfl) (by kernel_rfl) (fun _ _ _ h => h) (Or.inl ⟨by rfl, ?_⟩) ?_
          rotate_left
          focus (intro w0; go_simp; try with_reducible rfl)
          refine wpAny_ready (rs := [3, 8]) (by kernel_rfl) (by simp) (AllReady.cons rfl (fun K hK => ?_) (AllReady.cons rfl (fun K hK => ?_) (AllReady.nil)))
          focus
            go_simp
            refine hK _ _ ?_
            clear hK K
            refine wpAny_ready (rs := [8]) (by kernel_rfl) (by simp) (AllReady.cons rfl (fun K hK => ?_) (AllReady.nil))
            go_simp
            refine hK _ _ ?_
            clear hK K
            refine wpAny_seq 9 rfl (by kernel_rfl) ?_
            simp only [List.drop_succ_cons, List.drop_zero]
          rotate_left 1
          focus
            go_simp
            refine hK _ _ ?_
            clear hK K
            refine wpAny_ready (rs := [3]) (by kernel_rfl) (by simp) (AllReady.cons rfl (fun K hK => ?_) (AllReady.nil))
            go_simp
            refine hK _ _ ?_
            clear hK K
            refine wpAny_seq 9 rfl (by kernel_rfl) ?_
            simp only [List.drop_succ_cons, List.drop_zero]
          all_goals go_wp2
          all_goals go_roundw
          all_goals first
            | (case rel => exact ⟨k + 1, _, _, by go_num, by omega, by omega, HZ, hBd⟩)
            | skip
          all_goals (simp [intOf]; omega)
      · obtain rfl : k = n := by omega
        have i2 : ¬ (k : Int) < (k : Int) := by omega
        have HF : Hid (ReadsVecs wr (.slice (some ⟨g, 0, none⟩) k cap) (sortL l)) := by
          obtain ⟨h1, h2', h3⟩ := hO.out
          have e := HD.out _ _ k HN.out h1
          have e2 : o ++ [p] = l := by rw [h2', List.take_of_length_le (by have := HN.out; omega)]
          rw [← e, e2]
          have := RowC.reads (o := l) (cap := cap) h3 gl (Nat.le_refl _) (by have := HN.out; omega) (by have := HN.out; omega) (fun _ _ => rfl)
          rwa [← HN.out] at this
        clear hO
        go_wp2
        go_returns
        exact ⟨⟨_, rfl, HF.out⟩, hB⟩
end Go.Proofs.YtcieihbknfeddaaDoor
