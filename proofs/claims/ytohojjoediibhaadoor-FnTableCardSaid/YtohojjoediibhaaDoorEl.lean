/- Maps whose keys are vectors and whose elements are numbers. -/
import Derived.Test.YtohojjoediibhaaDoorBe
import Derived.Maps.OwnOps
import Derived.Maps.Views
import Derived.DeepKeys4
namespace Go.Proofs.YtohojjoediibhaaDoor
open Go.RowKit Go.Maps Go.ChangeMaps Go.WideMaps Go.MapKept

theorem laidOutE : laidOutB Tryd.prog = true := by kernel_rfl
theorem keyRow : (43 : TypeId) < Tryd.prog.types.size := of_decide_eq_true (by kernel_rfl)
theorem keyDeep : Tryd.prog.keyTypeAt 2 43 = true := by kernel_rfl
theorem keyLaw : Keyed Tryd.prog 43 := Keyed.of_law (deep_law_laid laidOutE (m := 2) (by omega) keyRow keyDeep (by rw [Tryd.underlying43]))
theorem vec_formed (x y : Value) : (Value.agg #[x, y]).formed Tryd.prog 43 = true := by
  have hc : Tryd.prog.cellsOf 43 = 2 := by kernel_rfl
  simp [Value.formed, Tryd.underlying43, hc]
def keyV (p : V2) : Lit := .string (keyBytes [.int .i64 p.1, .int .i64 p.2])
theorem wf_i64 {x : Int} (h : -1000000000 ≤ x ∧ x ≤ 1000000000) : (Lit.int .i64 x).wf = true := by
  have h1 : IntKind.i64.min = -9223372036854775808 := by decide
  have h2 : IntKind.i64.max = 9223372036854775807 := by decide
  show (decide (IntKind.i64.min ≤ x) && decide (x ≤ IntKind.i64.max)) = true
  rw [h1, h2, Bool.and_eq_true, decide_eq_true_eq, decide_eq_true_eq]
  omega
theorem lits_int (d : Nat) {x : Int} (h : (Lit.int .i64 x).wf = true) : Tryd.prog.keyLits (d + 1) 3 [.int .i64 x] = some [.int .i64 x] := by
  simp [Program.keyLits, Tryd.underlying3, h]
theorem keyOf_vec {x y : Int} (hx : (Lit.int .i64 x).wf = true) (hy : (Lit.int .i64 y).wf = true) : keyOf Tryd.prog 43 (.agg #[.int .i64 (x), .int .i64 (y)]) = some (keyV (x, y)) := by
  have hk : Tryd.prog.keyType 43 = true := by kernel_rfl
  have hc : Tryd.prog.cellsOf 43 = 2 := by kernel_rfl
  have hi : Tryd.prog.cellsOf 3 = 1 := by kernel_rfl
  have e : ∀ d, Tryd.prog.keyLits (d + 1 + 1) 43 [.int .i64 x, .int .i64 y] = some [.int .i64 x, .int .i64 y] := by
    intro d
    simp [Program.keyLits, Tryd.underlying43, Tryd.underlying3, hc, hi, hx, hy]
  have h2 : 2 ≤ Tryd.prog.types.size := of_decide_eq_true (by kernel_rfl)
  obtain ⟨d, hd⟩ : ∃ d, Tryd.prog.types.size + 1 = d + 1 + 1 := ⟨Tryd.prog.types.size - 1, by omega⟩
  unfold keyOf
  rw [Tryd.underlying43]
  simp only [hk, vec_formed, Bool.and_self, if_true]
  rw [hd]
  show ((Tryd.prog.keyLits (d + 1 + 1) 43 [.int .i64 x, .int .i64 y]).map fun ls => Lit.string (keyBytes ls)) = _
  rw [e d]
  rfl
theorem keyV_inj {p q : V2} (hp : (Lit.int .i64 p.1).wf = true ∧ (Lit.int .i64 p.2).wf = true) (hq : (Lit.int .i64 q.1).wf = true ∧ (Lit.int .i64 q.2).wf = true) (h : keyV p = keyV q) : p = q := by
  have h1 := keyOf_vec hp.1 hp.2
  have h2 := keyOf_vec hq.1 hq.2
  rw [show ((q.1, q.2) : V2) = q from rfl, ← h] at h2
  have := keyLaw.inj h1 h2
  simp only [Value.agg.injEq, Array.mk.injEq, List.cons.injEq, Value.int.injEq, and_true, true_and] at this
  exact Prod.ext this.1 this.2

/-! what a map reads as -/
abbrev MapV := DataW Unit
def numV (n : Int) : MapV := .lit (.int .i64 n)
/-- the number that stands at a vector, 0 where there is none -/
def OwnMap (w : World) (b n : Nat) (D : MapV) : Prop := w.ownsMap Tryd.prog 43 (plainElem Tryd.prog 3) b n D
theorem zeroInt (w : World) : (zeroValue 3).run Tryd.prog w = .ok (.int .i64 0) w := by kernel_rfl
theorem map_put_same {D : MapV} (hD : IsMap D) (p : V2) (n : Int) : (D.put (keyV p) (numV n)).atKey (keyV p) (numV 0) = numV n := atKey_put_same hD (show WideAt.IsKeyLit (keyV p) from trivial) _ _
theorem map_put_other {D : MapV} {p q : V2} (h : keyV q ≠ keyV p) (n : Int) : (D.put (keyV p) (numV n)).atKey (keyV q) (numV 0) = D.atKey (keyV q) (numV 0) := atKey_put_other h _ _
theorem map_nil (p : V2) : (DataW.map [] : MapV).atKey (keyV p) (numV 0) = numV 0 := rfl
theorem map_clear {w : World} {b n : Nat} {D : MapV} (h : OwnMap w b n D) :
    ∃ w', (∀ ty, (Builtin.clear_ #[148] ty #[.map (some b)]).run Tryd.prog w = .ok (.tuple #[]) w') ∧ OwnMap w' b 0 (.map []) ∧ w.grownBy w' (some b) := by
  obtain ⟨es, clock, hb, F, hs, hD⟩ := h
  refine ⟨setBlock w b (.map #[] clock), fun ty => ?_, ⟨#[], clock, heap_setBlock_same hb _, ⟨by simp, stamped_empty clock, by simp⟩, Nat.le_refl _, rfl⟩,
    ⟨rfl, rfl, rfl, by simp [setBlock], fun i _ hi => heap_setBlock_other hb _ (fun e => hi (by rw [e]))⟩⟩
  simp [Builtin.clear_, run_underlying Tryd.underlying148, MapKept.run_getObj_map hb, MapKept.run_setObj_map _ hb, Result.andThen]
  rfl
end Go.Proofs.YtohojjoediibhaaDoor
