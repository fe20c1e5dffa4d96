/- Reflexive polygons: polygons of one kind or another: the program. -/
import Derived.Test.YtkcnpbgbgdgkpaaDoorZd
import Derived.Test.YtkcnpbgbgdgkpaaDoorYg
import Derived.Laws.EntriesVeiled
namespace Go.Proofs.YtkcnpbgbgdgkpaaDoor
open Go.RowKit

/-- what shapeOf gives -/
def ShapeE (P R : Bool) (v : Value) (w : World) (e : Ending) (w' : World) : Prop :=
  ((P = false ∧ e = .returned .nilIface) ∨ (P = true ∧ R = false ∧ e = .returned (.iface 47 v)) ∨
   (P = true ∧ R = true ∧ ∃ b, w.heap.size ≤ b ∧ b < w'.heap.size ∧ w'.cell? ⟨b, 0, none⟩ = some (.iface 47 v) ∧ e = .returned (.iface 65 (.agg #[v, .func (.func 123) #[] #[.pointer (some ⟨b, 0, none⟩)]])))) ∧ Below w.heap.size w w'
set_option maxHeartbeats 8000000 in
theorem dualOf_any (v : Value) (w : World) :
    Calls Tryd.prog 103 #[.iface 47 v] w fun e w' => e = .returned (.func (.func 123) #[] #[.pointer (some ⟨w.heap.size, 0, none⟩)]) ∧ w' = w.alloc (.cells #[.iface 47 v] 96) := by
  go_enter Tryd.func103, Tryd.ntmps103
  go_wp2
  go_returns
  exact ⟨rfl, rfl⟩
set_option maxHeartbeats 8000000 in
theorem shapeOf_any (v : Value) (l : List V2) (w : World) (h : ReadsVecs w v l) (hg : EtOk w) :
    Calls Tryd.prog 73 #[v] w (ShapeE (polyB l) (allR l) v w) := by
  have HC := Lib.hid (polyCheck_any v l w h)
  have HR := Lib.hid (fun w' (hb : Below w.heap.size w w') hp => isReflexive_any v l w' (h.below hb) hp)
  have HD := Lib.hid (fun w' => dualOf_any v w')
  obtain ⟨a, c, rfl, _⟩ := h
  generalize allR l = R at *
  cases hk : polyB l
  · rw [hk] at HC
    clear hk HR HD
    go_enter Tryd.func73, Tryd.ntmps73
    go_wp2_with fail
    refine Calls.mono HC.out ?_
    rintro e w1 ⟨⟨s, rfl⟩, hb1⟩
    go_wp2_with fail
    refine Calls.mono (none_hit s _ (hg.below hb1)) ?_
    rintro e w2 ⟨rfl, hb2⟩
    have hb := belowTo hb1 hb2
    clear hb1 hb2
    go_wp2
    go_returns
    unfold ShapeE
    exact ⟨.inl ⟨rfl, rfl⟩, hb⟩
  · rw [hk] at HC
    have HR2 := Lib.hid (fun w' hb => HR.out w' hb hk)
    have HC2 := Lib.hid (HC.out.mono (fun e w' h => (⟨h.1, h.2⟩ : e = .returned .nilIface ∧ Below w.heap.size w w')))
    clear HC hk HR
    go_enter Tryd.func73, Tryd.ntmps73
    go_wp2_with fail
    refine Calls.mono HC2.out ?_
    rintro e w1 ⟨rfl, hb⟩
    go_wp2_with fail
    refine Calls.mono (none_nil _) ?_
    rintro e w2 ⟨rfl, hb2⟩
    replace hb := belowTo hb hb2
    clear hb2
    go_wp2_with fail
    refine Calls.mono (HR2.out _ hb) ?_
    rintro e w3 ⟨rfl, hb3⟩
    replace hb := belowTo hb hb3
    clear hb3
    cases R
    · go_wp2
      go_returns
      unfold ShapeE
      exact ⟨.inr (.inl ⟨rfl, rfl, rfl⟩), hb⟩
    · have hs := hb.size
      go_wp2_with fail
      refine Calls.mono (HD.out _) ?_
      rintro e w4 ⟨rfl, rfl⟩
      go_wp2
      go_returns
      unfold ShapeE
      exact ⟨.inr (.inr ⟨rfl, rfl, _, hs, by simp, by simp, rfl⟩), by go_grown⟩
theorem as_nil1 (w : World) : (Instr.typeAssert .nilIface 96 65 true).run Tryd.prog w = .ok (.tuple #[.agg #[.slice none 0 0, .nilFunc], .bool false]) w := by kernel_rfl
theorem as_nil2 (w : World) : (Instr.typeAssert .nilIface 96 47 true).run Tryd.prog w = .ok (.tuple #[.slice none 0 0, .bool false]) w := by kernel_rfl
theorem as_pol1 (v : Value) (w : World) : (Instr.typeAssert (.iface 47 v) 96 65 true).run Tryd.prog w = .ok (.tuple #[.agg #[.slice none 0 0, .nilFunc], .bool false]) w := by kernel_rfl
theorem as_pol2 (v : Value) (w : World) : (Instr.typeAssert (.iface 47 v) 96 47 true).run Tryd.prog w = .ok (.tuple #[v, .bool true]) w := by kernel_rfl
theorem as_ref1 (v : Value) (w : World) : (Instr.typeAssert (.iface 65 v) 96 65 true).run Tryd.prog w = .ok (.tuple #[v, .bool true]) w := by kernel_rfl
/-- what reflexiveOf gives -/
def RefE (R : Bool) (v : Value) (w : World) (e : Ending) (w' : World) : Prop :=
  ((R = false ∧ ∃ s, e = .returned (.tuple #[.agg #[.slice none 0 0, .nilFunc], .iface 79 (.agg #[.string s])])) ∨
   (R = true ∧ ∃ b, w.heap.size ≤ b ∧ b < w'.heap.size ∧ w'.cell? ⟨b, 0, none⟩ = some (.iface 47 v) ∧ e = .returned (.tuple #[.agg #[v, .func (.func 123) #[] #[.pointer (some ⟨b, 0, none⟩)]], .nilIface]))) ∧ Below w.heap.size w w'
set_option maxRecDepth 100000 in
set_option maxHeartbeats 8000000 in
theorem reflexiveOf_any (v : Value) (l : List V2) (w : World) (h : ReadsVecs w v l) (hg : EtOk w) :
    Calls Tryd.prog 46 #[v] w (RefE (reflB l) v w) := by
  have HC := Lib.hid (fun w' (hb : Below w.heap.size w w') => shapeOf_any v l w' (h.below hb) (hg.below hb))
  obtain ⟨a, c, rfl, _⟩ := h
  unfold reflB
  generalize polyB l = P at *
  generalize allR l = R at *
  go_enter Tryd.func46, Tryd.ntmps46
  go_wp2_with fail
  refine Calls.mono (HC.out _ (by go_grown)) ?_
  rintro e w1 ⟨⟨rfl, rfl⟩ | ⟨rfl, rfl, rfl⟩ | ⟨rfl, rfl, b, hb0, hb1, hc, rfl⟩, hb2⟩
  · have hB : Below w.heap.size w w1 := belowTo (by go_grown) hb2
    have hs1 := hB.size
    have q0 : w1.cell? ⟨w.heap.size, 0, none⟩ = some (.slice none 0 0) := (hb2.cell (p := ⟨w.heap.size, 0, none⟩) (by first | assumption | (go_size; done) | (simp; omega) | (simp only [World.size_alloc]; omega))).trans (by first | assumption | (go_cell; done) | (go_simp; done) | simp [*]); have qf0 : w1.frozen? ⟨w.heap.size, 0, none⟩ = false := (hb2.frozen (p := ⟨w.heap.size, 0, none⟩) (by first | assumption | (go_size; done) | (simp; omega) | (simp only [World.size_alloc]; omega))).trans (by first | assumption | (go_cell; done) | (go_simp; done) | simp [*]); have q1 : w1.cell? ⟨w.heap.size, 1, none⟩ = some (.nilFunc) := (hb2.cell (p := ⟨w.heap.size, 1, none⟩) (by first | assumption | (go_size; done) | (simp; omega) | (simp only [World.size_alloc]; omega))).trans (by first | assumption | (go_cell; done) | (go_simp; done) | simp [*]); have qf1 : w1.frozen? ⟨w.heap.size, 1, none⟩ = false := (hb2.frozen (p := ⟨w.heap.size, 1, none⟩) (by first | assumption | (go_size; done) | (simp; omega) | (simp only [World.size_alloc]; omega))).trans (by first | assumption | (go_cell; done) | (go_simp; done) | simp [*])
    have hs2 : w.heap.size < w1.heap.size := Nat.lt_of_lt_of_le (by simp) hb2.size
    have t1 := fun w => as_nil1 w
    have t2 := fun w => as_nil2 w
    clear hb2 HC
    go_wp2
    refine bodyPost_ret (by simp [results, Tryd.results46, go_sem, *]; try rfl) rfl ?_
    unfold RefE
    exact ⟨.inl ⟨rfl, _, rfl⟩, by go_grown⟩
  · have hB : Below w.heap.size w w1 := belowTo (by go_grown) hb2
    have hs1 := hB.size
    have q0 : w1.cell? ⟨w.heap.size, 0, none⟩ = some (.slice none 0 0) := (hb2.cell (p := ⟨w.heap.size, 0, none⟩) (by first | assumption | (go_size; done) | (simp; omega) | (simp only [World.size_alloc]; omega))).trans (by first | assumption | (go_cell; done) | (go_simp; done) | simp [*]); have qf0 : w1.frozen? ⟨w.heap.size, 0, none⟩ = false := (hb2.frozen (p := ⟨w.heap.size, 0, none⟩) (by first | assumption | (go_size; done) | (simp; omega) | (simp only [World.size_alloc]; omega))).trans (by first | assumption | (go_cell; done) | (go_simp; done) | simp [*]); have q1 : w1.cell? ⟨w.heap.size, 1, none⟩ = some (.nilFunc) := (hb2.cell (p := ⟨w.heap.size, 1, none⟩) (by first | assumption | (go_size; done) | (simp; omega) | (simp only [World.size_alloc]; omega))).trans (by first | assumption | (go_cell; done) | (go_simp; done) | simp [*]); have qf1 : w1.frozen? ⟨w.heap.size, 1, none⟩ = false := (hb2.frozen (p := ⟨w.heap.size, 1, none⟩) (by first | assumption | (go_size; done) | (simp; omega) | (simp only [World.size_alloc]; omega))).trans (by first | assumption | (go_cell; done) | (go_simp; done) | simp [*])
    have hs2 : w.heap.size < w1.heap.size := Nat.lt_of_lt_of_le (by simp) hb2.size
    have t1 := fun w => as_pol1 (.slice a l.length c) w
    have t2 := fun w => as_pol2 (.slice a l.length c) w
    clear hb2 HC
    go_wp2
    refine bodyPost_ret (by simp [results, Tryd.results46, go_sem, *]; try rfl) rfl ?_
    unfold RefE
    exact ⟨.inl ⟨rfl, _, rfl⟩, by go_grown⟩
  · have hB : Below w.heap.size w w1 := belowTo (by go_grown) hb2
    have hs1 := hB.size
    have q0 : w1.cell? ⟨w.heap.size, 0, none⟩ = some (.slice none 0 0) := (hb2.cell (p := ⟨w.heap.size, 0, none⟩) (by first | assumption | (go_size; done) | (simp; omega) | (simp only [World.size_alloc]; omega))).trans (by first | assumption | (go_cell; done) | (go_simp; done) | simp [*]); have qf0 : w1.frozen? ⟨w.heap.size, 0, none⟩ = false := (hb2.frozen (p := ⟨w.heap.size, 0, none⟩) (by first | assumption | (go_size; done) | (simp; omega) | (simp only [World.size_alloc]; omega))).trans (by first | assumption | (go_cell; done) | (go_simp; done) | simp [*]); have q1 : w1.cell? ⟨w.heap.size, 1, none⟩ = some (.nilFunc) := (hb2.cell (p := ⟨w.heap.size, 1, none⟩) (by first | assumption | (go_size; done) | (simp; omega) | (simp only [World.size_alloc]; omega))).trans (by first | assumption | (go_cell; done) | (go_simp; done) | simp [*]); have qf1 : w1.frozen? ⟨w.heap.size, 1, none⟩ = false := (hb2.frozen (p := ⟨w.heap.size, 1, none⟩) (by first | assumption | (go_size; done) | (simp; omega) | (simp only [World.size_alloc]; omega))).trans (by first | assumption | (go_cell; done) | (go_simp; done) | simp [*])
    have hs2 : w.heap.size < w1.heap.size := Nat.lt_of_lt_of_le (by simp) hb2.size
    have t1 := fun w => as_ref1 (.agg #[.slice a l.length c, .func (.func 123) #[] #[.pointer (some ⟨b, 0, none⟩)]]) w
    clear hb2 HC
    go_wp2
    refine bodyPost_ret (by simp [results, Tryd.results46, go_sem, *]; try rfl) rfl ?_
    unfold RefE
    have hbn : w.heap.size ≠ b := by simp at hb0; omega
    refine ⟨.inr ⟨rfl, b, by simp at hb0; omega, by simp; omega, ?_, rfl⟩, by go_grown⟩
    rw [World.cell?_alloc_lt _ _ ⟨b, _, none⟩ (by simp; exact hb1), World.cell?_setCell_far _ _ _ _ hbn, World.cell?_setCell_far _ _ _ _ hbn]
    exact hc
set_option maxHeartbeats 8000000 in
theorem reflexiveIn_any (v : Value) (l : List V2) (w : World) (h : ReadsVecs w v l) (hg : EtOk w) :
    Calls Tryd.prog 23 #[v] w fun e w' => e = .returned (.bool (reflB l)) ∧ Below w.heap.size w w' := by
  have HC := Lib.hid (reflexiveOf_any v l w h hg)
  obtain ⟨a, c, rfl, _⟩ := h
  generalize reflB l = R at *
  go_enter Tryd.func23, Tryd.ntmps23
  go_wp2_with fail
  refine Calls.mono HC.out ?_
  rintro e w1 ⟨⟨rfl, s, rfl⟩ | ⟨rfl, b, _, _, _, rfl⟩, hb1⟩
  · clear HC
    have hs1 := hb1.size
    go_wp2_with fail
    refine Calls.mono (none_hit s _ (hg.below (by go_grown))) ?_
    rintro e w2 ⟨rfl, hb2⟩
    have hB : Below w.heap.size w w2 := belowTo (by go_grown) hb2
    clear hb2
    go_wp2
    go_returns
    exact ⟨rfl, hB⟩
  · clear HC
    have hs1 := hb1.size
    go_wp2_with fail
    refine Calls.mono (none_nil _) ?_
    rintro e w2 ⟨rfl, hb2⟩
    have hB : Below w.heap.size w w2 := belowTo (by go_grown) hb2
    clear hb2
    go_wp2
    go_returns
    exact ⟨rfl, hB⟩
end Go.Proofs.YtkcnpbgbgdgkpaaDoor
