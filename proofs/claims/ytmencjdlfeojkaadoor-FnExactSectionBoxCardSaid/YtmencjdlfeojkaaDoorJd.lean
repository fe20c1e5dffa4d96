/- Sections: boxes: the program. -/
import Derived.Test.YtmencjdlfeojkaaDoorJc
import Derived.Test.YtmencjdlfeojkaaDoorQg
namespace Go.Proofs.YtmencjdlfeojkaaDoor
open Go.RowKit

set_option maxRecDepth 100000 in
set_option maxHeartbeats 32000000 in
theorem box_any (base g : Nat) (ns : List Node) (u : Value) (d : List Int) (w : World) (hF : FanAt w base g ns) (hf : fanB (rays ns) = true) (hu : ReadsInts w u d) (hl : d.length = ns.length) (hb : bnd 100 d) :
    Calls Tryd.prog 32 #[.agg #[.pointer (some ⟨g, 0, none⟩), u]] w fun e w' => e = .returned (.agg #[.int .i64 (-bndZ (rays ns) d (1, 0)), .int .i64 (-bndZ (rays ns) d (0, 1)), .int .i64 (bndZ (rays ns) d (-1, 0)), .int .i64 (bndZ (rays ns) d (0, -1))]) ∧ Below w.heap.size w w' := by
  have hv : allVec (rays ns) := fan_vec hf
  have HB := Lib.hid (fun x y w' (hb' : Below w.heap.size w w') (ha : vecB x y = true) => bound_any base g ns u d x y w' (hF.below hb') hf (hu.below hb') hl hb ha)
  obtain ⟨B, hB⟩ : ∃ B : Int → Int → Int, ∀ x y, bndZ (rays ns) d (x, y) = B x y := ⟨fun x y => bndZ (rays ns) d (x, y), fun _ _ => rfl⟩
  have b1 := bndZ_bnd (a := (1, 0)) hv (by decide) hb
  have b2 := bndZ_bnd (a := (0, 1)) hv (by decide) hb
  have b3 := bndZ_bnd (a := (-1, 0)) hv (by decide) hb
  have b4 := bndZ_bnd (a := (0, -1)) hv (by decide) hb
  rw [hB] at b1 b2 b3 b4
  have q1 : IntKind.i64.wrap (-(B 1 0)) = -(B 1 0) := by rw [IntKind.wrap_i64]; omega
  have q2 : IntKind.i64.wrap (-(B 0 1)) = -(B 0 1) := by rw [IntKind.wrap_i64]; omega
  simp only [hB] at HB ⊢
  obtain ⟨a, c, rfl, _⟩ := hu.len
  clear hF hf hu hl hb hv hB b1 b2 b3 b4
  go_enter Tryd.func32, Tryd.ntmps32
  go_wp2_with fail
  have hA0 : Below w.heap.size w ((w.alloc (.cells #[.pointer (some ⟨g, 0, none⟩), .slice a d.length c] 54)).alloc (.cells #[.int .i64 0, .int .i64 0, .int .i64 0, .int .i64 0] 58)) := by go_grown
  have x0 : ((w.alloc (.cells #[.pointer (some ⟨g, 0, none⟩), .slice a d.length c] 54)).alloc (.cells #[.int .i64 0, .int .i64 0, .int .i64 0, .int .i64 0] 58)).cell? ⟨w.heap.size, 0, none⟩ = some (.pointer (some ⟨g, 0, none⟩)) := by first | (go_cell; done) | (go_simp; done) | (simp; done)
  have x1 : ((w.alloc (.cells #[.pointer (some ⟨g, 0, none⟩), .slice a d.length c] 54)).alloc (.cells #[.int .i64 0, .int .i64 0, .int .i64 0, .int .i64 0] 58)).cell? ⟨w.heap.size, 1, none⟩ = some (.slice a d.length c) := by first | (go_cell; done) | (go_simp; done) | (simp; done)
  have r0 : ((w.alloc (.cells #[.pointer (some ⟨g, 0, none⟩), .slice a d.length c] 54)).alloc (.cells #[.int .i64 0, .int .i64 0, .int .i64 0, .int .i64 0] 58)).cell? ⟨w.heap.size + 1, 0, none⟩ = some (.int .i64 0) := by first | (go_cell; done) | (go_simp; done) | (simp; done)
  have r1 : ((w.alloc (.cells #[.pointer (some ⟨g, 0, none⟩), .slice a d.length c] 54)).alloc (.cells #[.int .i64 0, .int .i64 0, .int .i64 0, .int .i64 0] 58)).cell? ⟨w.heap.size + 1, 1, none⟩ = some (.int .i64 0) := by first | (go_cell; done) | (go_simp; done) | (simp; done)
  have r2 : ((w.alloc (.cells #[.pointer (some ⟨g, 0, none⟩), .slice a d.length c] 54)).alloc (.cells #[.int .i64 0, .int .i64 0, .int .i64 0, .int .i64 0] 58)).cell? ⟨w.heap.size + 1, 2, none⟩ = some (.int .i64 0) := by first | (go_cell; done) | (go_simp; done) | (simp; done)
  have r3 : ((w.alloc (.cells #[.pointer (some ⟨g, 0, none⟩), .slice a d.length c] 54)).alloc (.cells #[.int .i64 0, .int .i64 0, .int .i64 0, .int .i64 0] 58)).cell? ⟨w.heap.size + 1, 3, none⟩ = some (.int .i64 0) := by first | (go_cell; done) | (go_simp; done) | (simp; done)
  have f0 : ∀ o, ((w.alloc (.cells #[.pointer (some ⟨g, 0, none⟩), .slice a d.length c] 54)).alloc (.cells #[.int .i64 0, .int .i64 0, .int .i64 0, .int .i64 0] 58)).frozen? ⟨w.heap.size + 1, o, none⟩ = false := fun o => by first | (go_cell; done) | (go_simp; done) | (simp; done)
  generalize ((w.alloc (.cells #[.pointer (some ⟨g, 0, none⟩), .slice a d.length c] 54)).alloc (.cells #[.int .i64 0, .int .i64 0, .int .i64 0, .int .i64 0] 58)) = W at *
  have fz0 := f0 0
  have fz1 := f0 1
  have fz2 := f0 2
  have fz3 := f0 3
  have l0 := cell_lt x0
  have l1 := cell_lt r0
  have HBt := Lib.hid (fun x y w' (h : Below W.heap.size W w') ha => HB.out x y w' (belowTo hA0 h) ha)
  clear HB f0
  go_region_held3 (fun w' => w'.cell? ⟨w.heap.size, 0, none⟩ = some (.pointer (some ⟨g, 0, none⟩)) ∧ w'.cell? ⟨w.heap.size, 1, none⟩ = some (.slice a d.length c) ∧ Below (w.heap.size) W w') ((go_split_ands; refine ⟨by (first | (with_reducible assumption) | (go_keep; done) | (go_cell; done) | (go_simp; done) | (simp [*]; done)), by (first | (with_reducible assumption) | (go_keep; done) | (go_cell; done) | (go_simp; done) | (simp [*]; done)), by first | (with_reducible assumption) | (go_grown; done)⟩)) (first | (go_at_call 54; go_call (HBt.out _ _ _ (by first | (with_reducible assumption) | (go_grown; done)) (by decide)) as e w1 ⟨rfl, hb0⟩; go_split_ands; have q0 : w1.cell? ⟨w.heap.size, 0, none⟩ = some (.pointer (some ⟨g, 0, none⟩)) := (hb0.cell (p := ⟨w.heap.size, 0, none⟩) (by first | (with_reducible assumption) | (go_size; done) | (simp; omega))).trans (by first | (with_reducible assumption) | (go_keep; done) | (go_cell; done) | (go_simp; done) | (simp [*]; done)); have q1 : w1.cell? ⟨w.heap.size, 1, none⟩ = some (.slice a d.length c) := (hb0.cell (p := ⟨w.heap.size, 1, none⟩) (by first | (with_reducible assumption) | (go_size; done) | (simp; omega))).trans (by first | (with_reducible assumption) | (go_keep; done) | (go_cell; done) | (go_simp; done) | (simp [*]; done)); have q2 : w1.cell? ⟨w.heap.size + 1, 0, none⟩ = some (.int .i64 (0)) := (hb0.cell (p := ⟨w.heap.size + 1, 0, none⟩) (by first | (with_reducible assumption) | (go_size; done) | (simp; omega))).trans (by first | (with_reducible assumption) | (go_keep; done) | (go_cell; done) | (go_simp; done) | (simp [*]; done)); have q3 : w1.cell? ⟨w.heap.size + 1, 1, none⟩ = some (.int .i64 (0)) := (hb0.cell (p := ⟨w.heap.size + 1, 1, none⟩) (by first | (with_reducible assumption) | (go_size; done) | (simp; omega))).trans (by first | (with_reducible assumption) | (go_keep; done) | (go_cell; done) | (go_simp; done) | (simp [*]; done)); have q4 : w1.cell? ⟨w.heap.size + 1, 2, none⟩ = some (.int .i64 (0)) := (hb0.cell (p := ⟨w.heap.size + 1, 2, none⟩) (by first | (with_reducible assumption) | (go_size; done) | (simp; omega))).trans (by first | (with_reducible assumption) | (go_keep; done) | (go_cell; done) | (go_simp; done) | (simp [*]; done)); have q5 : w1.cell? ⟨w.heap.size + 1, 3, none⟩ = some (.int .i64 (0)) := (hb0.cell (p := ⟨w.heap.size + 1, 3, none⟩) (by first | (with_reducible assumption) | (go_size; done) | (simp; omega))).trans (by first | (with_reducible assumption) | (go_keep; done) | (go_cell; done) | (go_simp; done) | (simp [*]; done)); have qf0 : w1.frozen? ⟨w.heap.size + 1, 0, none⟩ = false := (hb0.frozen (p := ⟨w.heap.size + 1, 0, none⟩) (by first | (with_reducible assumption) | (go_size; done) | (simp; omega))).trans (by first | (with_reducible assumption) | (go_keep; done) | (go_cell; done) | (go_simp; done) | (simp [*]; done)); have qf1 : w1.frozen? ⟨w.heap.size + 1, 1, none⟩ = false := (hb0.frozen (p := ⟨w.heap.size + 1, 1, none⟩) (by first | (with_reducible assumption) | (go_size; done) | (simp; omega))).trans (by first | (with_reducible assumption) | (go_keep; done) | (go_cell; done) | (go_simp; done) | (simp [*]; done)); have qf2 : w1.frozen? ⟨w.heap.size + 1, 2, none⟩ = false := (hb0.frozen (p := ⟨w.heap.size + 1, 2, none⟩) (by first | (with_reducible assumption) | (go_size; done) | (simp; omega))).trans (by first | (with_reducible assumption) | (go_keep; done) | (go_cell; done) | (go_simp; done) | (simp [*]; done)); have qf3 : w1.frozen? ⟨w.heap.size + 1, 3, none⟩ = false := (hb0.frozen (p := ⟨w.heap.size + 1, 3, none⟩) (by first | (with_reducible assumption) | (go_size; done) | (simp; omega))).trans (by first | (with_reducible assumption) | (go_keep; done) | (go_cell; done) | (go_simp; done) | (simp [*]; done)); have hs0 : w.heap.size < w1.heap.size := Nat.lt_of_lt_of_le (by first | (with_reducible assumption) | (go_size; done) | (simp; omega)) hb0.size; have hs1 : w.heap.size + 1 < w1.heap.size := Nat.lt_of_lt_of_le (by first | (with_reducible assumption) | (go_size; done) | (simp; omega)) hb0.size; have hT : Below (w.heap.size) W w1 := Below.trans (by first | (with_reducible assumption) | (go_grown; done)) (hb0.mono (by first | (with_reducible assumption) | (go_size; done) | (simp; omega) | omega)); have hTs := hT.size; (try have hT2 : Below W.heap.size W w1 := belowTo (by first | (with_reducible assumption) | (go_grown; done)) hb0); clear hb0))
  all_goals (go_wp2; refine bodyPost_ret (by simp [results, Tryd.results32, go_sem, *]; try rfl) rfl ?_; have hZ := hA0.trans hT; exact ⟨rfl, by go_grown⟩)
end Go.Proofs.YtmencjdlfeojkaaDoor
