/- The whole base: the model's side. -/
import Derived.Test.YtncjidkgbfilkabDoorVc
import Derived.Maps.AppendAt
namespace Go.Proofs.YtncjidkgbfilkabDoor
open Go.RowKit

theorem Vecs.one (w : World) (x y : Int) : Vecs (w.alloc (.cells #[.int .i64 x, .int .i64 y] 29)) w.heap.size (.slice (some ⟨w.heap.size, 0, none⟩) 1 1) [(x, y)] :=
  ⟨rfl, .inr ⟨w.heap.size, 1, #[.int .i64 x, .int .i64 y], rfl, Nat.le_refl _, heap_alloc_new w _, Nat.le_refl _, by decide, rfl, rfl⟩⟩
theorem Vecs.snoc {w : World} {base n : Nat} {v : Value} {l : List (Int × Int)} {x y : Int} (hn : n = l.length) (h : w.ownsRow base 29 2 v (n + 1) (intsV (flat l) ++ [.int .i64 x, .int .i64 y])) : Vecs w base v (l ++ [(x, y)]) := by
  unfold Vecs VRow
  rw [flat_app, List.length_append, ← hn]
  have : intsV (flat l ++ flat [(x, y)]) = intsV (flat l) ++ [.int .i64 x, .int .i64 y] := by simp [intsV, flat]
  rw [this]
  exact h
set_option maxHeartbeats 4000000 in
theorem l2Base_one (a b c d : Int) (w : World) (h : coneB a b c d = true) (hd : detZ a b c d = 1) :
    Calls Tryd.prog 35 #[.agg #[.int .i64 (a), .int .i64 (b), .int .i64 (c), .int .i64 (d)]] w (GivesVecs w (baseL a b c d)) := by
  obtain ⟨h1, _, h2, _, _⟩ := cone_in h
  have HB := Lib.hid (base_one h hd)
  have hdb : (detZ a b c d == 1) = true := by simpa using hd
  have HO := Lib.hid (fun w' => Vecs.one w' a b)
  clear hd h
  go_enter Tryd.func35, Tryd.ntmps35
  (go_wp2_with fail; go_call (l1Det_any a b c d _ h1 h2) as e w1 ⟨rfl, hb1⟩); obtain ⟨hc1, hf1⟩ := bcell hb1; have hz1 := bsize hb1
  have hA : Below w.heap.size w w1 := belowTo (by go_grown) hb1
  have p0 : w1.cell? ⟨w.heap.size, 0, none⟩ = some (.int .i64 (a)) := (hb1.cell (p := ⟨w.heap.size, 0, none⟩) (by first | assumption | (go_size; done) | (simp; omega) | (simp only [World.size_alloc]; omega))).trans (by first | assumption | (go_cell; done) | (go_simp; done) | simp [*]); have pf0 : w1.frozen? ⟨w.heap.size, 0, none⟩ = false := (hb1.frozen (p := ⟨w.heap.size, 0, none⟩) (by first | assumption | (go_size; done) | (simp; omega) | (simp only [World.size_alloc]; omega))).trans (by first | assumption | (go_cell; done) | (go_simp; done) | simp [*]); have p1 : w1.cell? ⟨w.heap.size, 1, none⟩ = some (.int .i64 (b)) := (hb1.cell (p := ⟨w.heap.size, 1, none⟩) (by first | assumption | (go_size; done) | (simp; omega) | (simp only [World.size_alloc]; omega))).trans (by first | assumption | (go_cell; done) | (go_simp; done) | simp [*]); have pf1 : w1.frozen? ⟨w.heap.size, 1, none⟩ = false := (hb1.frozen (p := ⟨w.heap.size, 1, none⟩) (by first | assumption | (go_size; done) | (simp; omega) | (simp only [World.size_alloc]; omega))).trans (by first | assumption | (go_cell; done) | (go_simp; done) | simp [*]); have p2 : w1.cell? ⟨w.heap.size, 2, none⟩ = some (.int .i64 (c)) := (hb1.cell (p := ⟨w.heap.size, 2, none⟩) (by first | assumption | (go_size; done) | (simp; omega) | (simp only [World.size_alloc]; omega))).trans (by first | assumption | (go_cell; done) | (go_simp; done) | simp [*]); have pf2 : w1.frozen? ⟨w.heap.size, 2, none⟩ = false := (hb1.frozen (p := ⟨w.heap.size, 2, none⟩) (by first | assumption | (go_size; done) | (simp; omega) | (simp only [World.size_alloc]; omega))).trans (by first | assumption | (go_cell; done) | (go_simp; done) | simp [*]); have p3 : w1.cell? ⟨w.heap.size, 3, none⟩ = some (.int .i64 (d)) := (hb1.cell (p := ⟨w.heap.size, 3, none⟩) (by first | assumption | (go_size; done) | (simp; omega) | (simp only [World.size_alloc]; omega))).trans (by first | assumption | (go_cell; done) | (go_simp; done) | simp [*]); have pf3 : w1.frozen? ⟨w.heap.size, 3, none⟩ = false := (hb1.frozen (p := ⟨w.heap.size, 3, none⟩) (by first | assumption | (go_size; done) | (simp; omega) | (simp only [World.size_alloc]; omega))).trans (by first | assumption | (go_cell; done) | (go_simp; done) | simp [*])
  have hl : w.heap.size < w1.heap.size := hz1 _ (by simp)
  clear hc1 hf1 hz1 hb1
  obtain ⟨i0, hi, hz0, hz1, hz2⟩ := info_parts infoVec
  have hown := HO.out w1
  have hown2 : (w1.alloc (.cells #[.int .i64 a, .int .i64 b] 29)).ownsRow w1.heap.size 29 2 (.slice (some ⟨w1.heap.size, 0, none⟩) 1 1) 1 (intsV (flat [(a, b)])) := hown
  have HW := Lib.hid hown2
  clear hown hown2
  go_wp2_with (at_builtin; refine wpList_append_own_at _ rfl _ _ 26 rfl w1.heap.size 29 i0 (.agg #[.int .i64 (0), .int .i64 (0)]) 2 16 Tryd.underlying26 hi hz0 hz1 hz2 rfl (by decide) _ 1 _ rfl (HW.out.alloc _) ⟨w1.heap.size + 1, 0, none⟩ 1 1 [.int .i64 c, .int .i64 d] rfl rfl ?c1 ?c2 ?c3 ?c4 ?c5 ?_)
  case c1 =>
    intro j u hj
    match j, hj with
    | 0, hj => simp at hj; subst hj; simp [Addr.add]
    | 1, hj => simp at hj; subst hj; simp [Addr.add]
  case c2 => intro u hu; simp at hu; rcases hu with rfl | rfl <;> rfl
  case c3 => decide
  case c4 => decide
  case c5 => simp; omega
  intro v' w2 hown' hgrow _ _
  have hB : Below w.heap.size w w2 := (((hA.alloc hA.size _).alloc (by have := hA.size; simp; omega) _).grown hgrow (by have := hA.size; simp; omega) (fun k hk => by have := hA.size; simp [Value.ownBlock] at hk; omega))
  have HV := Lib.hid ((Vecs.snoc (l := [(a, b)]) rfl hown').lower hA.size)
  clear hown' hgrow HW
  go_wp2
  go_returns
  refine ⟨_, rfl, ?_, hB⟩
  rw [HB.out]
  exact HV.out
end Go.Proofs.YtncjidkgbfilkabDoor
