import Derived.Test.YtcieihbknfeddaaDoorBc
import Derived.Test.YtcieihbknfeddaaDoorB2
import Derived.Deep.RegionHeld3
import Derived.Laws.StructEq
import Derived.Test.YtcieihbknfeddaaDoorB5
import Derived.Test.YtcieihbknfeddaaDoorB1
/- The draws of chapter 1: matrices. -/
namespace Go.Proofs.YtcieihbknfeddaaDoor
open Go.RowKit

/-- Some matrix of four numbers; nothing below block B has turned. -/
def DrewMat (w : World) (B : Nat) (e : Ending) (w' : World) : Prop := ∃ a b c d : Int, e = .returned (.agg #[.int .i64 (a), .int .i64 (b), .int .i64 (c), .int .i64 (d)]) ∧ Below B w w'
/-- how great the numbers may be behind k rounds -/
def threes : Nat → Int
  | 0 => 1
  | 1 => 3
  | 2 => 9
  | _ => 27
theorem threes_succ {k : Nat} (h : k < 3) : threes (k + 1) = 3 * threes k ∧ 1 ≤ threes k ∧ threes k ≤ 9 := by
  match k, h with
  | 0, _ => decide
  | 1, _ => decide
  | 2, _ => decide
theorem threes_le (k : Nat) : 1 ≤ threes k ∧ threes k ≤ 27 := by
  match k with
  | 0 => decide
  | 1 => decide
  | 2 => decide
  | k + 3 => exact ⟨by show (1 : Int) ≤ 27; decide, by show (27 : Int) ≤ 27; decide⟩
theorem mul_two {k c M : Int} (hk : -2 ≤ k ∧ k ≤ 2) (hc : -M ≤ c ∧ c ≤ M) : -(2 * M) ≤ k * c ∧ k * c ≤ 2 * M := by
  obtain h | h | h | h | h : k = -2 ∨ k = -1 ∨ k = 0 ∨ k = 1 ∨ k = 2 := by omega
  all_goals (subst h; omega)
def MatAt (W : World) (g : Nat) (a b c d : Int) : Prop := (W.cell? ⟨g, 0, none⟩ = some (.int .i64 a) ∧ W.cell? ⟨g, 1, none⟩ = some (.int .i64 b) ∧ W.cell? ⟨g, 2, none⟩ = some (.int .i64 c) ∧ W.cell? ⟨g, 3, none⟩ = some (.int .i64 d)) ∧ (W.frozen? ⟨g, 0, none⟩ = false ∧ W.frozen? ⟨g, 1, none⟩ = false ∧ W.frozen? ⟨g, 2, none⟩ = false ∧ W.frozen? ⟨g, 3, none⟩ = false)
theorem MatAt.kept {W W' : World} {g : Nat} {a b c d : Int} (h : MatAt W g a b c d) (k : ∀ o, W'.cell? ⟨g, o, none⟩ = W.cell? ⟨g, o, none⟩) (f : ∀ o, W'.frozen? ⟨g, o, none⟩ = W.frozen? ⟨g, o, none⟩) : MatAt W' g a b c d := by
  unfold MatAt
  simp only [k, f]
  exact h
theorem MatAt.put {W : World} {g : Nat} {a b c d : Int} (h : MatAt W g a b c d) (x y z u : Int) :
    MatAt ((((W.setCell ⟨g, 0, none⟩ (.int .i64 x)).setCell ⟨g, 1, none⟩ (.int .i64 y)).setCell ⟨g, 2, none⟩ (.int .i64 z)).setCell ⟨g, 3, none⟩ (.int .i64 u)) g x y z u := by
  obtain ⟨⟨h0, h1, h2, h3⟩, f0, f1, f2, f3⟩ := h
  refine ⟨⟨?_, ?_, ?_, ?_⟩, by simp [*], by simp [*], by simp [*], by simp [*]⟩
  · rw [World.cell?_setCell_other _ _ _ _ (by simp), World.cell?_setCell_other _ _ _ _ (by simp), World.cell?_setCell_other _ _ _ _ (by simp)]
    exact World.cell?_setCell_same _ _ _ h0
  · rw [World.cell?_setCell_other _ _ _ _ (by simp), World.cell?_setCell_other _ _ _ _ (by simp)]
    refine World.cell?_setCell_same (u := .int .i64 b) _ _ _ ?_
    rw [World.cell?_setCell_other _ _ _ _ (by simp)]; exact h1
  · rw [World.cell?_setCell_other _ _ _ _ (by simp)]
    refine World.cell?_setCell_same (u := .int .i64 c) _ _ _ ?_
    rw [World.cell?_setCell_other _ _ _ _ (by simp), World.cell?_setCell_other _ _ _ _ (by simp)]; exact h2
  · refine World.cell?_setCell_same (u := .int .i64 d) _ _ _ ?_
    rw [World.cell?_setCell_other _ _ _ _ (by simp), World.cell?_setCell_other _ _ _ _ (by simp), World.cell?_setCell_other _ _ _ _ (by simp)]; exact h3
theorem MatAt.other {W : World} {g g' : Nat} {a b c d : Int} (h : MatAt W g a b c d) (hne : g' ≠ g) (x y z u : Int) :
    MatAt ((((W.setCell ⟨g', 0, none⟩ (.int .i64 x)).setCell ⟨g', 1, none⟩ (.int .i64 y)).setCell ⟨g', 2, none⟩ (.int .i64 z)).setCell ⟨g', 3, none⟩ (.int .i64 u)) g a b c d := by
  refine h.kept (fun o => ?_) (fun o => by simp)
  rw [World.cell?_setCell_far _ _ _ _ hne, World.cell?_setCell_far _ _ _ _ hne, World.cell?_setCell_far _ _ _ _ hne, World.cell?_setCell_far _ _ _ _ hne]
theorem Reads.put {W : World} {B g : Nat} {a : Option Addr} {len cap : Nat} {p : Int} (h : Reads W B a len cap p) (hg : B < g) (x y z u : Int) :
    Reads ((((W.setCell ⟨g, 0, none⟩ (.int .i64 x)).setCell ⟨g, 1, none⟩ (.int .i64 y)).setCell ⟨g, 2, none⟩ (.int .i64 z)).setCell ⟨g, 3, none⟩ (.int .i64 u)) B a len cap p :=
  h.below (((((Below.refl (B + 1) W).setCell (p := ⟨g, 0, none⟩) hg _).setCell (p := ⟨g, 1, none⟩) hg _).setCell (p := ⟨g, 2, none⟩) hg _).setCell (p := ⟨g, 3, none⟩) hg _)
theorem below_put {w W : World} {B g : Nat} (h : Below B w W) (hg : B ≤ g) (x y z u : Int) :
    Below B w ((((W.setCell ⟨g, 0, none⟩ (.int .i64 x)).setCell ⟨g, 1, none⟩ (.int .i64 y)).setCell ⟨g, 2, none⟩ (.int .i64 z)).setCell ⟨g, 3, none⟩ (.int .i64 u)) :=
  (((h.setCell (p := ⟨g, 0, none⟩) hg _).setCell (p := ⟨g, 1, none⟩) hg _).setCell (p := ⟨g, 2, none⟩) hg _).setCell (p := ⟨g, 3, none⟩) hg _

set_option maxHeartbeats 4000000 in
theorem l91Mat_any (w : World) (B : Nat) (a : Option Addr) (len cap : Nat) (p : Int) (h : Reads w B a len cap p) (hp : p ≤ 90000) :
    Calls Tryd.prog 67 #[.pointer (some ⟨B, 0, none⟩)] w (DrewMat w B) := by
  have hB : B < w.heap.size := h.2.2.2.2.1
  have b0 : w.heap.size ≠ B := by omega
  have b1 : w.heap.size + 1 ≠ B := by omega
  go_enter Tryd.func67, Tryd.ntmps67
  go_wp2_with fail
  refine Calls.mono (pick_any _ B a len cap p 4 (h.below (by go_grown)) (by omega) (by omega)) ?_
  rintro e w1 ⟨n, rfl, n0, n4, r1, k1, f1, s1, q1⟩
  have Q1 : Below B w w1 := Below.trans (by go_grown) q1
  have R1 : MatAt w1 w.heap.size 0 0 0 0 := by
    refine ⟨⟨?_, ?_, ?_, ?_⟩, ?_, ?_, ?_, ?_⟩
    all_goals first | (rw [k1 _ _ b0]; simp; done) | (rw [f1 _ _ b0]; simp; done)
  have M1 : MatAt w1 (w.heap.size + 1) 1 0 0 1 := by
    refine ⟨⟨?_, ?_, ?_, ?_⟩, ?_, ?_, ?_, ?_⟩
    all_goals first | (rw [k1 _ _ b1]; simp; done) | (rw [f1 _ _ b1]; simp; done)
  have S1 : w1.heap.size = w.heap.size + 1 + 1 := by rw [s1]; simp
  clear k1 f1 s1 q1 h
  have HM := Lib.hid M1
  have HR := Lib.hid R1
  clear M1 R1
  go_wp2
  go_loopw [5] (fun s5 wr => ∃ (k : Nat) (x y z u q : Int), s5 = .int .i64 k ∧ (k : Int) ≤ n ∧ ((-(threes k) ≤ x ∧ x ≤ threes k) ∧ (-(threes k) ≤ y ∧ y ≤ threes k) ∧ (-(threes k) ≤ z ∧ z ≤ threes k) ∧ (-(threes k) ≤ u ∧ u ≤ threes k)) ∧ Hid (MatAt wr (w.heap.size + 1) x y z u) ∧ Hid (MatAt wr w.heap.size 0 0 0 0) ∧ wr.heap.size = w.heap.size + 1 + 1 ∧ Reads wr B a len cap q ∧ q ≤ p + 1 + k ∧ Below B w wr) (fun s5 _ => (n - intOf s5).toNat)
  case atStart => exact ⟨0, 1, 0, 0, 1, p + 1, rfl, by omega, by decide, HM, HR, S1, r1, by omega, Q1⟩
  case round =>
    obtain ⟨k, x, y, z, u, q, rfl, hk, hbd, HM', HR', hS, r, hq, hQ⟩ := hrel
    obtain ⟨⟨x0, x1⟩, ⟨y0, y1⟩, ⟨z0, z1⟩, ⟨u0, u1⟩⟩ := hbd
    clear HM HR r1 Q1 S1
    by_cases hlt : (k : Int) < n
    · obtain ⟨t1, t2, t3⟩ := threes_succ (k := k) (by omega)
      go_wp2_with fail
      refine Calls.mono (pick_any _ B a len cap q 5 r (by omega) (by omega)) ?_
      rintro e w2 ⟨v, rfl, v0, v5, r2, k2, f2, s2, q2⟩
      have hM2 := HM'.out.kept (k2 _ · b1) (f2 _ · b1)
      have hR2 := Lib.hid (HR'.out.kept (k2 _ · b0) (f2 _ · b0))
      have hM2' := hM2
      obtain ⟨⟨c0, c1, c2, c3⟩, e0, e1, e2, e3⟩ := hM2
      have hv : -2 ≤ v - 2 ∧ v - 2 ≤ 2 := by omega
      obtain ⟨m0, m1⟩ := mul_two (c := z) hv ⟨z0, z1⟩
      obtain ⟨m2, m3⟩ := mul_two (c := u) hv ⟨u0, u1⟩
      have HM2 := Lib.hid hM2'
      have hS2 : w2.heap.size = w.heap.size + 1 + 1 := by rw [s2]; exact hS
      have hQ2 := hQ.trans q2
      clear k2 f2 s2 q2 HM' HR' r hQ hM2' hS
      generalize hT : threes k = T at *
      generalize hT' : threes (k + 1) = T' at *
      go_wp2
      go_roundw
      case rel => exact ⟨k + 1, -z, -u, x + (v - 2) * z, y + (v - 2) * u, q + 1, by go_num, by omega, ⟨⟨by omega, by omega⟩, ⟨by omega, by omega⟩, ⟨by omega, by omega⟩, ⟨by omega, by omega⟩⟩, Lib.hid (HM2.out.put _ _ _ _), Lib.hid (hR2.out.other (by omega) _ _ _ _), by simpa using hS2, r2.put (by omega) _ _ _ _, by omega, below_put hQ2 (by omega) _ _ _ _⟩
      case measure => simp [intOf]; omega
    · obtain ⟨t2, t3⟩ := threes_le k
      go_wp2_with fail
      refine Calls.mono (pick_any _ B a len cap q 12 r (by omega) (by omega)) ?_
      rintro e w2 ⟨v, rfl, v0, v5, r2, k2, f2, s2, q2⟩
      have hM2 := HM'.out.kept (k2 _ · b1) (f2 _ · b1)
      have hR2 := HR'.out.kept (k2 _ · b0) (f2 _ · b0)
      obtain ⟨⟨c0, c1, c2, c3⟩, e0, e1, e2, e3⟩ := hM2
      obtain ⟨⟨d0, d1, d2, d3⟩, g0, g1, g2, g3⟩ := hR2
      have hQ2 := hQ.trans q2
      clear k2 f2 s2 q2 HM' HR' r hQ r2
      generalize hT : threes k = T at *
      obtain hv | hv | hv | hv | ⟨hv0, hv1, hv2, hv3⟩ : v = 0 ∨ v = 1 ∨ v = 2 ∨ v = 3 ∨ ((v == 0) = false ∧ (v == 1) = false ∧ (v == 2) = false ∧ (v == 3) = false) := by
        by_cases h0 : v = 0
        · exact .inl h0
        by_cases h1 : v = 1
        · exact .inr (.inl h1)
        by_cases h2 : v = 2
        · exact .inr (.inr (.inl h2))
        by_cases h3 : v = 3
        · exact .inr (.inr (.inr (.inl h3)))
        · exact .inr (.inr (.inr (.inr ⟨by simpa using h0, by simpa using h1, by simpa using h2, by simpa using h3⟩)))
      all_goals try subst hv
      all_goals go_wp2
      all_goals (refine bodyPost_ret (by simp [results, Tryd.results67, go_sem, *]; try rfl) rfl ?_)
      all_goals exact ⟨_, _, _, _, rfl, by go_grown⟩
def OneMat (w : World) (e : Ending) (w' : World) : Prop := ∃ a b c d : Int, e = .returned (.agg #[.int .i64 (a), .int .i64 (b), .int .i64 (c), .int .i64 (d)]) ∧ Below w.heap.size w w'
end Go.Proofs.YtcieihbknfeddaaDoor

namespace Go.Proofs.YtcieihbknfeddaaDoor
open Go.RowKit

/-! eqMat at one matrix twice -/
/-! checkAll over two matrices -/
set_option maxHeartbeats 1000000 in
theorem checkAll_mm_in (a b c d a2 b2 c2 d2 : Int) (B : Nat) (w : World) (h1 : matB a b c d = true) (h2 : matB a2 b2 c2 d2 = true)
    (c0 : w.cell? ⟨B, 0, none⟩ = some (.iface 24 (.agg #[.int .i64 (a), .int .i64 (b), .int .i64 (c), .int .i64 (d)]))) (c1 : w.cell? ⟨B, 1, none⟩ = some (.iface 24 (.agg #[.int .i64 (a2), .int .i64 (b2), .int .i64 (c2), .int .i64 (d2)]))) (hB : B < w.heap.size) :
    Calls Tryd.prog 70 #[.slice (some ⟨B, 0, none⟩) 2 2] w fun e w' => e = .returned .nilIface ∧ Below w.heap.size w w' := by
  go_enter Tryd.func70, Tryd.ntmps70
  go_wp2
  refine wp_loop_rounds 3 ?_
  rw [rounds_succ]
  go_wp2_with fail
  go_call (matCheck_in a b c d _ h1) as e w1 ⟨rfl, hb1⟩
  have c1' : w1.cell? ⟨B, 1, none⟩ = some (.iface 24 (.agg #[.int .i64 (a2), .int .i64 (b2), .int .i64 (c2), .int .i64 (d2)])) := (hb1.cell (p := ⟨B, 1, none⟩) hB).trans c1
  clear c0 c1
  go_wp2_with fail
  rw [rounds_succ]
  go_wp2_with fail
  go_call (matCheck_in a2 b2 c2 d2 _ h2) as e w2 ⟨rfl, hb2⟩
  clear c1'
  go_wp2_with fail
  rw [rounds_succ]
  go_wp2
  go_returns
  exact ⟨rfl, belowTo hb1 hb2⟩
set_option maxHeartbeats 1000000 in
theorem checkAll_mm_out (a b c d a2 b2 c2 d2 : Int) (B : Nat) (w : World) (h : mmOk a b c d a2 b2 c2 d2 = false)
    (c0 : w.cell? ⟨B, 0, none⟩ = some (.iface 24 (.agg #[.int .i64 (a), .int .i64 (b), .int .i64 (c), .int .i64 (d)]))) (c1 : w.cell? ⟨B, 1, none⟩ = some (.iface 24 (.agg #[.int .i64 (a2), .int .i64 (b2), .int .i64 (c2), .int .i64 (d2)]))) (hB : B < w.heap.size) :
    Calls Tryd.prog 70 #[.slice (some ⟨B, 0, none⟩) 2 2] w fun e w' => e = .returned (.iface 124 (.agg #[.string ⟨#[109, 97, 116, 114, 105, 120]⟩])) ∧ Below w.heap.size w w' := by
  unfold mmOk at h
  cases h1 : matB a b c d
  · clear h
    go_enter Tryd.func70, Tryd.ntmps70
    go_wp2
    refine wp_loop_rounds 3 ?_
    rw [rounds_succ]
    go_wp2_with fail
    go_call (matCheck_out a b c d _ h1) as e w1 ⟨rfl, hb1⟩
    clear c0 c1
    go_wp2
    go_returns
    exact ⟨rfl, hb1⟩
  · have h2 : matB a2 b2 c2 d2 = false := by simpa [h1] using h
    clear h
    go_enter Tryd.func70, Tryd.ntmps70
    go_wp2
    refine wp_loop_rounds 3 ?_
    rw [rounds_succ]
    go_wp2_with fail
    go_call (matCheck_in a b c d _ h1) as e w1 ⟨rfl, hb1⟩
    have c1' : w1.cell? ⟨B, 1, none⟩ = some (.iface 24 (.agg #[.int .i64 (a2), .int .i64 (b2), .int .i64 (c2), .int .i64 (d2)])) := (hb1.cell (p := ⟨B, 1, none⟩) hB).trans c1
    clear c0 c1
    go_wp2_with fail
    rw [rounds_succ]
    go_wp2_with fail
    go_call (matCheck_out a2 b2 c2 d2 _ h2) as e w2 ⟨rfl, hb2⟩
    clear c1'
    go_wp2
    go_returns
    exact ⟨rfl, belowTo hb1 hb2⟩

/-! MatTurned -/
set_option maxHeartbeats 2000000 in
theorem turnedM_any (a b c d : Int) (w : World) (h : matB a b c d = true) :
    Calls Tryd.prog 78 #[.agg #[.int .i64 (a), .int .i64 (b), .int .i64 (c), .int .i64 (d)]] w fun e w' => e = .returned (.agg #[.int .i64 (detM a b c d * d), .int .i64 (-(detM a b c d * b)), .int .i64 (-(detM a b c d * c)), .int .i64 (detM a b c d * a)]) ∧ Below w.heap.size w w' := by
  obtain ⟨⟨ha, hb, hc, hd⟩, hk⟩ := mat_in h
  obtain ⟨_, _⟩ := one_bd hk
  obtain ⟨_, _⟩ := one_mul_bd hk ha
  obtain ⟨_, _⟩ := one_mul_bd hk hb
  obtain ⟨_, _⟩ := one_mul_bd hk hc
  obtain ⟨_, _⟩ := one_mul_bd hk hd
  have e1 : -detM a b c d * b = -(detM a b c d * b) := Int.neg_mul _ _
  have e2 : -detM a b c d * c = -(detM a b c d * c) := Int.neg_mul _ _
  clear h hk
  go_enter Tryd.func78, Tryd.ntmps78
  (go_wp2_with fail; go_call (matDet_any a b c d _ ha hb hc hd) as e w1 ⟨rfl, hb1⟩); obtain ⟨hc1, hf1⟩ := bcell hb1; have hz1 := bsize hb1
  go_wp2
  have hB := belowTo (a := w) (by go_grown) hb1; have hS := hB.size; (refine bodyPost_ret (by simp [results, Tryd.results78, go_sem, bcs hb1]; try rfl) rfl ?_); clear hb1
  exact ⟨rfl, by go_grown⟩
set_option maxHeartbeats 2000000 in
theorem matTurned_any (a b c d : Int) (w : World) (hg : EtOk w) :
    Calls Tryd.prog 22 #[.agg #[.int .i64 (a), .int .i64 (b), .int .i64 (c), .int .i64 (d)]] w fun e w' => e = .returned (.tuple #[.agg #[.int .i64 (gate (matB a b c d) (detM a b c d * d)), .int .i64 (gate (matB a b c d) (-(detM a b c d * b))), .int .i64 (gate (matB a b c d) (-(detM a b c d * c))), .int .i64 (gate (matB a b c d) (detM a b c d * a))], .bool (matB a b c d)]) ∧ Below w.heap.size w w' := by
  cases h : matB a b c d
  · go_enter Tryd.func22, Tryd.ntmps22
    (go_wp2_with fail; go_call (matCheck_out a b c d _ h) as e w1 ⟨rfl, hb1⟩); obtain ⟨hc1, hf1⟩ := bcell hb1; have hz1 := bsize hb1
    (go_wp2_with fail; go_call (none_hit _ _ (hg.below (belowTo (a := w) (by go_grown) hb1))) as e w2 ⟨rfl, hb2⟩); replace hb1 := belowTo hb1 hb2; clear hb2 hc1 hf1 hz1; obtain ⟨hc1, hf1⟩ := bcell hb1; have hz1 := bsize hb1
    go_wp2
    have hB := belowTo (a := w) (by go_grown) hb1; have hS := hB.size; (refine bodyPost_ret (by simp [results, Tryd.results22, go_sem, bcs hb1]; try rfl) rfl ?_); clear hb1
    exact ⟨rfl, by go_grown⟩
  · go_enter Tryd.func22, Tryd.ntmps22
    (go_wp2_with fail; go_call (matCheck_in a b c d _ h) as e w1 ⟨rfl, hb1⟩); obtain ⟨hc1, hf1⟩ := bcell hb1; have hz1 := bsize hb1
    (go_wp2_with fail; go_call (none_nil _) as e w2 ⟨rfl, hb2⟩); replace hb1 := belowTo hb1 hb2; clear hb2 hc1 hf1 hz1; obtain ⟨hc1, hf1⟩ := bcell hb1; have hz1 := bsize hb1
    (go_wp2_with fail; go_call (turnedM_any a b c d _ h) as e w2 ⟨rfl, hb2⟩); replace hb1 := belowTo hb1 hb2; clear hb2 hc1 hf1 hz1; obtain ⟨hc1, hf1⟩ := bcell hb1; have hz1 := bsize hb1
    go_wp2
    have hB := belowTo (a := w) (by go_grown) hb1; have hS := hB.size; (refine bodyPost_ret (by simp [results, Tryd.results22, go_sem, bcs hb1]; try rfl) rfl ?_); clear hb1
    exact ⟨rfl, by go_grown⟩
end Go.Proofs.YtcieihbknfeddaaDoor

namespace Go.Proofs.YtcieihbknfeddaaDoor
open Go.RowKit

set_option maxHeartbeats 4000000 in
theorem primitive_any (x y : Int) (w : World) (h1 : vecB x y = true) (hne : ¬ (x = 0 ∧ y = 0)) :
    Calls Tryd.prog 80 #[.agg #[.int .i64 (x), .int .i64 (y)]] w fun e w' => e = .returned (.tuple #[.agg #[.int .i64 (x.tdiv (gcdZ x y)), .int .i64 (y.tdiv (gcdZ x y))], .int .i64 (gcdZ x y)]) ∧ Below w.heap.size w w' := by
  obtain ⟨hx, hy⟩ := szs h1
  have hp := gcdZ_pos hne
  have hl := gcdZ_le (x := x) (y := y) (n := 1000) hx hy
  have ⟨_, _⟩ := tdiv_bd (m := gcdZ x y) hx
  have ⟨_, _⟩ := tdiv_bd (m := gcdZ x y) hy
  have gb : (gcdZ x y == 0) = false := by simp; omega
  clear h1 hne
  go_enter Tryd.func80, Tryd.ntmps80
  (go_wp2_with fail; go_call (commonDivisor_any x y _ hx hy) as e w1 ⟨rfl, hb1⟩); obtain ⟨hc1, hf1⟩ := bcell hb1; have hz1 := bsize hb1
  go_wp2
  go_region
  all_goals go_wp2
  all_goals (have hB := belowTo (a := w) (by go_grown) hb1; have hS := hB.size; (refine bodyPost_ret (by simp [results, Tryd.results80, go_sem, bcs hb1]; try rfl) rfl ?_); clear hb1)
  all_goals exact ⟨rfl, by go_grown⟩
set_option maxHeartbeats 4000000 in
theorem vecPrimitive_any (x y : Int) (w : World) (hg : EtOk w) :
    Calls Tryd.prog 23 #[.agg #[.int .i64 (x), .int .i64 (y)]] w fun e w' => e = .returned (.tuple #[.agg #[.int .i64 (gate (primOk x y) (x.tdiv (gcdZ x y))), .int .i64 (gate (primOk x y) (y.tdiv (gcdZ x y)))], .int .i64 (gate (primOk x y) (gcdZ x y)), .bool (primOk x y)]) ∧ Below w.heap.size w w' := by
  unfold primOk
  cases h1 : vecB x y
  · go_enter Tryd.func23, Tryd.ntmps23
    (go_wp2_with fail; go_call (check_out x y _ h1) as e w1 ⟨rfl, hb1⟩); obtain ⟨hc1, hf1⟩ := bcell hb1; have hz1 := bsize hb1
    (go_wp2_with fail; go_call (none_hit _ _ (hg.below (belowTo (a := w) (by go_grown) hb1))) as e w2 ⟨rfl, hb2⟩); replace hb1 := belowTo hb1 hb2; clear hb2 hc1 hf1 hz1; obtain ⟨hc1, hf1⟩ := bcell hb1; have hz1 := bsize hb1
    go_wp2
    have hB := belowTo (a := w) (by go_grown) hb1; have hS := hB.size; (refine bodyPost_ret (by simp [results, Tryd.results23, go_sem, bcs hb1]; try rfl) rfl ?_); clear hb1
    exact ⟨rfl, by go_grown⟩
  · by_cases x0 : x = 0
    · subst x0
      by_cases y0 : y = 0
      · subst y0
        go_enter Tryd.func23, Tryd.ntmps23
        (go_wp2_with fail; go_call (check_in 0 0 _ h1) as e w1 ⟨rfl, hb1⟩); obtain ⟨hc1, hf1⟩ := bcell hb1; have hz1 := bsize hb1
        (go_wp2_with fail; go_call (none_nil _) as e w2 ⟨rfl, hb2⟩); replace hb1 := belowTo hb1 hb2; clear hb2 hc1 hf1 hz1; obtain ⟨hc1, hf1⟩ := bcell hb1; have hz1 := bsize hb1
        go_wp2
        have hB := belowTo (a := w) (by go_grown) hb1; have hS := hB.size; (refine bodyPost_ret (by simp [results, Tryd.results23, go_sem, bcs hb1]; try rfl) rfl ?_); clear hb1
        exact ⟨rfl, by go_grown⟩
      · have yb : (y == 0) = false := by simpa using y0
        have HP := Lib.hid (fun w' => primitive_any 0 y w' h1 (by simp [y0]))
        go_enter Tryd.func23, Tryd.ntmps23
        (go_wp2_with fail; go_call (check_in 0 y _ h1) as e w1 ⟨rfl, hb1⟩); obtain ⟨hc1, hf1⟩ := bcell hb1; have hz1 := bsize hb1
        (go_wp2_with fail; go_call (none_nil _) as e w2 ⟨rfl, hb2⟩); replace hb1 := belowTo hb1 hb2; clear hb2 hc1 hf1 hz1; obtain ⟨hc1, hf1⟩ := bcell hb1; have hz1 := bsize hb1
        (go_wp2_with fail; go_call (HP.out _) as e w2 ⟨rfl, hb2⟩); replace hb1 := belowTo hb1 hb2; clear hb2 hc1 hf1 hz1; obtain ⟨hc1, hf1⟩ := bcell hb1; have hz1 := bsize hb1
        go_wp2
        have hB := belowTo (a := w) (by go_grown) hb1; have hS := hB.size; (refine bodyPost_ret (by simp [results, Tryd.results23, go_sem, bcs hb1]; try rfl) rfl ?_); clear hb1
        exact ⟨by rw [nz_ne2 y0]; simp [gate], by go_grown⟩
    · have xb : (x == 0) = false := by simpa using x0
      have HP := Lib.hid (fun w' => primitive_any x y w' h1 (by simp [x0]))
      go_enter Tryd.func23, Tryd.ntmps23
      (go_wp2_with fail; go_call (check_in x y _ h1) as e w1 ⟨rfl, hb1⟩); obtain ⟨hc1, hf1⟩ := bcell hb1; have hz1 := bsize hb1
      (go_wp2_with fail; go_call (none_nil _) as e w2 ⟨rfl, hb2⟩); replace hb1 := belowTo hb1 hb2; clear hb2 hc1 hf1 hz1; obtain ⟨hc1, hf1⟩ := bcell hb1; have hz1 := bsize hb1
      (go_wp2_with fail; go_call (HP.out _) as e w2 ⟨rfl, hb2⟩); replace hb1 := belowTo hb1 hb2; clear hb2 hc1 hf1 hz1; obtain ⟨hc1, hf1⟩ := bcell hb1; have hz1 := bsize hb1
      go_wp2
      have hB := belowTo (a := w) (by go_grown) hb1; have hS := hB.size; (refine bodyPost_ret (by simp [results, Tryd.results23, go_sem, bcs hb1]; try rfl) rfl ?_); clear hb1
      exact ⟨by rw [nz_ne x0]; simp [gate], by go_grown⟩

set_option maxHeartbeats 2000000 in
theorem l1Primitive_any (x y : Int) (w : World) (h1 : vecB x y = true) (h2 : nzB x y = true) :
    Calls Tryd.prog 142 #[.agg #[.int .i64 (x), .int .i64 (y)]] w fun e w' => e = .returned (.agg #[.int .i64 (x.tdiv (gcdZ x y)), .int .i64 (y.tdiv (gcdZ x y))]) ∧ Below w.heap.size w w' := by
  obtain ⟨hx, hy⟩ := szs h1
  have hne : ¬ (x = 0 ∧ y = 0) := by rintro ⟨rfl, rfl⟩; simp [nzB] at h2
  have hp := gcdZ_pos hne
  have hl := gcdZ_le (x := x) (y := y) (n := 1000) hx hy
  have ⟨_, _⟩ := tdiv_bd (m := gcdZ x y) hx
  have ⟨_, _⟩ := tdiv_bd (m := gcdZ x y) hy
  have gb : (gcdZ x y == 0) = false := by simp; omega
  clear h1 h2 hne
  go_enter Tryd.func142, Tryd.ntmps142
  (go_wp2_with fail; go_call (l1Gcd_any x y _ hx hy) as e w1 ⟨rfl, hb1⟩); obtain ⟨hc1, hf1⟩ := bcell hb1; have hz1 := bsize hb1
  go_wp2
  go_region
  all_goals go_wp2
  all_goals (have hB := belowTo (a := w) (by go_grown) hb1; have hS := hB.size; (refine bodyPost_ret (by simp [results, Tryd.results142, go_sem, bcs hb1]; try rfl) rfl ?_); clear hb1)
  all_goals exact ⟨rfl, by go_grown⟩

end Go.Proofs.YtcieihbknfeddaaDoor

/- The draws of the promises of chapter 1. -/
namespace Go.Proofs.YtcieihbknfeddaaDoor
open Go.RowKit

theorem giv {f : FuncId} {args : Array Value} {w : World} {v v' : Value} (h : Calls Tryd.prog f args w fun e w' => e = .returned v ∧ Below w.heap.size w w') (e : v = v') : Calls Tryd.prog f args w fun e w' => e = .returned v' ∧ Below w.heap.size w w' := by
  subst e
  exact h
def OneVec (w : World) (e : Ending) (w' : World) : Prop := ∃ x y : Int, e = .returned (.agg #[.int .i64 (x), .int .i64 (y)]) ∧ Below w.heap.size w w'
theorem times_neg {x y : Int} (k : vecB x y = true) : timesOk x y (-1) = true := by
  obtain ⟨⟨_, _⟩, ⟨_, _⟩⟩ := szs k
  have e1 : szB (x * -1) = true := szB_mk (by omega) (by omega)
  have e2 : szB (y * -1) = true := szB_mk (by omega) (by omega)
  unfold timesOk
  rw [k]
  unfold vecB
  rw [e1, e2]
  rfl
theorem vec_mk {x y : Int} (h1 : -1000 ≤ x ∧ x ≤ 1000) (h2 : -1000 ≤ y ∧ y ≤ 1000) : vecB x y = true := by
  unfold vecB
  rw [szB_mk h1.1 h1.2, szB_mk h2.1 h2.2]
  rfl
theorem two_in {x1 y1 x2 y2 : Int} (h : twoOk x1 y1 x2 y2 = true) : vecB x1 y1 = true ∧ vecB x2 y2 = true := by simpa [twoOk] using h
theorem two_mk {x1 y1 x2 y2 : Int} (h1 : vecB x1 y1 = true) (h2 : vecB x2 y2 = true) : twoOk x1 y1 x2 y2 = true := by
  unfold twoOk
  rw [h1, h2]
  rfl
theorem add_in {x1 y1 x2 y2 : Int} (h : addOk x1 y1 x2 y2 = true) : vecB x1 y1 = true ∧ vecB x2 y2 = true ∧ vecB (x1 + x2) (y1 + y2) = true := by
  unfold addOk at h
  simp only [Bool.and_eq_true] at h
  exact ⟨h.1.1, h.1.2, h.2⟩
theorem add_mk {x1 y1 x2 y2 : Int} (h1 : vecB x1 y1 = true) (h2 : vecB x2 y2 = true) (h3 : vecB (x1 + x2) (y1 + y2) = true) : addOk x1 y1 x2 y2 = true := by
  unfold addOk
  rw [h1, h2, h3]
  rfl
theorem turn_in {x y : Int} (h : vecB x y = true) : vecB (-y) x = true := by
  obtain ⟨⟨_, _⟩, ⟨_, _⟩⟩ := szs h
  exact vec_mk ⟨by omega, by omega⟩ ⟨by omega, by omega⟩
theorem det_bd2 {x1 y1 x2 y2 : Int} (h1 : vecB x1 y1 = true) (h2 : vecB x2 y2 = true) : -2000000 ≤ detZ x1 y1 x2 y2 ∧ detZ x1 y1 x2 y2 ≤ 2000000 := by
  obtain ⟨a1, a2⟩ := szs h1
  obtain ⟨a3, a4⟩ := szs h2
  have m1 := mul_bd a1 a4
  have m2 := mul_bd a2 a3
  unfold detZ
  omega
theorem dot_bd2 {x1 y1 x2 y2 : Int} (h1 : vecB x1 y1 = true) (h2 : vecB x2 y2 = true) : -2000000 ≤ dotZ x1 y1 x2 y2 ∧ dotZ x1 y1 x2 y2 ≤ 2000000 := by
  obtain ⟨a1, a2⟩ := szs h1
  obtain ⟨a3, a4⟩ := szs h2
  have m1 := mul_bd a1 a3
  have m2 := mul_bd a2 a4
  unfold dotZ
  omega
end Go.Proofs.YtcieihbknfeddaaDoor

/- The promises of chapter 2: the mathematics. -/
namespace Go.Proofs.YtcieihbknfeddaaDoor
open Go.RowKit

theorem gcdZ_comm (a b : Int) : gcdZ a b = gcdZ b a := by
  unfold gcdZ
  rw [Nat.gcd_comm]
theorem gcdZ_neg (a b : Int) : gcdZ a (-b) = gcdZ a b := by
  unfold gcdZ
  rw [Int.natAbs_neg]
theorem dual_det (a b c d : Int) : detZ d (-c) (-b) a = detZ a b c d := by
  unfold detZ
  grind
theorem dual_in {a b c d : Int} (h : coneB a b c d = true) : coneB d (-c) (-b) a = true := by
  obtain ⟨v1, o1, v2, o2, hp⟩ := cone_in h
  obtain ⟨⟨_, _⟩, ⟨_, _⟩⟩ := szs v1
  obtain ⟨⟨_, _⟩, ⟨_, _⟩⟩ := szs v2
  have e1 : vecB d (-c) = true := vec_mk ⟨by omega, by omega⟩ ⟨by omega, by omega⟩
  have e2 : vecB (-b) a = true := vec_mk ⟨by omega, by omega⟩ ⟨by omega, by omega⟩
  have g1 : oneB d (-c) = true := by
    unfold oneB
    rw [gcdZ_neg, gcdZ_comm]
    exact o2
  have g2 : oneB (-b) a = true := by
    unfold oneB
    rw [gcdZ_comm, gcdZ_neg]
    exact o1
  have p : posB d (-c) (-b) a = true := by
    unfold posB
    rw [dual_det]
    exact hp
  unfold coneB primB
  rw [e1, e2, g1, g2, p]
  rfl
theorem swap_det (a b c d : Int) : detZ d c b a = detZ a b c d := by
  unfold detZ
  grind
theorem swap_in {a b c d : Int} (h : coneB a b c d = true) : coneB d c b a = true := by
  obtain ⟨v1, o1, v2, o2, hp⟩ := cone_in h
  obtain ⟨s1, s2⟩ := szs v1
  obtain ⟨s3, s4⟩ := szs v2
  have g1 : oneB d c = true := by
    unfold oneB
    rw [gcdZ_comm]
    exact o2
  have g2 : oneB b a = true := by
    unfold oneB
    rw [gcdZ_comm]
    exact o1
  have p : posB d c b a = true := by
    unfold posB
    rw [swap_det]
    exact hp
  unfold coneB primB
  rw [vec_mk s4 s3, vec_mk s2 s1, g1, g2, p]
  rfl
theorem swap_move (a b c d : Int) : cmA a b c d 0 1 1 0 = d ∧ cmB a b c d 0 1 1 0 = c ∧ cmC a b c d 0 1 1 0 = b ∧ cmD a b c d 0 1 1 0 = a := by
  have e : negM 0 1 1 0 = true := rfl
  unfold cmA cmB cmC cmD
  rw [e]
  unfold pick2 moveX
  simp
theorem swap_ok {a b c d : Int} (h : coneB a b c d = true) : cmvOk a b c d 0 1 1 0 = true := by
  obtain ⟨e1, e2, e3, e4⟩ := swap_move a b c d
  unfold cmvOk cmOk
  rw [e1, e2, e3, e4, h, swap_in h]
  rfl
theorem dvd_one {n m a b : Int} (h : gcdZ a b = 1) (h1 : n ∣ m * a) (h2 : n ∣ m * b) : n ∣ m := by
  have h3 : ((n.natAbs : Nat)) ∣ Nat.gcd (m * a).natAbs (m * b).natAbs := Nat.dvd_gcd (Int.natAbs_dvd_natAbs.2 h1) (Int.natAbs_dvd_natAbs.2 h2)
  rw [Int.natAbs_mul, Int.natAbs_mul, Nat.gcd_mul_left] at h3
  have h4 : Nat.gcd a.natAbs b.natAbs = 1 := by
    unfold gcdZ at h
    omega
  rw [h4, Nat.mul_one] at h3
  exact Int.natAbs_dvd_natAbs.1 h3
/-- the kinds from both sides are inverse -/
theorem kind_inv {a b c d : Int} (h : coneB a b c d = true) : detZ a b c d ∣ 1 - kindC a b c d * kindC d c b a := by
  obtain ⟨e1, e2⟩ := base_at h
  obtain ⟨e3, e4⟩ := base_at (swap_in h)
  rw [swap_det] at e3 e4
  obtain ⟨_, o1, _, _, _⟩ := cone_in h
  generalize kindC a b c d = q at *
  generalize kindC d c b a = k at *
  generalize baseX a b c d = x1 at *
  generalize baseY a b c d = y1 at *
  generalize baseX d c b a = x2 at *
  generalize baseY d c b a = y2 at *
  generalize detZ a b c d = n at *
  refine dvd_one (oneB_true o1) ⟨y2 - k * x1, ?_⟩ ⟨x2 - k * y1, ?_⟩
  · grind
  · grind
theorem kind_one {a b c d : Int} (h : coneB a b c d = true) (h1 : 1 < detZ a b c d) : (kindC a b c d * kindC d c b a).tmod (detZ a b c d) = 1 := by
  obtain ⟨m, hm⟩ := kind_inv h
  have r1 := kindC_rng h
  have r2 := kindC_rng (swap_in h)
  have h0 : 0 ≤ kindC a b c d * kindC d c b a := Int.mul_nonneg r1.1 r2.1
  rw [Int.tmod_eq_emod_of_nonneg h0]
  have e : kindC a b c d * kindC d c b a = 1 + detZ a b c d * (-m) := by
    rw [Int.mul_neg]
    omega
  rw [e, Int.add_mul_emod_self_left]
  exact Int.emod_eq_of_lt (by omega) h1
theorem has_of {a b c d x y : Int} (h : coneB a b c d = true) (hv : vecB x y = true) (h1 : 0 ≤ detZ x y c d) (h2 : 0 ≤ detZ a b x y) : hasOk a b c d x y = true := by
  unfold hasOk cvOk inB
  rw [h, hv]
  simp [h1, h2]
theorem hasOk_in {a b c d x y : Int} (k : hasOk a b c d x y = true) : coneB a b c d = true ∧ vecB x y = true ∧ 0 ≤ detZ x y c d ∧ 0 ≤ detZ a b x y := by
  unfold hasOk cvOk inB at k
  simp only [Bool.and_eq_true, decide_eq_true_eq] at k
  exact ⟨k.1.1, k.1.2, k.2.1, k.2.2⟩
theorem det_nn (x y : Int) : detZ x y x y = 0 := by
  unfold detZ
  grind
theorem has_u {a b c d : Int} (h : coneB a b c d = true) : hasOk a b c d a b = true := by
  obtain ⟨v1, o1, v2, o2, hp⟩ := cone_in h
  have := posB_true hp
  exact has_of h v1 (by omega) (by rw [det_nn]; omega)
theorem has_v {a b c d : Int} (h : coneB a b c d = true) : hasOk a b c d c d = true := by
  obtain ⟨v1, o1, v2, o2, hp⟩ := cone_in h
  have := posB_true hp
  exact has_of h v2 (by rw [det_nn]; omega) (by omega)
theorem has_s {a b c d : Int} (h : coneB a b c d = true) (hv : vecB (a + c) (b + d) = true) : hasOk a b c d (a + c) (b + d) = true := by
  obtain ⟨v1, o1, v2, o2, hp⟩ := cone_in h
  have := posB_true hp
  refine has_of h hv ?_ ?_
  · rw [show detZ (a + c) (b + d) c d = detZ a b c d by unfold detZ; grind]
    omega
  · rw [show detZ a b (a + c) (b + d) = detZ a b c d by unfold detZ; grind]
    omega
theorem parts_eq (a b c d x y : Int) : detZ x y c d * a + detZ a b x y * c = detZ a b c d * x ∧ detZ x y c d * b + detZ a b x y * d = detZ a b c d * y := by
  unfold detZ
  constructor <;> grind
theorem mul_bd3 {a b : Int} (ha : -2000000 ≤ a ∧ a ≤ 2000000) (hb : -1000 ≤ b ∧ b ≤ 1000) : -2000000000 ≤ a * b ∧ a * b ≤ 2000000000 := by
  have h1 : (a * b).natAbs ≤ 2000000 * 1000 := by
    rw [Int.natAbs_mul]
    exact Nat.mul_le_mul (by omega) (by omega)
  omega
end Go.Proofs.YtcieihbknfeddaaDoor

/- Whole bases: what the promise says of them: the mathematics; lists of vectors compared. -/
namespace Go.Proofs.YtcieihbknfeddaaDoor
open Go.RowKit

def at2 (L : List (Int × Int)) (j : Nat) : Int × Int := (L[j]?).getD (0, 0)
theorem at2_succ (p : Int × Int) (L : List (Int × Int)) (j : Nat) : at2 (p :: L) (j + 1) = at2 L j := by simp [at2]
theorem at2_zero (p : Int × Int) (L : List (Int × Int)) : at2 (p :: L) 0 = p := by simp [at2]
theorem baseZ_head (l : List Int) (lx ly nx ny : Int) : at2 (baseZ l lx ly nx ny) 0 = (nx, ny) := by cases l <;> rfl
def hasV (a b c d : Int) (p : Int × Int) : Prop := hasOk a b c d p.1 p.2 = true
theorem base_chain {a b c d : Int} (h : coneB a b c d = true) : ∀ (l : List Int) (done : List (Int × Int)) (lx ly nx ny : Int), BaseAt a b c d l done lx ly nx ny →
    detZ lx ly nx ny = 1 → 0 ≤ detZ lx ly c d → 0 ≤ detZ a b lx ly → detZ a b lx ly ≤ detZ a b nx ny → ∀ i,
    (i < l.length + 1 → detZ (at2 ((lx, ly) :: baseZ l lx ly nx ny) i).1 (at2 ((lx, ly) :: baseZ l lx ly nx ny) i).2 (at2 ((lx, ly) :: baseZ l lx ly nx ny) (i + 1)).1 (at2 ((lx, ly) :: baseZ l lx ly nx ny) (i + 1)).2 = 1) ∧
    (i < l.length + 2 → hasV a b c d (at2 ((lx, ly) :: baseZ l lx ly nx ny) i)) ∧
    (i < l.length → (at2 ((lx, ly) :: baseZ l lx ly nx ny) i).1 + (at2 ((lx, ly) :: baseZ l lx ly nx ny) (i + 2)).1 = l[i]?.getD 0 * (at2 ((lx, ly) :: baseZ l lx ly nx ny) (i + 1)).1 ∧
      (at2 ((lx, ly) :: baseZ l lx ly nx ny) i).2 + (at2 ((lx, ly) :: baseZ l lx ly nx ny) (i + 2)).2 = l[i]?.getD 0 * (at2 ((lx, ly) :: baseZ l lx ly nx ny) (i + 1)).2) := by
  intro l
  induction l with
  | nil =>
    intro done lx ly nx ny hb h1 h2 h3 h4 i
    obtain ⟨_, rfl, rfl⟩ := baseAt_end hb
    obtain ⟨n, q, _, _, _, _, _, _, _, b1, b2, _, _⟩ := hb
    have hv : hasOk a b nx ny lx ly = true := has_of h (vec_mk b1 b2) h2 h3
    refine ⟨fun hi => ?_, fun hi => ?_, fun hi => absurd hi (by simp)⟩
    · obtain rfl : i = 0 := by simpa using hi
      exact h1
    · match i, hi with
      | 0, _ => exact hv
      | 1, _ => exact has_v h
      | i + 2, hi =>
        simp only [List.length_nil] at hi
        omega
  | cons z t ih =>
    intro done lx ly nx ny hb h1 h2 h3 h4 i
    have hb' := (baseAt_next h hb).1
    obtain ⟨n, q, hl, _, ⟨a1, a2⟩, q0, qn, _, _, b1, b2, b3, b4⟩ := hb
    have hz : 2 ≤ z := frac_two n q qn z (by rw [← hl]; simp)
    have hv : hasOk a b c d lx ly = true := has_of h (vec_mk b1 b2) h2 h3
    have e1 : detZ nx ny (nx * z - lx) (ny * z - ly) = 1 := by
      rw [← h1]
      unfold detZ
      grind
    have e2 : 0 ≤ detZ nx ny c d := by
      have e : n * detZ nx ny c d = q * detZ lx ly c d := by
        have : n * detZ nx ny c d = (n * nx) * d - (n * ny) * c := by unfold detZ; grind
        rw [this, a1, a2]
        unfold detZ
        grind
      have hp : 0 ≤ n * detZ nx ny c d := by rw [e]; exact Int.mul_nonneg q0 h2
      by_cases hd : 0 ≤ detZ nx ny c d
      · exact hd
      · have := Int.mul_neg_of_pos_of_neg (show 0 < n by omega) (show detZ nx ny c d < 0 by omega)
        omega
    have e3 : 0 ≤ detZ a b nx ny := by omega
    have e4 : detZ a b nx ny ≤ detZ a b (nx * z - lx) (ny * z - ly) := by
      have e : detZ a b (nx * z - lx) (ny * z - ly) = z * detZ a b nx ny - detZ a b lx ly := by unfold detZ; grind
      have := Int.mul_le_mul_of_nonneg_right hz e3
      omega
    have hI := ih _ _ _ _ _ hb' e1 e2 e3 e4
    have es : baseZ (z :: t) lx ly nx ny = (nx, ny) :: baseZ t nx ny (nx * z - lx) (ny * z - ly) := rfl
    rw [es]
    cases i with
    | zero =>
      refine ⟨fun _ => ?_, fun _ => ?_, fun _ => ?_⟩
      · rw [at2_zero, at2_succ, at2_zero]
        exact h1
      · rw [at2_zero]
        exact hv
      · rw [at2_zero, at2_succ, at2_succ, baseZ_head, at2_succ, at2_zero]
        simp only [List.getElem?_cons_zero, Option.getD_some]
        constructor <;> grind
    | succ i =>
      obtain ⟨i1, i2, i3⟩ := hI i
      have key : ∀ j, at2 ((lx, ly) :: (nx, ny) :: baseZ t nx ny (nx * z - lx) (ny * z - ly)) (j + 1) = at2 ((nx, ny) :: baseZ t nx ny (nx * z - lx) (ny * z - ly)) j := fun j => at2_succ _ _ _
      rw [show i + 1 + 2 = (i + 2) + 1 from rfl, key i, key (i + 1), key (i + 2)]
      refine ⟨fun hi => i1 (by simpa using hi), fun hi => i2 (by simp at hi; omega), fun hi => ?_⟩
      have := i3 (by simpa using hi)
      simpa using this
theorem base_all {a b c d : Int} (h : coneB a b c d = true) (i : Nat) :
    (i < (fracC a b c d).length + 1 → detZ (at2 (baseL a b c d) i).1 (at2 (baseL a b c d) i).2 (at2 (baseL a b c d) (i + 1)).1 (at2 (baseL a b c d) (i + 1)).2 = 1) ∧
    (i < (fracC a b c d).length + 2 → hasV a b c d (at2 (baseL a b c d) i)) ∧
    (i < (fracC a b c d).length → (at2 (baseL a b c d) i).1 + (at2 (baseL a b c d) (i + 2)).1 = (fracC a b c d)[i]?.getD 0 * (at2 (baseL a b c d) (i + 1)).1 ∧
      (at2 (baseL a b c d) i).2 + (at2 (baseL a b c d) (i + 2)).2 = (fracC a b c d)[i]?.getD 0 * (at2 (baseL a b c d) (i + 1)).2) := by
  obtain ⟨_, _, _, _, hp⟩ := cone_in h
  have hn := posB_true hp
  obtain ⟨e1, e2⟩ := base_at h
  have e3 : detZ a b (baseX a b c d) (baseY a b c d) = 1 := by
    refine Int.eq_of_mul_eq_mul_left (show detZ a b c d ≠ 0 by omega) ?_
    have : detZ a b c d * detZ a b (baseX a b c d) (baseY a b c d) = a * (detZ a b c d * baseY a b c d) - b * (detZ a b c d * baseX a b c d) := by
      generalize detZ a b c d = n
      unfold detZ
      grind
    rw [this, e1, e2]
    unfold detZ
    grind
  exact base_chain h _ _ _ _ _ _ (baseAt_start h) e3 (by omega) (by rw [det_nn]; omega) (by rw [det_nn, e3]; omega) i
theorem base_last {a b c d : Int} (h : coneB a b c d = true) : at2 (baseL a b c d) ((fracC a b c d).length + 1) = (c, d) := by
  have key : ∀ (l : List Int) (done : List (Int × Int)) (lx ly nx ny : Int), BaseAt a b c d l done lx ly nx ny → at2 ((lx, ly) :: baseZ l lx ly nx ny) (l.length + 1) = (c, d) := by
    intro l
    induction l with
    | nil =>
      intro done lx ly nx ny hb
      obtain ⟨_, rfl, rfl⟩ := baseAt_end hb
      rfl
    | cons z t ih =>
      intro done lx ly nx ny hb
      have := ih _ _ _ _ _ (baseAt_next h hb).1
      rw [at2_succ]
      exact this
  exact key _ _ _ _ _ _ (baseAt_start h)
theorem base_count (a b c d : Int) : (baseL a b c d).length = (fracC a b c d).length + 2 := by
  unfold baseL
  rw [List.length_cons, baseZ_len]
theorem flat_at (l : List (Int × Int)) (j : Nat) (h : j < l.length) : (flat l)[j * 2]?.getD 0 = (at2 l j).1 ∧ (flat l)[j * 2 + 1]?.getD 0 = (at2 l j).2 := by
  induction l generalizing j with
  | nil => simp at h
  | cons p l ih =>
    cases j with
    | zero => simp [flat, at2]
    | succ j =>
      have := ih j (by simpa using h)
      rw [at2_succ]
      simpa [flat, Nat.add_mul, Nat.succ_mul] using this
theorem Vecs.form2 {w : World} {base : Nat} {v : Value} {L : List (Int × Int)} (h : Vecs w base v L) (h0 : 0 < L.length) : ∃ go c, v = .slice (some ⟨go, 0, none⟩) L.length c ∧ base ≤ go ∧ go < w.heap.size ∧ L.length ≤ c := by
  rcases VRow.form h with ⟨h1, _⟩ | ⟨_, g, c, h1, h2, h3, h4⟩
  · omega
  · exact ⟨g, c, h1, h2, h3, h4⟩
theorem Vecs.cells2 {w : World} {base g c : Nat} {l : List (Int × Int)} (h : Vecs w base (.slice (some ⟨g, 0, none⟩) l.length c) l) : ∀ j, j < l.length → w.cell? ⟨g, j * 2, none⟩ = some (.int .i64 (at2 l j).1) ∧ w.cell? ⟨g, j * 2 + 1, none⟩ = some (.int .i64 (at2 l j).2) := by
  intro j hj
  obtain ⟨e1, e2⟩ := flat_at l j hj
  rw [← e1, ← e2]
  exact ⟨VRow.cell h (j * 2) (by omega), VRow.cell h (j * 2 + 1) (by omega)⟩
theorem run_neSame (x y : Int) (w : World) : (binOp .neq 26 (.agg #[.int .i64 (x), .int .i64 (y)]) (.agg #[.int .i64 (x), .int .i64 (y)])).run Tryd.prog w = .ok (.bool false) w := by
  have hS : Tryd.prog.underlying 26 = some (.struct (Tryd.prog.fieldsOf 26)) := by kernel_rfl
  have hp : Tryd.prog.stoodInHeld 26 = false := by kernel_rfl
  have u3 := Tryd.underlying3
  have a3 := Tryd.isAgg3
  have z3 := Tryd.sizeOf3
  rw [run_neq_struct, show (10000 : Nat) = 9999 + 1 from rfl, run_equalIn_agg w 9999 26 _ _ hS hp]
  simp only [Program.fieldsOf, Tryd.underlying26]
  go_simp
set_option maxHeartbeats 4000000 in
theorem sameVecs_nil (a b : Option Addr) (c d : Nat) (w : World) :
    Calls Tryd.prog 65 #[.slice a 0 c, .slice b 0 d] w fun e w' => e = .returned (.bool true) ∧ Below w.heap.size w w' := by
  go_enter Tryd.func65, Tryd.ntmps65
  go_wp2
  refine wp_loop_rounds 1 ?_
  rw [rounds_succ]
  go_wp2
  go_returns
  exact ⟨rfl, Below.refl _ _⟩
set_option maxHeartbeats 4000000 in
theorem sameVecs_row (g g2 c d b1 b2 : Nat) (l : List (Int × Int)) (w : World) (h1 : Vecs w b1 (.slice (some ⟨g, 0, none⟩) l.length c) l) (h2 : Vecs w b2 (.slice (some ⟨g2, 0, none⟩) l.length d) l)
    (hg : g < w.heap.size) (hg2 : g2 < w.heap.size) :
    Calls Tryd.prog 65 #[.slice (some ⟨g, 0, none⟩) l.length c, .slice (some ⟨g2, 0, none⟩) l.length d] w fun e w' => e = .returned (.bool true) ∧ Below w.heap.size w w' := by
  obtain ⟨n, hn⟩ : ∃ n, n = l.length := ⟨_, rfl⟩
  have hm : n ≤ 9223372036854775807 := by have := VRow.len_le h1; unfold maxLen at this; omega
  have HC : Hid (∀ j, j < n → (w.cell? ⟨g, j * 2, none⟩ = some (.int .i64 (at2 l j).1) ∧ w.cell? ⟨g, j * 2 + 1, none⟩ = some (.int .i64 (at2 l j).2)) ∧ (w.cell? ⟨g2, j * 2, none⟩ = some (.int .i64 (at2 l j).1) ∧ w.cell? ⟨g2, j * 2 + 1, none⟩ = some (.int .i64 (at2 l j).2))) := by
    intro j hj
    exact ⟨h1.cells2 j (by omega), h2.cells2 j (by omega)⟩
  rw [← hn]
  clear h1 h2 hn
  go_enter Tryd.func65, Tryd.ntmps65
  go_wp2
  go_loopw [5] (fun i wr => ∃ k : Nat, k ≤ n ∧ i = .int .i64 k ∧ Below w.heap.size w wr) (fun i _ => n - (intOf i).toNat)
  case atStart => exact ⟨0, Nat.zero_le _, rfl, Below.refl _ _⟩
  case round =>
    obtain ⟨k, hk, rfl, hB⟩ := hrel
    by_cases hlt : k < n
    · obtain ⟨⟨q1, q2⟩, q3, q4⟩ := HC.out k hlt
      have c1 := (hB.cell (p := ⟨g, k * 2, none⟩) hg).trans q1
      have c2 := (hB.cell (p := ⟨g, k * 2 + 1, none⟩) hg).trans q2
      have c3 := (hB.cell (p := ⟨g2, k * 2, none⟩) hg2).trans q3
      have c4 := (hB.cell (p := ⟨g2, k * 2 + 1, none⟩) hg2).trans q4
      generalize at2 l k = z at c1 c2 c3 c4
      obtain ⟨x, y⟩ := z
      dsimp only at c1 c2 c3 c4
      have qe := fun w' => run_neSame x y w'
      clear q1 q2 q3 q4 HC
      have i1 : (0 : Int) ≤ (k : Int) := by omega
      have i2 : (k : Int) < (n : Int) := by omega
      go_wp2_with fail
      go_quiet (fail)
      go_wp2
      go_roundw
      case rel => exact ⟨k + 1, by omega, by go_num, below_drewN hB _⟩
      case measure => simp [intOf]; omega
    · go_wp2
      go_returns
      exact ⟨rfl, hB⟩
theorem sameVecs_same (v1 v2 : Value) (b1 b2 : Nat) (l : List (Int × Int)) (w : World) (h1 : Vecs w b1 v1 l) (h2 : Vecs w b2 v2 l) :
    Calls Tryd.prog 65 #[v1, v2] w fun e w' => e = .returned (.bool true) ∧ Below w.heap.size w w' := by
  rcases VRow.form h1 with ⟨h0, _, a, c, rfl⟩ | ⟨h0, g, c, rfl, _, hg, _⟩
  · rcases VRow.form h2 with ⟨_, _, a2, d, rfl⟩ | ⟨h3, _⟩
    · exact sameVecs_nil a a2 c d w
    · omega
  · rcases VRow.form h2 with ⟨h3, _⟩ | ⟨_, g2, d, rfl, _, hg2, _⟩
    · omega
    · exact sameVecs_row g g2 c d b1 b2 l w h1 h2 hg hg2
end Go.Proofs.YtcieihbknfeddaaDoor

/- The draws of chapter 2: primitive vectors, cones. -/
namespace Go.Proofs.YtcieihbknfeddaaDoor
open Go.RowKit

theorem Kept.mono {n0 n1 B : Nat} {w w' : World} (h : Kept n1 B w w') (hn : n0 ≤ n1) : Kept n0 B w w' :=
  ⟨fun b o h1 h2 => h.1 b o (Nat.lt_of_lt_of_le h1 hn) h2, h.2⟩
def DrewPrim (w : World) (B : Nat) (a : Option Addr) (len cap : Nat) (p : Int) (e : Ending) (w' : World) : Prop :=
  ∃ x y p' : Int, e = .returned (.agg #[.int .i64 (x), .int .i64 (y)]) ∧ (-6 ≤ x ∧ x ≤ 6) ∧ (-6 ≤ y ∧ y ≤ 6) ∧ p ≤ p' ∧ p' ≤ p + 10 ∧ Reads w' B a len cap p' ∧ Below B w w' ∧ Kept w.heap.size B w w'
theorem six_vec {x y : Int} (h1 : -6 ≤ x ∧ x ≤ 6) (h2 : -6 ≤ y ∧ y ≤ 6) : vecB x y = true := by
  unfold vecB
  rw [szB_mk (by omega) (by omega), szB_mk (by omega) (by omega)]
  rfl
set_option maxHeartbeats 4000000 in
theorem l91Primitive_any (w : World) (B : Nat) (a : Option Addr) (len cap : Nat) (p : Int) (h : Reads w B a len cap p) (hp : p ≤ 90000) :
    Calls Tryd.prog 115 #[.pointer (some ⟨B, 0, none⟩)] w (DrewPrim w B a len cap p) := by
  have hB : B < w.heap.size := h.2.2.2.2.1
  have b0 : w.heap.size ≠ B := by omega
  have b3 : ¬ w.heap.size + 1 = w.heap.size := by omega
  go_enter Tryd.func115, Tryd.ntmps115
  go_wp2_with fail
  refine Calls.mono (pick_any _ B a len cap p 13 (h.below (by go_grown)) (by omega) (by omega)) ?_
  rintro e w1 ⟨x, rfl, x0, x1, r1, k1, f1, s1, q1⟩
  have K1 : Kept w.heap.size B w w1 := (Kept.of_below (by go_grown)).trans (Kept.of_pick k1 f1 s1)
  have Q1 : Below B w w1 := Below.trans ((Below.refl B w).alloc (Nat.le_of_lt hB) _) q1
  rw [World.size_alloc] at s1
  go_wp2_with fail
  refine Calls.mono (pick_any _ B a len cap (p + 1) 13 r1 (by omega) (by omega)) ?_
  rintro e w2 ⟨y, rfl, y0, y1, r2, k2, f2, s2, q2⟩
  have K2 := K1.trans (Kept.of_pick k2 f2 s2)
  have Q2 := Q1.trans q2
  rw [s1] at s2
  clear K1 Q1 q1 q2 s1
  have g0 : w2.cell? ⟨w.heap.size, 0, none⟩ = some (.int .i64 0) := by rw [k2 _ _ b0, k1 _ _ b0]; simp
  have g1 : w2.cell? ⟨w.heap.size, 1, none⟩ = some (.int .i64 0) := by rw [k2 _ _ b0, k1 _ _ b0]; simp
  have g2 : w2.frozen? ⟨w.heap.size, 0, none⟩ = false := by rw [f2 _ _ b0, f1 _ _ b0]; simp
  have g3 : w2.frozen? ⟨w.heap.size, 1, none⟩ = false := by rw [f2 _ _ b0, f1 _ _ b0]; simp
  clear k1 f1 k2 f2 r1
  have v1 : -6 ≤ x - 6 ∧ x - 6 ≤ 6 := by omega
  have v2 : -6 ≤ y - 6 ∧ y - 6 ≤ 6 := by omega
  by_cases hz : x - 6 = 0 ∧ y - 6 = 0
  · obtain rfl : x = 6 := by omega
    obtain rfl : y = 6 := by omega
    clear hz x0 x1 y0 y1 v1 v2
    have hsz : w.heap.size < w2.heap.size := by omega
    go_wp2
    refine bodyPost_ret (by simp [results, Tryd.results115, go_sem, g0, g1, hsz]; try rfl) rfl ?_
    exact ⟨_, _, _, rfl, ⟨by omega, by omega⟩, ⟨by omega, by omega⟩, by omega, by omega, r2.below (by have := s2; go_grown), by go_grown, K2.trans (Kept.of_below (by have := s2; go_grown))⟩
  · have hn : nzB (x - 6) (y - 6) = true := by
      unfold nzB
      cases h1 : (x - 6 == 0) <;> cases h2 : (y - 6 == 0) <;> simp at h1 h2 ⊢
      exact hz ⟨h1, h2⟩
    have HP := Lib.hid (fun w' => l1Primitive_any (x - 6) (y - 6) w' (six_vec v1 v2) hn)
    have t1 := tdiv_bd (m := gcdZ (x - 6) (y - 6)) v1
    have t2 := tdiv_bd (m := gcdZ (x - 6) (y - 6)) v2
    have qe : ∀ w', (binOp .eql 26 (.agg #[.int .i64 (x - 6), .int .i64 (y - 6)]) (.agg #[.int .i64 (0), .int .i64 (0)])).run Tryd.prog w' = .ok (.bool false) w' := fun w' => by
      have hS : Tryd.prog.underlying 26 = some (.struct (Tryd.prog.fieldsOf 26)) := by kernel_rfl
      have hp : Tryd.prog.stoodInHeld 26 = false := by kernel_rfl
      have u3 := Tryd.underlying3
      have a3 := Tryd.isAgg3
      have z3 := Tryd.sizeOf3
      rw [run_eql_struct, show (10000 : Nat) = 9999 + 1 from rfl, run_equalIn_agg w' 9999 26 _ _ hS hp]
      simp only [Program.fieldsOf, Tryd.underlying26]
      go_simp
      by_cases h1 : x - 6 = 0 <;> by_cases h2 : y - 6 = 0 <;> simp [h1, h2]
      exact hz ⟨h1, h2⟩
    generalize (x - 6).tdiv (gcdZ (x - 6) (y - 6)) = u at *
    generalize (y - 6).tdiv (gcdZ (x - 6) (y - 6)) = v at *
    clear hn v1 v2
    go_wp2_with fail
    refine Calls.mono (HP.out _) ?_
    rintro e w3 ⟨rfl, hb3⟩
    have c0 : w3.cell? ⟨w.heap.size, 0, none⟩ = some (.int .i64 0) := (hb3.cell (p := ⟨w.heap.size, 0, none⟩) (by simp; omega)).trans (by rw [World.cell?_alloc_lt _ _ ⟨w.heap.size, 0, none⟩ (by show w.heap.size < w2.heap.size; omega)]; exact g0)
    have c1 : w3.cell? ⟨w.heap.size, 1, none⟩ = some (.int .i64 0) := (hb3.cell (p := ⟨w.heap.size, 1, none⟩) (by simp; omega)).trans (by rw [World.cell?_alloc_lt _ _ ⟨w.heap.size, 1, none⟩ (by show w.heap.size < w2.heap.size; omega)]; exact g1)
    have c2 : w3.frozen? ⟨w.heap.size, 0, none⟩ = false := (hb3.frozen (p := ⟨w.heap.size, 0, none⟩) (by simp; omega)).trans (by rw [World.frozen?_alloc_old _ _ ⟨w.heap.size, 0, none⟩ (by show w.heap.size ≠ w2.heap.size; omega)]; exact g2)
    have c3 : w3.frozen? ⟨w.heap.size, 1, none⟩ = false := (hb3.frozen (p := ⟨w.heap.size, 1, none⟩) (by simp; omega)).trans (by rw [World.frozen?_alloc_old _ _ ⟨w.heap.size, 1, none⟩ (by show w.heap.size ≠ w2.heap.size; omega)]; exact g3)
    have hA : Below w2.heap.size w2 w3 := belowTo (by go_grown) hb3
    have r3 := r2.below (hA.mono (by omega))
    have Q3 : Below B w w3 := Q2.trans (hA.mono (by omega))
    have K3 := K2.trans (Kept.of_below (hA.mono (by omega)))
    have s3 := hA.size
    clear hb3 hA r2 Q2 K2 g0 g1 g2 g3
    go_wp2
    refine bodyPost_ret (by simp [results, Tryd.results115, go_sem, c0, c1]; try rfl) rfl ?_
    exact ⟨_, _, _, rfl, t1, t2, by omega, by omega, r3.below (by go_grown), by go_grown, K3.trans (Kept.of_below (by go_grown))⟩
def DrewCone (w : World) (B : Nat) (a : Option Addr) (len cap : Nat) (p : Int) (e : Ending) (w' : World) : Prop :=
  ∃ x y z u p' : Int, e = .returned (.agg #[.int .i64 (x), .int .i64 (y), .int .i64 (z), .int .i64 (u)]) ∧ (-6 ≤ x ∧ x ≤ 6) ∧ (-6 ≤ y ∧ y ≤ 6) ∧ (-6 ≤ z ∧ z ≤ 6) ∧ (-6 ≤ u ∧ u ≤ 6) ∧ p' ≤ p + 30 ∧ Reads w' B a len cap p' ∧ Below B w w' ∧ Kept w.heap.size B w w'
end Go.Proofs.YtcieihbknfeddaaDoor
