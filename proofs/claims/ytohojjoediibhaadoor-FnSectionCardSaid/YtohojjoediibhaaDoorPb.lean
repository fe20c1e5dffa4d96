/- Whole bases: what the promise says of them: the mathematics; lists of vectors compared. -/
import Derived.Test.YtohojjoediibhaaDoorPk
import Derived.Test.YtohojjoediibhaaDoorB5
import Derived.Laws.StructEq
namespace Go.Proofs.YtohojjoediibhaaDoor
open Go.RowKit

def at2 (L : List (Int × Int)) (j : Nat) : Int × Int := (L[j]?).getD (0, 0)
theorem at2_succ (p : Int × Int) (L : List (Int × Int)) (j : Nat) : at2 (p :: L) (j + 1) = at2 L j := by simp [at2]
theorem at2_zero (p : Int × Int) (L : List (Int × Int)) : at2 (p :: L) 0 = p := by simp [at2]
theorem baseZ_head (l : List Int) (lx ly nx ny : Int) : at2 (baseZ l lx ly nx ny) 0 = (nx, ny) := by cases l <;> rfl
def hasV (a b c d : Int) (p : Int × Int) : Prop := hasOk a b c d p.1 p.2 = true
theorem base_chain {a b c d : Int} (h : coneB a b c d = true) : ∀ (l : List Int) (done : List (Int × Int)) (lx ly nx ny : Int), BaseAt a b c d l done lx ly nx ny →
    detZ lx ly nx ny = 1 → 0 ≤ detZ lx ly c d → 0 ≤ detZ a b lx ly → detZ a b lx ly ≤ detZ a b nx ny → ∀ i,
    (i < l.length + 1 → detZ (at2 ((lx, ly) :: baseZ l lx ly nx ny) i).1 (at2 ((lx, ly) :: baseZ l lx ly nx ny) i).2 (at2 ((lx, ly) :: baseZ l lx ly nx ny) (i + 1)).1 (at2 ((lx, ly) :: baseZ l lx ly nx ny) (i + 1)).2 = 1) ∧
    (i < l.length + 2 → hasV a b c d (at2 ((lx, ly) :: baseZ l lx ly nx ny) i)) ∧
    (i < l.length → (at2 ((lx, ly) :: baseZ l lx ly nx ny) i).1 + (at2 ((lx, ly) :: baseZ l lx ly nx ny) (i + 2)).1 = l[i]?.getD 0 * (at2 ((lx, ly) :: baseZ l lx ly nx ny) (i + 1)).1 ∧
      (at2 ((lx, ly) :: baseZ l lx ly nx ny) i).2 + (at2 ((lx, ly) :: baseZ l lx ly nx ny) (i + 2)).2 = l[i]?.getD 0 * (at2 ((lx, ly) :: baseZ l lx ly nx ny) (i + 1)).2) := by
  intro l
  induction l with
  | nil =>
    intro done lx ly nx ny hb h1 h2 h3 h4 i
    obtain ⟨_, rfl, rfl⟩ := baseAt_end hb
    obtain ⟨n, q, _, _, _, _, _, _, _, b1, b2, _, _⟩ := hb
    have hv : hasOk a b nx ny lx ly = true := has_of h (vec_mk b1 b2) h2 h3
    refine ⟨fun hi => ?_, fun hi => ?_, fun hi => absurd hi (by simp)⟩
    · obtain rfl : i = 0 := by simpa using hi
      exact h1
    · match i, hi with
      | 0, _ => exact hv
      | 1, _ => exact has_v h
      | i + 2, hi =>
        simp only [List.length_nil] at hi
        omega
  | cons z t ih =>
    intro done lx ly nx ny hb h1 h2 h3 h4 i
    have hb' := (baseAt_next h hb).1
    obtain ⟨n, q, hl, _, ⟨a1, a2⟩, q0, qn, _, _, b1, b2, b3, b4⟩ := hb
    have hz : 2 ≤ z := frac_two n q qn z (by rw [← hl]; simp)
    have hv : hasOk a b c d lx ly = true := has_of h (vec_mk b1 b2) h2 h3
    have e1 : detZ nx ny (nx * z - lx) (ny * z - ly) = 1 := by
      rw [← h1]
      unfold detZ
      grind
    have e2 : 0 ≤ detZ nx ny c d := by
      have e : n * detZ nx ny c d = q * detZ lx ly c d := by
        have : n * detZ nx ny c d = (n * nx) * d - (n * ny) * c := by unfold detZ; grind
        rw [this, a1, a2]
        unfold detZ
        grind
      have hp : 0 ≤ n * detZ nx ny c d := by rw [e]; exact Int.mul_nonneg q0 h2
      by_cases hd : 0 ≤ detZ nx ny c d
      · exact hd
      · have := Int.mul_neg_of_pos_of_neg (show 0 < n by omega) (show detZ nx ny c d < 0 by omega)
        omega
    have e3 : 0 ≤ detZ a b nx ny := by omega
    have e4 : detZ a b nx ny ≤ detZ a b (nx * z - lx) (ny * z - ly) := by
      have e : detZ a b (nx * z - lx) (ny * z - ly) = z * detZ a b nx ny - detZ a b lx ly := by unfold detZ; grind
      have := Int.mul_le_mul_of_nonneg_right hz e3
      omega
    have hI := ih _ _ _ _ _ hb' e1 e2 e3 e4
    have es : baseZ (z :: t) lx ly nx ny = (nx, ny) :: baseZ t nx ny (nx * z - lx) (ny * z - ly) := rfl
    rw [es]
    cases i with
    | zero =>
      refine ⟨fun _ => ?_, fun _ => ?_, fun _ => ?_⟩
      · rw [at2_zero, at2_succ, at2_zero]
        exact h1
      · rw [at2_zero]
        exact hv
      · rw [at2_zero, at2_succ, at2_succ, baseZ_head, at2_succ, at2_zero]
        simp only [List.getElem?_cons_zero, Option.getD_some]
        constructor <;> grind
    | succ i =>
      obtain ⟨i1, i2, i3⟩ := hI i
      have key : ∀ j, at2 ((lx, ly) :: (nx, ny) :: baseZ t nx ny (nx * z - lx) (ny * z - ly)) (j + 1) = at2 ((nx, ny) :: baseZ t nx ny (nx * z - lx) (ny * z - ly)) j := fun j => at2_succ _ _ _
      rw [show i + 1 + 2 = (i + 2) + 1 from rfl, key i, key (i + 1), key (i + 2)]
      refine ⟨fun hi => i1 (by simpa using hi), fun hi => i2 (by simp at hi; omega), fun hi => ?_⟩
      have := i3 (by simpa using hi)
      simpa using this
theorem base_all {a b c d : Int} (h : coneB a b c d = true) (i : Nat) :
    (i < (fracC a b c d).length + 1 → detZ (at2 (baseL a b c d) i).1 (at2 (baseL a b c d) i).2 (at2 (baseL a b c d) (i + 1)).1 (at2 (baseL a b c d) (i + 1)).2 = 1) ∧
    (i < (fracC a b c d).length + 2 → hasV a b c d (at2 (baseL a b c d) i)) ∧
    (i < (fracC a b c d).length → (at2 (baseL a b c d) i).1 + (at2 (baseL a b c d) (i + 2)).1 = (fracC a b c d)[i]?.getD 0 * (at2 (baseL a b c d) (i + 1)).1 ∧
      (at2 (baseL a b c d) i).2 + (at2 (baseL a b c d) (i + 2)).2 = (fracC a b c d)[i]?.getD 0 * (at2 (baseL a b c d) (i + 1)).2) := by
  obtain ⟨_, _, _, _, hp⟩ := cone_in h
  have hn := posB_true hp
  obtain ⟨e1, e2⟩ := base_at h
  have e3 : detZ a b (baseX a b c d) (baseY a b c d) = 1 := by
    refine Int.eq_of_mul_eq_mul_left (show detZ a b c d ≠ 0 by omega) ?_
    have : detZ a b c d * detZ a b (baseX a b c d) (baseY a b c d) = a * (detZ a b c d * baseY a b c d) - b * (detZ a b c d * baseX a b c d) := by
      generalize detZ a b c d = n
      unfold detZ
      grind
    rw [this, e1, e2]
    unfold detZ
    grind
  exact base_chain h _ _ _ _ _ _ (baseAt_start h) e3 (by omega) (by rw [det_nn]; omega) (by rw [det_nn, e3]; omega) i
theorem base_last {a b c d : Int} (h : coneB a b c d = true) : at2 (baseL a b c d) ((fracC a b c d).length + 1) = (c, d) := by
  have key : ∀ (l : List Int) (done : List (Int × Int)) (lx ly nx ny : Int), BaseAt a b c d l done lx ly nx ny → at2 ((lx, ly) :: baseZ l lx ly nx ny) (l.length + 1) = (c, d) := by
    intro l
    induction l with
    | nil =>
      intro done lx ly nx ny hb
      obtain ⟨_, rfl, rfl⟩ := baseAt_end hb
      rfl
    | cons z t ih =>
      intro done lx ly nx ny hb
      have := ih _ _ _ _ _ (baseAt_next h hb).1
      rw [at2_succ]
      exact this
  exact key _ _ _ _ _ _ (baseAt_start h)
theorem base_count (a b c d : Int) : (baseL a b c d).length = (fracC a b c d).length + 2 := by
  unfold baseL
  rw [List.length_cons, baseZ_len]
theorem flat_at (l : List (Int × Int)) (j : Nat) (h : j < l.length) : (flat l)[j * 2]?.getD 0 = (at2 l j).1 ∧ (flat l)[j * 2 + 1]?.getD 0 = (at2 l j).2 := by
  induction l generalizing j with
  | nil => simp at h
  | cons p l ih =>
    cases j with
    | zero => simp [flat, at2]
    | succ j =>
      have := ih j (by simpa using h)
      rw [at2_succ]
      simpa [flat, Nat.add_mul, Nat.succ_mul] using this
theorem Vecs.form2 {w : World} {base : Nat} {v : Value} {L : List (Int × Int)} (h : Vecs w base v L) (h0 : 0 < L.length) : ∃ go c, v = .slice (some ⟨go, 0, none⟩) L.length c ∧ base ≤ go ∧ go < w.heap.size ∧ L.length ≤ c := by
  rcases VRow.form h with ⟨h1, _⟩ | ⟨_, g, c, h1, h2, h3, h4⟩
  · omega
  · exact ⟨g, c, h1, h2, h3, h4⟩
theorem Vecs.cells2 {w : World} {base g c : Nat} {l : List (Int × Int)} (h : Vecs w base (.slice (some ⟨g, 0, none⟩) l.length c) l) : ∀ j, j < l.length → w.cell? ⟨g, j * 2, none⟩ = some (.int .i64 (at2 l j).1) ∧ w.cell? ⟨g, j * 2 + 1, none⟩ = some (.int .i64 (at2 l j).2) := by
  intro j hj
  obtain ⟨e1, e2⟩ := flat_at l j hj
  rw [← e1, ← e2]
  exact ⟨VRow.cell h (j * 2) (by omega), VRow.cell h (j * 2 + 1) (by omega)⟩
theorem run_neSame (x y : Int) (w : World) : (binOp .neq 43 (.agg #[.int .i64 (x), .int .i64 (y)]) (.agg #[.int .i64 (x), .int .i64 (y)])).run Tryd.prog w = .ok (.bool false) w := by
  have hS : Tryd.prog.underlying 43 = some (.struct (Tryd.prog.fieldsOf 43)) := by kernel_rfl
  have hp : Tryd.prog.stoodInHeld 43 = false := by kernel_rfl
  have u3 := Tryd.underlying3
  have a3 := Tryd.isAgg3
  have z3 := Tryd.sizeOf3
  rw [run_neq_struct, show (10000 : Nat) = 9999 + 1 from rfl, run_equalIn_agg w 9999 43 _ _ hS hp]
  simp only [Program.fieldsOf, Tryd.underlying43]
  go_simp
set_option maxHeartbeats 4000000 in
theorem sameVecs_nil (a b : Option Addr) (c d : Nat) (w : World) :
    Calls Tryd.prog 50 #[.slice a 0 c, .slice b 0 d] w fun e w' => e = .returned (.bool true) ∧ Below w.heap.size w w' := by
  go_enter Tryd.func50, Tryd.ntmps50
  go_wp2
  refine wp_loop_rounds 1 ?_
  rw [rounds_succ]
  go_wp2
  go_returns
  exact ⟨rfl, Below.refl _ _⟩
set_option maxHeartbeats 4000000 in
theorem sameVecs_row (g g2 c d b1 b2 : Nat) (l : List (Int × Int)) (w : World) (h1 : Vecs w b1 (.slice (some ⟨g, 0, none⟩) l.length c) l) (h2 : Vecs w b2 (.slice (some ⟨g2, 0, none⟩) l.length d) l)
    (hg : g < w.heap.size) (hg2 : g2 < w.heap.size) :
    Calls Tryd.prog 50 #[.slice (some ⟨g, 0, none⟩) l.length c, .slice (some ⟨g2, 0, none⟩) l.length d] w fun e w' => e = .returned (.bool true) ∧ Below w.heap.size w w' := by
  obtain ⟨n, hn⟩ : ∃ n, n = l.length := ⟨_, rfl⟩
  have hm : n ≤ 9223372036854775807 := by have := VRow.len_le h1; unfold maxLen at this; omega
  have HC : Hid (∀ j, j < n → (w.cell? ⟨g, j * 2, none⟩ = some (.int .i64 (at2 l j).1) ∧ w.cell? ⟨g, j * 2 + 1, none⟩ = some (.int .i64 (at2 l j).2)) ∧ (w.cell? ⟨g2, j * 2, none⟩ = some (.int .i64 (at2 l j).1) ∧ w.cell? ⟨g2, j * 2 + 1, none⟩ = some (.int .i64 (at2 l j).2))) := by
    intro j hj
    exact ⟨h1.cells2 j (by omega), h2.cells2 j (by omega)⟩
  rw [← hn]
  clear h1 h2 hn
  go_enter Tryd.func50, Tryd.ntmps50
  go_wp2
  go_loopw [5] (fun i wr => ∃ k : Nat, k ≤ n ∧ i = .int .i64 k ∧ Below w.heap.size w wr) (fun i _ => n - (intOf i).toNat)
  case atStart => exact ⟨0, Nat.zero_le _, rfl, Below.refl _ _⟩
  case round =>
    obtain ⟨k, hk, rfl, hB⟩ := hrel
    by_cases hlt : k < n
    · obtain ⟨⟨q1, q2⟩, q3, q4⟩ := HC.out k hlt
      have c1 := (hB.cell (p := ⟨g, k * 2, none⟩) hg).trans q1
      have c2 := (hB.cell (p := ⟨g, k * 2 + 1, none⟩) hg).trans q2
      have c3 := (hB.cell (p := ⟨g2, k * 2, none⟩) hg2).trans q3
      have c4 := (hB.cell (p := ⟨g2, k * 2 + 1, none⟩) hg2).trans q4
      generalize at2 l k = z at c1 c2 c3 c4
      obtain ⟨x, y⟩ := z
      dsimp only at c1 c2 c3 c4
      have qe := fun w' => run_neSame x y w'
      clear q1 q2 q3 q4 HC
      have i1 : (0 : Int) ≤ (k : Int) := by omega
      have i2 : (k : Int) < (n : Int) := by omega
      go_wp2_with fail
      go_quiet (fail)
      go_wp2
      go_roundw
      case rel => exact ⟨k + 1, by omega, by go_num, below_drewN hB _⟩
      case measure => simp [intOf]; omega
    · go_wp2
      go_returns
      exact ⟨rfl, hB⟩
theorem sameVecs_same (v1 v2 : Value) (b1 b2 : Nat) (l : List (Int × Int)) (w : World) (h1 : Vecs w b1 v1 l) (h2 : Vecs w b2 v2 l) :
    Calls Tryd.prog 50 #[v1, v2] w fun e w' => e = .returned (.bool true) ∧ Below w.heap.size w w' := by
  rcases VRow.form h1 with ⟨h0, _, a, c, rfl⟩ | ⟨h0, g, c, rfl, _, hg, _⟩
  · rcases VRow.form h2 with ⟨_, _, a2, d, rfl⟩ | ⟨h3, _⟩
    · exact sameVecs_nil a a2 c d w
    · omega
  · rcases VRow.form h2 with ⟨h3, _⟩ | ⟨_, g2, d, rfl, _, hg2, _⟩
    · omega
    · exact sameVecs_row g g2 c d b1 b2 l w h1 h2 hg hg2
end Go.Proofs.YtohojjoediibhaaDoor
