/- Resolutions: the vectors of all whole bases: the mathematics. -/
import Derived.Test.YtcieihbknfeddaaB5
import Derived.Test.YtcieihbknfeddaaB6
namespace Go.Proofs.Ytcieihbknfeddaa
open Go.RowKit

theorem baseZ_ne (l : List Int) (lx ly nx ny : Int) : baseZ l lx ly nx ny ≠ [] := fun e => by
  have := baseZ_len l lx ly nx ny
  rw [e] at this
  simp at this
theorem baseZ_pos (c d : Int) : ∀ n q : Int, ∀ lx ly nx ny : Int, detZ lx ly c d = n → detZ nx ny c d = q → ∀ p ∈ (baseZ (fracZ n q) lx ly nx ny).dropLast, 0 < detZ p.1 p.2 c d := by
  refine frac_ind ?_ ?_
  · intro n q hq lx ly nx ny h1 h2 p hp
    rw [frac_zero n hq] at hp
    simp [baseZ] at hp
  · intro n q hq ih lx ly nx ny h1 h2 p hp
    rw [frac_pos n hq] at hp
    have e : baseZ (upZ n q :: fracZ q (upZ n q * q - n)) lx ly nx ny = (nx, ny) :: baseZ (fracZ q (upZ n q * q - n)) nx ny (nx * upZ n q - lx) (ny * upZ n q - ly) := rfl
    rw [e, List.dropLast_cons_of_ne_nil (baseZ_ne _ _ _ _ _)] at hp
    rcases List.mem_cons.1 hp with rfl | hp
    · show 0 < detZ nx ny c d
      omega
    · refine ih nx ny _ _ h2 ?_ p hp
      unfold detZ at h1 h2 ⊢
      rw [← h1, ← h2]
      grind
/-- the vectors of the whole base but the last one -/
def headL (a b c d : Int) : List (Int × Int) := (baseL a b c d).dropLast
theorem base_det {a b c d : Int} (h : coneB a b c d = true) : detZ (baseX a b c d) (baseY a b c d) c d = kindC a b c d := by
  obtain ⟨e1, e2⟩ := base_at h
  obtain ⟨_, _, _, _, hp⟩ := cone_in h
  have hn : detZ a b c d ≠ 0 := by have := posB_true hp; omega
  refine Int.eq_of_mul_eq_mul_left hn ?_
  have f1 : detZ a b c d * detZ (baseX a b c d) (baseY a b c d) c d = (detZ a b c d * baseX a b c d) * d - (detZ a b c d * baseY a b c d) * c := by
    unfold detZ
    grind
  rw [f1, e1, e2]
  unfold detZ
  grind
theorem head_pos {a b c d : Int} (h : coneB a b c d = true) : ∀ p ∈ headL a b c d, 0 < detZ p.1 p.2 c d := by
  intro p hp
  unfold headL baseL at hp
  rw [List.dropLast_cons_of_ne_nil (baseZ_ne _ _ _ _ _)] at hp
  obtain ⟨_, _, _, _, hpos⟩ := cone_in h
  rcases List.mem_cons.1 hp with rfl | hp
  · exact posB_true hpos
  · exact baseZ_pos c d _ _ _ _ _ _ rfl (base_det h) p hp
theorem head_ne {a b c d : Int} (h : coneB a b c d = true) : ∀ p ∈ headL a b c d, p ≠ (c, d) := by
  rintro p hp rfl
  have := head_pos h _ hp
  unfold detZ at this
  dsimp only at this
  rw [Int.mul_comm d c] at this
  omega
theorem baseAt_last {a b c d : Int} (h : coneB a b c d = true) : ∀ (l : List Int) (done : List (Int × Int)) (lx ly nx ny : Int), BaseAt a b c d l done lx ly nx ny → ∃ m, baseL a b c d = m ++ [(c, d)] := by
  intro l
  induction l with
  | nil => intro done lx ly nx ny hb; exact ⟨_, (baseAt_end hb).1⟩
  | cons z l ih => intro done lx ly nx ny hb; exact ih _ _ _ _ _ (baseAt_next h hb).1
theorem base_split {a b c d : Int} (h : coneB a b c d = true) : baseL a b c d = headL a b c d ++ [(c, d)] := by
  obtain ⟨m, hm⟩ := baseAt_last h _ _ _ _ _ _ (baseAt_start h)
  unfold headL
  rw [hm, List.dropLast_concat]
/-- a vector is not the last one of the base -/
def notV (v p : Int × Int) : Bool := !(decide (p.1 = v.1) && decide (p.2 = v.2))
theorem notV_self (v : Int × Int) : notV v v = false := by simp [notV]
theorem notV_ne {v p : Int × Int} (h : p ≠ v) : notV v p = true := by
  unfold notV
  by_cases h1 : p.1 = v.1
  · by_cases h2 : p.2 = v.2
    · exact absurd (Prod.ext h1 h2) h
    · simp [h2]
  · simp [h1]
theorem base_filter {a b c d : Int} (h : coneB a b c d = true) : (baseL a b c d).filter (notV (c, d)) = headL a b c d := by
  rw [base_split h, List.filter_append]
  have e1 : (headL a b c d).filter (notV (c, d)) = headL a b c d := List.filter_eq_self.2 (fun p hp => notV_ne (head_ne h p hp))
  rw [e1]
  simp [notV_self]
theorem head_len {a b c d : Int} (h : coneB a b c d = true) : (headL a b c d).length ≤ 2000002 := by
  have := baseL_len h
  unfold headL
  rw [List.length_dropLast]
  omega
theorem head_len1 {a b c d : Int} (h : coneB a b c d = true) : (baseL a b c d).length = (headL a b c d).length + 1 := by
  rw [base_split h]
  simp
/-- the vectors of the whole bases of some cones -/
def resL (l : List (Int × Int)) (pre : List Nat) : List (Int × Int) := pre.flatMap (fun i => headL (cyc l i).1 (cyc l i).2 (cyc l (i + 1)).1 (cyc l (i + 1)).2)
theorem resL_snoc (l : List (Int × Int)) (pre : List Nat) (x : Nat) : resL l (pre ++ [x]) = resL l pre ++ headL (cyc l x).1 (cyc l x).2 (cyc l (x + 1)).1 (cyc l (x + 1)).2 := by
  unfold resL
  rw [List.flatMap_append]
  simp
theorem resL_len {l : List (Int × Int)} (h : ∀ i, conB l i = true) (pre : List Nat) : (resL l pre).length ≤ pre.length * 2000002 := by
  induction pre with
  | nil => simp [resL]
  | cons x t ih =>
    have e : resL l (x :: t) = headL (cyc l x).1 (cyc l x).2 (cyc l (x + 1)).1 (cyc l (x + 1)).2 ++ resL l t := rfl
    have := head_len (h x)
    rw [e, List.length_append, List.length_cons]
    omega
/-- the rays of the resolution -/
def resZ (l : List (Int × Int)) : List (Int × Int) := resL l (List.range l.length)
def resB (l : List (Int × Int)) : Bool := fanB l && fanB (resZ l)
/-- moved vectors -/
def movedL (l : List (Int × Int)) (e f g h : Int) (pre : List Nat) : List (Int × Int) := pre.map (fun i => (moveX e f (cyc l i).1 (cyc l i).2, moveX g h (cyc l i).1 (cyc l i).2))
theorem movedL_snoc (l : List (Int × Int)) (e f g h : Int) (pre : List Nat) (x : Nat) : movedL l e f g h (pre ++ [x]) = movedL l e f g h pre ++ [(moveX e f (cyc l x).1 (cyc l x).2, moveX g h (cyc l x).1 (cyc l x).2)] := by simp [movedL]
theorem movedL_len (l : List (Int × Int)) (e f g h : Int) (pre : List Nat) : (movedL l e f g h pre).length = pre.length := by simp [movedL]
def movedZ (l : List (Int × Int)) (e f g h : Int) : List (Int × Int) := movedL l e f g h (List.range l.length)
end Go.Proofs.Ytcieihbknfeddaa
