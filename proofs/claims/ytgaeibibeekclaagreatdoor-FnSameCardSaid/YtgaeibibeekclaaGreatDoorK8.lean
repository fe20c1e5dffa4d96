import Derived.Test.YtgaeibibeekclaaGreatDoorL3
import Derived.Test.YtgaeibibeekclaaGreatDoorK4
import Derived.Test.YtgaeibibeekclaaGreatDoorK1
/- Sums of polygons: the program. -/
namespace Go.Proofs.YtgaeibibeekclaaGreatDoor
open Go.RowKit

/-- the sum of two vectors, all sums of two lists -/
def adV (a b : V2) : V2 := (a.1 + b.1, a.2 + b.2)
def adR (q : List V2) (a : V2) (k : Nat) : List V2 := (List.range k).map (fun j => adV a (cyc q j))
def sumK (p q : List V2) (i : Nat) : List V2 := (List.range i).flatMap (fun i => adR q (cyc p i) q.length)
def smL (p q : List V2) : List V2 := sumK p q p.length
theorem adR_zero (q : List V2) (a : V2) : adR q a 0 = [] := rfl
theorem adR_succ (q : List V2) (a : V2) (k : Nat) : adR q a (k + 1) = adR q a k ++ [adV a (cyc q k)] := by simp [adR, List.range_succ]
theorem adR_len (q : List V2) (a : V2) (k : Nat) : (adR q a k).length = k := by simp [adR]
theorem sumK_zero (p q : List V2) : sumK p q 0 = [] := rfl
theorem sumK_succ (p q : List V2) (i : Nat) : sumK p q (i + 1) = sumK p q i ++ adR q (cyc p i) q.length := by
  unfold sumK
  rw [List.range_succ, List.flatMap_append]
  simp
theorem sumK_len (p q : List V2) (i : Nat) : (sumK p q i).length = i * q.length := by
  induction i with
  | zero => simp [sumK_zero]
  | succ i ih => rw [sumK_succ, List.length_append, ih, adR_len, Nat.succ_mul]
theorem sum_len {p q : List V2} (hp : p.length ≤ 30) (hq : q.length ≤ 30) {i k : Nat} (hi : i < p.length) (hk : k ≤ q.length) : (sumK p q i ++ adR q (cyc p i) k).length ≤ 1000 := by
  rw [List.length_append, sumK_len, adR_len]
  have := Nat.mul_le_mul (show i ≤ 29 by omega) hq
  omega
theorem smL_len {p q : List V2} (hp : p.length ≤ 30) (hq : q.length ≤ 30) : (smL p q).length ≤ 1000 := by
  unfold smL
  rw [sumK_len]
  have := Nat.mul_le_mul hp hq
  omega
theorem sumK_mem {p q : List V2} {x : V2} {i : Nat} (h : x ∈ sumK p q i) : ∃ a b, x = adV (cyc p a) (cyc q b) := by
  unfold sumK at h
  obtain ⟨a, _, h2⟩ := List.mem_flatMap.1 h
  unfold adR at h2
  obtain ⟨b, _, rfl⟩ := List.mem_map.1 h2
  exact ⟨a, b, rfl⟩
theorem sum_small {p q : List V2} (hp : polyB p = true) (hq : polyB q = true) : ∀ x ∈ smL p q, (-200 ≤ x.1 ∧ x.1 ≤ 200) ∧ -200 ≤ x.2 ∧ x.2 ≤ 200 := by
  intro x hx
  obtain ⟨a, b, rfl⟩ := sumK_mem hx
  have h1 := poly_small hp a
  have h2 := poly_small hq b
  unfold adV
  dsimp only
  omega
theorem sm_cells (W : World) (X Y : Int) (t : TypeId) : ∀ j u, [Value.int .i64 X, Value.int .i64 Y][j]? = some u → (W.alloc (.cells #[.int .i64 X, .int .i64 Y] t)).cell? ((⟨W.heap.size, 0, none⟩ : Addr).add j) = some u := by
  intro j u hj
  match j, hj with
  | 0, hj => simp at hj; subst hj; simp [Addr.add]
  | 1, hj => simp at hj; subst hj; simp [Addr.add]
theorem sm_one (X Y : Int) : ∀ u ∈ [Value.int .i64 X, Value.int .i64 Y], u.oneCell' = true := by
  intro u hu
  simp at hu
  rcases hu with rfl | rfl <;> rfl
theorem sm_ne {w : World} {b B : Nat} {v : Value} {l : List V2} (h : Vecs w b v l) (hB : w.heap.size ≤ B) : v.ownBlock ≠ some B := by
  intro e
  have := (World.ownsRow.lt h B e).2
  omega
theorem sm_bnd {p q : List V2} (hp : polyB p = true) (hq : polyB q = true) (a b : Nat) : vecB (cyc p a).1 (cyc p a).2 = true ∧ vecB (cyc q b).1 (cyc q b).2 = true := ⟨poly_vec hp a, poly_vec hq b⟩
set_option maxHeartbeats 4000000 in
theorem checkAll_pp (v u : Value) (p q : List V2) (B : Nat) (w : World) (h : ReadsVecs w v p) (h2 : ReadsVecs w u q)
    (c0 : w.cell? ⟨B, 0, none⟩ = some (.iface 52 v)) (c1 : w.cell? ⟨B, 1, none⟩ = some (.iface 52 u)) (hB : B < w.heap.size) :
    Calls Tryz.prog 28 #[.slice (some ⟨B, 0, none⟩) 2 2] w fun e w' => PolyEnd (polyB p && polyB q) e ∧ Below w.heap.size w w' := by
  have HC := Lib.hid (fun w' hb => polyCheck_any v p w' (h.below (w := w) hb))
  have HD := Lib.hid (fun w' hb => polyCheck_any u q w' (h2.below (w := w) hb))
  clear h h2
  generalize polyB p = K at *
  generalize polyB q = J at *
  go_enter Tryz.func28, Tryz.ntmps28
  go_wp2
  refine wp_loop_rounds 3 ?_
  rw [rounds_succ]
  go_wp2_with fail
  refine Calls.mono (HC.out _ (by go_grown)) ?_
  rintro e w1 ⟨he, hb1⟩
  replace hb1 : Below w.heap.size w w1 := belowTo (by go_grown) hb1
  have c1' : w1.cell? ⟨B, 1, none⟩ = some (.iface 52 u) := (hb1.cell (p := ⟨B, 1, none⟩) hB).trans c1
  rcases polyEnd_of he with ⟨rfl, rfl⟩ | ⟨rfl, s, rfl⟩
  · have HD1 := Lib.hid (HD.out w1 hb1)
    clear he c0 c1 HC HD
    go_wp2_with fail
    rw [rounds_succ]
    go_wp2_with fail
    refine Calls.mono HD1.out ?_
    rintro e w2 ⟨he, hb2⟩
    clear c1' HD1
    rcases polyEnd_of he with ⟨rfl, rfl⟩ | ⟨rfl, s, rfl⟩
    · clear he
      go_wp2_with fail
      rw [rounds_succ]
      go_wp2
      go_returns
      exact ⟨polyEnd_ok rfl rfl, belowTo hb1 hb2⟩
    · clear he
      go_wp2
      go_returns
      exact ⟨polyEnd_err rfl ⟨_, rfl⟩, belowTo hb1 hb2⟩
  · clear he c0 c1 HC c1' HD
    go_wp2
    go_returns
    exact ⟨polyEnd_err rfl ⟨_, rfl⟩, hb1⟩
/-- the sum, and whether it is told -/
def SumB (p q : List V2) : Bool := (polyB p && polyB q) && polyB (hullD (smL p q))
def SumL (p q : List V2) : List V2 := gV (SumB p q) (hullD (smL p q))
theorem SumL_len (p q : List V2) : (SumL p q).length ≤ 576460752303423488 := gV_len (fun h => by
  unfold SumB at h
  rw [Bool.and_eq_true] at h
  have := poly_len h.2
  omega)
end Go.Proofs.YtgaeibibeekclaaGreatDoor

/- Sums of polygons: the model. -/
namespace Go.Proofs.YtgaeibibeekclaaGreatDoor
open Go.RowKit

theorem sum_small5 {p q : List V2} (hp : polyB p = true) (hq : polyB q = true) : ∀ x ∈ smL p q, small5 x := fun x hx => by
  have := sum_small hp hq x hx
  unfold small5
  omega
theorem hullM_len (l : List V2) (h : l.length ≤ 1000) : (hullM l).length ≤ 576460752303423488 := by
  have h1 := sortD_len l
  unfold hullM
  split
  · omega
  · have h1' := half_len (sortD l)
    have h2' := half_len (sortD l).reverse
    have h4 : (sortD l).reverse.length = (sortD l).length := by simp
    show ((halfH (sortD l)).tail.reverse ++ (halfH (sortD l).reverse).tail.reverse).length ≤ _
    rw [List.length_append]
    omega
end Go.Proofs.YtgaeibibeekclaaGreatDoor

/- PolygonMixed: both sides. -/
namespace Go.Proofs.YtgaeibibeekclaaGreatDoor
open Go.RowKit

def mixZ (p q : List V2) : Int := (areaZ (SumL p q) - areaZ p - areaZ q).tdiv 2
theorem sum_parts {p q : List V2} (h : SumB p q = true) : polyB p = true ∧ polyB q = true ∧ polyB (SumL p q) = true := by
  have h' := h
  unfold SumB at h'
  rw [Bool.and_eq_true, Bool.and_eq_true] at h'
  refine ⟨h'.1.1, h'.1.2, ?_⟩
  unfold SumL
  rw [h]
  exact h'.2
theorem poly_areaB {l : List V2} (h : polyB l = true) : -2000000000 ≤ areaZ l ∧ areaZ l ≤ 2000000000 :=
  area_bnd (poly_allV h) (by have := poly_len h; omega) (by have := poly_len h; omega)
end Go.Proofs.YtgaeibibeekclaaGreatDoor
