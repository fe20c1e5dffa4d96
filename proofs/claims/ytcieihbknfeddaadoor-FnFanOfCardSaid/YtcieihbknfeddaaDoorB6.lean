import Derived.Test.YtcieihbknfeddaaDoorB1
import Derived.Test.YtcieihbknfeddaaDoorB2
import Derived.RangeFuncBox
/- Fans: lists that go round; the mathematics that both sides share. -/
namespace Go.Proofs.YtcieihbknfeddaaDoor
open Go.RowKit

/-- the element with an index, going round -/
def cyc {α : Type} [Inhabited α] (l : List α) (i : Nat) : α := l[i % l.length]?.getD default
theorem cyc_lt {α : Type} [Inhabited α] {l : List α} {i : Nat} (h : i < l.length) : cyc l i = l[i]?.getD default := by
  unfold cyc
  rw [Nat.mod_eq_of_lt h]
theorem cyc_get {α : Type} [Inhabited α] {l : List α} {i : Nat} (h : i < l.length) : l[i]? = some (cyc l i) := by
  rw [cyc_lt h, List.getElem?_eq_getElem h]
  rfl
theorem cyc_mod {α : Type} [Inhabited α] (l : List α) (i : Nat) : cyc l (i % l.length) = cyc l i := by
  unfold cyc
  rw [Nat.mod_mod]
theorem cyc_add {α : Type} [Inhabited α] (l : List α) (i : Nat) : cyc l (i + l.length) = cyc l i := by
  unfold cyc
  rw [Nat.add_mod_right]
theorem cyc_map {α β : Type} [Inhabited α] [Inhabited β] {l : List α} (f : α → β) (h : 0 < l.length) (i : Nat) : cyc (l.map f) i = f (cyc l i) := by
  unfold cyc
  rw [List.length_map, List.getElem?_map, List.getElem?_eq_getElem (Nat.mod_lt _ h)]
  rfl
theorem cyc_mem {α : Type} [Inhabited α] {l : List α} (h : 0 < l.length) (i : Nat) : cyc l i ∈ l := by
  unfold cyc
  rw [List.getElem?_eq_getElem (Nat.mod_lt _ h)]
  exact List.getElem_mem _
theorem cyc_congr {α : Type} [Inhabited α] (l : List α) {i j : Nat} (h : i % l.length = j % l.length) : cyc l i = cyc l j := by
  unfold cyc
  rw [h]
/-- the index behind, as the programs reckon it -/
theorem cyc_next {α : Type} [Inhabited α] {l : List α} {i : Nat} : cyc l (i + 1) = if i + 1 = l.length then cyc l 0 else cyc l (i + 1) := by
  split
  · next e => rw [e]; exact cyc_congr l (by simp)
  · rfl
theorem cyc_ahead {α : Type} [Inhabited α] {l : List α} {i : Nat} (h : i < l.length) : cyc l (i + l.length - 1) = if i = 0 then cyc l (l.length - 1) else cyc l (i - 1) := by
  split
  · next e => subst e; rw [Nat.zero_add]
  · refine cyc_congr l ?_
    rw [show i + l.length - 1 = (i - 1) + l.length by omega, Nat.add_mod_right]

/-- a list begun at another place -/
def rot {α : Type} (k : Nat) (l : List α) : List α := l.drop k ++ l.take k
theorem rot_len {α : Type} (k : Nat) (l : List α) : (rot k l).length = l.length := by
  simp [rot]
  omega
theorem cyc_rot {α : Type} [Inhabited α] {l : List α} {k : Nat} (h : k ≤ l.length) (i : Nat) : cyc (rot k l) i = cyc l (k + i) := by
  rcases Nat.eq_zero_or_pos l.length with h0 | h0
  · have : l = [] := List.eq_nil_of_length_eq_zero h0
    subst this
    simp [rot, cyc]
  unfold cyc
  rw [rot_len]
  congr 1
  have hi := Nat.mod_lt i h0
  unfold rot
  rw [List.getElem?_append]
  simp only [List.length_drop]
  split
  · next hc =>
    have e : (k + i) % l.length = k + i % l.length := by
      rw [← Nat.add_mod_mod, Nat.mod_eq_of_lt (by omega)]
    rw [List.getElem?_drop, e]
  · next hc =>
    have e : (k + i) % l.length = i % l.length - (l.length - k) := by
      rw [← Nat.add_mod_mod, show k + i % l.length = (i % l.length - (l.length - k)) + l.length by omega, Nat.add_mod_right, Nat.mod_eq_of_lt (by omega)]
    rw [List.getElem?_take_of_lt (by omega), e]
theorem rot_map {α β : Type} (f : α → β) (k : Nat) (l : List α) : (rot k l).map f = rot k (l.map f) := by simp [rot, List.map_drop, List.map_take]
theorem list_cyc {α : Type} [Inhabited α] (l : List α) : (List.range l.length).map (cyc l) = l := by
  refine List.ext_getElem (by simp) (fun i h1 h2 => ?_)
  simp only [List.getElem_map, List.getElem_range]
  rw [cyc_lt (by simpa using h1), List.getElem?_eq_getElem (by simpa using h1)]
  rfl

/-! fans -/
abbrev V2 := Int × Int
def conB (l : List V2) (i : Nat) : Bool := coneB (cyc l i).1 (cyc l i).2 (cyc l (i + 1)).1 (cyc l (i + 1)).2
def aheadV (u v : V2) : Bool := aheadB u.1 u.2 v.1 v.2
def detV (u v : V2) : Int := detZ u.1 u.2 v.1 v.2
def bkB (l : List V2) (i : Nat) : Bool := aheadV (cyc l (i + 1)) (cyc l i)
def cnt (p : Nat → Bool) (pre : List Nat) : Nat := pre.countP p
theorem cnt_nil (p : Nat → Bool) : cnt p [] = 0 := rfl
theorem cnt_snoc (p : Nat → Bool) (pre : List Nat) (x : Nat) : cnt p (pre ++ [x]) = cnt p pre + (if p x then 1 else 0) := by
  simp [cnt, List.countP_cons]
theorem cnt_le (p : Nat → Bool) (pre : List Nat) : cnt p pre ≤ pre.length := List.countP_le_length
def rng (l : List V2) : Bool := decide (3 ≤ l.length) && decide (l.length ≤ 20)
def allC (l : List V2) : Bool := (List.range l.length).all (conB l)
def oneBack (l : List V2) : Bool := cnt (bkB l) (List.range l.length) == 1
def fanB (l : List V2) : Bool := rng l && (allC l && oneBack l)
theorem rng_in {l : List V2} (h : rng l = true) : 3 ≤ l.length ∧ l.length ≤ 20 := by simpa [rng] using h
theorem rng_out {l : List V2} (h : rng l = false) : l.length < 3 ∨ 20 < l.length := by
  simp [rng] at h
  omega
theorem fan_in {l : List V2} (h : fanB l = true) : rng l = true ∧ allC l = true ∧ oneBack l = true := by simpa [fanB] using h
theorem fan_len {l : List V2} (h : fanB l = true) : 3 ≤ l.length ∧ l.length ≤ 20 := rng_in (fan_in h).1
theorem allC_at {l : List V2} (h : allC l = true) (h0 : 0 < l.length) (i : Nat) : conB l i = true := by
  have h1 := List.all_eq_true.1 h (i % l.length) (List.mem_range.2 (Nat.mod_lt _ h0))
  unfold conB at *
  rw [cyc_mod] at h1
  rwa [show cyc l (i % l.length + 1) = cyc l (i + 1) from cyc_congr l (by rw [Nat.mod_add_mod])] at h1
theorem fan_cone {l : List V2} (h : fanB l = true) (i : Nat) : conB l i = true := allC_at (fan_in h).2.1 (by have := fan_len h; omega) i
theorem con_vec {l : List V2} {i : Nat} (h : conB l i = true) : vecB (cyc l i).1 (cyc l i).2 = true ∧ vecB (cyc l (i + 1)).1 (cyc l (i + 1)).2 = true := by
  obtain ⟨h1, _, h2, _⟩ := cone_in h
  exact ⟨h1, h2⟩
theorem con_one {l : List V2} {i : Nat} (h : conB l i = true) : oneB (cyc l i).1 (cyc l i).2 = true := by
  obtain ⟨_, h1, _⟩ := cone_in h
  exact h1
theorem one_nz {x y : Int} (h : oneB x y = true) : nzB x y = true := by
  have h1 := oneB_true h
  by_cases hx : x = 0
  · by_cases hy : y = 0
    · subst hx hy
      simp [gcdZ] at h1
    · simp [nzB, hx, hy]
  · exact nz_ne hx
theorem con_nz {l : List V2} {i : Nat} (h : conB l i = true) : nzB (cyc l i).1 (cyc l i).2 = true ∧ nzB (cyc l (i + 1)).1 (cyc l (i + 1)).2 = true := by
  obtain ⟨_, h1, _, h2, _⟩ := cone_in h
  exact ⟨one_nz h1, one_nz h2⟩
theorem fan_vec {l : List V2} (h : fanB l = true) (i : Nat) : vecB (cyc l i).1 (cyc l i).2 = true := (con_vec (fan_cone h i)).1
def allVec (l : List V2) : Prop := ∀ i, vecB (cyc l i).1 (cyc l i).2 = true

/-! smooth ones -/
def smB (l : List V2) (i : Nat) : Bool := detV (cyc l i) (cyc l (i + 1)) == 1
def allS (l : List V2) : Bool := (List.range l.length).all (smB l)
def smoothB (l : List V2) : Bool := fanB l && allS l
theorem smooth_in {l : List V2} (h : smoothB l = true) : fanB l = true ∧ allS l = true := by simpa [smoothB] using h
theorem allS_at {l : List V2} (h : allS l = true) (h0 : 0 < l.length) (i : Nat) : detV (cyc l i) (cyc l (i + 1)) = 1 := by
  have h1 := List.all_eq_true.1 h (i % l.length) (List.mem_range.2 (Nat.mod_lt _ h0))
  unfold smB at h1
  rw [cyc_mod] at h1
  rw [show cyc l (i % l.length + 1) = cyc l (i + 1) from cyc_congr l (by rw [Nat.mod_add_mod])] at h1
  simpa using h1
def Smooth (l : List V2) : Prop := allVec l ∧ ∀ i, detV (cyc l i) (cyc l (i + 1)) = 1
theorem smooth_all {l : List V2} (h : smoothB l = true) : Smooth l := by
  obtain ⟨h1, h2⟩ := smooth_in h
  exact ⟨fan_vec h1, allS_at h2 (by have := fan_len h1; omega)⟩
def numZ (l : List V2) (i : Nat) : Int := -(detV (cyc l (i + l.length - 1)) (cyc l (i + 1)))
def numsZ (l : List V2) : List Int := (List.range l.length).map (numZ l)
theorem nums_len (l : List V2) : (numsZ l).length = l.length := by simp [numsZ]
/-- the number of a ray, as the model reckons it -/
theorem three {u v z : V2} (h1 : detV u v = 1) (h2 : detV v z = 1) : u.1 + z.1 = detV u z * v.1 ∧ u.2 + z.2 = detV u z * v.2 := by
  unfold detV detZ at *
  constructor
  · grind
  · grind
theorem num_x {u v z : V2} (h1 : detV u v = 1) (h2 : detV v z = 1) (h0 : v.1 ≠ 0) : (u.1 + z.1).tdiv v.1 = detV u z := by
  rw [(three h1 h2).1]
  exact Int.mul_tdiv_cancel _ h0
theorem num_y {u v z : V2} (h1 : detV u v = 1) (h2 : detV v z = 1) (h0 : v.2 ≠ 0) : (u.2 + z.2).tdiv v.2 = detV u z := by
  rw [(three h1 h2).2]
  exact Int.mul_tdiv_cancel _ h0

/-! tidy ones -/
def tidyAt (l : List V2) (pre : List Nat) : Nat := pre.foldl (fun k i => if aheadV (cyc l i) (cyc l k) then i else k) 0
theorem tidy_nil (l : List V2) : tidyAt l [] = 0 := rfl
theorem tidy_snoc (l : List V2) (pre : List Nat) (x : Nat) : tidyAt l (pre ++ [x]) = if aheadV (cyc l x) (cyc l (tidyAt l pre)) then x else tidyAt l pre := by
  unfold tidyAt
  rw [List.foldl_append]
  rfl
theorem ahead_self (u : V2) : aheadV u u = false := by
  unfold aheadV aheadB
  simp [detZ]
  rw [Int.mul_comm]
  omega
def tidyK (l : List V2) : Nat := tidyAt l (List.range l.length)
theorem tidy_fold {l : List V2} {n : Nat} (pre : List Nat) : ∀ k, k < n → (∀ i ∈ pre, i < n) → pre.foldl (fun k i => if aheadV (cyc l i) (cyc l k) then i else k) k < n := by
  induction pre with
  | nil => intro k hk _; exact hk
  | cons x pre ih =>
    intro k hk h
    refine ih _ ?_ (fun i hi => h i (List.mem_cons_of_mem _ hi))
    show (if aheadV (cyc l x) (cyc l k) then x else k) < n
    split
    · exact h x List.mem_cons_self
    · exact hk
theorem tidyAt_lt {l : List V2} (h0 : 0 < l.length) (pre : List Nat) (h : ∀ i ∈ pre, i < l.length) : tidyAt l pre < l.length := tidy_fold pre 0 h0 h
theorem tidyK_lt {l : List V2} (h0 : 0 < l.length) : tidyK l < l.length := tidyAt_lt h0 _ (fun _ hi => List.mem_range.1 hi)
def tidyL (l : List V2) : List V2 := rot (tidyK l) l
theorem tidyL_len (l : List V2) : (tidyL l).length = l.length := rot_len _ _
end Go.Proofs.YtcieihbknfeddaaDoor

/- Fans go round: some cone has each vector. -/
namespace Go.Proofs.YtcieihbknfeddaaDoor
open Go.RowKit

theorem sgn_pos {p y : Int} (h : 0 ≤ p * y) (hy : 0 < y) : 0 ≤ p := by
  refine Int.le_of_mul_le_mul_right (a := y) ?_ hy
  rwa [Int.zero_mul]
theorem sgn_neg {p y : Int} (h : p * y ≤ 0) (hy : y < 0) : 0 ≤ p := by
  refine sgn_pos (y := -y) ?_ (by omega)
  rw [Int.mul_neg]
  omega
theorem mul_nn {p y : Int} (hp : 0 ≤ p) (hy : 0 ≤ y) : 0 ≤ p * y := Int.mul_nonneg hp hy
theorem mul_np {p y : Int} (hp : 0 ≤ p) (hy : y ≤ 0) : p * y ≤ 0 := by
  have := Int.mul_nonneg hp (show 0 ≤ -y by omega)
  rw [Int.mul_neg] at this
  omega
theorem back_in {x y : Int} (h : backB x y = true) : y < 0 ∨ (y = 0 ∧ x < 0) := by simpa [backB] using h
theorem back_out {x y : Int} (h : backB x y = false) : 0 < y ∨ (y = 0 ∧ 0 ≤ x) := by
  have h' : 0 ≤ y ∧ (y = 0 → 0 ≤ x) := by simpa [backB] using h
  omega
theorem det_flip (u v : V2) : detV v u = -detV u v := by
  unfold detV detZ
  grind
theorem plane_y (u v a : V2) : detV u v * a.2 = detV a v * u.2 + detV u a * v.2 := by
  unfold detV detZ
  grind
def inV (u v a : V2) : Prop := 0 ≤ detV a v ∧ 0 ≤ detV u a
theorem cover_a {u v a : V2} (hd : 0 < detV u v) (hv : aheadV v u = false) (h1 : aheadV a u = false) (h2 : aheadV a v = true) : inV u v a := by
  have hy := plane_y u v a
  cases bu : backB u.1 u.2 <;> cases bv : backB v.1 v.2 <;> cases ba : backB a.1 a.2
  all_goals simp only [aheadV, aheadB, bu, bv, ba] at hv h1 h2
  all_goals simp at hv h1 h2
  all_goals (have f1 := det_flip u a; have f2 := det_flip u v; unfold detV at f1 f2 hd; unfold inV; unfold detV at hy ⊢)
  · exact ⟨by omega, by omega⟩
  · have q : 0 ≤ detZ u.1 u.2 a.1 a.2 := by omega
    refine ⟨?_, q⟩
    have au := back_out ba
    have uu := back_out bu
    have vv := back_in bv
    have s1 := mul_nn (Int.le_of_lt hd) (show 0 ≤ a.2 by omega)
    have s2 := mul_np q (show v.2 ≤ 0 by omega)
    rcases uu with uu | ⟨uu, ux⟩
    · exact sgn_pos (y := u.2) (by omega) uu
    · exfalso
      unfold detZ at hd
      rw [uu, Int.zero_mul] at hd
      have := mul_np ux (show v.2 ≤ 0 by omega)
      omega
  · have q : 0 ≤ detZ a.1 a.2 v.1 v.2 := by omega
    refine ⟨q, ?_⟩
    have au := back_in ba
    have uu := back_out bu
    have vv := back_in bv
    have s1 := mul_np (Int.le_of_lt hd) (show a.2 ≤ 0 by omega)
    have s2 := mul_nn q (show 0 ≤ u.2 by omega)
    rcases vv with vv | ⟨vv, vx⟩
    · exact sgn_neg (y := v.2) (by omega) vv
    · exfalso
      unfold detZ at h2
      rw [vv, Int.mul_zero] at h2
      have := mul_nn (show 0 ≤ -a.2 by omega) (show 0 ≤ -v.1 by omega)
      rw [Int.neg_mul_neg] at this
      omega
  · exact ⟨by omega, by omega⟩
theorem cover_b {u v a : V2} (hd : 0 < detV u v) (hv : aheadV v u = true) (h : aheadV a v = true ∨ aheadV a u = false) : inV u v a := by
  have hy := plane_y u v a
  cases bu : backB u.1 u.2 <;> cases bv : backB v.1 v.2 <;> cases ba : backB a.1 a.2
  all_goals simp only [aheadV, aheadB, bu, bv, ba] at hv h
  all_goals simp at hv h
  all_goals (have f1 := det_flip u a; have f2 := det_flip u v; unfold detV at f1 f2 hd; unfold inV; unfold detV at hy ⊢)
  all_goals first | (exfalso; omega) | skip
  · have q : 0 ≤ detZ a.1 a.2 v.1 v.2 := by omega
    refine ⟨q, ?_⟩
    have au := back_out ba
    have uu := back_in bu
    have vv := back_out bv
    have s1 := mul_nn (Int.le_of_lt hd) (show 0 ≤ a.2 by omega)
    have s2 := mul_np q (show u.2 ≤ 0 by omega)
    rcases vv with vv | ⟨vv, vx⟩
    · exact sgn_pos (y := v.2) (by omega) vv
    · exfalso
      unfold detZ at h
      rw [vv, Int.mul_zero] at h
      have := mul_nn (show 0 ≤ a.2 by omega) vx
      omega
  · have q : 0 ≤ detZ u.1 u.2 a.1 a.2 := by omega
    refine ⟨?_, q⟩
    have au := back_in ba
    have uu := back_in bu
    have vv := back_out bv
    have s1 := mul_np (Int.le_of_lt hd) (show a.2 ≤ 0 by omega)
    have s2 := mul_nn q (show 0 ≤ v.2 by omega)
    rcases uu with uu | ⟨uu, ux⟩
    · exact sgn_neg (y := u.2) (by omega) uu
    · exfalso
      unfold detZ at hd
      rw [uu, Int.zero_mul] at hd
      have := mul_nn (show 0 ≤ -u.1 by omega) (show 0 ≤ v.2 by omega)
      rw [Int.neg_mul] at this
      omega
/-- one back alone: from the ray behind it on none is met ahead of the one before -/
theorem one_only {p : Nat → Bool} {n : Nat} (h : cnt p (List.range n) = 1) : ∃ b, b < n ∧ p b = true ∧ ∀ i, i < n → i ≠ b → p i = false := by
  have hl : ((List.range n).filter p).length = 1 := by rw [← List.countP_eq_length_filter]; exact h
  obtain ⟨b, hb⟩ := List.length_eq_one_iff.1 hl
  have hm : b ∈ (List.range n).filter p := by rw [hb]; exact List.mem_singleton_self b
  obtain ⟨h1, h2⟩ := List.mem_filter.1 hm
  refine ⟨b, List.mem_range.1 h1, h2, fun i hi hne => ?_⟩
  cases hp : p i
  · rfl
  · have : i ∈ (List.range n).filter p := List.mem_filter.2 ⟨List.mem_range.2 hi, hp⟩
    rw [hb] at this
    exact absurd (List.mem_singleton.1 this) hne
def inC (l : List V2) (i : Nat) (a : V2) : Bool := inB (cyc l i).1 (cyc l i).2 (cyc l (i + 1)).1 (cyc l (i + 1)).2 a.1 a.2
theorem inC_of {l : List V2} {i : Nat} {a : V2} (h : inV (cyc l i) (cyc l (i + 1)) a) : inC l i a = true := by
  unfold inV detV at h
  simp [inC, inB, h]
theorem inC_mod {l : List V2} {i : Nat} {a : V2} : inC l (i % l.length) a = inC l i a := by
  unfold inC
  rw [cyc_mod, show cyc l (i % l.length + 1) = cyc l (i + 1) from cyc_congr l (by rw [Nat.mod_add_mod])]
theorem bk_mod {l : List V2} {i : Nat} : bkB l (i % l.length) = bkB l i := by
  unfold bkB
  rw [cyc_mod, show cyc l (i % l.length + 1) = cyc l (i + 1) from cyc_congr l (by rw [Nat.mod_add_mod])]
theorem fan_covers {l : List V2} (h : fanB l = true) (a : V2) : ∃ i, i < l.length ∧ inC l i a = true := by
  obtain ⟨_, _, h1⟩ := fan_in h
  have hl := fan_len h
  obtain ⟨b, hb, hbk, hno⟩ := one_only (by simpa [oneBack] using h1)
  have hd : ∀ i, 0 < detV (cyc l i) (cyc l (i + 1)) := fun i => by
    obtain ⟨_, _, _, _, hp⟩ := cone_in (fan_cone h i)
    exact posB_true hp
  suffices hs : ∃ i, inV (cyc l i) (cyc l (i + 1)) a by
    obtain ⟨i, hi⟩ := hs
    exact ⟨i % l.length, Nat.mod_lt _ (by omega), by rw [inC_mod]; exact inC_of hi⟩
  have hnot : ∀ j, j < l.length - 1 → bkB l (b + 1 + j) = false := fun j hj => by
    rw [← bk_mod]
    refine hno _ (Nat.mod_lt _ (by omega)) (fun e => ?_)
    have e2 : (b + 1 + j) % l.length = b % l.length := by rw [e, Nat.mod_eq_of_lt hb]
    by_cases hw : b + 1 + j < l.length
    · rw [Nat.mod_eq_of_lt hw, Nat.mod_eq_of_lt hb] at e2
      omega
    · have e3 : b + 1 + j = (b + 1 + j - l.length) + l.length := by omega
      rw [e3, Nat.add_mod_right, Nat.mod_eq_of_lt (by omega), Nat.mod_eq_of_lt hb] at e2
      omega
  have elast : cyc l (b + 1 + (l.length - 1)) = cyc l b := by
    rw [show b + 1 + (l.length - 1) = b + l.length by omega, cyc_add]
  by_cases h0 : aheadV a (cyc l (b + 1)) = true
  · exact ⟨b, cover_b (hd b) hbk (.inl h0)⟩
  have key : ∀ k j, k + j = l.length - 1 → aheadV a (cyc l (b + 1 + j)) = false → ∃ i, inV (cyc l i) (cyc l (i + 1)) a := by
    intro k
    induction k with
    | zero =>
      intro j hj hn
      have : j = l.length - 1 := by omega
      subst this
      rw [elast] at hn
      exact ⟨b, cover_b (hd b) hbk (.inr hn)⟩
    | succ k ih =>
      intro j hj hn
      by_cases h2 : aheadV a (cyc l (b + 1 + (j + 1))) = true
      · exact ⟨b + 1 + j, cover_a (hd _) (hnot j (by omega)) hn h2⟩
      · exact ih (j + 1) (by omega) (by simpa using h2)
  exact key (l.length - 1) 0 (by omega) (by simpa using h0)
end Go.Proofs.YtcieihbknfeddaaDoor

/- Fans in memory: links with pointers round. -/
namespace Go.Proofs.YtcieihbknfeddaaDoor
open Go.RowKit

abbrev Node := Nat × V2
def linkObj (p : V2) (a z : Nat) : Obj := .cells #[.int .i64 p.1, .int .i64 p.2, .pointer (some ⟨a, 0, none⟩), .pointer (some ⟨z, 0, none⟩)] 116
def Link (W : World) (b : Nat) (p : V2) (a z : Nat) : Prop := W.heap[b]? = some (linkObj p a z)
theorem Link.lt {W : World} {b : Nat} {p : V2} {a z : Nat} (h : Link W b p a z) : b < W.heap.size := (Array.getElem?_eq_some_iff.1 h).1
theorem Link.c0 {W : World} {b : Nat} {p : V2} {a z : Nat} (h : Link W b p a z) : W.cell? ⟨b, 0, none⟩ = some (.int .i64 p.1) := by simp [World.cell?, show W.heap[b]? = _ from h, linkObj]
theorem Link.c1 {W : World} {b : Nat} {p : V2} {a z : Nat} (h : Link W b p a z) : W.cell? ⟨b, 1, none⟩ = some (.int .i64 p.2) := by simp [World.cell?, show W.heap[b]? = _ from h, linkObj]
theorem Link.c2 {W : World} {b : Nat} {p : V2} {a z : Nat} (h : Link W b p a z) : W.cell? ⟨b, 2, none⟩ = some (.pointer (some ⟨a, 0, none⟩)) := by simp [World.cell?, show W.heap[b]? = _ from h, linkObj]
theorem Link.c3 {W : World} {b : Nat} {p : V2} {a z : Nat} (h : Link W b p a z) : W.cell? ⟨b, 3, none⟩ = some (.pointer (some ⟨z, 0, none⟩)) := by simp [World.cell?, show W.heap[b]? = _ from h, linkObj]
theorem Link.free {W : World} {b : Nat} {p : V2} {a z : Nat} (h : Link W b p a z) (o : Nat) : W.frozen? ⟨b, o, none⟩ = false := by simp [World.frozen?, show W.heap[b]? = _ from h, linkObj]
theorem Link.same {W W' : World} {b : Nat} {p : V2} {a z : Nat} (h : Link W b p a z) (e : W'.heap[b]? = W.heap[b]?) : Link W' b p a z := e.trans h
theorem Link.set2 {W : World} {b : Nat} {p : V2} {a z : Nat} (h : Link W b p a z) (a' : Nat) : Link (W.setCell ⟨b, 2, none⟩ (.pointer (some ⟨a', 0, none⟩))) b p a' z := by
  obtain ⟨hlt, hk⟩ := Array.getElem?_eq_some_iff.1 h
  show (W.heap.modify b _)[b]? = _
  rw [Array.getElem?_eq_getElem (by rw [Array.size_modify]; exact hlt), Array.getElem_modify_self, hk]
  rfl
theorem Link.set3 {W : World} {b : Nat} {p : V2} {a z : Nat} (h : Link W b p a z) (z' : Nat) : Link (W.setCell ⟨b, 3, none⟩ (.pointer (some ⟨z', 0, none⟩))) b p a z' := by
  obtain ⟨hlt, hk⟩ := Array.getElem?_eq_some_iff.1 h
  show (W.heap.modify b _)[b]? = _
  rw [Array.getElem?_eq_getElem (by rw [Array.size_modify]; exact hlt), Array.getElem_modify_self, hk]
  rfl
theorem Link.far {W : World} {b : Nat} {p : V2} {a z : Nat} (h : Link W b p a z) {k o : Nat} (hk : b ≠ k) (u : Value) : Link (W.setCell ⟨k, o, none⟩ u) b p a z :=
  h.same (Below.heap_setCell W ⟨k, o, none⟩ u b hk)
theorem Link.alloc {W : World} {b : Nat} {p : V2} {a z : Nat} (h : Link W b p a z) (o : Obj) : Link (W.alloc o) b p a z := h.same (Below.heap_alloc W o b h.lt)

/-- the links lie in the memory, each between the one ahead of it and the one behind it, going round -/
structure Ring (W : World) (ns : List Node) : Prop where
  pos : 0 < ns.length
  two : ∀ i j, i < ns.length → j < ns.length → (cyc ns i).1 = (cyc ns j).1 → i = j
  link : ∀ i, Link W (cyc ns i).1 (cyc ns i).2 (cyc ns (i + ns.length - 1)).1 (cyc ns (i + 1)).1
theorem Ring.same {W W' : World} {ns : List Node} (h : Ring W ns) (e : ∀ p ∈ ns, W'.heap[p.1]? = W.heap[p.1]?) : Ring W' ns :=
  ⟨h.pos, h.two, fun i => (h.link i).same (e _ (cyc_mem h.pos i))⟩
theorem Ring.lt {W : World} {ns : List Node} (h : Ring W ns) (i : Nat) : (cyc ns i).1 < W.heap.size := (h.link i).lt
theorem Ring.mem_lt {W : World} {ns : List Node} (h : Ring W ns) {p : Node} (hp : p ∈ ns) : p.1 < W.heap.size := by
  obtain ⟨i, hi, rfl⟩ := List.mem_iff_getElem.1 hp
  have := h.lt i
  rwa [cyc_lt hi, List.getElem?_eq_getElem hi] at this
theorem Ring.below {W W' : World} {ns : List Node} (h : Ring W ns) (hb : Below W.heap.size W W') : Ring W' ns := h.same (fun _ hp => hb.block _ (h.mem_lt hp))
/-- said of the indexes alone -/
theorem ring_mk {W : World} {ns : List Node} (hp : 0 < ns.length) (h2 : ∀ i j, i < ns.length → j < ns.length → (cyc ns i).1 = (cyc ns j).1 → i = j)
    (h : ∀ i, i < ns.length → Link W (cyc ns i).1 (cyc ns i).2 (if i = 0 then cyc ns (ns.length - 1) else cyc ns (i - 1)).1 (if i + 1 = ns.length then cyc ns 0 else cyc ns (i + 1)).1) : Ring W ns := by
  refine ⟨hp, h2, fun i => ?_⟩
  have hi := Nat.mod_lt i hp
  have := h _ hi
  rw [← cyc_ahead hi, ← cyc_next, cyc_mod] at this
  rwa [show cyc ns (i % ns.length + 1) = cyc ns (i + 1) from cyc_congr ns (by rw [Nat.mod_add_mod]), show cyc ns (i % ns.length + ns.length - 1) = cyc ns (i + ns.length - 1) from cyc_congr ns (by
    rw [Nat.add_sub_assoc hp, Nat.add_sub_assoc hp, Nat.mod_add_mod])] at this
theorem Ring.at {W : World} {ns : List Node} (h : Ring W ns) {i : Nat} (hi : i < ns.length) : Link W (cyc ns i).1 (cyc ns i).2 (if i = 0 then cyc ns (ns.length - 1) else cyc ns (i - 1)).1 (if i + 1 = ns.length then cyc ns 0 else cyc ns (i + 1)).1 := by
  rw [← cyc_ahead hi, ← cyc_next]
  exact h.link i
theorem Ring.rot {W : World} {ns : List Node} (h : Ring W ns) {k : Nat} (hk : k ≤ ns.length) : Ring W (rot k ns) := by
  refine ⟨by rw [rot_len]; exact h.pos, fun i j hi hj e => ?_, fun i => ?_⟩
  · rw [rot_len] at hi hj
    rw [cyc_rot hk, cyc_rot hk] at e
    rw [← cyc_mod ns (k + i), ← cyc_mod ns (k + j)] at e
    have := h.two _ _ (Nat.mod_lt _ h.pos) (Nat.mod_lt _ h.pos) e
    by_cases hi2 : k + i < ns.length <;> by_cases hj2 : k + j < ns.length
    · rw [Nat.mod_eq_of_lt hi2, Nat.mod_eq_of_lt hj2] at this; omega
    · rw [Nat.mod_eq_of_lt hi2, show k + j = (k + j - ns.length) + ns.length by omega, Nat.add_mod_right, Nat.mod_eq_of_lt (by omega)] at this; omega
    · rw [Nat.mod_eq_of_lt hj2, show k + i = (k + i - ns.length) + ns.length by omega, Nat.add_mod_right, Nat.mod_eq_of_lt (by omega)] at this; omega
    · rw [show k + i = (k + i - ns.length) + ns.length by omega, show k + j = (k + j - ns.length) + ns.length by omega, Nat.add_mod_right, Nat.add_mod_right, Nat.mod_eq_of_lt (by omega), Nat.mod_eq_of_lt (by omega)] at this; omega
  · rw [cyc_rot hk, cyc_rot hk, cyc_rot hk, rot_len]
    have := h.link (k + i)
    have hp := h.pos
    rwa [show k + i + ns.length - 1 = k + (i + ns.length - 1) by omega, show k + i + 1 = k + (i + 1) by omega] at this
theorem cyc_snoc_lt {ns : List Node} {p : Node} {i : Nat} (h : i < ns.length) : cyc (ns ++ [p]) i = cyc ns i := by
  rw [cyc_lt h, cyc_lt (by simp; omega), List.getElem?_append_left h]
theorem cyc_snoc_last {ns : List Node} {p : Node} : cyc (ns ++ [p]) ns.length = p := by
  rw [cyc_lt (by simp), List.getElem?_append_right (Nat.le_refl _)]
  simp
/-- a new link behind the last one -/
theorem Ring.put {W : World} {ns : List Node} (h : Ring W ns) (p : V2) {W1 : World} {g : Nat} (hg : W.heap.size ≤ g) (hn : Link W1 g p (cyc ns (ns.length - 1)).1 (cyc ns 0).1) (hW : ∀ k, k < W.heap.size → W1.heap[k]? = W.heap[k]?) :
    Ring ((W1.setCell ⟨(cyc ns 0).1, 2, none⟩ (.pointer (some ⟨g, 0, none⟩))).setCell ⟨(cyc ns (ns.length - 1)).1, 3, none⟩ (.pointer (some ⟨g, 0, none⟩))) (ns ++ [(g, p)]) := by
  have hp := h.pos
  refine ring_mk (by simp) (fun i j hi hj e => ?_) (fun i hi => ?_)
  · simp at hi hj
    by_cases hi2 : i < ns.length <;> by_cases hj2 : j < ns.length
    · rw [cyc_snoc_lt hi2, cyc_snoc_lt hj2] at e
      exact h.two i j hi2 hj2 e
    · obtain rfl : j = ns.length := by omega
      rw [cyc_snoc_lt hi2, cyc_snoc_last] at e
      have := h.lt i
      have e' : (cyc ns i).1 = g := e
      omega
    · obtain rfl : i = ns.length := by omega
      rw [cyc_snoc_lt hj2, cyc_snoc_last] at e
      have := h.lt j
      have e' : g = (cyc ns j).1 := e
      omega
    · omega
  · simp at hi
    have hl : (ns ++ [(g, p)]).length = ns.length + 1 := by simp
    rw [hl]
    by_cases hi2 : i < ns.length
    · have hL := (h.at hi2).same (hW _ (h.lt i))
      have e0 : i ≠ 0 → (cyc ns i).1 ≠ (cyc ns 0).1 := fun h0 e => h0 (h.two i 0 hi2 hp e)
      have e1 : i + 1 ≠ ns.length → (cyc ns i).1 ≠ (cyc ns (ns.length - 1)).1 := fun h0 e => h0 (by have := h.two i _ hi2 (by omega) e; omega)
      rw [cyc_snoc_lt hi2, if_neg (by omega : ¬ i + 1 = ns.length + 1)]
      have eL : (if i = 0 then cyc (ns ++ [(g, p)]) (ns.length + 1 - 1) else cyc (ns ++ [(g, p)]) (i - 1)).1 = if i = 0 then g else (cyc ns (i - 1)).1 := by
        split
        · rw [Nat.add_sub_cancel, cyc_snoc_last]
        · rw [cyc_snoc_lt (by omega)]
      have eR : (cyc (ns ++ [(g, p)]) (i + 1)).1 = if i + 1 = ns.length then g else (cyc ns (i + 1)).1 := by
        split
        · next e => rw [e, cyc_snoc_last]
        · rw [cyc_snoc_lt (by omega)]
      rw [eL, eR]
      by_cases i0 : i = 0
      · subst i0
        simp only [if_true] at hL ⊢
        have h2 := hL.set2 g
        by_cases i1 : 0 + 1 = ns.length
        · rw [if_pos i1] at h2 ⊢
          rw [show ns.length - 1 = 0 by omega]
          exact h2.set3 g
        · rw [if_neg i1] at h2 ⊢
          exact h2.far (e1 i1) _
      · simp only [if_neg i0] at hL ⊢
        have h2 := hL.far (o := 2) (e0 i0) (.pointer (some ⟨g, 0, none⟩))
        by_cases i1 : i + 1 = ns.length
        · rw [if_pos i1] at h2 ⊢
          have ei : ns.length - 1 = i := by omega
          rw [ei]
          exact h2.set3 g
        · rw [if_neg i1] at h2 ⊢
          exact h2.far (e1 i1) _
    · obtain rfl : i = ns.length := by omega
      rw [cyc_snoc_last, if_neg (by omega : ¬ ns.length = 0), if_pos rfl, cyc_snoc_lt (by omega), cyc_snoc_lt hp]
      have a0 := h.lt 0
      have a1 := h.lt (ns.length - 1)
      exact (hn.far (show g ≠ _ by omega) _).far (show g ≠ _ by omega) _
/-- the last link is taken out -/
theorem Ring.take {W : World} {ns : List Node} {p : Node} (h : Ring W (ns ++ [p])) (hp : 0 < ns.length) :
    Ring ((W.setCell ⟨(cyc ns (ns.length - 1)).1, 3, none⟩ (.pointer (some ⟨(cyc ns 0).1, 0, none⟩))).setCell ⟨(cyc ns 0).1, 2, none⟩ (.pointer (some ⟨(cyc ns (ns.length - 1)).1, 0, none⟩))) ns := by
  have hl : (ns ++ [p]).length = ns.length + 1 := by simp
  have h2 : ∀ i j, i < ns.length → j < ns.length → (cyc ns i).1 = (cyc ns j).1 → i = j := fun i j hi hj e =>
    h.two i j (by omega) (by omega) (by rwa [cyc_snoc_lt hi, cyc_snoc_lt hj])
  refine ring_mk hp h2 (fun i hi => ?_)
  have hL := h.at (i := i) (by omega)
  rw [hl, cyc_snoc_lt hi, if_neg (by omega : ¬ i + 1 = ns.length + 1)] at hL
  have e0 : i ≠ 0 → (cyc ns i).1 ≠ (cyc ns 0).1 := fun h0 e => h0 (h2 i 0 hi hp e)
  have e1 : i + 1 ≠ ns.length → (cyc ns i).1 ≠ (cyc ns (ns.length - 1)).1 := fun h0 e => h0 (by have := h2 i _ hi (by omega) e; omega)
  have A : Link (W.setCell ⟨(cyc ns (ns.length - 1)).1, 3, none⟩ (.pointer (some ⟨(cyc ns 0).1, 0, none⟩))) (cyc ns i).1 (cyc ns i).2 (if i = 0 then cyc (ns ++ [p]) (ns.length + 1 - 1) else cyc (ns ++ [p]) (i - 1)).1 (if i + 1 = ns.length then cyc ns 0 else cyc ns (i + 1)).1 := by
    by_cases i1 : i + 1 = ns.length
    · rw [if_pos i1]
      rw [show ns.length - 1 = i by omega]
      exact hL.set3 _
    · rw [if_neg i1]
      rw [cyc_snoc_lt (i := i + 1) (by omega)] at hL
      exact hL.far (e1 i1) _
  by_cases i0 : i = 0
  · subst i0
    rw [if_pos rfl]
    exact A.set2 _
  · rw [if_neg i0] at A ⊢
    rw [cyc_snoc_lt (i := i - 1) (by omega)] at A
    exact A.far (e0 i0) _

/-! fans -/
def fanObj (a n : Nat) : Obj := .cells #[.pointer (some ⟨a, 0, none⟩), .int .i64 n] 135
def Fan0 (W : World) (g a n : Nat) : Prop := W.heap[g]? = some (fanObj a n)
theorem Fan0.lt {W : World} {g a n : Nat} (h : Fan0 W g a n) : g < W.heap.size := (Array.getElem?_eq_some_iff.1 h).1
theorem Fan0.c0 {W : World} {g a n : Nat} (h : Fan0 W g a n) : W.cell? ⟨g, 0, none⟩ = some (.pointer (some ⟨a, 0, none⟩)) := by simp [World.cell?, show W.heap[g]? = _ from h, fanObj]
theorem Fan0.c1 {W : World} {g a n : Nat} (h : Fan0 W g a n) : W.cell? ⟨g, 1, none⟩ = some (.int .i64 n) := by simp [World.cell?, show W.heap[g]? = _ from h, fanObj]
theorem Fan0.free {W : World} {g a n : Nat} (h : Fan0 W g a n) (o : Nat) : W.frozen? ⟨g, o, none⟩ = false := by simp [World.frozen?, show W.heap[g]? = _ from h, fanObj]
theorem Fan0.set0 {W : World} {g a n : Nat} (h : Fan0 W g a n) (a' : Nat) : Fan0 (W.setCell ⟨g, 0, none⟩ (.pointer (some ⟨a', 0, none⟩))) g a' n := by
  obtain ⟨hlt, hk⟩ := Array.getElem?_eq_some_iff.1 h
  show (W.heap.modify g _)[g]? = _
  rw [Array.getElem?_eq_getElem (by rw [Array.size_modify]; exact hlt), Array.getElem_modify_self, hk]
  rfl
theorem Fan0.set1 {W : World} {g a n : Nat} (h : Fan0 W g a n) (n' : Nat) : Fan0 (W.setCell ⟨g, 1, none⟩ (.int .i64 n')) g a n' := by
  obtain ⟨hlt, hk⟩ := Array.getElem?_eq_some_iff.1 h
  show (W.heap.modify g _)[g]? = _
  rw [Array.getElem?_eq_getElem (by rw [Array.size_modify]; exact hlt), Array.getElem_modify_self, hk]
  rfl
/-- the fan g with the links ns, from the first one on, all of it from block 'base' on -/
structure FanAt (W : World) (base g : Nat) (ns : List Node) : Prop where
  ring : Ring W ns
  head : Fan0 W g (cyc ns 0).1 ns.length
  apart : ∀ p ∈ ns, p.1 ≠ g
  low : ∀ p ∈ ns, base ≤ p.1
  lowg : base ≤ g
theorem FanAt.below {W W' : World} {base g : Nat} {ns : List Node} (h : FanAt W base g ns) (hb : Below W.heap.size W W') : FanAt W' base g ns :=
  ⟨h.ring.below hb, (hb.block g h.head.lt).trans h.head, h.apart, h.low, h.lowg⟩
theorem FanAt.lower {W : World} {base base' g : Nat} {ns : List Node} (h : FanAt W base g ns) (hb : base' ≤ base) : FanAt W base' g ns :=
  ⟨h.ring, h.head, h.apart, fun p hp => Nat.le_trans hb (h.low p hp), Nat.le_trans hb h.lowg⟩
def rays (ns : List Node) : List V2 := ns.map (·.2)
theorem rays_len (ns : List Node) : (rays ns).length = ns.length := by simp [rays]
theorem rays_cyc {ns : List Node} (h : 0 < ns.length) (i : Nat) : cyc (rays ns) i = (cyc ns i).2 := cyc_map _ h i
end Go.Proofs.YtcieihbknfeddaaDoor
