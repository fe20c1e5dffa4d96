import Derived.Test.YtcieihbknfeddaaB6
import Derived.Shelf.SlSortCmp.WholeK
/- Sorted lists of primitive vectors: the mathematics. -/
namespace Go.Proofs.Ytcieihbknfeddaa
open Go.RowKit

theorem det_trans0 {a b c d e f : Int} (hu : 0 < b ∨ (b = 0 ∧ 0 < a)) (hv : 0 < d ∨ (d = 0 ∧ 0 < c)) (hz : 0 < f ∨ (f = 0 ∧ 0 < e)) (h1 : 0 < a * d - b * c) (h2 : 0 < c * f - d * e) : 0 < a * f - b * e := by
  have hb : 0 ≤ b := by omega
  have hf : 0 ≤ f := by omega
  have hd : 0 < d := by
    rcases hv with h | ⟨h, hc⟩
    · exact h
    · exfalso
      subst h
      have : 0 ≤ b * c := Int.mul_nonneg hb (by omega)
      simp at h1
      omega
  have e0 : d * (a * f - b * e) = f * (a * d - b * c) + b * (c * f - d * e) := by grind
  have h3 : 0 < f * (a * d - b * c) + b * (c * f - d * e) := by
    rcases hz with h | ⟨h, he⟩
    · have x1 := Int.mul_pos h h1
      have x2 := Int.mul_nonneg hb (Int.le_of_lt h2)
      omega
    · subst h
      have x3 := Int.mul_pos hd he
      simp at h2
      omega
  rw [← e0] at h3
  exact Int.pos_of_mul_pos_right h3 hd
theorem back_false {x y : Int} (h0 : nzB x y = true) (h : backB x y = false) : 0 < y ∨ (y = 0 ∧ 0 < x) := by
  have h' : ¬ (x = 0 ∧ y = 0) := by rintro ⟨rfl, rfl⟩; simp [nzB] at h0
  simp [backB] at h
  omega
theorem back_true {x y : Int} (h : backB x y = true) : 0 < -y ∨ (-y = 0 ∧ 0 < -x) := by
  simp [backB] at h
  omega
def NZ (v : V2) : Prop := nzB v.1 v.2 = true
theorem ahead_same {u v : V2} (h : backB u.1 u.2 = backB v.1 v.2) : aheadV u v = decide (0 < detZ u.1 u.2 v.1 v.2) := by
  unfold aheadV aheadB
  rw [h]
  simp
theorem ahead_other {u v : V2} (h : backB u.1 u.2 ≠ backB v.1 v.2) : aheadV u v = backB v.1 v.2 := by
  unfold aheadV aheadB
  rw [if_neg (by simpa using h)]
theorem ahead_asymm {u v : V2} (h : aheadV u v = true) : aheadV v u = false := by
  by_cases k : backB u.1 u.2 = backB v.1 v.2
  · rw [ahead_same k] at h
    rw [ahead_same k.symm]
    have := of_decide_eq_true h
    unfold detZ at *
    apply decide_eq_false
    have e1 : v.1 * u.2 = u.2 * v.1 := Int.mul_comm _ _
    have e2 : v.2 * u.1 = u.1 * v.2 := Int.mul_comm _ _
    omega
  · rw [ahead_other k] at h
    rw [ahead_other (Ne.symm k)]
    cases h3 : backB u.1 u.2
    · rfl
    · rw [h3, h] at k
      exact absurd rfl k
theorem ahead_trans {u v z : V2} (hu : NZ u) (hv : NZ v) (hz : NZ z) (h1 : aheadV u v = true) (h2 : aheadV v z = true) : aheadV u z = true := by
  by_cases k1 : backB u.1 u.2 = backB v.1 v.2
  · by_cases k2 : backB v.1 v.2 = backB z.1 z.2
    · rw [ahead_same k1] at h1
      rw [ahead_same k2] at h2
      rw [ahead_same (k1.trans k2)]
      have h1 := of_decide_eq_true h1
      have h2 := of_decide_eq_true h2
      apply decide_eq_true
      unfold detZ at *
      cases h3 : backB u.1 u.2
      · exact det_trans0 (back_false hu h3) (back_false hv (k1.symm.trans h3)) (back_false hz ((k1.trans k2).symm.trans h3)) h1 h2
      · have := det_trans0 (back_true h3) (back_true (k1.symm.trans h3)) (back_true ((k1.trans k2).symm.trans h3)) (by rw [Int.neg_mul_neg, Int.neg_mul_neg]; exact h1) (by rw [Int.neg_mul_neg, Int.neg_mul_neg]; exact h2)
        rwa [Int.neg_mul_neg, Int.neg_mul_neg] at this
    · rw [ahead_other k2] at h2
      have k3 : backB u.1 u.2 ≠ backB z.1 z.2 := by rw [k1]; exact k2
      rw [ahead_other k3]
      exact h2
  · rw [ahead_other k1] at h1
    by_cases k2 : backB v.1 v.2 = backB z.1 z.2
    · have k3 : backB u.1 u.2 ≠ backB z.1 z.2 := by rw [← k2]; exact k1
      rw [ahead_other k3, ← k2]
      exact h1
    · rw [ahead_other k2] at h2
      rw [h1, h2] at k2
      exact absurd rfl k2
theorem par_mul {a b c d : Int} (h : oneB a b = true) (h0 : detZ a b c d = 0) : ∃ t, c = t * a ∧ d = t * b := by
  have hp := part_one a b (oneB_true h)
  generalize (partZ a b).1 = p at hp
  generalize (partZ a b).2 = q at hp
  unfold detZ at h0
  exact ⟨p * c + q * d, by grind, by grind⟩
theorem ahead_total {u v : V2} (hu : oneB u.1 u.2 = true) (hv : oneB v.1 v.2 = true) (h1 : aheadV u v = false) (h2 : aheadV v u = false) : u = v := by
  by_cases k : backB u.1 u.2 = backB v.1 v.2
  · rw [ahead_same k] at h1
    rw [ahead_same k.symm] at h2
    have h1 := of_decide_eq_false h1
    have h2 := of_decide_eq_false h2
    have h0 : detZ u.1 u.2 v.1 v.2 = 0 := by
      unfold detZ at *
      have e1 : v.1 * u.2 = u.2 * v.1 := Int.mul_comm _ _
      have e2 : v.2 * u.1 = u.1 * v.2 := Int.mul_comm _ _
      omega
    obtain ⟨a, b⟩ := u
    obtain ⟨c, d⟩ := v
    dsimp only at *
    obtain ⟨t, rfl, rfl⟩ := par_mul hu h0
    have hg := oneB_true hv
    unfold gcdZ at hg
    rw [Int.natAbs_mul, Int.natAbs_mul, Nat.gcd_mul_left] at hg
    have ht : t.natAbs = 1 := Nat.eq_one_of_mul_eq_one_right (by exact_mod_cast hg)
    have ht2 : t = 1 ∨ t = -1 := by omega
    rcases ht2 with rfl | rfl
    · simp
    · exfalso
      cases h3 : backB a b
      · have x1 := back_false (one_nz hu) h3
        have x2 := back_false (one_nz hv) (k.symm.trans h3)
        omega
      · have x1 := back_true h3
        have x2 := back_true (k.symm.trans h3)
        omega
  · rw [ahead_other k] at h1
    rw [ahead_other (Ne.symm k)] at h2
    rw [h1, h2] at k
    exact absurd rfl k

/-! lists in order -/
def Strict (l : List V2) : Prop := l.Pairwise (fun u v => aheadV u v = true)
def AllP (l : List V2) : Prop := ∀ v ∈ l, primB v.1 v.2 = true
theorem prim_one {v : V2} (h : primB v.1 v.2 = true) : oneB v.1 v.2 = true := (prim_in h).2
theorem prim_nz {v : V2} (h : primB v.1 v.2 = true) : NZ v := one_nz (prim_one h)
theorem strict_unique : ∀ {a b : List V2}, Strict a → Strict b → (∀ x, x ∈ a ↔ x ∈ b) → a = b
  | [], [], _, _, _ => rfl
  | [], y :: b, _, _, h => by have := (h y).2 (List.mem_cons_self ..); cases this
  | x :: a, [], _, _, h => by have := (h x).1 (List.mem_cons_self ..); cases this
  | x :: a, y :: b, ha, hb, h => by
    unfold Strict at ha hb
    rw [List.pairwise_cons] at ha hb
    have e : x = y := by
      have h1 := (h x).1 (List.mem_cons_self ..)
      have h2 := (h y).2 (List.mem_cons_self ..)
      rcases List.mem_cons.1 h1 with e | h1
      · exact e
      · rcases List.mem_cons.1 h2 with e | h2
        · exact e.symm
        · have k1 := hb.1 x h1
          have k2 := ha.1 y h2
          rw [ahead_asymm k1] at k2
          cases k2
    subst e
    have hx : ∀ {l : List V2}, (∀ z ∈ l, aheadV x z = true) → x ∉ l := fun h hm => by have := h _ hm; rw [ahead_self] at this; cases this
    rw [strict_unique ha.2 hb.2 (fun z => ?_)]
    constructor
    · intro hz
      rcases List.mem_cons.1 ((h z).1 (List.mem_cons_of_mem _ hz)) with rfl | h3
      · exact absurd hz (hx ha.1)
      · exact h3
    · intro hz
      rcases List.mem_cons.1 ((h z).2 (List.mem_cons_of_mem _ hz)) with rfl | h3
      · exact absurd hz (hx hb.1)
      · exact h3
/-- the different ones of some vectors, in order -/
def insF (v : V2) : List V2 → List V2
  | [] => [v]
  | x :: xs => if aheadV v x then v :: x :: xs else if v = x then x :: xs else x :: insF v xs
def sortL (l : List V2) : List V2 := l.foldr insF []
theorem mem_ins {v z : V2} : ∀ {l : List V2}, z ∈ insF v l ↔ z = v ∨ z ∈ l
  | [] => by simp [insF]
  | x :: xs => by
    unfold insF
    by_cases h1 : aheadV v x = true
    · rw [if_pos h1]; simp
    · rw [if_neg h1]
      by_cases h2 : v = x
      · rw [if_pos h2]; subst h2; simp
      · rw [if_neg h2, List.mem_cons, mem_ins, List.mem_cons]
        constructor
        · rintro (h | h | h)
          · exact .inr (.inl h)
          · exact .inl h
          · exact .inr (.inr h)
        · rintro (h | h | h)
          · exact .inr (.inl h)
          · exact .inl h
          · exact .inr (.inr h)
theorem strict_ins {v : V2} (hv : primB v.1 v.2 = true) : ∀ {l : List V2}, AllP l → Strict l → Strict (insF v l)
  | [], _, _ => by unfold insF Strict; simp
  | x :: xs, hp, hs => by
    have hx := hp x (List.mem_cons_self ..)
    unfold Strict at hs
    rw [List.pairwise_cons] at hs
    unfold insF
    by_cases h1 : aheadV v x = true
    · rw [if_pos h1]
      refine List.pairwise_cons.2 ⟨fun z hz => ?_, List.pairwise_cons.2 hs⟩
      rcases List.mem_cons.1 hz with rfl | hz'
      · exact h1
      · exact ahead_trans (prim_nz hv) (prim_nz hx) (prim_nz (hp z hz)) h1 (hs.1 z hz')
    · rw [if_neg h1]
      by_cases h2 : v = x
      · rw [if_pos h2]
        exact List.pairwise_cons.2 hs
      · rw [if_neg h2]
        refine List.pairwise_cons.2 ⟨fun z hz => ?_, strict_ins hv (fun z hz => hp z (List.mem_cons_of_mem _ hz)) hs.2⟩
        rcases mem_ins.1 hz with rfl | hz
        · cases h3 : aheadV x z
          · exact absurd (ahead_total (prim_one hv) (prim_one hx) (by simpa using h1) h3) h2
          · rfl
        · exact hs.1 z hz
theorem mem_sort {z : V2} : ∀ {l : List V2}, z ∈ sortL l ↔ z ∈ l
  | [] => by simp [sortL]
  | x :: xs => by
    show z ∈ insF x (sortL xs) ↔ _
    rw [mem_ins, mem_sort, List.mem_cons]
theorem strict_sort : ∀ {l : List V2}, AllP l → Strict (sortL l)
  | [], _ => by simp [sortL, Strict]
  | x :: xs, h => by
    show Strict (insF x (sortL xs))
    exact strict_ins (h x (List.mem_cons_self ..)) (fun z hz => h z (List.mem_cons_of_mem _ (mem_sort.1 hz))) (strict_sort (fun z hz => h z (List.mem_cons_of_mem _ hz)))
theorem sort_is {l o : List V2} (hl : AllP l) (ho : Strict o) (h : ∀ x, x ∈ o ↔ x ∈ l) : o = sortL l :=
  strict_unique ho (strict_sort hl) (fun x => (h x).trans mem_sort.symm)

/-! the order, as slices.SortFunc asks for it -/
abbrev PV := { v : V2 // primB v.1 v.2 = true }
instance : Inhabited PV := ⟨⟨(1, 0), by decide +kernel⟩⟩
def cmpV (u v : V2) : Int := if aheadV u v then -1 else if aheadV v u then 1 else 0
def cfP (x y : PV) : Int := cmpV x.1 y.1
theorem lt_is (x y : PV) : ltOf cfP x y = aheadV x.1 y.1 := by
  unfold ltOf cfP cmpV
  cases h1 : aheadV x.1 y.1
  · cases h2 : aheadV y.1 x.1 <;> simp
  · simp
theorem total_P {x y : PV} (h1 : aheadV x.1 y.1 = false) (h2 : aheadV y.1 x.1 = false) : x = y :=
  Subtype.ext (ahead_total (prim_one x.2) (prim_one y.2) h1 h2)
theorem swoP : Go.Sort.SWO (ltOf cfP) where
  irrefl x := by rw [lt_is, ahead_self]
  trans x y z h1 h2 := by
    rw [lt_is] at *
    exact ahead_trans (prim_nz x.2) (prim_nz y.2) (prim_nz z.2) h1 h2
  ntrans x y z h1 h2 := by
    rw [lt_is] at *
    cases h3 : aheadV y.1 x.1
    · have := total_P h1 h3
      subst this
      exact h2
    · cases h4 : aheadV x.1 z.1
      · rfl
      · have h5 := ahead_trans (prim_nz y.2) (prim_nz x.2) (prim_nz z.2) h3 h4
        rw [h2] at h5
        cases h5
end Go.Proofs.Ytcieihbknfeddaa

/- Fans of lists: the mathematics that both sides share. -/
namespace Go.Proofs.Ytcieihbknfeddaa
open Go.RowKit

theorem sort_perm {l l' : List V2} (hp : AllP l) (h : l'.Perm l) : sortL l' = sortL l :=
  sort_is hp (strict_sort (fun v hv => hp v (h.mem_iff.1 hv))) (fun _ => mem_sort.trans h.mem_iff)
def primV (v : V2) : Bool := primB v.1 v.2
def ofB (l : List V2) : Bool := l.all primV && fanB (sortL l)
theorem all_prim {l : List V2} (h : l.all primV = true) : AllP l := fun v hv => List.all_eq_true.1 h v hv
theorem take_all {l : List V2} {k : Nat} (h : ∀ j, j < k → primV (cyc l j) = true) (hx : primV (cyc l k) = true) : ∀ j, j < k + 1 → primV (cyc l j) = true := fun j hj => by
  by_cases e : j = k
  · rw [e]; exact hx
  · exact h j (by omega)
theorem all_of {l : List V2} (h : ∀ j, j < l.length → primV (cyc l j) = true) : l.all primV = true := by
  rw [List.all_eq_true]
  intro v hv
  obtain ⟨i, hi, rfl⟩ := List.mem_iff_getElem.1 hv
  have := h i hi
  rwa [cyc_lt hi, List.getElem?_eq_getElem hi] at this
theorem of_not {l : List V2} {k : Nat} (hk : k < l.length) (h : primV (cyc l k) = false) : ofB l = false := by
  unfold ofB
  have : l.all primV = false := List.all_eq_false.2 ⟨cyc l k, cyc_mem (by omega) k, by simp [h]⟩
  rw [this]
  rfl
theorem of_fan {l : List V2} (h : ∀ j, j < l.length → primV (cyc l j) = true) : ofB l = fanB (sortL l) := by
  unfold ofB
  rw [all_of h]
  rfl
end Go.Proofs.Ytcieihbknfeddaa
