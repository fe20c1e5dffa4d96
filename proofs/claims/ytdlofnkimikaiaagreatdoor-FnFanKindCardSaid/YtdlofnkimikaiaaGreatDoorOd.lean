/- Moved fans: moved back, smooth as before, of the same kind: the mathematics of the promises of chapters 3 and 8. -/
import Derived.Test.YtdlofnkimikaiaaGreatDoorI9
import Derived.Test.YtdlofnkimikaiaaGreatDoorPm
namespace Go.Proofs.YtdlofnkimikaiaaGreatDoor
open Go.RowKit

theorem moved_len (l : List V2) (e f g h : Int) : (movedZ l e f g h).length = l.length := by simp [movedZ, movedL]
theorem moved_cyc {l : List V2} (h0 : 0 < l.length) (e f g h : Int) (i : Nat) : cyc (movedZ l e f g h) i = (moveX e f (cyc l i).1 (cyc l i).2, moveX g h (cyc l i).1 (cyc l i).2) := by
  have hm := Nat.mod_lt i h0
  rw [← cyc_mod (movedZ l e f g h), moved_len, ← cyc_mod l i, cyc_lt (by rw [moved_len]; exact hm)]
  unfold movedZ movedL
  rw [List.getElem?_map, List.getElem?_range hm]
  rfl
def mvP (e f g h : Int) (u : V2) : V2 := (moveX e f u.1 u.2, moveX g h u.1 u.2)
theorem mvP_det (e f g h : Int) (u v : V2) : dtV (mvP e f g h u) (mvP e f g h v) = detM e f g h * dtV u v := by
  unfold dtV mvP moveX detM
  dsimp only
  grind
theorem moved_mem {l : List V2} (e f g h : Int) (x : V2) : x ∈ movedZ l e f g h ↔ ∃ u, u ∈ l ∧ mvP e f g h u = x := by
  unfold movedZ movedL
  rw [List.mem_map]
  constructor
  · rintro ⟨i, hi, rfl⟩
    have hi := List.mem_range.1 hi
    exact ⟨cyc l i, cyc_mem (by omega) i, rfl⟩
  · rintro ⟨u, hu, rfl⟩
    obtain ⟨i, hi, rfl⟩ := List.mem_iff_getElem.1 hu
    refine ⟨i, List.mem_range.2 hi, ?_⟩
    have : cyc l i = l[i] := by rw [cyc_lt hi, List.getElem?_eq_getElem hi]; rfl
    rw [this]
    rfl
theorem det_pm {e f g h : Int} (hM : matB e f g h = true) : detM e f g h = 1 ∨ detM e f g h = -1 := by
  have := (mat_in hM).2
  unfold detOk at this
  simpa using this
/-- turned over: from the last one to the first one -/
theorem RndV.flip {n : Nat} {u u' : Nat → V2} (h : RndV n u) (h0 : 0 < n) (F : V2 → V2) (hF : ∀ a b, dtV (F a) (F b) = dtV b a) (hp : ∀ i, u' (i + n) = u' i) (hR : ∀ x y c, x + y + 1 = n * c → u' x = F (u y)) : RndV n u' := by
  have mex : ∀ z, ∃ y c, z + y = n * c := fun z => ⟨n * z - z, z, by have := Nat.le_mul_of_pos_left z h0; omega⟩
  refine ⟨hp, fun i => ?_, fun j t t' ht htt hn hle => ?_⟩
  · obtain ⟨y, c, e⟩ := mex (i + 1 + 1)
    rw [hR (i + 1) y c (by omega), hR i (y + 1) c (by omega), hF]
    exact h.turn y
  · obtain ⟨b, c, e⟩ := mex (j + t' + 1)
    rw [hR (j + t') b c (by omega), hR j (b + t') c (by omega), hF]
    rw [hR (j + t) (b + (t' - t)) c (by omega), hR j (b + t') c (by omega), hF] at hle
    refine Int.not_le.1 (fun q => ?_)
    have f1 := dt_flip (u b) (u (b + t'))
    have k := h.neg (b + t') (n - t') (n - t' + (t' - t)) (by omega) (by omega) (by omega) (by
      rw [show b + t' + (n - t') = b + n by omega, h.per]; omega)
    rw [show b + t' + (n - t' + (t' - t)) = b + (t' - t) + n by omega, h.per] at k
    have f2 := dt_flip (u (b + (t' - t))) (u (b + t'))
    omega
theorem cyc_back {l : List V2} {x y c : Nat} (h : x + y + 1 = l.length * c) : cyc l.reverse x = cyc l y := by
  have h0 : 0 < l.length := by
    rcases Nat.eq_zero_or_pos l.length with q | q
    · rw [q, Nat.zero_mul] at h; omega
    · exact q
  have hx := Nat.div_add_mod x l.length
  have hX := Nat.mod_lt x h0
  rw [← cyc_mod l.reverse x, List.length_reverse, cyc_lt (by rw [List.length_reverse]; exact hX), List.getElem?_reverse hX, ← cyc_lt (by omega : l.length - 1 - x % l.length < l.length)]
  refine cyc_congr l ?_
  have a : y + l.length * (x / l.length) = l.length - 1 - x % l.length + l.length * (c - 1) := by
    have hc : 1 ≤ c := by
      rcases Nat.eq_zero_or_pos c with q | q
      · rw [q, Nat.mul_zero] at h; omega
      · exact q
    obtain ⟨c', rfl⟩ : ∃ c', c = c' + 1 := ⟨c - 1, by omega⟩
    rw [Nat.mul_succ] at h
    rw [Nat.add_sub_cancel]
    omega
  rw [← Nat.add_mul_mod_self_left y l.length (x / l.length), a, Nat.add_mul_mod_self_left]
/-- a moved fan, the right way round, is a fan -/
def wayR (l : List V2) (e f g h : Int) : List V2 := if detM e f g h = 1 then movedZ l e f g h else (movedZ l e f g h).reverse
theorem wayR_len (l : List V2) (e f g h : Int) : (wayR l e f g h).length = l.length := by
  unfold wayR
  split <;> simp [moved_len]
theorem wayR_mem (l : List V2) (e f g h : Int) (x : V2) : x ∈ wayR l e f g h ↔ x ∈ movedZ l e f g h := by
  unfold wayR
  split <;> simp
theorem wayR_cyc {l : List V2} (h0 : 0 < l.length) {e f g h : Int} (hd : detM e f g h ≠ 1) {x y c : Nat} (hxy : x + y + 1 = l.length * c) : cyc (wayR l e f g h) x = mvP e f g h (cyc l y) := by
  unfold wayR
  rw [if_neg hd, cyc_back (by rw [moved_len]; exact hxy), moved_cyc h0]
  rfl
theorem wayR_rnd {l : List V2} (hf : fanB l = true) {e f g h : Int} (hM : matB e f g h = true) : RndV (wayR l e f g h).length (cyc (wayR l e f g h)) := by
  have hr := fan_rnd hf
  have h3 := fan_len hf
  rw [wayR_len]
  by_cases hd : detM e f g h = 1
  · have ec : cyc (wayR l e f g h) = fun i => mvP e f g h (cyc l i) := funext fun i => by
      unfold wayR
      rw [if_pos hd, moved_cyc (by omega)]
      rfl
    rw [ec]
    have dd : ∀ u v, dtV (mvP e f g h u) (mvP e f g h v) = dtV u v := fun u v => by rw [mvP_det, hd, Int.one_mul]
    exact ⟨fun i => by show mvP e f g h (cyc l (i + l.length)) = _; rw [cyc_add], fun i => by rw [dd]; exact hr.turn i, fun j t t' a b c d => by rw [dd] at *; exact hr.neg j t t' a b c d⟩
  · have hm : detM e f g h = -1 := by have := det_pm hM; omega
    refine hr.flip (by omega) (mvP e f g h) (fun a b => ?_) (fun i => ?_) (fun x y c hxy => wayR_cyc (by omega) hd hxy)
    · rw [mvP_det, hm, dt_flip a b]
      omega
    · have := cyc_add (wayR l e f g h) i
      rwa [wayR_len] at this
theorem wayR_fan {l : List V2} (hf : fanB l = true) {e f g h : Int} (hM : matB e f g h = true) (hp : (movedZ l e f g h).all primV = true) : fanB (wayR l e f g h) = true := by
  have h3 := fan_len hf
  refine fan_mk (by rw [wayR_len]; omega) (by rw [wayR_len]; omega) (fun i => ?_) (wayR_rnd hf hM)
  have hm := cyc_mem (l := wayR l e f g h) (by rw [wayR_len]; omega) i
  exact all_prim hp _ ((wayR_mem l e f g h _).1 hm)
theorem mvD_in {l : List V2} {e f g h : Int} (hk : mvB l e f g h = true) : fanB l = true ∧ matB e f g h = true ∧ (movedZ l e f g h).all primV = true ∧ fanB (sortL (movedZ l e f g h)) = true := by
  unfold mvB ofB at hk
  simpa [and_assoc] using hk
theorem sort_way {l : List V2} (hf : fanB l = true) {e f g h : Int} (hM : matB e f g h = true) (hp : (movedZ l e f g h).all primV = true) : sortL (movedZ l e f g h) = tidyL (wayR l e f g h) := by
  have hw := wayR_fan hf hM hp
  rw [← fan_sort hw]
  exact strict_unique (strict_sort (all_prim hp)) (strict_sort (fan_allP hw)) (fun x => by rw [mem_sort, mem_sort, wayR_mem])
theorem mv_out {l : List V2} (hf : fanB l = true) {e f g h : Int} (hM : matB e f g h = true) (hp : (movedZ l e f g h).all primV = true) : mvB l e f g h = true := by
  unfold mvB ofB
  rw [hf, hM, hp, sort_way hf hM hp, fan_tidyF (wayR_fan hf hM hp)]
  rfl
theorem way_smooth {l : List V2} (hf : fanB l = true) {e f g h : Int} (hM : matB e f g h = true) (hw : fanB (wayR l e f g h) = true) : smoothB (wayR l e f g h) = smoothB l := by
  have h3 := fan_len hf
  have h0 : 0 < l.length := by omega
  have a : (∀ i, detV (cyc (wayR l e f g h) i) (cyc (wayR l e f g h) (i + 1)) = 1) ↔ ∀ i, detV (cyc l i) (cyc l (i + 1)) = 1 := by
    by_cases hd : detM e f g h = 1
    · have ec : ∀ i, cyc (wayR l e f g h) i = mvP e f g h (cyc l i) := fun i => by
        unfold wayR
        rw [if_pos hd, moved_cyc h0]
        rfl
      have dd : ∀ i, detV (cyc (wayR l e f g h) i) (cyc (wayR l e f g h) (i + 1)) = detV (cyc l i) (cyc l (i + 1)) := fun i => by
        rw [ec, ec]
        show dtV _ _ = dtV _ _
        rw [mvP_det, hd, Int.one_mul]
      exact ⟨fun q i => by rw [← dd]; exact q i, fun q i => by rw [dd]; exact q i⟩
    · have hm : detM e f g h = -1 := by have := det_pm hM; omega
      have mex : ∀ z, ∃ y c, z + y = l.length * c := fun z => ⟨l.length * z - z, z, by have := Nat.le_mul_of_pos_left z h0; omega⟩
      have dd : ∀ x y c, x + y + 2 = l.length * c → detV (cyc (wayR l e f g h) x) (cyc (wayR l e f g h) (x + 1)) = detV (cyc l y) (cyc l (y + 1)) := fun x y c hc => by
        rw [wayR_cyc h0 hd (y := y + 1) (c := c) (by omega), wayR_cyc h0 hd (y := y) (c := c) (by omega)]
        show dtV _ _ = dtV _ _
        rw [mvP_det, hm, dt_flip (cyc l (y + 1))]
        omega
      constructor
      · intro q i
        obtain ⟨y, c, hc⟩ := mex (i + 2)
        rw [← dd y i c (by omega)]
        exact q y
      · intro q i
        obtain ⟨y, c, hc⟩ := mex (i + 2)
        rw [dd i y c (by omega)]
        exact q y
  have b : ∀ {L : List V2}, fanB L = true → (smoothB L = true ↔ ∀ i, detV (cyc L i) (cyc L (i + 1)) = 1) := fun hL => ⟨fun q => (smooth_all q).2, fun q => smooth_mk hL q⟩
  rw [Bool.eq_iff_iff, b hw, b hf, a]
/-- moved and moved back -/
theorem mvP_back {e f g h : Int} (hM : matB e f g h = true) (u : V2) : mvP (detM e f g h * h) (-(detM e f g h * f)) (-(detM e f g h * g)) (detM e f g h * e) (mvP e f g h u) = u := by
  have hd := det_pm hM
  have h2 : detM e f g h * detM e f g h = 1 := by rcases hd with q | q <;> rw [q] <;> rfl
  have h3 : detM e f g h = e * h - f * g := rfl
  generalize detM e f g h = D at *
  unfold mvP moveX
  refine Prod.ext ?_ ?_ <;> dsimp only <;> grind
theorem mvD_back {l : List V2} {e f g h : Int} (hk : mvB l e f g h = true) (hB : matB (detM e f g h * h) (-(detM e f g h * f)) (-(detM e f g h * g)) (detM e f g h * e) = true) :
    mvB (sortL (movedZ l e f g h)) (detM e f g h * h) (-(detM e f g h * f)) (-(detM e f g h * g)) (detM e f g h * e) = true ∧
    sortL (movedZ (sortL (movedZ l e f g h)) (detM e f g h * h) (-(detM e f g h * f)) (-(detM e f g h * g)) (detM e f g h * e)) = tidyL l ∧ smoothB (sortL (movedZ l e f g h)) = smoothB l := by
  obtain ⟨hf, hM, hp, hs⟩ := mvD_in hk
  have hmem : ∀ x, x ∈ movedZ (sortL (movedZ l e f g h)) (detM e f g h * h) (-(detM e f g h * f)) (-(detM e f g h * g)) (detM e f g h * e) ↔ x ∈ l := by
    intro x
    rw [moved_mem]
    constructor
    · rintro ⟨u, hu, rfl⟩
      obtain ⟨v, hv, rfl⟩ := (moved_mem e f g h u).1 (mem_sort.1 hu)
      rw [mvP_back hM]
      exact hv
    · intro hx
      exact ⟨mvP e f g h x, mem_sort.2 ((moved_mem e f g h _).2 ⟨x, hx, rfl⟩), mvP_back hM x⟩
  have hp2 : (movedZ (sortL (movedZ l e f g h)) (detM e f g h * h) (-(detM e f g h * f)) (-(detM e f g h * g)) (detM e f g h * e)).all primV = true :=
    List.all_eq_true.2 (fun x hx => fan_allP hf x ((hmem x).1 hx))
  refine ⟨mv_out hs hB hp2, ?_, ?_⟩
  · rw [← fan_sort hf]
    exact strict_unique (strict_sort (all_prim hp2)) (strict_sort (fan_allP hf)) (fun x => by rw [mem_sort, mem_sort, hmem])
  · have hw := wayR_fan hf hM hp
    have h3 := fan_len hw
    rw [sort_way hf hM hp]
    unfold tidyL
    rw [smooth_rotB (Nat.le_of_lt (tidyK_lt (by omega))), way_smooth hf hM hw]
/-! a quarter turn -/
theorem quarter_mat : matB 0 (-1) 1 0 = true := by decide +kernel
theorem quarter_all {l : List V2} (hs : smoothB l = true) : mvB l 0 (-1) 1 0 = true ∧ smoothB (sortL (movedZ l 0 (-1) 1 0)) = true ∧ kind4 (sortL (movedZ l 0 (-1) 1 0)) = kind4 l ∧ (sortL (movedZ l 0 (-1) 1 0)).length = l.length := by
  have hf := (smooth_in hs).1
  have h3 := fan_len hf
  have hp : (movedZ l 0 (-1) 1 0).all primV = true := List.all_eq_true.2 (fun x hx => by
    obtain ⟨u, hu, rfl⟩ := (moved_mem 0 (-1) 1 0 x).1 hx
    obtain ⟨p1, p2⟩ := prim_in (fan_allP hf u hu)
    have e : mvP 0 (-1) 1 0 u = (-u.2, u.1) := by
      unfold mvP moveX
      refine Prod.ext ?_ ?_ <;> dsimp only <;> omega
    rw [e]
    unfold primV primB
    have a := szs p1
    have v : vecB (-u.2) u.1 = true := vec_of (by omega)
    have o : oneB (-u.2) u.1 = true := by
      have := oneB_true p2
      unfold oneB
      have eg : gcdZ (-u.2) u.1 = gcdZ u.1 u.2 := by
        unfold gcdZ
        rw [Int.natAbs_neg, Nat.gcd_comm]
      rw [eg, this]
      rfl
    rw [v, o]
    rfl)
  have hm := mv_out hf quarter_mat hp
  have hw := wayR_fan hf quarter_mat hp
  have hl := wayR_len l 0 (-1) 1 0
  have hK : tidyK (wayR l 0 (-1) 1 0) ≤ (wayR l 0 (-1) 1 0).length := Nat.le_of_lt (tidyK_lt (by omega))
  have hd : detM 0 (-1) 1 0 = 1 := by decide
  have hn : ∀ i, numZ (wayR l 0 (-1) 1 0) i = numZ l i := by
    intro i
    unfold numZ
    rw [hl]
    unfold wayR
    rw [if_pos hd, moved_cyc (by omega), moved_cyc (by omega)]
    congr 1
    show dtV (mvP 0 (-1) 1 0 _) (mvP 0 (-1) 1 0 _) = dtV _ _
    rw [mvP_det, hd, Int.one_mul]
  rw [sort_way hf quarter_mat hp]
  unfold tidyL
  rw [smooth_rotB hK, kind_rot hK, way_smooth hf quarter_mat hw, rot_len]
  refine ⟨hm, hs, ?_, hl⟩
  unfold kind4 kindM
  rw [hl, hn, hn]
theorem kind_low (l : List V2) : (-1 : Int) ≤ kind4 l := by
  unfold kind4 kindM
  split
  · omega
  · split
    · split <;> split <;> omega
    · omega
end Go.Proofs.YtdlofnkimikaiaaGreatDoor
