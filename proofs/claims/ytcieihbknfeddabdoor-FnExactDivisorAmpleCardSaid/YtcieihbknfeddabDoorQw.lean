/- Divisors that are nef, ample: the model's side. -/
import Derived.Test.YtcieihbknfeddabDoorBf
import Derived.Test.YtcieihbknfeddabDoorBe
import Derived.WalkLawsBesides
namespace Go.Proofs.YtcieihbknfeddabDoor
open Go.RowKit

def minTo (q : Nat → Int) : Nat → Int
  | 0 => q 0
  | k + 1 => min (minTo q k) (q (k + 1))
theorem minTo_nonneg {q : Nat → Int} {m : Nat} : 0 ≤ minTo q m ↔ ∀ i, i ≤ m → 0 ≤ q i := by
  induction m with
  | zero =>
    constructor
    · intro h i hi
      obtain rfl : i = 0 := by omega
      exact h
    · intro h
      exact h 0 (Nat.le_refl _)
  | succ m ih =>
    unfold minTo
    rw [Int.le_min, ih]
    constructor
    · rintro ⟨h1, h2⟩ i hi
      by_cases e : i = m + 1
      · subst e; exact h2
      · exact h1 i (by omega)
    · intro h
      exact ⟨fun i hi => h i (by omega), h (m + 1) (Nat.le_refl _)⟩
theorem minTo_pos {q : Nat → Int} {m : Nat} : 0 < minTo q m ↔ ∀ i, i ≤ m → 0 < q i := by
  induction m with
  | zero =>
    constructor
    · intro h i hi
      obtain rfl : i = 0 := by omega
      exact h
    · intro h
      exact h 0 (Nat.le_refl _)
  | succ m ih =>
    unfold minTo
    rw [Int.lt_min, ih]
    constructor
    · rintro ⟨h1, h2⟩ i hi
      by_cases e : i = m + 1
      · subst e; exact h2
      · exact h1 i (by omega)
    · intro h
      exact ⟨fun i hi => h i (by omega), h (m + 1) (Nat.le_refl _)⟩
theorem nef_is {l : List V2} {d : List Int} (h0 : 0 < l.length) : nefL (degsZ l d) = decide (0 ≤ minTo (degZ l d) (l.length - 1)) := by
  rw [Bool.eq_iff_iff, decide_eq_true_iff, minTo_nonneg]
  unfold nefL degsZ
  rw [List.all_map, List.all_eq_true]
  constructor
  · intro h i hi
    have := h i (List.mem_range.2 (by omega))
    simpa using this
  · intro h i hi
    have := h i (by have := List.mem_range.1 hi; omega)
    simpa using this
theorem amp_is {l : List V2} {d : List Int} (h0 : 0 < l.length) : ampL (degsZ l d) = decide (0 < minTo (degZ l d) (l.length - 1)) := by
  rw [Bool.eq_iff_iff, decide_eq_true_iff, minTo_pos]
  unfold ampL degsZ
  rw [List.all_map, List.all_eq_true]
  constructor
  · intro h i hi
    have := h i (List.mem_range.2 (by omega))
    simpa using this
  · intro h i hi
    have := h i (by have := List.mem_range.1 hi; omega)
    simpa using this
theorem gz_degsW {l : List V2} {d : List Int} {k : Nat} (h : k < l.length) : gz (degsZ l d) k = degZ l d k := gz_tab _ h
theorem min_ite (x t : Int) : (if t < x then t else x) = min x t := by
  by_cases h : t < x
  · rw [if_pos h]; omega
  · rw [if_neg h]; omega
set_option maxHeartbeats 8000000 in
theorem l4Least_any (v u : Value) (l : List V2) (d : List Int) (w : World) (hv : ReadsVecs w v l) (hu : ReadsInts w u d) (hd : d.length = l.length) (hm : l.length ≤ 20) (h0 : 0 < l.length) (hS : Smooth l) (hb : bnd 101 d) :
    Calls Tryd.prog 76 #[v, u] w fun e w' => e = .returned (.int .i64 (minTo (degZ l d) (l.length - 1))) ∧ Below w.heap.size w w' := by
  have HD := Lib.hid (l4Degrees_any v u l d w hv hu hd (by omega) h0 hS hb)
  have HG := Lib.hid (fun k (h : k < l.length) => gz_degsW (l := l) (d := d) h)
  have HL2 := Lib.hid (degs_len l d)
  obtain ⟨p1, p2, rfl, _, _, _⟩ := hv
  obtain ⟨p3, p4, rfl, _⟩ := hu.len
  have HMn : Hid (∀ k, minTo (degZ l d) (k + 1) = min (minTo (degZ l d) k) (degZ l d (k + 1))) := fun _ => rfl
  have HM0 : Hid (minTo (degZ l d) 0 = degZ l d 0) := rfl
  obtain ⟨n, hn⟩ : ∃ n, n = l.length := ⟨_, rfl⟩
  have HN := Lib.hid hn
  rw [← hn] at HG hm h0 HD HL2 ⊢
  clear hu hd hb hS hn
  go_enter Tryd.func76, Tryd.ntmps76
  go_wp2_with fail
  refine Calls.mono HD.out ?_
  rintro e w1 ⟨v7, rfl, hI, hb1⟩
  obtain ⟨bv, ov, cv, rfl, _, hbv, hvs⟩ := (hI.reads (show (degsZ l d).length ≤ 1152921504606846976 by have := HL2.out; omega)).open (by have := HL2.out; omega)
  rw [HL2.out] at hvs ⊢
  have HVs := Lib.hid hvs
  have c00 := hvs w1 (Below.refl _ _) 0 h0
  rw [HG.out 0 h0, ← HM0.out, Nat.add_zero] at c00
  have i0 : (0 : Int) < (n : Int) := by omega
  clear hI hvs HD
  go_wp2
  go_loopw [6, 7] (fun s6 s7 wr => ∃ k : Nat, k + 1 ≤ n ∧ s6 = .int .i64 (minTo (degZ l d) k) ∧ s7 = .int .i64 ((k : Int) + 1) ∧ Below w1.heap.size w1 wr) (fun _ s7 _ => n - (intOf s7).toNat)
  case atStart => exact ⟨0, by omega, rfl, rfl, Below.refl _ _⟩
  case round =>
    obtain ⟨k, hk, rfl, rfl, hB⟩ := hrel
    have i1 : (0 : Int) ≤ (k : Int) + 1 := by omega
    by_cases hlt : k + 1 < n
    · have i2 : (k : Int) + 1 < (n : Int) := by omega
      have d1 := HVs.out wr hB (k + 1) hlt
      rw [HG.out (k + 1) hlt] at d1
      have HMk := Lib.hid (HMn.out k)
      have i3 : ((k : Int) + 1).toNat = k + 1 := by omega
      generalize minTo (degZ l d) k = x at *
      generalize degZ l d (k + 1) = t at *
      clear HVs HG
      go_wp2
      go_roundw
      case rel => exact ⟨k + 1, by omega, by rw [HMk.out, min_ite], by simp, hB⟩
      case measure => simp [intOf]; omega
    · obtain rfl : n = k + 1 := by omega
      have i2 : ¬ (k : Int) + 1 < ((k + 1 : Nat) : Int) := by omega
      have hBw := hb1.trans (hB.mono hb1.size)
      go_wp2
      go_returns
      exact ⟨rfl, hBw⟩
set_option maxHeartbeats 4000000 in
theorem specDivisorNef_any (v : Value) (l : List V2) (u : Value) (d : List Int) (w : World) (hl : ReadsVecs w v l) (hd : ReadsInts w u d) :
    Calls Tryd.prog 38 #[v, u] w fun e w' => e = .returned (.bool (nefDB l d)) ∧ Below w.heap.size w w' := by
  have HI := Lib.hid (specDivisorIn_any v l u d w hl hd)
  have HL := Lib.hid (fun w' (hb : Below w.heap.size w w') (h : divB l d = true) => l4Least_any v u l d w' (hl.below hb) (hd.below hb) (div_in h).2.1 (div_len h).2 (by have := div_len h; omega) (div_smooth h) (bnd_mono (div_bnd h) (by omega)))
  have HN : divB l d = true → nefL (degsZ l d) = decide (0 ≤ minTo (degZ l d) (l.length - 1)) := fun h => nef_is (by have := div_len h; omega)
  unfold nefDB
  clear hl hd
  cases hb : divB l d
  · rw [hb] at HI
    clear hb HL HN
    go_enter Tryd.func38, Tryd.ntmps38
    go_wp2_with fail
    refine Calls.mono HI.out ?_
    rintro e w1 ⟨rfl, hb1⟩
    go_wp2
    go_returns
    exact ⟨rfl, hb1⟩
  · rw [hb] at HI
    have HL2 := Lib.hid (fun w' h => HL.out w' h hb)
    rw [HN hb]
    clear hb HL HN
    generalize minTo (degZ l d) (l.length - 1) = z at *
    by_cases hz : 0 ≤ z
    · have e0 : (true && decide (0 ≤ z)) = true := by simp [hz]
      rw [e0]
      clear e0
      go_enter Tryd.func38, Tryd.ntmps38
      go_wp2_with fail
      refine Calls.mono HI.out ?_
      rintro e w1 ⟨rfl, hb1⟩
      go_wp2_with fail
      refine Calls.mono (HL2.out _ hb1) ?_
      rintro e w2 ⟨rfl, hb2⟩
      have hB := belowTo hb1 hb2
      clear hb1 hb2
      go_wp2
      go_returns
      exact ⟨by first | rfl | simp [*], hB⟩
    · have e0 : (true && decide (0 ≤ z)) = false := by simp [hz]
      rw [e0]
      clear e0
      go_enter Tryd.func38, Tryd.ntmps38
      go_wp2_with fail
      refine Calls.mono HI.out ?_
      rintro e w1 ⟨rfl, hb1⟩
      go_wp2_with fail
      refine Calls.mono (HL2.out _ hb1) ?_
      rintro e w2 ⟨rfl, hb2⟩
      have hB := belowTo hb1 hb2
      clear hb1 hb2
      go_wp2
      go_returns
      exact ⟨by first | rfl | simp [*], hB⟩
set_option maxHeartbeats 4000000 in
theorem specDivisorAmple_any (v : Value) (l : List V2) (u : Value) (d : List Int) (w : World) (hl : ReadsVecs w v l) (hd : ReadsInts w u d) :
    Calls Tryd.prog 40 #[v, u] w fun e w' => e = .returned (.bool (ampDB l d)) ∧ Below w.heap.size w w' := by
  have HI := Lib.hid (specDivisorIn_any v l u d w hl hd)
  have HL := Lib.hid (fun w' (hb : Below w.heap.size w w') (h : divB l d = true) => l4Least_any v u l d w' (hl.below hb) (hd.below hb) (div_in h).2.1 (div_len h).2 (by have := div_len h; omega) (div_smooth h) (bnd_mono (div_bnd h) (by omega)))
  have HN : divB l d = true → ampL (degsZ l d) = decide (0 < minTo (degZ l d) (l.length - 1)) := fun h => amp_is (by have := div_len h; omega)
  unfold ampDB
  clear hl hd
  cases hb : divB l d
  · rw [hb] at HI
    clear hb HL HN
    go_enter Tryd.func40, Tryd.ntmps40
    go_wp2_with fail
    refine Calls.mono HI.out ?_
    rintro e w1 ⟨rfl, hb1⟩
    go_wp2
    go_returns
    exact ⟨rfl, hb1⟩
  · rw [hb] at HI
    have HL2 := Lib.hid (fun w' h => HL.out w' h hb)
    rw [HN hb]
    clear hb HL HN
    generalize minTo (degZ l d) (l.length - 1) = z at *
    by_cases hz : 0 < z
    · have e0 : (true && decide (0 < z)) = true := by simp [hz]
      rw [e0]
      clear e0
      go_enter Tryd.func40, Tryd.ntmps40
      go_wp2_with fail
      refine Calls.mono HI.out ?_
      rintro e w1 ⟨rfl, hb1⟩
      go_wp2_with fail
      refine Calls.mono (HL2.out _ hb1) ?_
      rintro e w2 ⟨rfl, hb2⟩
      have hB := belowTo hb1 hb2
      clear hb1 hb2
      go_wp2
      go_returns
      exact ⟨by first | rfl | simp [*], hB⟩
    · have e0 : (true && decide (0 < z)) = false := by simp [hz]
      rw [e0]
      clear e0
      go_enter Tryd.func40, Tryd.ntmps40
      go_wp2_with fail
      refine Calls.mono HI.out ?_
      rintro e w1 ⟨rfl, hb1⟩
      go_wp2_with fail
      refine Calls.mono (HL2.out _ hb1) ?_
      rintro e w2 ⟨rfl, hb2⟩
      have hB := belowTo hb1 hb2
      clear hb1 hb2
      go_wp2
      go_returns
      exact ⟨by first | rfl | simp [*], hB⟩
end Go.Proofs.YtcieihbknfeddabDoor
