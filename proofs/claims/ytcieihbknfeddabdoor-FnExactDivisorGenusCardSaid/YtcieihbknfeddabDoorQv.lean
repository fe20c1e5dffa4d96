/- Euler numbers, genera: the model's functions. -/
import Derived.Test.YtcieihbknfeddabDoorBf
import Derived.Test.YtcieihbknfeddabDoorBe
namespace Go.Proofs.YtcieihbknfeddabDoor
open Go.RowKit

theorem eul_prod_bnd {l : List V2} {d : List Int} {s : Int} (hd : divB l d = true) (hs : s = 1 ∨ s = -1) : -808000808000 ≤ prodZ l d (sumL d s (canL l.length)) ∧ prodZ l d (sumL d s (canL l.length)) ≤ 808000808000 := by
  unfold prodZ
  have hS := div_smooth hd
  have hb : bnd 101 (sumL d s (canL l.length)) := by
    refine sumL_bnd (A := 100) (B := 1) (div_bnd hd) (fun j => ?_) (by omega) (by omega)
    have := can_bnd l.length j
    rcases hs with rfl | rfl <;> omega
  exact dot_bnd (div_bnd hd) (fun i => by have := deg_bnd hS hb i; omega) (div_len hd).2
theorem tdiv2_bnd {p : Int} (h : -808000808000 ≤ p ∧ p ≤ 808000808000) : -808000808000 ≤ p.tdiv 2 ∧ p.tdiv 2 ≤ 808000808000 := by
  by_cases h0 : 0 ≤ p
  · rw [Int.tdiv_eq_ediv_of_nonneg h0]
    omega
  · obtain ⟨q, rfl⟩ : ∃ q, p = -q := ⟨-p, by omega⟩
    rw [Int.neg_tdiv, Int.tdiv_eq_ediv_of_nonneg (by omega)]
    omega
set_option maxHeartbeats 8000000 in
theorem specDivisorEuler_any (v : Value) (l : List V2) (u : Value) (d : List Int) (w : World) (hl : ReadsVecs w v l) (hd : ReadsInts w u d) :
    Calls Tryd.prog 46 #[v, u] w fun e w' => e = .returned (.tuple #[.int .i64 (gate (divB l d) (eulZ l d (-1))), .bool (divB l d)]) ∧ Below w.heap.size w w' := by
  have HI := Lib.hid (specDivisorIn_any v l u d w hl hd)
  have HC := Lib.hid (fun w' (hb : Below w.heap.size w w') (h : divB l d = true) => l4Canonical_any v l w' (hl.below hb) (by have := div_len h; omega))
  have HS := Lib.hid (fun u' w' (hb : Below w.heap.size w w') (hI : ReadsInts w' u' (canL l.length)) (h : divB l d = true) => l4Sum_any u u' d (canL l.length) (-1) w' (hd.below hb) hI (by rw [(div_in h).2.1]; simp [canL]) (by have := div_len h; have := (div_in h).2.1; omega) (bnd_big (div_bnd h) (by omega)) (bnd_mono (can_bnd l.length) (by omega)) (by omega))
  have HP := Lib.hid (fun u' w' (hb : Below w.heap.size w w') (hI : ReadsInts w' u' (sumL d (-1) (canL l.length))) (h : divB l d = true) => l4Product_any v u u' l d (sumL d (-1) (canL l.length)) w' (hl.below hb) (hd.below hb) hI (div_in h).2.1 (by rw [sumL_len]; exact (div_in h).2.1) (div_len h).2 (by have := div_len h; omega) (div_smooth h) (div_bnd h) (sumL_bnd (A := 100) (B := 1) (div_bnd h) (fun j => by have := can_bnd l.length j; omega) (by omega) (by omega)))
  have HE := Lib.hid (fun (h : divB l d = true) => eul_is (l := l) (d := d) (-1) (div_in h).2.1)
  have HB := Lib.hid (fun (h : divB l d = true) => eul_prod_bnd (l := l) (d := d) (s := (-1)) h (by omega))
  have HL : Hid (divB l d = true → (canL l.length).length ≤ 1000 ∧ (sumL d (-1) (canL l.length)).length ≤ 1000) := fun h => by have := div_len h; have := (div_in h).2.1; rw [sumL_len]; simp [canL]; omega
  obtain ⟨p1, q1, rfl, _⟩ := hd.len
  clear hl hd
  cases hb : divB l d
  · rw [hb] at HI
    clear hb HC HS HP HE HB HL
    go_enter Tryd.func46, Tryd.ntmps46
    go_wp2_with fail
    refine Calls.mono HI.out ?_
    rintro e w1 ⟨rfl, hb1⟩
    go_wp2
    go_returns
    exact ⟨rfl, hb1⟩
  · rw [hb] at HI
    have HC2 := Lib.hid (fun w' h => HC.out w' h hb)
    have HS2 := Lib.hid (fun u' w' h hI => HS.out u' w' h hI hb)
    have HP2 := Lib.hid (fun u' w' h hI => HP.out u' w' h hI hb)
    have e1 := HE.out hb
    have hpb := HB.out hb
    have HL2 := Lib.hid (HL.out hb)
    rw [← e1]
    have htb := tdiv2_bnd hpb
    clear hb HC HS HP HE HB HL e1
    generalize sumL d (-1) (canL l.length) = S at *
    generalize canL l.length = C at *
    generalize prodZ l d S = z at *
    have q2 : IntKind.i64.wrap (z.tdiv 2) = z.tdiv 2 := by rw [IntKind.wrap_i64]; omega
    have q3 : IntKind.i64.wrap (1 + z.tdiv 2) = 1 + z.tdiv 2 := by rw [IntKind.wrap_i64]; omega
    go_enter Tryd.func46, Tryd.ntmps46
    go_wp2_with fail
    refine Calls.mono HI.out ?_
    rintro e w1 ⟨rfl, hb1⟩
    go_wp2_with fail
    refine Calls.mono (HC2.out _ hb1) ?_
    rintro e w2 ⟨v2, rfl, hI, hb2⟩
    have hB2 := belowTo hb1 hb2
    have hR2 := hI.reads (by have := HL2.out.1; omega)
    clear hI hb2 hb1
    go_wp2_with fail
    refine Calls.mono (HS2.out _ _ hB2 hR2) ?_
    rintro e w3 ⟨v3, rfl, hI, hb3⟩
    have hB3 := belowTo hB2 hb3
    have hR3 := hI.reads (by have := HL2.out.2; omega)
    clear hI hb3 hB2 hR2
    go_wp2_with fail
    refine Calls.mono (HP2.out _ _ hB3 hR3) ?_
    rintro e w4 ⟨rfl, hb4⟩
    have hB4 := belowTo hB3 hb4
    clear hb4 hB3 hR3
    go_wp2
    go_returns
    exact ⟨by first | rfl | simp [gate], hB4⟩
set_option maxHeartbeats 8000000 in
theorem specDivisorGenus_any (v : Value) (l : List V2) (u : Value) (d : List Int) (w : World) (hl : ReadsVecs w v l) (hd : ReadsInts w u d) :
    Calls Tryd.prog 48 #[v, u] w fun e w' => e = .returned (.tuple #[.int .i64 (gate (divB l d) (eulZ l d 1)), .bool (divB l d)]) ∧ Below w.heap.size w w' := by
  have HI := Lib.hid (specDivisorIn_any v l u d w hl hd)
  have HC := Lib.hid (fun w' (hb : Below w.heap.size w w') (h : divB l d = true) => l4Canonical_any v l w' (hl.below hb) (by have := div_len h; omega))
  have HS := Lib.hid (fun u' w' (hb : Below w.heap.size w w') (hI : ReadsInts w' u' (canL l.length)) (h : divB l d = true) => l4Sum_any u u' d (canL l.length) 1 w' (hd.below hb) hI (by rw [(div_in h).2.1]; simp [canL]) (by have := div_len h; have := (div_in h).2.1; omega) (bnd_big (div_bnd h) (by omega)) (bnd_mono (can_bnd l.length) (by omega)) (by omega))
  have HP := Lib.hid (fun u' w' (hb : Below w.heap.size w w') (hI : ReadsInts w' u' (sumL d 1 (canL l.length))) (h : divB l d = true) => l4Product_any v u u' l d (sumL d 1 (canL l.length)) w' (hl.below hb) (hd.below hb) hI (div_in h).2.1 (by rw [sumL_len]; exact (div_in h).2.1) (div_len h).2 (by have := div_len h; omega) (div_smooth h) (div_bnd h) (sumL_bnd (A := 100) (B := 1) (div_bnd h) (fun j => by have := can_bnd l.length j; omega) (by omega) (by omega)))
  have HE := Lib.hid (fun (h : divB l d = true) => eul_is (l := l) (d := d) 1 (div_in h).2.1)
  have HB := Lib.hid (fun (h : divB l d = true) => eul_prod_bnd (l := l) (d := d) (s := 1) h (by omega))
  have HL : Hid (divB l d = true → (canL l.length).length ≤ 1000 ∧ (sumL d 1 (canL l.length)).length ≤ 1000) := fun h => by have := div_len h; have := (div_in h).2.1; rw [sumL_len]; simp [canL]; omega
  obtain ⟨p1, q1, rfl, _⟩ := hd.len
  clear hl hd
  cases hb : divB l d
  · rw [hb] at HI
    clear hb HC HS HP HE HB HL
    go_enter Tryd.func48, Tryd.ntmps48
    go_wp2_with fail
    refine Calls.mono HI.out ?_
    rintro e w1 ⟨rfl, hb1⟩
    go_wp2
    go_returns
    exact ⟨rfl, hb1⟩
  · rw [hb] at HI
    have HC2 := Lib.hid (fun w' h => HC.out w' h hb)
    have HS2 := Lib.hid (fun u' w' h hI => HS.out u' w' h hI hb)
    have HP2 := Lib.hid (fun u' w' h hI => HP.out u' w' h hI hb)
    have e1 := HE.out hb
    have hpb := HB.out hb
    have HL2 := Lib.hid (HL.out hb)
    rw [← e1]
    have htb := tdiv2_bnd hpb
    clear hb HC HS HP HE HB HL e1
    generalize sumL d 1 (canL l.length) = S at *
    generalize canL l.length = C at *
    generalize prodZ l d S = z at *
    have q2 : IntKind.i64.wrap (z.tdiv 2) = z.tdiv 2 := by rw [IntKind.wrap_i64]; omega
    have q3 : IntKind.i64.wrap (1 + z.tdiv 2) = 1 + z.tdiv 2 := by rw [IntKind.wrap_i64]; omega
    go_enter Tryd.func48, Tryd.ntmps48
    go_wp2_with fail
    refine Calls.mono HI.out ?_
    rintro e w1 ⟨rfl, hb1⟩
    go_wp2_with fail
    refine Calls.mono (HC2.out _ hb1) ?_
    rintro e w2 ⟨v2, rfl, hI, hb2⟩
    have hB2 := belowTo hb1 hb2
    have hR2 := hI.reads (by have := HL2.out.1; omega)
    clear hI hb2 hb1
    go_wp2_with fail
    refine Calls.mono (HS2.out _ _ hB2 hR2) ?_
    rintro e w3 ⟨v3, rfl, hI, hb3⟩
    have hB3 := belowTo hB2 hb3
    have hR3 := hI.reads (by have := HL2.out.2; omega)
    clear hI hb3 hB2 hR2
    go_wp2_with fail
    refine Calls.mono (HP2.out _ _ hB3 hR3) ?_
    rintro e w4 ⟨rfl, hb4⟩
    have hB4 := belowTo hB3 hb4
    clear hb4 hB3 hR3
    go_wp2
    go_returns
    exact ⟨by first | rfl | simp [gate], hB4⟩
end Go.Proofs.YtcieihbknfeddabDoor
