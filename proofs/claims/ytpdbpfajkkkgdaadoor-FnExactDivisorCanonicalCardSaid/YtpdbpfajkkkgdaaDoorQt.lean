/- Divisors: the model's functions. -/
import Derived.Test.YtpdbpfajkkkgdaaDoorQo
import Derived.Test.YtpdbpfajkkkgdaaDoorQq
namespace Go.Proofs.YtpdbpfajkkkgdaaDoor
open Go.RowKit

set_option maxHeartbeats 4000000 in
theorem specDivisorDegrees_any (v : Value) (l : List V2) (u : Value) (d : List Int) (w : World) (hl : ReadsVecs w v l) (hd : ReadsInts w u d) :
    Calls Tryd.prog 29 #[v, u] w (GivesIntsOk w (gV (divB l d) (degsZ l d)) (divB l d)) := by
  have HI := Lib.hid (specDivisorIn_any v l u d w hl hd)
  have HE := Lib.hid (fun w' => Ints.empty w')
  have HD := Lib.hid (fun w' (hb : Below w.heap.size w w') (h : divB l d = true) => l4Degrees_any v u l d w' (hl.below hb) (hd.below hb) (div_in h).2.1 (by have := div_len h; omega) (by have := div_len h; omega) (div_smooth h) (bnd_mono (div_bnd h) (by omega)))
  clear hl hd
  cases hb : divB l d
  · rw [hb] at HI
    clear hb HD
    go_enter Tryd.func29, Tryd.ntmps29
    go_wp2_with fail
    refine Calls.mono HI.out ?_
    rintro e w1 ⟨rfl, hb1⟩
    have hs1 := hb1.size
    have HE2 := Lib.hid ((HE.out w1).lower hs1)
    go_wp2
    go_returns
    exact ⟨_, rfl, HE2.out, by go_grown⟩
  · rw [hb] at HI HD
    clear hb
    go_enter Tryd.func29, Tryd.ntmps29
    go_wp2_with fail
    refine Calls.mono HI.out ?_
    rintro e w1 ⟨rfl, hb1⟩
    have hs1 := hb1.size
    go_wp2_with fail
    refine Calls.mono (HD.out _ hb1 (by simp)) ?_
    rintro e w2 ⟨v2, rfl, hI, hb2⟩
    have HI2 := Lib.hid (hI.lower hs1)
    have hB := belowTo hb1 hb2
    clear hI hb1 hb2
    go_wp2
    go_returns
    exact ⟨_, rfl, HI2.out, hB⟩
set_option maxHeartbeats 4000000 in
theorem specDivisorProduct_any (v : Value) (l : List V2) (u1 : Value) (a : List Int) (u2 : Value) (b : List Int) (w : World) (hl : ReadsVecs w v l) (h1 : ReadsInts w u1 a) (h2 : ReadsInts w u2 b) :
    Calls Tryd.prog 27 #[v, u1, u2] w fun e w' => e = .returned (.tuple #[.int .i64 (gate (divB l a && divB l b) (prodZ l a b)), .bool (divB l a && divB l b)]) ∧ Below w.heap.size w w' := by
  have HA := Lib.hid (specDivisorIn_any v l u1 a w hl h1)
  have HB := Lib.hid (fun w' (hb : Below w.heap.size w w') => specDivisorIn_any v l u2 b w' (hl.below hb) (h2.below hb))
  have HP := Lib.hid (fun w' (hb : Below w.heap.size w w') (ha : divB l a = true) (hb2 : divB l b = true) => l4Product_any v u1 u2 l a b w' (hl.below hb) (h1.below hb) (h2.below hb) (div_in ha).2.1 (div_in hb2).2.1 (div_len ha).2 (by have := div_len ha; omega) (div_smooth ha) (div_bnd ha) (bnd_mono (div_bnd hb2) (by omega)))
  clear hl h1 h2
  cases ha : divB l a
  · rw [ha] at HA
    clear ha HP HB
    go_enter Tryd.func27, Tryd.ntmps27
    go_wp2_with fail
    refine Calls.mono HA.out ?_
    rintro e w1 ⟨rfl, hb1⟩
    go_wp2
    go_returns
    exact ⟨rfl, hb1⟩
  · cases hb : divB l b
    · rw [ha] at HA
      rw [hb] at HB
      clear ha hb HP
      go_enter Tryd.func27, Tryd.ntmps27
      go_wp2_with fail
      refine Calls.mono HA.out ?_
      rintro e w1 ⟨rfl, hb1⟩
      go_wp2_with fail
      refine Calls.mono (HB.out _ hb1) ?_
      rintro e w2 ⟨rfl, hb2⟩
      have hB := belowTo hb1 hb2
      clear hb1 hb2
      go_wp2
      go_returns
      exact ⟨rfl, hB⟩
    · rw [ha] at HA
      rw [hb] at HB
      have HP2 := Lib.hid (fun w' h => HP.out w' h ha hb)
      clear ha hb HP
      generalize prodZ l a b = z at *
      go_enter Tryd.func27, Tryd.ntmps27
      go_wp2_with fail
      refine Calls.mono HA.out ?_
      rintro e w1 ⟨rfl, hb1⟩
      go_wp2_with fail
      refine Calls.mono (HB.out _ hb1) ?_
      rintro e w2 ⟨rfl, hb2⟩
      have hB := belowTo hb1 hb2
      clear hb1 hb2
      go_wp2_with fail
      refine Calls.mono (HP2.out _ hB) ?_
      rintro e w3 ⟨rfl, hb3⟩
      replace hB := belowTo hB hb3
      clear hb3
      go_wp2
      go_returns
      exact ⟨rfl, hB⟩
set_option maxHeartbeats 4000000 in
theorem specDivisorAdd_any (v : Value) (l : List V2) (u1 : Value) (a : List Int) (u2 : Value) (b : List Int) (w : World) (hl : ReadsVecs w v l) (h1 : ReadsInts w u1 a) (h2 : ReadsInts w u2 b) :
    Calls Tryd.prog 23 #[v, u1, u2] w (GivesIntsOk w (gV (addDB l a b) (sumL a 1 b)) (addDB l a b)) := by
  have HA := Lib.hid (specDivisorIn_any v l u1 a w hl h1)
  have HB := Lib.hid (fun w' (hb : Below w.heap.size w w') => specDivisorIn_any v l u2 b w' (hl.below hb) (h2.below hb))
  have HE := Lib.hid (fun w' => Ints.empty w')
  have HS := Lib.hid (fun w' (hb : Below w.heap.size w w') (ha : divB l a = true) (hb2 : divB l b = true) => l4Sum_any u1 u2 a b 1 w' (h1.below hb) (h2.below hb) ((div_in hb2).2.1.trans (div_in ha).2.1.symm) (by have := div_len ha; have := (div_in ha).2.1; omega) (bnd_big (div_bnd ha) (by omega)) (bnd_big (div_bnd hb2) (by omega)) (by omega))
  have HD := Lib.hid (fun u' b' w' (hb : Below w.heap.size w w') (hI : Ints w' b' u' (sumL a 1 b)) (ha : divB l a = true) (hs : b' ≤ (w' : World).heap.size) => l4Done_any v l u' (sumL a 1 b) b' w' (hl.below hb) hI (by rw [sumL_len]; have := div_len ha; have := (div_in ha).2.1; omega) hs)
  unfold addDB
  clear hl h1 h2
  cases ha : divB l a
  · rw [ha] at HA
    clear ha HS HD HB
    go_enter Tryd.func23, Tryd.ntmps23
    go_wp2_with fail
    refine Calls.mono HA.out ?_
    rintro e w1 ⟨rfl, hb1⟩
    have hs1 := hb1.size
    have HE2 := Lib.hid ((HE.out w1).lower hs1)
    go_wp2
    go_returns
    exact ⟨_, rfl, HE2.out, by go_grown⟩
  · cases hb : divB l b
    · rw [ha] at HA
      rw [hb] at HB
      clear ha hb HS HD
      go_enter Tryd.func23, Tryd.ntmps23
      go_wp2_with fail
      refine Calls.mono HA.out ?_
      rintro e w1 ⟨rfl, hb1⟩
      go_wp2_with fail
      refine Calls.mono (HB.out _ hb1) ?_
      rintro e w2 ⟨rfl, hb2⟩
      have hB := belowTo hb1 hb2
      have hs2 := hB.size
      have HE2 := Lib.hid ((HE.out w2).lower hs2)
      clear hb1 hb2
      go_wp2
      go_returns
      exact ⟨_, rfl, HE2.out, by go_grown⟩
    · rw [ha] at HA
      rw [hb] at HB
      have HS2 := Lib.hid (fun w' h => HS.out w' h ha hb)
      have HD2 := Lib.hid (fun u' b' w' h hI hs => HD.out u' b' w' h hI ha hs)
      clear ha hb HS HD
      go_enter Tryd.func23, Tryd.ntmps23
      go_wp2_with fail
      refine Calls.mono HA.out ?_
      rintro e w1 ⟨rfl, hb1⟩
      go_wp2_with fail
      refine Calls.mono (HB.out _ hb1) ?_
      rintro e w2 ⟨rfl, hb2⟩
      have hB := belowTo hb1 hb2
      clear hb1 hb2
      go_wp2_with fail
      refine Calls.mono (HS2.out _ hB) ?_
      rintro e w3 ⟨v3, rfl, hI, hb3⟩
      have hB3 := belowTo hB hb3
      have hI3 := hI.lower hB.size
      have hs3 := hB3.size
      clear hI hb3
      go_wp2_with fail
      refine Calls.mono (HD2.out v3 _ _ hB3 hI3 hs3) ?_
      rintro e w4 ⟨v4, rfl, hI4, hb4⟩
      have HI4 := Lib.hid hI4
      have hB4 := belowTo hB3 hb4
      clear hI4 hI3 hb4 hB3
      go_wp2
      go_returns
      exact ⟨_, rfl, HI4.out, hB4⟩
set_option maxHeartbeats 4000000 in
theorem specDivisorTimes_any (v : Value) (l : List V2) (u1 : Value) (a : List Int) (m : Int) (w : World) (hl : ReadsVecs w v l) (h1 : ReadsInts w u1 a) :
    Calls Tryd.prog 25 #[v, u1, .int .i64 m] w (GivesIntsOk w (gV (timDB l a m) (timesL a m)) (timDB l a m)) := by
  obtain ⟨i0, hi, hz0, hz1, hz2⟩ := info_parts infoInt
  have HA := Lib.hid (specDivisorIn_any v l u1 a w hl h1)
  have HE := Lib.hid (fun w' => Ints.empty w')
  have HK := Lib.hid (fun w' => l6In_any m (-100) 100 w')
  have hz : (decide ((-100 : Int) ≤ m) && decide (m ≤ 100)) = cfB m := rfl
  rw [hz] at HK
  have HS := Lib.hid (fun u0 w' (hb : Below w.heap.size w w') (h0 : ReadsInts w' u0 (List.replicate a.length 0)) (ha : divB l a = true) (hm : cfB m = true) => l4Sum_any u0 u1 (List.replicate a.length 0) a m w' h0 (h1.below hb) (by simp) (by have := div_len ha; have := (div_in ha).2.1; simp; omega) (by
    intro j
    by_cases hj : j < a.length
    · simp [gz, hj]
    · rw [gz_out (by simp; omega)]; omega) (bnd_big (div_bnd ha) (by omega)) (cfB_in hm))
  rw [times_is] at HS
  have HD := Lib.hid (fun u' b' w' (hb : Below w.heap.size w w') (hI : Ints w' b' u' (timesL a m)) (ha : divB l a = true) (hs : b' ≤ (w' : World).heap.size) => l4Done_any v l u' (timesL a m) b' w' (hl.below hb) hI (by rw [timesL_len]; have := div_len ha; have := (div_in ha).2.1; omega) hs)
  have HLen : Hid (divB l a = true → a.length ≤ 20) := fun h => by have := div_len h; have := (div_in h).2.1; omega
  obtain ⟨p1, q1, rfl, _⟩ := h1.len
  unfold timDB
  clear hl h1 hz
  cases ha : divB l a
  · rw [ha] at HA
    clear ha HS HD HK HLen
    go_enter Tryd.func25, Tryd.ntmps25
    go_wp2_with fail
    refine Calls.mono HA.out ?_
    rintro e w1 ⟨rfl, hb1⟩
    have hs1 := hb1.size
    have HE2 := Lib.hid ((HE.out w1).lower hs1)
    go_wp2
    go_returns
    exact ⟨_, rfl, HE2.out, by go_grown⟩
  · cases hm : cfB m
    · rw [ha] at HA
      rw [hm] at HK
      clear ha hm HS HD HLen
      go_enter Tryd.func25, Tryd.ntmps25
      go_wp2_with fail
      refine Calls.mono HA.out ?_
      rintro e w1 ⟨rfl, hb1⟩
      go_wp2_with fail
      refine Calls.mono (HK.out _) ?_
      rintro e w2 ⟨rfl, rfl⟩
      have hs2 := hb1.size
      have HE2 := Lib.hid ((HE.out w1).lower hs2)
      go_wp2
      go_returns
      exact ⟨_, rfl, HE2.out, by go_grown⟩
    · rw [ha] at HA
      rw [hm] at HK
      have HS2 := Lib.hid (fun u0 w' h h0 => HS.out u0 w' h h0 ha hm)
      have HD2 := Lib.hid (fun u' b' w' h hI hs => HD.out u' b' w' h hI ha hs)
      have hlen := HLen.out ha
      obtain ⟨n, hn⟩ : ∃ n, n = a.length := ⟨_, rfl⟩
      have HN := Lib.hid hn
      rw [← hn] at HA HS2 hlen ⊢
      clear ha hm HS HD hn HLen
      go_enter Tryd.func25, Tryd.ntmps25
      go_wp2_with fail
      refine Calls.mono HA.out ?_
      rintro e w1 ⟨rfl, hb1⟩
      go_wp2_with fail
      refine Calls.mono (HK.out _) ?_
      rintro e w2 ⟨rfl, rfl⟩
      have hs2 := hb1.size
      go_wp2_with (at_make; refine wpList_make_full _ rfl _ _ 23 rfl w1.heap.size 3 i0 (.int .i64 0) 1 Tryd.underlying23 hi hz0 hz1 .i64 .i64 _ _ n rfl rfl rfl rfl ?c1 ?c2 ?c3 ?_)
      case c1 => rw [hz2]; omega
      case c2 => unfold maxLen; omega
      case c3 => exact Nat.le_refl _
      intro w3 hown hgrow
      have hB3 : Below w1.heap.size w1 w3 := (Below.refl _ w1).grown hgrow (Nat.le_refl _) (fun k e => by cases e)
      have hB := hb1.trans (hB3.mono hs2)
      have h0 : Ints w3 w1.heap.size (.slice (some ⟨w1.heap.size, 0, none⟩) n n) (List.replicate n 0) := by
        have e : intsV (List.replicate n 0) = (madeCells #[Value.int .i64 0] n).toList := by
          refine List.ext_getElem (by simp [intsV, madeCells]) (fun i h1 h2 => ?_)
          simp [intsV, madeCells, Nat.mod_one]
        unfold Ints
        rw [List.length_replicate, e]
        simpa using hown
      have h0r := h0.reads (by simp; omega)
      clear hown hgrow hB3
      go_wp2_with fail
      refine Calls.mono (HS2.out _ _ hB h0r) ?_
      rintro e w4 ⟨v4, rfl, hI, hb4⟩
      have hB4 := belowTo hB hb4
      have hI4 := hI.lower hB.size
      have hs4 := hB4.size
      clear hI hb4 h0 h0r
      go_wp2_with fail
      refine Calls.mono (HD2.out v4 _ _ hB4 hI4 hs4) ?_
      rintro e w5 ⟨v5, rfl, hI5, hb5⟩
      have HI5 := Lib.hid hI5
      have hB5 := belowTo hB4 hb5
      clear hI5 hI4 hb5 hB4
      go_wp2
      go_returns
      exact ⟨_, rfl, HI5.out, hB5⟩
set_option maxHeartbeats 4000000 in
theorem specDivisorCanonical_any (v : Value) (l : List V2) (w : World) (hl : ReadsVecs w v l) :
    Calls Tryd.prog 31 #[v] w (GivesIntsOk w (gV (smoothB l) (canL l.length)) (smoothB l)) := by
  have HF := Lib.hid (specFanSmooth_any v l w hl)
  have HC := Lib.hid (fun w' (hb : Below w.heap.size w w') (h : smoothB l = true) => l4Canonical_any v l w' (hl.below hb) (by have := smooth_len h; omega))
  have HE := Lib.hid (fun w' => Ints.empty w')
  clear hl
  cases hb : smoothB l
  · rw [hb] at HF
    clear hb HC
    go_enter Tryd.func31, Tryd.ntmps31
    go_wp2_with fail
    refine Calls.mono HF.out ?_
    rintro e w1 ⟨rfl, hb1⟩
    have hs1 := hb1.size
    have HE2 := Lib.hid ((HE.out w1).lower hs1)
    go_wp2
    go_returns
    exact ⟨_, rfl, HE2.out, by go_grown⟩
  · rw [hb] at HF HC
    clear hb
    go_enter Tryd.func31, Tryd.ntmps31
    go_wp2_with fail
    refine Calls.mono HF.out ?_
    rintro e w1 ⟨rfl, hb1⟩
    have hs1 := hb1.size
    go_wp2_with fail
    refine Calls.mono (HC.out _ hb1 (by simp)) ?_
    rintro e w2 ⟨v2, rfl, hI, hb2⟩
    have HI2 := Lib.hid (hI.lower hs1)
    have hB := belowTo hb1 hb2
    clear hI hb1 hb2
    go_wp2
    go_returns
    exact ⟨_, rfl, HI2.out, hB⟩
set_option maxHeartbeats 4000000 in
theorem specDivisorOf_any (v : Value) (l : List V2) (x y : Int) (w : World) (hl : ReadsVecs w v l) :
    Calls Tryd.prog 17 #[v, .agg #[.int .i64 (x), .int .i64 (y)]] w (GivesIntsOk w (gV (ofDB l x y) (trivL l (x, y))) (ofDB l x y)) := by
  have HF := Lib.hid (fun w' (hb : Below w.heap.size w w') => specFanSmooth_any v l w' (hl.below hb))
  have HE := Lib.hid (fun w' => Ints.empty w')
  have HV := Lib.hid (fun w' => specVecIn_any x y w')
  have HO := Lib.hid (fun w' (hb : Below w.heap.size w w') (h : smoothB l = true) (hv : vecB x y = true) => l4Of_any v l x y w' (hl.below hb) (by have := smooth_len h; omega) (by have := smooth_len h; omega) (smooth_all h).1 (by have := szs hv; omega))
  have HD := Lib.hid (fun u' b' w' (hb : Below w.heap.size w w') (hI : Ints w' b' u' (trivL l (x, y))) (h : smoothB l = true) (hs : b' ≤ (w' : World).heap.size) => l4Done_any v l u' (trivL l (x, y)) b' w' (hl.below hb) hI (by rw [trivL_len]; have := smooth_len h; omega) hs)
  unfold ofDB
  clear hl
  cases hs : smoothB l
  · rw [hs] at HF
    clear hs HO HD HV
    go_enter Tryd.func17, Tryd.ntmps17
    go_wp2_with fail
    refine Calls.mono (HF.out _ (by go_grown)) ?_
    rintro e w1 ⟨rfl, hb1⟩
    have hB : Below w.heap.size w w1 := belowTo (by go_grown) hb1
    have hs1 := hB.size
    have HE2 := Lib.hid ((HE.out w1).lower hs1)
    clear hb1
    go_wp2
    go_returns
    exact ⟨_, rfl, HE2.out, by go_grown⟩
  · cases hv : vecB x y
    · rw [hs] at HF
      rw [hv] at HV
      clear hs hv HO HD
      go_enter Tryd.func17, Tryd.ntmps17
      go_wp2_with fail
      refine Calls.mono (HF.out _ (by go_grown)) ?_
      rintro e w1 ⟨rfl, hb1⟩
      have hB : Below w.heap.size w w1 := belowTo (by go_grown) hb1
      have c0 : w1.cell? ⟨w.heap.size, 0, none⟩ = some (.int .i64 x) := (hb1.cell (p := ⟨w.heap.size, 0, none⟩) (by simp)).trans (by simp)
      have c1 : w1.cell? ⟨w.heap.size, 1, none⟩ = some (.int .i64 y) := (hb1.cell (p := ⟨w.heap.size, 1, none⟩) (by simp)).trans (by simp)
      clear hb1
      go_wp2_with fail
      refine Calls.mono (HV.out _) ?_
      rintro e w2 ⟨rfl, hb2⟩
      have hB2 := belowTo hB hb2
      have hs2 := hB2.size
      have HE2 := Lib.hid ((HE.out w2).lower hs2)
      clear hb2 c0 c1
      go_wp2
      go_returns
      exact ⟨_, rfl, HE2.out, by go_grown⟩
    · rw [hs] at HF
      rw [hv] at HV
      have HO2 := Lib.hid (fun w' h => HO.out w' h hs hv)
      have HD2 := Lib.hid (fun u' b' w' h hI hq => HD.out u' b' w' h hI hs hq)
      clear hs hv HO HD
      go_enter Tryd.func17, Tryd.ntmps17
      go_wp2_with fail
      refine Calls.mono (HF.out _ (by go_grown)) ?_
      rintro e w1 ⟨rfl, hb1⟩
      have hB : Below w.heap.size w w1 := belowTo (by go_grown) hb1
      have c0 : w1.cell? ⟨w.heap.size, 0, none⟩ = some (.int .i64 x) := (hb1.cell (p := ⟨w.heap.size, 0, none⟩) (by simp)).trans (by simp)
      have c1 : w1.cell? ⟨w.heap.size, 1, none⟩ = some (.int .i64 y) := (hb1.cell (p := ⟨w.heap.size, 1, none⟩) (by simp)).trans (by simp)
      have s0 : w.heap.size < w1.heap.size := cell_lt c0
      clear hb1
      go_wp2_with fail
      refine Calls.mono (HV.out _) ?_
      rintro e w2 ⟨rfl, hb2⟩
      have hB2 := belowTo hB hb2
      have d0 := (hb2.cell (p := ⟨w.heap.size, 0, none⟩) s0).trans c0
      have d1 := (hb2.cell (p := ⟨w.heap.size, 1, none⟩) s0).trans c1
      clear hb2 c0 c1
      go_wp2_with fail
      refine Calls.mono (HO2.out _ hB2) ?_
      rintro e w3 ⟨v3, rfl, hI, hb3⟩
      have hB3 := belowTo hB2 hb3
      have hI3 := hI.lower hB2.size
      have hs3 := hB3.size
      clear hI hb3 d0 d1
      go_wp2_with fail
      refine Calls.mono (HD2.out v3 _ _ hB3 hI3 hs3) ?_
      rintro e w4 ⟨v4, rfl, hI4, hb4⟩
      have HI4 := Lib.hid hI4
      have hB4 := belowTo hB3 hb4
      clear hI4 hI3 hb4 hB3
      go_wp2
      go_returns
      exact ⟨_, rfl, HI4.out, hB4⟩
end Go.Proofs.YtpdbpfajkkkgdaaDoor
