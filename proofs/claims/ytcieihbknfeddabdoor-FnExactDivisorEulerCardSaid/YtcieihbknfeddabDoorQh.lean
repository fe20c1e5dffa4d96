/- Divisors: sums and multiples: the program's functions. -/
import Derived.Test.YtcieihbknfeddabDoorQf
import Derived.Test.YtcieihbknfeddabDoorBe
namespace Go.Proofs.YtcieihbknfeddabDoor
open Go.RowKit

theorem told_v {v : Value} {d : List Int} {b : Bool} {w' : World} {base : Nat} (hI : Ints w' base v d) : Ints w' base (if b then v else .slice none 0 0) (gV b d) := by
  cases b
  · exact Ints.nil _ _
  · exact hI
set_option maxHeartbeats 8000000 in
theorem divisorAdd_any (v : Value) (l : List V2) (u1 : Value) (a : List Int) (u2 : Value) (b : List Int) (w : World) (hl : ReadsVecs w v l) (h1 : ReadsInts w u1 a) (h2 : ReadsInts w u2 b) (hg : EtOk w) :
    Calls Tryd.prog 31 #[v, u1, u2] w (GivesIntsOk w (gV (addDB l a b) (sumL a 1 b)) (addDB l a b)) := by
  have HO := Lib.hid (divisorsOf_any v u1 u2 l a b w hl h1 h2 hg)
  have HS := Lib.hid (fun g w' (hb : Below w.heap.size w w') (hk : (divB l a && divB l b) = true) => by
    rw [Bool.and_eq_true] at hk
    have := div_len hk.1
    have e1 := (div_in hk.1).2.1
    have e2 := (div_in hk.2).2.1
    exact divPlus_any g g u1 u2 a b w' (h1.below hb) (h2.below hb) (by omega) (by omega) (by omega) (bnd_big (div_bnd hk.1) (by omega)) (bnd_big (div_bnd hk.2) (by omega)))
  have HT := Lib.hid (fun g n v' base w' (hb : Below w.heap.size w w') (c1 : (w' : World).cell? ⟨g, 1, none⟩ = some (.int .i64 (n : Nat))) (hI : Ints w' base v' (sumL a 1 b)) (hn : n = l.length) (hk : (divB l a && divB l b) = true) => by
    have hs : n ≤ 1000 := by rw [Bool.and_eq_true] at hk; have := div_len hk.1; omega
    have h := told_any g n v' (sumL a 1 b) w' (hg.below hb) c1 (hI.reads (by rw [sumL_len]; obtain ⟨_, _, _, h⟩ := h1.len; exact h)) hs
    rw [hn] at h
    exact h)
  have HD : (divB l a && divB l b) = true → addDB l a b = fitB l.length (sumL a 1 b) := fun hk => by
    rw [Bool.and_eq_true] at hk
    unfold addDB
    rw [hk.1, hk.2, div_fit hk.1]
    rfl
  have HF : (divB l a && divB l b) = false → addDB l a b = false := fun hk => by
    unfold addDB
    rw [← Bool.and_assoc, hk]
    rfl
  obtain ⟨p1, q1, rfl, _⟩ := h1.len
  obtain ⟨p2, q2, rfl, _⟩ := h2.len
  clear hl h1 h2
  cases hk : (divB l a && divB l b)
  · rw [HF hk]
    rw [hk] at HO
    clear HF HD HT HS hk
    go_enter Tryd.func31, Tryd.ntmps31
    go_wp2_with fail
    refine Calls.mono HO.out ?_
    rintro e w1 ⟨⟨h, _⟩ | ⟨_, p, a', n', c', rfl⟩, hb1⟩
    · cases h
    have hs1 := hb1.size
    go_wp2
    go_returns
    exact ⟨_, rfl, Ints.nil _ _, by go_grown⟩
  · rw [HD hk]
    rw [hk] at HO
    have HS2 := Lib.hid (fun g w' hb => HS.out g w' hb hk)
    have HT2 := Lib.hid (fun g n v' base w' hb c1 hI hn => HT.out g n v' base w' hb c1 hI hn hk)
    clear HF HD HS HT hk
    generalize sumL a 1 b = S at *
    generalize fitB l.length S = K at *
    go_enter Tryd.func31, Tryd.ntmps31
    go_wp2_with fail
    refine Calls.mono HO.out ?_
    rintro e w1 ⟨⟨_, g, ns, rfl, hF, hn⟩ | ⟨h, _⟩, hb1⟩
    case inr => cases h
    have HT3 := Lib.hid (fun v' base w2 (h : Below w1.heap.size w1 w2) hI => HT2.out g ns.length v' base w2 (belowTo hb1 h) ((h.cell (p := ⟨g, 1, none⟩) hF.head.lt).trans hF.head.c1) hI (by rw [← hn, rays_len]))
    have hs1 := hb1.size
    clear hF hn HT2
    go_wp2_with fail
    refine Calls.mono (HS2.out g _ (belowTo hb1 (by go_grown))) ?_
    rintro e w2 ⟨v2, rfl, hI, hb2⟩
    have hA2 : Below w1.heap.size w1 w2 := belowTo (by go_grown) hb2
    have hB2 := belowTo hb1 hA2
    have hI2 := hI.lower (base' := w.heap.size) (by simp; omega)
    clear hI hb2
    go_wp2_with fail
    refine Calls.mono (HT3.out v2 _ _ hA2 hI2) ?_
    rintro e w3 ⟨rfl, hb3⟩
    have hB3 := belowTo hB2 hb3
    have HI3 := Lib.hid (told_v (b := K) (hI2.below hb3))
    clear hI2 hb3 hA2 hB2
    cases K
    all_goals
      go_wp2
      go_returns
      exact ⟨_, rfl, HI3.out, hB3⟩
set_option maxHeartbeats 8000000 in
theorem divisorTimes_any (v : Value) (l : List V2) (u1 : Value) (a : List Int) (m : Int) (w : World) (hl : ReadsVecs w v l) (h1 : ReadsInts w u1 a) (hg : EtOk w) :
    Calls Tryd.prog 33 #[v, u1, .int .i64 m] w (GivesIntsOk w (gV (timDB l a m) (timesL a m)) (timDB l a m)) := by
  have HO := Lib.hid (divisorOf_any v u1 l a w hl h1 hg)
  have HC := Lib.hid (fun w' => inCoef_any m w')
  have HS := Lib.hid (fun g w' (hb : Below w.heap.size w w') (hk : divB l a = true) (hm : cfB m = true) => divTimes_any g u1 a m w' (h1.below hb) (by have := div_len hk; have := (div_in hk).2.1; omega) (bnd_big (div_bnd hk) (by omega)) (cfB_in hm))
  have HT := Lib.hid (fun g n v' base w' (hb : Below w.heap.size w w') (c1 : (w' : World).cell? ⟨g, 1, none⟩ = some (.int .i64 (n : Nat))) (hI : Ints w' base v' (timesL a m)) (hn : n = l.length) (hk : divB l a = true) => by
    have hs : n ≤ 1000 := by have := div_len hk; omega
    have h := told_any g n v' (timesL a m) w' (hg.below hb) c1 (hI.reads (by rw [timesL_len]; obtain ⟨_, _, _, h⟩ := h1.len; exact h)) hs
    rw [hn] at h
    exact h)
  have HD : divB l a = true → cfB m = true → timDB l a m = fitB l.length (timesL a m) := fun hk hm => by
    unfold timDB
    rw [hk, hm, div_fit hk]
    rfl
  obtain ⟨p1, q1, rfl, _⟩ := h1.len
  clear hl h1
  cases hk : divB l a
  · have e0 : timDB l a m = false := by unfold timDB; rw [hk]; rfl
    rw [e0]
    rw [hk] at HO
    clear HD HT HS hk e0 HC
    go_enter Tryd.func33, Tryd.ntmps33
    go_wp2_with fail
    refine Calls.mono HO.out ?_
    rintro e w1 ⟨⟨h, _⟩ | ⟨_, rfl⟩, hb1⟩
    · cases h
    have hs1 := hb1.size
    go_wp2
    go_returns
    exact ⟨_, rfl, Ints.nil _ _, by go_grown⟩
  · cases hm : cfB m
    · have e0 : timDB l a m = false := by unfold timDB; rw [hm, Bool.false_and, Bool.and_false]
      rw [e0]
      rw [hk] at HO
      rw [hm] at HC
      clear HD HT HS hk e0 hm
      go_enter Tryd.func33, Tryd.ntmps33
      go_wp2_with fail
      refine Calls.mono HO.out ?_
      rintro e w1 ⟨⟨_, g, ns, rfl, hF, hn⟩ | ⟨h, _⟩, hb1⟩
      case inr => cases h
      have hs1 := hb1.size
      clear hF hn
      go_wp2_with fail
      refine Calls.mono (HC.out _) ?_
      rintro e w2 ⟨rfl, rfl⟩
      go_wp2
      go_returns
      exact ⟨_, rfl, Ints.nil _ _, by go_grown⟩
    · rw [HD hk hm]
      rw [hk] at HO
      rw [hm] at HC
      have HS2 := Lib.hid (fun g w' hb => HS.out g w' hb hk hm)
      have HT2 := Lib.hid (fun g n v' base w' hb c1 hI hn => HT.out g n v' base w' hb c1 hI hn hk)
      clear HD HS HT hk hm
      generalize timesL a m = S at *
      generalize fitB l.length S = K at *
      go_enter Tryd.func33, Tryd.ntmps33
      go_wp2_with fail
      refine Calls.mono HO.out ?_
      rintro e w1 ⟨⟨_, g, ns, rfl, hF, hn⟩ | ⟨h, _⟩, hb1⟩
      case inr => cases h
      have HT3 := Lib.hid (fun v' base w2 (h : Below w1.heap.size w1 w2) hI => HT2.out g ns.length v' base w2 (belowTo hb1 h) ((h.cell (p := ⟨g, 1, none⟩) hF.head.lt).trans hF.head.c1) hI (by rw [← hn, rays_len]))
      have hs1 := hb1.size
      clear hF hn HT2
      go_wp2_with fail
      refine Calls.mono (HC.out _) ?_
      rintro e w9 ⟨rfl, rfl⟩
      go_wp2_with fail
      refine Calls.mono (HS2.out g _ (belowTo hb1 (by go_grown))) ?_
      rintro e w2 ⟨v2, rfl, hI, hb2⟩
      have hA2 : Below w1.heap.size w1 w2 := belowTo (by go_grown) hb2
      have hB2 := belowTo hb1 hA2
      have hI2 := hI.lower (base' := w.heap.size) (by simp; omega)
      clear hI hb2
      go_wp2_with fail
      refine Calls.mono (HT3.out v2 _ _ hA2 hI2) ?_
      rintro e w3 ⟨rfl, hb3⟩
      have hB3 := belowTo hB2 hb3
      have HI3 := Lib.hid (told_v (b := K) (hI2.below hb3))
      clear hI2 hb3 hA2 hB2
      cases K
      all_goals
        go_wp2
        go_returns
        exact ⟨_, rfl, HI3.out, hB3⟩
end Go.Proofs.YtcieihbknfeddabDoor
