/- Reflexive polygons: what is one: the program. -/
import Derived.Test.YtkcnpbgbgdgkpaaDoorZc
import Derived.Test.YtkcnpbgbgdgkpaaDoorBj
namespace Go.Proofs.YtkcnpbgbgdgkpaaDoor
open Go.RowKit

set_option maxRecDepth 100000 in
set_option maxHeartbeats 16000000 in
theorem isReflexive_any (v : Value) (l : List V2) (w : World) (h : ReadsVecs w v l) (hp : polyB l = true) :
    Calls Tryd.prog 102 #[v] w fun e w' => e = .returned (.bool (allR l)) ∧ Below w.heap.size w w' := by
  have h30 := poly_len hp
  have h0 : 0 < l.length := by omega
  have HAt := Lib.hid (fun i w' (hb : Below w.heap.size w w') => at_any' v l i w' (h.below hb) h0)
  have HWy := Lib.hid (fun w' (hb : Below w.heap.size w w') => ways_any v l w' (h.below hb) h0 (by omega) (fun i => by have := poly_small hp i; unfold big; omega))
  obtain ⟨bv, ov, vc, rfl, _, _, hbv, hvs⟩ := h.open h0
  have HVS := Lib.hid hvs
  have HWc := Lib.hid (fun i => cyc_ways h0 i)
  have HN := Lib.hid (fun i h1 h2 => allR_not (l := l) (i := i) h1 h2)
  have HY := Lib.hid (fun h1 => allR_of (l := l) h1)
  have HMb := Lib.hid (fun i => poly_small hp i)
  have HWs := Lib.hid (fun i => way_small (allK_all (poly_in hp).2.1 h0) i)
  have HWl := Lib.hid (waysL_len l)
  have HSi : Hid (∀ i, reflK l i = decide (detZ (cyc l i).1 (cyc l i).2 (cyc l (i + 1)).1 (cyc l (i + 1)).2 = gcdZ (wayZ l i).1 (wayZ l i).2)) := fun _ => rfl
  generalize allR l = K at *
  clear h hvs hp
  go_enter Tryd.func102, Tryd.ntmps102
  go_wp2_with fail
  refine Calls.mono (HWy.out _ (by go_grown)) ?_
  rintro e W1 ⟨v1, rfl, hI, hb1⟩
  have HB1 := Lib.hid (show Below w.heap.size w W1 from belowTo (by go_grown) hb1)
  obtain ⟨bw, ow, wc, rfl, _, _, hbw, hws⟩ := (hI.reads (by rw [waysL_len]; omega)).open (by rw [waysL_len]; exact h0)
  have HWS := Lib.hid hws
  clear hb1 hI hws HWy
  have hsW := HB1.out.size
  have hwl := HWl.out
  generalize hn : (waysL l).length = n at *
  subst hwl
  clear hn
  go_wp2
  go_loopw [8] (fun s wr => ∃ k : Nat, k ≤ l.length ∧ s = .int .i64 k ∧ Hid (∀ j, j < k → reflK l j = true) ∧ Below W1.heap.size W1 wr) (fun s _ => l.length - (intOf s).toNat)
  case atStart => exact ⟨0, Nat.zero_le _, rfl, fun j hj => by omega, Below.refl _ _⟩
  case round =>
    obtain ⟨k, hk, rfl, HE, hB⟩ := hrel
    have i1 : (0 : Int) ≤ (k : Int) := by omega
    by_cases hlt : k < l.length
    · have i2 : (k : Int) < (l.length : Int) := by omega
      obtain ⟨c0, c1⟩ := HVS.out wr (HB1.out.trans (hB.mono hsW)) k hlt
      obtain ⟨d0, d1⟩ := HWS.out wr hB k hlt
      rw [HWc.out k] at d0 d1
      have HNk := Lib.hid (fun h => HN.out k hlt h)
      have HE2 : Hid (reflK l k = true → ∀ j, j < k + 1 → reflK l j = true) := fun h j h2 => by
        by_cases e : j = k
        · subst e; exact h
        · exact HE.out j (by omega)
      have b0 := HMb.out k
      have b2 := HMb.out (k + 1)
      have b1 := HWs.out k
      have HSk := Lib.hid (HSi.out k)
      have HAk := Lib.hid (fun w' (hb : Below W1.heap.size W1 w') => HAt.out (k + 1) w' (HB1.out.trans (hb.mono hsW)))
      have q0 : IntKind.i64.wrap ((k : Int) + 1) = ((k + 1 : Nat) : Int) := by rw [IntKind.wrap_i64]; omega
      generalize hz : reflK l k = z at HNk HE2 HSk
      clear hz
      generalize cyc l k = V at *
      generalize cyc l (k + 1) = T at *
      generalize wayZ l k = U at *
      obtain ⟨p1, p2⟩ := V
      obtain ⟨t1, t2⟩ := T
      obtain ⟨u1, u2⟩ := U
      dsimp only at c0 c1 d0 d1 b0 b1 b2 HSk HAk
      have HD := Lib.hid (fun w' => detBig_any p1 p2 t1 t2 w' (by unfold big; omega) (by unfold big; omega))
      have HG := Lib.hid (fun w' => commonDivisor_any u1 u2 w' (by omega) (by omega))
      generalize detZ p1 p2 t1 t2 = D at *
      generalize gcdZ u1 u2 = G at *
      have hs := hB.size
      clear HE HN HY HMb HWs HSi HWc HVS HWS HAt b0 b1 b2
      go_wp2_with fail
      have hA2 : Below wr.heap.size wr (wr.alloc (.cells #[.int .i64 u1, .int .i64 u2] 38)) := by go_grown
      have e0 : (wr.alloc (.cells #[.int .i64 u1, .int .i64 u2] 38)).cell? ⟨wr.heap.size, 0, none⟩ = some (.int .i64 u1) := by simp
      have e1 : (wr.alloc (.cells #[.int .i64 u1, .int .i64 u2] 38)).cell? ⟨wr.heap.size, 1, none⟩ = some (.int .i64 u2) := by simp
      replace c1 := (hA2.cell (p := ⟨bv, ov + k * 2 + 1, none⟩) (cell_lt c0)).trans c1
      replace c0 := (hA2.cell (p := ⟨bv, ov + k * 2, none⟩) (cell_lt c0)).trans c0
      have hB2 := hB.trans (hA2.mono hs)
      obtain ⟨B3, hB3⟩ : ∃ B3, B3 = wr.heap.size := ⟨_, rfl⟩
      rw [← hB3] at e0 e1 ⊢
      generalize (wr.alloc (.cells #[.int .i64 u1, .int .i64 u2] 38)) = W3 at *
      clear hA2 hB3 d0 d1 hs
      have hs3 := hB2.size
      have t0 := cell_lt e0
      have t2 := cell_lt c0
      have HA3 := Lib.hid (fun w' (hb : Below W1.heap.size W3 w') => HAk.out w' (hB2.trans hb))
      go_region_held3 (fun w' => w'.cell? ⟨B3, 0, none⟩ = some (.int .i64 (u1)) ∧ w'.cell? ⟨B3, 1, none⟩ = some (.int .i64 (u2)) ∧ w'.cell? ⟨bv, ov + k * 2, none⟩ = some (.int .i64 (p1)) ∧ w'.cell? ⟨bv, ov + k * 2 + 1, none⟩ = some (.int .i64 (p2)) ∧ Below (W1.heap.size) W3 w') ((go_split_ands; refine ⟨by (first | (with_reducible assumption) | (go_keep; done) | (go_cell; done) | (go_simp; done) | (simp [*]; done)), by (first | (with_reducible assumption) | (go_keep; done) | (go_cell; done) | (go_simp; done) | (simp [*]; done)), by (first | (with_reducible assumption) | (go_keep; done) | (go_cell; done) | (go_simp; done) | (simp [*]; done)), by (first | (with_reducible assumption) | (go_keep; done) | (go_cell; done) | (go_simp; done) | (simp [*]; done)), by first | (with_reducible assumption) | (go_grown; done)⟩)) (first | (go_at_call 95; go_call (HA3.out _ (by first | (with_reducible assumption) | (go_grown; done))) as e w1 ⟨rfl, hb0⟩; go_split_ands; have q0 : w1.cell? ⟨B3, 0, none⟩ = some (.int .i64 (u1)) := (hb0.cell (p := ⟨B3, 0, none⟩) (by first | (with_reducible assumption) | (go_size; done) | (simp; omega))).trans (by first | (with_reducible assumption) | (go_keep; done) | (go_cell; done) | (go_simp; done) | (simp [*]; done)); have q1 : w1.cell? ⟨B3, 1, none⟩ = some (.int .i64 (u2)) := (hb0.cell (p := ⟨B3, 1, none⟩) (by first | (with_reducible assumption) | (go_size; done) | (simp; omega))).trans (by first | (with_reducible assumption) | (go_keep; done) | (go_cell; done) | (go_simp; done) | (simp [*]; done)); have q2 : w1.cell? ⟨bv, ov + k * 2, none⟩ = some (.int .i64 (p1)) := (hb0.cell (p := ⟨bv, ov + k * 2, none⟩) (by first | (with_reducible assumption) | (go_size; done) | (simp; omega))).trans (by first | (with_reducible assumption) | (go_keep; done) | (go_cell; done) | (go_simp; done) | (simp [*]; done)); have q3 : w1.cell? ⟨bv, ov + k * 2 + 1, none⟩ = some (.int .i64 (p2)) := (hb0.cell (p := ⟨bv, ov + k * 2 + 1, none⟩) (by first | (with_reducible assumption) | (go_size; done) | (simp; omega))).trans (by first | (with_reducible assumption) | (go_keep; done) | (go_cell; done) | (go_simp; done) | (simp [*]; done)); have hs0 : B3 < w1.heap.size := Nat.lt_of_lt_of_le (by first | (with_reducible assumption) | (go_size; done) | (simp; omega)) hb0.size; have hs1 : bv < w1.heap.size := Nat.lt_of_lt_of_le (by first | (with_reducible assumption) | (go_size; done) | (simp; omega)) hb0.size; have hT : Below (W1.heap.size) W3 w1 := Below.trans (by first | (with_reducible assumption) | (go_grown; done)) (hb0.mono (by first | (with_reducible assumption) | (go_size; done) | (simp; omega) | omega)); have hTs := hT.size; (try have hT2 : Below W3.heap.size W3 w1 := belowTo (by first | (with_reducible assumption) | (go_grown; done)) hb0); clear hb0) | (go_at_call 92; go_call (HD.out _) as e w1 ⟨rfl, hb0⟩; go_split_ands; have q0 : w1.cell? ⟨B3, 0, none⟩ = some (.int .i64 (u1)) := (hb0.cell (p := ⟨B3, 0, none⟩) (by first | (with_reducible assumption) | (go_size; done) | (simp; omega))).trans (by first | (with_reducible assumption) | (go_keep; done) | (go_cell; done) | (go_simp; done) | (simp [*]; done)); have q1 : w1.cell? ⟨B3, 1, none⟩ = some (.int .i64 (u2)) := (hb0.cell (p := ⟨B3, 1, none⟩) (by first | (with_reducible assumption) | (go_size; done) | (simp; omega))).trans (by first | (with_reducible assumption) | (go_keep; done) | (go_cell; done) | (go_simp; done) | (simp [*]; done)); have q2 : w1.cell? ⟨bv, ov + k * 2, none⟩ = some (.int .i64 (p1)) := (hb0.cell (p := ⟨bv, ov + k * 2, none⟩) (by first | (with_reducible assumption) | (go_size; done) | (simp; omega))).trans (by first | (with_reducible assumption) | (go_keep; done) | (go_cell; done) | (go_simp; done) | (simp [*]; done)); have q3 : w1.cell? ⟨bv, ov + k * 2 + 1, none⟩ = some (.int .i64 (p2)) := (hb0.cell (p := ⟨bv, ov + k * 2 + 1, none⟩) (by first | (with_reducible assumption) | (go_size; done) | (simp; omega))).trans (by first | (with_reducible assumption) | (go_keep; done) | (go_cell; done) | (go_simp; done) | (simp [*]; done)); have hs0 : B3 < w1.heap.size := Nat.lt_of_lt_of_le (by first | (with_reducible assumption) | (go_size; done) | (simp; omega)) hb0.size; have hs1 : bv < w1.heap.size := Nat.lt_of_lt_of_le (by first | (with_reducible assumption) | (go_size; done) | (simp; omega)) hb0.size; have hT : Below (W1.heap.size) W3 w1 := Below.trans (by first | (with_reducible assumption) | (go_grown; done)) (hb0.mono (by first | (with_reducible assumption) | (go_size; done) | (simp; omega) | omega)); have hTs := hT.size; (try have hT2 : Below W3.heap.size W3 w1 := belowTo (by first | (with_reducible assumption) | (go_grown; done)) hb0); clear hb0) | (go_at_call 122; go_call (HG.out _) as e w1 ⟨rfl, hb0⟩; go_split_ands; have q0 : w1.cell? ⟨B3, 0, none⟩ = some (.int .i64 (u1)) := (hb0.cell (p := ⟨B3, 0, none⟩) (by first | (with_reducible assumption) | (go_size; done) | (simp; omega))).trans (by first | (with_reducible assumption) | (go_keep; done) | (go_cell; done) | (go_simp; done) | (simp [*]; done)); have q1 : w1.cell? ⟨B3, 1, none⟩ = some (.int .i64 (u2)) := (hb0.cell (p := ⟨B3, 1, none⟩) (by first | (with_reducible assumption) | (go_size; done) | (simp; omega))).trans (by first | (with_reducible assumption) | (go_keep; done) | (go_cell; done) | (go_simp; done) | (simp [*]; done)); have q2 : w1.cell? ⟨bv, ov + k * 2, none⟩ = some (.int .i64 (p1)) := (hb0.cell (p := ⟨bv, ov + k * 2, none⟩) (by first | (with_reducible assumption) | (go_size; done) | (simp; omega))).trans (by first | (with_reducible assumption) | (go_keep; done) | (go_cell; done) | (go_simp; done) | (simp [*]; done)); have q3 : w1.cell? ⟨bv, ov + k * 2 + 1, none⟩ = some (.int .i64 (p2)) := (hb0.cell (p := ⟨bv, ov + k * 2 + 1, none⟩) (by first | (with_reducible assumption) | (go_size; done) | (simp; omega))).trans (by first | (with_reducible assumption) | (go_keep; done) | (go_cell; done) | (go_simp; done) | (simp [*]; done)); have hs0 : B3 < w1.heap.size := Nat.lt_of_lt_of_le (by first | (with_reducible assumption) | (go_size; done) | (simp; omega)) hb0.size; have hs1 : bv < w1.heap.size := Nat.lt_of_lt_of_le (by first | (with_reducible assumption) | (go_size; done) | (simp; omega)) hb0.size; have hT : Below (W1.heap.size) W3 w1 := Below.trans (by first | (with_reducible assumption) | (go_grown; done)) (hb0.mono (by first | (with_reducible assumption) | (go_size; done) | (simp; omega) | omega)); have hTs := hT.size; (try have hT2 : Below W3.heap.size W3 w1 := belowTo (by first | (with_reducible assumption) | (go_grown; done)) hb0); clear hb0))
      have hBk := hB2.trans hT
      by_cases hq : D = G
      · have HF := Lib.hid (HE2.out (by rw [HSk.out]; simpa using hq))
        clear HSk HNk HE2
        go_wp2
        go_roundw
        case rel => exact ⟨k + 1, by omega, by go_num, HF.out, hBk⟩
        case measure => simp [intOf]; omega
      · have HF := Lib.hid (HNk.out (by rw [HSk.out]; simpa using hq))
        clear HSk HNk HE2
        go_wp2
        go_returns
        exact ⟨by rw [HF.out]; rfl, HB1.out.trans (hBk.mono hsW)⟩
    · obtain rfl : k = l.length := by omega
      have i2 : ¬ ((l.length : Nat) : Int) < (l.length : Int) := by omega
      have HF := Lib.hid (HY.out HE.out)
      go_wp2
      go_returns
      exact ⟨by rw [HF.out]; rfl, HB1.out.trans (hB.mono hsW)⟩
end Go.Proofs.YtkcnpbgbgdgkpaaDoor
