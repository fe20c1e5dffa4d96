import Derived.Test.YtohojjoediibhaaDoorHc
import Derived.Test.YtohojjoediibhaaDoorBf
import Derived.Test.YtohojjoediibhaaDoorBp
import Derived.Test.YtohojjoediibhaaDoorBe
/- Sections: bounds and boxes: the model. -/
namespace Go.Proofs.YtohojjoediibhaaDoor
open Go.RowKit

theorem l3NextB_any (a : Option Addr) (n c k : Nat) (w : World) (hk : k < n) (hn : n ≤ 4611686018427387904) :
    Calls Tryd.prog 116 #[.slice a n c, .int .i64 k] w fun e w' => e = .returned (.int .i64 ((k + 1) % n : Nat)) ∧ Below w.heap.size w w' :=
  (l3Next_any a n c k w hk hn).mono (fun _ _ h => ⟨h.1, by rw [← h.2]; exact Below.refl _ _⟩)
end Go.Proofs.YtohojjoediibhaaDoor

/- Sections: boxes, sections: the model's functions. -/
namespace Go.Proofs.YtohojjoediibhaaDoor
open Go.RowKit

/-- is m a section whose products are by e more than they must be -/
def hasE (l : List V2) (d : List Int) (m : V2) (e : Int) : Bool := (List.range l.length).all (fun i => decide (e - gz d i ≤ dotZ m.1 m.2 (cyc l i).1 (cyc l i).2))
theorem hasE_zero (l : List V2) (d : List Int) (m : V2) : hasE l d m 0 = hasZ l d m := by
  unfold hasE hasZ
  simp only [Int.zero_sub]
theorem hasE_bad {l : List V2} {d : List Int} {m : V2} {e : Int} {i : Nat} (hi : i < l.length) (h : dotZ m.1 m.2 (cyc l i).1 (cyc l i).2 < e - gz d i) : hasE l d m e = false := by
  unfold hasE
  rw [List.all_eq_false]
  exact ⟨i, List.mem_range.2 hi, by simpa using h⟩
theorem hasE_good {l : List V2} {d : List Int} {m : V2} {e : Int} (h : ∀ i, i < l.length → e - gz d i ≤ dotZ m.1 m.2 (cyc l i).1 (cyc l i).2) : hasE l d m e = true :=
  List.all_eq_true.2 (fun i hi => by simpa using h i (List.mem_range.1 hi))
set_option maxRecDepth 100000 in
set_option maxHeartbeats 16000000 in
theorem l5Has_any (v : Value) (l : List V2) (u : Value) (d : List Int) (x0 y0 m0 : Int) (w : World) (hv : ReadsVecs w v l) (hu : ReadsInts w u d) (h0 : 0 < l.length) (hn : l.length ≤ 1000) (hal : allVec l) (hl : d.length = l.length) (hb : bnd 200 d) (ha : vecB x0 y0 = true) (hm : 0 ≤ m0 ∧ m0 ≤ 1) :
    Calls Tryd.prog 109 #[v, u, .agg #[.int .i64 (x0), .int .i64 (y0)], .int .i64 m0] w fun e w' => e = .returned (.bool (hasE l d (x0, y0) m0)) ∧ Below w.heap.size w w' := by
  obtain ⟨bv, ov, vc, rfl, _, _, hbv, hvs⟩ := hv.open h0
  obtain ⟨bb, off, c, rfl, _, hbb, hcs⟩ := hu.open (by omega)
  have HVS := Lib.hid hvs
  have HCS := Lib.hid hcs
  have HG : Hid (∀ k, k < l.length → dotZ (cyc l k).1 (cyc l k).2 x0 y0 < m0 - gz d k → hasE l d (x0, y0) m0 = false) := fun k hk h => hasE_bad hk (by rw [dot_flip]; exact h)
  have HT : Hid ((∀ j, j < l.length → m0 - gz d j ≤ dotZ (cyc l j).1 (cyc l j).2 x0 y0) → hasE l d (x0, y0) m0 = true) := fun h => hasE_good (fun i hi => by rw [dot_flip]; exact h i hi)
  have HP := Lib.hid (fun a b w' (h : vecB a b = true) => l1Product_any a b x0 y0 w' h ha)
  have HAL := Lib.hid hal
  have HBN := Lib.hid hb
  clear hv hu hvs hcs hal hb ha
  have HLN := Lib.hid hl
  rw [hl]
  clear hl
  generalize hasE l d (x0, y0) m0 = K at *
  have hA1 : Below w.heap.size w (w.alloc (.cells #[.int .i64 x0, .int .i64 y0] 43)) := by go_grown
  have p0 : (w.alloc (.cells #[.int .i64 x0, .int .i64 y0] 43)).cell? ⟨w.heap.size, 0, none⟩ = some (.int .i64 x0) := by simp
  have p1 : (w.alloc (.cells #[.int .i64 x0, .int .i64 y0] 43)).cell? ⟨w.heap.size, 1, none⟩ = some (.int .i64 y0) := by simp
  have hl1 : w.heap.size < (w.alloc (.cells #[.int .i64 x0, .int .i64 y0] 43)).heap.size := by simp
  have HA1 := Lib.hid hA1
  have HP0 := Lib.hid p0
  have HP1 := Lib.hid p1
  have HL1 := Lib.hid hl1
  clear hA1 p0 p1 hl1
  go_enter Tryd.func109, Tryd.ntmps109
  go_wp2
  generalize (w.alloc (.cells #[.int .i64 x0, .int .i64 y0] 43)) = V1 at *
  go_loopw [9] (fun s wr => ∃ k : Nat, k ≤ l.length ∧ s = .int .i64 k ∧ Hid (∀ j, j < k → m0 - gz d j ≤ dotZ (cyc l j).1 (cyc l j).2 x0 y0) ∧ Below V1.heap.size V1 wr) (fun s _ => l.length - (intOf s).toNat)
  case atStart => exact ⟨0, Nat.zero_le _, rfl, fun j hj => by omega, Below.refl _ _⟩
  case round =>
    obtain ⟨k, hk, rfl, hE, hB⟩ := hrel
    have i1 : (0 : Int) ≤ (k : Int) := by omega
    have hBw : Below w.heap.size w wr := HA1.out.trans (hB.mono (by have := HL1.out; omega))
    by_cases hlt : k < l.length
    · have i2 : (k : Int) < (l.length : Int) := by omega
      obtain ⟨c0, c1⟩ := HVS.out wr hBw k hlt
      have c2 := HCS.out wr hBw k (by have := HLN.out; omega)
      have c3 := (hB.cell (p := ⟨w.heap.size, 0, none⟩) HL1.out).trans HP0.out
      have c4 := (hB.cell (p := ⟨w.heap.size, 1, none⟩) HL1.out).trans HP1.out
      have hv1 := HAL.out k
      have HP2 := Lib.hid (fun w' => HP.out _ _ w' hv1)
      have hbk := HBN.out k
      have HN := Lib.hid (fun h => HG.out k hlt h)
      have HK : Hid (m0 - gz d k ≤ dotZ (cyc l k).1 (cyc l k).2 x0 y0 → ∀ j, j < k + 1 → m0 - gz d j ≤ dotZ (cyc l j).1 (cyc l j).2 x0 y0) := fun h j hj => by
        by_cases e : j = k
        · subst e; exact h
        · exact hE.out j (by omega)
      generalize hD : dotZ (cyc l k).1 (cyc l k).2 x0 y0 = D at HN HK HP2
      generalize gz d k = z at *
      generalize hC : cyc l k = C at *
      obtain ⟨zx, zy⟩ := C
      dsimp only at c0 c1 HP2
      have q1 : IntKind.i64.wrap (m0 - z) = m0 - z := by rw [IntKind.wrap_i64]; omega
      have t0 := cell_lt c0
      have t2 := cell_lt c2
      have t3 := cell_lt c3
      have HBw := Lib.hid hBw
      clear hD hC HVS HCS HG HT HAL HBN HP hv1 hBw HA1 HP0 HP1
      go_wp2
      go_region_held3 (fun w' => w'.cell? ⟨bv, ov + k * 2, none⟩ = some (.int .i64 (zx)) ∧ w'.cell? ⟨bv, ov + k * 2 + 1, none⟩ = some (.int .i64 (zy)) ∧ w'.cell? ⟨w.heap.size, 0, none⟩ = some (.int .i64 (x0)) ∧ w'.cell? ⟨w.heap.size, 1, none⟩ = some (.int .i64 (y0)) ∧ w'.cell? ⟨bb, off + k, none⟩ = some (.int .i64 (z)) ∧ Below (wr.heap.size) wr w') ((go_split_ands; refine ⟨by (first | (with_reducible assumption) | (go_keep; done) | (go_cell; done) | (go_simp; done) | (simp [*]; done)), by (first | (with_reducible assumption) | (go_keep; done) | (go_cell; done) | (go_simp; done) | (simp [*]; done)), by (first | (with_reducible assumption) | (go_keep; done) | (go_cell; done) | (go_simp; done) | (simp [*]; done)), by (first | (with_reducible assumption) | (go_keep; done) | (go_cell; done) | (go_simp; done) | (simp [*]; done)), by (first | (with_reducible assumption) | (go_keep; done) | (go_cell; done) | (go_simp; done) | (simp [*]; done)), by first | (with_reducible assumption) | (go_grown; done)⟩)) (first | (go_at_call 141; go_call (HP2.out _) as e w1 ⟨rfl, hb0⟩; go_split_ands; have q0 : w1.cell? ⟨bv, ov + k * 2, none⟩ = some (.int .i64 (zx)) := (hb0.cell (p := ⟨bv, ov + k * 2, none⟩) (by first | (with_reducible assumption) | (go_size; done) | (simp; omega))).trans (by first | (with_reducible assumption) | (go_keep; done) | (go_cell; done) | (go_simp; done) | (simp [*]; done)); have q1 : w1.cell? ⟨bv, ov + k * 2 + 1, none⟩ = some (.int .i64 (zy)) := (hb0.cell (p := ⟨bv, ov + k * 2 + 1, none⟩) (by first | (with_reducible assumption) | (go_size; done) | (simp; omega))).trans (by first | (with_reducible assumption) | (go_keep; done) | (go_cell; done) | (go_simp; done) | (simp [*]; done)); have q2 : w1.cell? ⟨w.heap.size, 0, none⟩ = some (.int .i64 (x0)) := (hb0.cell (p := ⟨w.heap.size, 0, none⟩) (by first | (with_reducible assumption) | (go_size; done) | (simp; omega))).trans (by first | (with_reducible assumption) | (go_keep; done) | (go_cell; done) | (go_simp; done) | (simp [*]; done)); have q3 : w1.cell? ⟨w.heap.size, 1, none⟩ = some (.int .i64 (y0)) := (hb0.cell (p := ⟨w.heap.size, 1, none⟩) (by first | (with_reducible assumption) | (go_size; done) | (simp; omega))).trans (by first | (with_reducible assumption) | (go_keep; done) | (go_cell; done) | (go_simp; done) | (simp [*]; done)); have q4 : w1.cell? ⟨bb, off + k, none⟩ = some (.int .i64 (z)) := (hb0.cell (p := ⟨bb, off + k, none⟩) (by first | (with_reducible assumption) | (go_size; done) | (simp; omega))).trans (by first | (with_reducible assumption) | (go_keep; done) | (go_cell; done) | (go_simp; done) | (simp [*]; done)); have hs0 : bv < w1.heap.size := Nat.lt_of_lt_of_le (by first | (with_reducible assumption) | (go_size; done) | (simp; omega)) hb0.size; have hs1 : w.heap.size < w1.heap.size := Nat.lt_of_lt_of_le (by first | (with_reducible assumption) | (go_size; done) | (simp; omega)) hb0.size; have hs2 : bb < w1.heap.size := Nat.lt_of_lt_of_le (by first | (with_reducible assumption) | (go_size; done) | (simp; omega)) hb0.size; have hT : Below (wr.heap.size) wr w1 := Below.trans (by first | (with_reducible assumption) | (go_grown; done)) (hb0.mono (by first | (with_reducible assumption) | (go_size; done) | (simp; omega) | omega)); have hTs := hT.size; (try have hT2 : Below wr.heap.size wr w1 := belowTo (by first | (with_reducible assumption) | (go_grown; done)) hb0); clear hb0))
      have hB2 : Below V1.heap.size V1 w1 := hB.trans (Below.mono hT hB.size)
      by_cases hD : D < m0 - z
      · have HF := Lib.hid (HN.out hD)
        have hA := HBw.out.trans (Below.mono hT HBw.out.size)
        go_wp2
        go_returns
        exact ⟨by rw [HF.out]; rfl, hA⟩
      · have HK2 := Lib.hid (HK.out (by omega))
        go_wp2
        go_roundw
        case rel => exact ⟨k + 1, by omega, by go_num, HK2, hB2⟩
        case measure => simp [intOf]; omega
    · obtain rfl : k = l.length := by omega
      have i2 : ¬ ((l.length : Nat) : Int) < (l.length : Int) := by omega
      have HT2 := Lib.hid (HT.out hE.out)
      go_wp2
      go_returns
      exact ⟨by rw [HT2.out]; rfl, hBw⟩
end Go.Proofs.YtohojjoediibhaaDoor

/- Sections: is a vector one: the model's exported function. -/
namespace Go.Proofs.YtohojjoediibhaaDoor
open Go.RowKit

set_option maxHeartbeats 8000000 in
theorem specSectionHas_any (v : Value) (l : List V2) (u : Value) (d : List Int) (x0 y0 : Int) (w : World) (hl : ReadsVecs w v l) (hd : ReadsInts w u d) :
    Calls Tryd.prog 45 #[v, u, .agg #[.int .i64 (x0), .int .i64 (y0)]] w fun e w' => e = .returned (.bool (divB l d && (vecB x0 y0 && hasZ l d (x0, y0)))) ∧ Below w.heap.size w w' := by
  have HO := Lib.hid (fun w' (hb : Below w.heap.size w w') => specDivisorIn_any v l u d w' (hl.below hb) (hd.below hb))
  have HX := Lib.hid (fun w' (hb : Below w.heap.size w w') (hk : divB l d = true) (ha : vecB x0 y0 = true) => by
    have h3 := div_len hk
    have h := l5Has_any v l u d x0 y0 0 w' (hl.below hb) (hd.below hb) (by omega) (by omega) (div_smooth hk).1 (div_in hk).2.1 (bnd_mono (div_bnd hk) (by omega)) ha (by omega)
    rw [hasE_zero] at h
    exact h)
  have HV := Lib.hid (fun w' => specVecIn_any x0 y0 w')
  obtain ⟨va, vc, rfl, _⟩ := hl
  obtain ⟨a, c, rfl, _⟩ := hd.len
  clear hd
  generalize hasZ l d (x0, y0) = K at *
  cases hk : divB l d
  · rw [hk] at HO
    clear HX hk HV
    go_enter Tryd.func45, Tryd.ntmps45
    go_wp2_with fail
    refine Calls.mono (HO.out _ (by go_grown)) ?_
    rintro e w1 ⟨rfl, hb1⟩
    have hB : Below w.heap.size w w1 := belowTo (by go_grown) hb1
    clear hb1
    go_wp2
    go_returns
    exact ⟨rfl, hB⟩
  · rw [hk] at HO
    have HX2 := Lib.hid (fun w' hb => HX.out w' hb hk)
    clear HX hk
    cases ha : vecB x0 y0
    · rw [ha] at HV
      clear ha HX2
      go_enter Tryd.func45, Tryd.ntmps45
      go_wp2_with fail
      refine Calls.mono (HO.out _ (by go_grown)) ?_
      rintro e w1 ⟨rfl, hb1⟩
      have hB : Below w.heap.size w w1 := belowTo (by go_grown) hb1
      have hc0 : w1.cell? ⟨w.heap.size, 0, none⟩ = some (.int .i64 x0) := (hb1.cell (p := ⟨w.heap.size, 0, none⟩) (by simp)).trans (by simp)
      have hc1 : w1.cell? ⟨w.heap.size, 1, none⟩ = some (.int .i64 y0) := (hb1.cell (p := ⟨w.heap.size, 1, none⟩) (by simp)).trans (by simp)
      clear hb1
      go_wp2_with fail
      refine Calls.mono (HV.out _) ?_
      rintro e w2 ⟨rfl, hb2⟩
      have hB2 := belowTo hB hb2
      clear hb2
      go_wp2
      go_returns
      exact ⟨rfl, hB2⟩
    · rw [ha] at HV
      have HX3 := Lib.hid (fun w' hb => HX2.out w' hb ha)
      clear ha HX2
      go_enter Tryd.func45, Tryd.ntmps45
      go_wp2_with fail
      refine Calls.mono (HO.out _ (by go_grown)) ?_
      rintro e w1 ⟨rfl, hb1⟩
      have hB : Below w.heap.size w w1 := belowTo (by go_grown) hb1
      have hc0 : w1.cell? ⟨w.heap.size, 0, none⟩ = some (.int .i64 x0) := (hb1.cell (p := ⟨w.heap.size, 0, none⟩) (by simp)).trans (by simp)
      have hc1 : w1.cell? ⟨w.heap.size, 1, none⟩ = some (.int .i64 y0) := (hb1.cell (p := ⟨w.heap.size, 1, none⟩) (by simp)).trans (by simp)
      clear hb1
      go_wp2_with fail
      refine Calls.mono (HV.out _) ?_
      rintro e w2 ⟨rfl, hb2⟩
      have hB2 := belowTo hB hb2
      replace hc0 := (hb2.cell (p := ⟨w.heap.size, 0, none⟩) (cell_lt hc0)).trans hc0
      replace hc1 := (hb2.cell (p := ⟨w.heap.size, 1, none⟩) (cell_lt hc1)).trans hc1
      clear hb2
      go_wp2_with fail
      refine Calls.mono (HX3.out _ hB2) ?_
      rintro e w3 ⟨rfl, hb3⟩
      have hB3 := belowTo hB2 hb3
      clear hb3
      go_wp2
      go_returns
      exact ⟨rfl, hB3⟩
end Go.Proofs.YtohojjoediibhaaDoor
