/- Lists of vectors: twice the area, checked: the mathematics, the program. -/
import Derived.Test.YtcieihbknfeddabGreatDoorL4
import Derived.Test.YtcieihbknfeddabGreatDoorBe
import Derived.Test.YtcieihbknfeddabGreatDoorB2
namespace Go.Proofs.YtcieihbknfeddabGreatDoor
open Go.RowKit

def allV (l : List V2) : Bool := l.all (fun m => vecB m.1 m.2)
theorem allV_bad {l : List V2} {k : Nat} (hk : k < l.length) (h : vecB (cyc l k).1 (cyc l k).2 = false) : allV l = false := by
  unfold allV
  rw [List.all_eq_false]
  exact ⟨_, cyc_mem (by omega) k, by rw [h]; decide⟩
theorem allV_good {l : List V2} (h : ∀ k, k < l.length → vecB (cyc l k).1 (cyc l k).2 = true) : allV l = true := by
  unfold allV
  rw [List.all_eq_true]
  intro x hx
  obtain ⟨i, hi, rfl⟩ := List.mem_iff_getElem.1 hx
  have := h i hi
  unfold cyc at this
  rw [Nat.mod_eq_of_lt hi, List.getElem?_eq_getElem hi] at this
  exact this
theorem allV_at {l : List V2} (h : allV l = true) {k : Nat} (hk : k < l.length) : vecB (cyc l k).1 (cyc l k).2 = true := List.all_eq_true.1 h _ (cyc_mem (by omega) k)
def areaZ (l : List V2) : Int := sumZ (fun i => detV (cyc l i) (cyc l (i + 1))) l.length
theorem area_terms {l : List V2} (h : allV l = true) (h0 : 0 < l.length) (i : Nat) : -2000000 ≤ detV (cyc l i) (cyc l (i + 1)) ∧ detV (cyc l i) (cyc l (i + 1)) ≤ 2000000 := by
  have h1 := allV_at h (Nat.mod_lt i h0)
  have h2 := allV_at h (Nat.mod_lt (i + 1) h0)
  rw [cyc_mod] at h1 h2
  unfold detV detZ
  have a := szs h1
  have b := szs h2
  have m1 := mul_le a.1 b.2
  have m2 := mul_le a.2 b.1
  omega
theorem area_bnd {l : List V2} (h : allV l = true) (h0 : 0 < l.length) {k : Nat} (hk : k ≤ 1000) : -2000000000 ≤ sumZ (fun i => detV (cyc l i) (cyc l (i + 1))) k ∧ sumZ (fun i => detV (cyc l i) (cyc l (i + 1))) k ≤ 2000000000 := by
  have := sumZ_bnd (area_terms h h0) k
  omega

def CornPost (l : List V2) (w : World) (e : Ending) (w' : World) : Prop := ((allV l = true ∧ e = .returned .nilIface) ∨ (allV l = false ∧ IsNone e)) ∧ Below w.heap.size w w'
set_option maxHeartbeats 8000000 in
theorem cornCheck_any (v : Value) (l : List V2) (w : World) (h : ReadsVecs w v l) (h0 : 0 < l.length) (hm : l.length ≤ 1000) :
    Calls Tryz.prog 127 #[v] w (CornPost l w) := by
  obtain ⟨bv, ov, vc, rfl, _, _, hbv, hvs⟩ := h.open h0
  have HVS := Lib.hid hvs
  have HBad := Lib.hid (fun k hk hz => allV_bad (l := l) (k := k) hk hz)
  have HGood := Lib.hid (fun h => allV_good (l := l) h)
  have HKp := Lib.hid (fun x y w' (h : vecB x y = true) => check_in x y w' h)
  have HKn := Lib.hid (fun x y w' (h : vecB x y = false) => check_out x y w' h)
  clear h hvs
  unfold CornPost
  generalize allV l = K at *
  go_enter Tryz.func127, Tryz.ntmps127
  go_wp2
  go_loopw [8] (fun s wr => ∃ k : Nat, k ≤ l.length ∧ s = .int .i64 k ∧ Hid (∀ j, j < l.length → j < k → vecB (cyc l j).1 (cyc l j).2 = true) ∧ Below w.heap.size w wr) (fun s _ => l.length - (intOf s).toNat)
  case atStart => exact ⟨0, Nat.zero_le _, rfl, fun j _ hj => by omega, Below.refl _ _⟩
  case round =>
    obtain ⟨k, hk, rfl, HE, hB⟩ := hrel
    have i1 : (0 : Int) ≤ (k : Int) := by omega
    by_cases hlt : k < l.length
    · have i2 : (k : Int) < (l.length : Int) := by omega
      obtain ⟨c0, c1⟩ := HVS.out wr hB k hlt
      have HB := Lib.hid (fun h => HBad.out k hlt h)
      have HE2 : Hid (vecB (cyc l k).1 (cyc l k).2 = true → ∀ j, j < l.length → j < k + 1 → vecB (cyc l j).1 (cyc l j).2 = true) := fun h j h1 h2 => by
        by_cases e : j = k
        · subst e; exact h
        · exact HE.out j h1 (by omega)
      have hs := hB.size
      generalize cyc l k = V at HB HE2 c0 c1
      obtain ⟨x, y⟩ := V
      dsimp only at HB HE2 c0 c1
      cases hz : vecB x y
      · have HK := Lib.hid (fun w' => HKn.out x y w' hz)
        have HF := Lib.hid (HB.out hz)
        clear hz HE HE2 HB HVS
        go_wp2_with fail
        refine Calls.mono (HK.out _) ?_
        rintro e w2 ⟨rfl, hb2⟩
        have hA : Below w.heap.size w w2 := hB.trans (Below.mono (belowTo (a := wr) (by go_grown) hb2) hs)
        clear hb2
        go_wp2
        go_returns
        exact ⟨.inr ⟨HF.out, ⟨_, rfl⟩⟩, hA⟩
      · have HK := Lib.hid (fun w' => HKp.out x y w' hz)
        have HE3 := Lib.hid (HE2.out hz)
        clear hz HE HE2 HB HVS
        go_wp2_with fail
        refine Calls.mono (HK.out _) ?_
        rintro e w2 ⟨rfl, hb2⟩
        have hA : Below w.heap.size w w2 := hB.trans (Below.mono (belowTo (a := wr) (by go_grown) hb2) hs)
        clear hb2
        go_wp2
        go_roundw
        case rel => exact ⟨k + 1, by omega, by go_num, HE3, hA⟩
        case measure => simp [intOf]; omega
    · obtain rfl : k = l.length := by omega
      have i2 : ¬ ((l.length : Nat) : Int) < (l.length : Int) := by omega
      have HT2 := Lib.hid (HGood.out (fun j hj => HE.out j hj hj))
      go_wp2
      go_returns
      exact ⟨.inl ⟨HT2.out, rfl⟩, hB⟩
set_option maxRecDepth 100000 in
set_option maxHeartbeats 8000000 in
theorem area_any (v : Value) (l : List V2) (w : World) (h : ReadsVecs w v l) (h0 : 0 < l.length) (hm : l.length ≤ 1000) (ha : allV l = true) :
    Calls Tryz.prog 36 #[v] w fun e w' => e = .returned (.int .i64 (areaZ l)) ∧ Below w.heap.size w w' := by
  obtain ⟨bv, ov, vc, rfl, _, _, hbv, hvs⟩ := h.open h0
  have HVS := Lib.hid hvs
  have HA := Lib.hid (fun k hk => allV_at (l := l) ha (k := k) hk)
  have HD := Lib.hid (fun x1 y1 x2 y2 w' h1 h2 => det_any x1 y1 x2 y2 w' h1 h2)
  have HT := Lib.hid (fun i => area_terms ha h0 i)
  have HBd := Lib.hid (fun k (hk : k ≤ 1000) => area_bnd ha h0 hk)
  have HSu : Hid (∀ k, sumZ (fun i => detV (cyc l i) (cyc l (i + 1))) (k + 1) = sumZ (fun i => detV (cyc l i) (cyc l (i + 1))) k + detV (cyc l k) (cyc l (k + 1))) := fun _ => rfl
  have H00 : Hid (sumZ (fun i => detV (cyc l i) (cyc l (i + 1))) 0 = 0) := rfl
  unfold areaZ
  generalize sumZ (fun i => detV (cyc l i) (cyc l (i + 1))) = S at *
  clear h hvs ha
  go_enter Tryz.func36, Tryz.ntmps36
  go_wp2
  go_loopw [3, 8] (fun s3 s8 wr => ∃ k : Nat, k ≤ l.length ∧ s3 = .int .i64 (S k) ∧ s8 = .int .i64 k ∧ Below w.heap.size w wr) (fun _ s8 _ => l.length - (intOf s8).toNat)
  case atStart => exact ⟨0, Nat.zero_le _, by rw [H00.out], rfl, Below.refl _ _⟩
  case round =>
    obtain ⟨k, hk, rfl, rfl, hB⟩ := hrel
    have i1 : (0 : Int) ≤ (k : Int) := by omega
    by_cases hlt : k < l.length
    · have i2 : (k : Int) < (l.length : Int) := by omega
      have hq : (k + 1) % l.length < l.length := Nat.mod_lt _ h0
      have j3 : (0 : Int) ≤ (((k + 1) % l.length : Nat) : Int) := by omega
      have j4 : (((k + 1) % l.length : Nat) : Int) < (l.length : Int) := by omega
      have j5 : ¬ (l.length : Int) = 0 := by omega
      have j6 : ((l.length : Int) == 0) = false := by simpa using j5
      have j7 : ¬ l.length = 0 := by omega
      have t2 := next_is k l.length
      obtain ⟨c0, c1⟩ := HVS.out wr hB k hlt
      obtain ⟨d0, d1⟩ := HVS.out wr hB _ hq
      rw [cyc_mod] at d0 d1
      have v0 := HA.out k hlt
      have v1 := HA.out _ hq
      rw [cyc_mod] at v1
      have b1 := HBd.out k (by omega)
      have b2 := HT.out k
      have HSk := Lib.hid (HSu.out k)
      unfold detV at HSk b2
      have HDk := Lib.hid (fun w' => HD.out _ _ _ _ w' v0 v1)
      have q0 : IntKind.i64.wrap ((k : Int) + 1) = (k : Int) + 1 := by rw [IntKind.wrap_i64]; omega
      generalize hz : detZ (cyc l k).1 (cyc l k).2 (cyc l (k + 1)).1 (cyc l (k + 1)).2 = z at HSk b2 HDk
      have q1 : IntKind.i64.wrap (S k + z) = S k + z := by rw [IntKind.wrap_i64]; omega
      generalize cyc l k = V at *
      generalize cyc l (k + 1) = U at *
      obtain ⟨x1, y1⟩ := V
      obtain ⟨x2, y2⟩ := U
      dsimp only at c0 c1 d0 d1 HDk
      generalize (k + 1) % l.length = q at *
      have hs := hB.size
      have t0 := cell_lt c0
      have t1 := cell_lt d0
      clear hz v0 v1 HA HD HT HBd HSu H00 HVS b1 b2
      go_wp2_with fail
      have hA2 : Below wr.heap.size wr (wr.alloc (.cells #[.int .i64 x1, .int .i64 y1] 42)) := by go_grown
      have e0 : (wr.alloc (.cells #[.int .i64 x1, .int .i64 y1] 42)).cell? ⟨wr.heap.size, 0, none⟩ = some (.int .i64 x1) := by simp
      have e1 : (wr.alloc (.cells #[.int .i64 x1, .int .i64 y1] 42)).cell? ⟨wr.heap.size, 1, none⟩ = some (.int .i64 y1) := by simp
      replace d1 := (hA2.cell (p := ⟨bv, ov + q * 2 + 1, none⟩) t1).trans d1
      replace d0 := (hA2.cell (p := ⟨bv, ov + q * 2, none⟩) t1).trans d0
      have hB2 := hB.trans (hA2.mono hs)
      obtain ⟨B3, hB3⟩ : ∃ B3, B3 = wr.heap.size := ⟨_, rfl⟩
      rw [← hB3] at e0 e1 ⊢
      generalize (wr.alloc (.cells #[.int .i64 x1, .int .i64 y1] 42)) = W3 at *
      clear hA2 hB3 c0 c1 t0 t1
      have hs3 := hB2.size
      have t0 := cell_lt e0
      have t1 := cell_lt d0
      go_region_held3 (fun w' => w'.cell? ⟨B3, 0, none⟩ = some (.int .i64 (x1)) ∧ w'.cell? ⟨B3, 1, none⟩ = some (.int .i64 (y1)) ∧ w'.cell? ⟨bv, ov + q * 2, none⟩ = some (.int .i64 (x2)) ∧ w'.cell? ⟨bv, ov + q * 2 + 1, none⟩ = some (.int .i64 (y2)) ∧ Below (w.heap.size) W3 w') ((go_split_ands; refine ⟨by (first | (with_reducible assumption) | (go_keep; done) | (go_cell; done) | (go_simp; done) | (simp [*]; done)), by (first | (with_reducible assumption) | (go_keep; done) | (go_cell; done) | (go_simp; done) | (simp [*]; done)), by (first | (with_reducible assumption) | (go_keep; done) | (go_cell; done) | (go_simp; done) | (simp [*]; done)), by (first | (with_reducible assumption) | (go_keep; done) | (go_cell; done) | (go_simp; done) | (simp [*]; done)), by first | (with_reducible assumption) | (go_grown; done)⟩)) (first | (go_at_call 51; go_call (HDk.out _) as e w1 ⟨rfl, hb0⟩; go_split_ands; have q0 : w1.cell? ⟨B3, 0, none⟩ = some (.int .i64 (x1)) := (hb0.cell (p := ⟨B3, 0, none⟩) (by first | (with_reducible assumption) | (go_size; done) | (simp; omega))).trans (by first | (with_reducible assumption) | (go_keep; done) | (go_cell; done) | (go_simp; done) | (simp [*]; done)); have q1 : w1.cell? ⟨B3, 1, none⟩ = some (.int .i64 (y1)) := (hb0.cell (p := ⟨B3, 1, none⟩) (by first | (with_reducible assumption) | (go_size; done) | (simp; omega))).trans (by first | (with_reducible assumption) | (go_keep; done) | (go_cell; done) | (go_simp; done) | (simp [*]; done)); have q2 : w1.cell? ⟨bv, ov + q * 2, none⟩ = some (.int .i64 (x2)) := (hb0.cell (p := ⟨bv, ov + q * 2, none⟩) (by first | (with_reducible assumption) | (go_size; done) | (simp; omega))).trans (by first | (with_reducible assumption) | (go_keep; done) | (go_cell; done) | (go_simp; done) | (simp [*]; done)); have q3 : w1.cell? ⟨bv, ov + q * 2 + 1, none⟩ = some (.int .i64 (y2)) := (hb0.cell (p := ⟨bv, ov + q * 2 + 1, none⟩) (by first | (with_reducible assumption) | (go_size; done) | (simp; omega))).trans (by first | (with_reducible assumption) | (go_keep; done) | (go_cell; done) | (go_simp; done) | (simp [*]; done)); have hs0 : B3 < w1.heap.size := Nat.lt_of_lt_of_le (by first | (with_reducible assumption) | (go_size; done) | (simp; omega)) hb0.size; have hs1 : bv < w1.heap.size := Nat.lt_of_lt_of_le (by first | (with_reducible assumption) | (go_size; done) | (simp; omega)) hb0.size; have hT : Below (w.heap.size) W3 w1 := Below.trans (by first | (with_reducible assumption) | (go_grown; done)) (hb0.mono (by first | (with_reducible assumption) | (go_size; done) | (simp; omega) | omega)); have hTs := hT.size; (try have hT2 : Below W3.heap.size W3 w1 := belowTo (by first | (with_reducible assumption) | (go_grown; done)) hb0); clear hb0))
      have hBk := hB2.trans hT
      go_wp2
      go_roundw
      case rel => exact ⟨k + 1, by omega, by rw [HSk.out], by go_num, hBk⟩
      case measure => simp [intOf]; omega
    · obtain rfl : k = l.length := by omega
      have i2 : ¬ ((l.length : Nat) : Int) < (l.length : Int) := by omega
      go_wp2
      go_returns
      exact ⟨rfl, hB⟩
end Go.Proofs.YtcieihbknfeddabGreatDoor
