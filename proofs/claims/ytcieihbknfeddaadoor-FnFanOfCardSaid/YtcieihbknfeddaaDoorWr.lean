/- How often directions lead round. -/
import Derived.Test.YtcieihbknfeddaaDoorL4
import Derived.Test.YtcieihbknfeddaaDoorB2
namespace Go.Proofs.YtcieihbknfeddaaDoor
open Go.RowKit

theorem cnt_next (p : Nat → Bool) (k : Nat) : cnt p (List.range (k + 1)) = cnt p (List.range k) + (if p k then 1 else 0) := by
  rw [List.range_succ, cnt_snoc]
set_option maxRecDepth 100000 in
set_option maxHeartbeats 8000000 in
theorem rounds_any (v : Value) (l : List V2) (w : World) (h : ReadsVecs w v l) (h0 : 0 < l.length) (hm : l.length ≤ 1000) (hv : allVec l) :
    Calls Tryd.prog 154 #[v] w fun e w' => e = .returned (.int .i64 (cnt (bkB l) (List.range l.length) : Nat)) ∧ Below w.heap.size w w' := by
  obtain ⟨bv, ov, vc, rfl, _, _, hbv, hvs⟩ := h.open h0
  have HVS := Lib.hid hvs
  have HA := Lib.hid hv
  have HD := Lib.hid (fun x1 y1 x2 y2 w' h1 h2 => ahead_any x1 y1 x2 y2 w' h1 h2)
  have HSu := Lib.hid (fun k => cnt_next (bkB l) k)
  have HBk : Hid (∀ k, bkB l k = aheadB (cyc l (k + 1)).1 (cyc l (k + 1)).2 (cyc l k).1 (cyc l k).2) := fun _ => rfl
  have HLe : Hid (∀ k, cnt (bkB l) (List.range k) ≤ k) := fun k => by have := cnt_le (bkB l) (List.range k); rwa [List.length_range] at this
  clear h hvs hv
  go_enter Tryd.func154, Tryd.ntmps154
  go_wp2
  go_loopw [3, 8] (fun s3 s8 wr => ∃ k : Nat, k ≤ l.length ∧ s3 = .int .i64 (cnt (bkB l) (List.range k) : Nat) ∧ s8 = .int .i64 k ∧ Below w.heap.size w wr) (fun _ s8 _ => l.length - (intOf s8).toNat)
  case atStart => exact ⟨0, Nat.zero_le _, rfl, rfl, Below.refl _ _⟩
  case round =>
    obtain ⟨k, hk, rfl, rfl, hB⟩ := hrel
    have i1 : (0 : Int) ≤ (k : Int) := by omega
    by_cases hlt : k < l.length
    · have i2 : (k : Int) < (l.length : Int) := by omega
      have hq : (k + 1) % l.length < l.length := Nat.mod_lt _ h0
      have j3 : (0 : Int) ≤ (((k + 1) % l.length : Nat) : Int) := by omega
      have j4 : (((k + 1) % l.length : Nat) : Int) < (l.length : Int) := by omega
      have j5 : ¬ (l.length : Int) = 0 := by omega
      have j6 : ((l.length : Int) == 0) = false := by simpa using j5
      have j7 : ¬ l.length = 0 := by omega
      have t2 := next_is k l.length
      obtain ⟨c0, c1⟩ := HVS.out wr hB k hlt
      obtain ⟨d0, d1⟩ := HVS.out wr hB _ hq
      rw [cyc_mod] at d0 d1
      have v0 := HA.out k
      have v1 := HA.out (k + 1)
      have HDk := Lib.hid (fun w' => HD.out _ _ _ _ w' v1 v0)
      rw [← HBk.out k] at HDk
      have HSk := Lib.hid (HSu.out k)
      have hcl : ((cnt (bkB l) (List.range k) : Nat) : Int) ≤ 1000 := by have := HLe.out k; omega
      have hc0 : (0 : Int) ≤ ((cnt (bkB l) (List.range k) : Nat) : Int) := by omega
      have q0 : IntKind.i64.wrap ((k : Int) + 1) = (k : Int) + 1 := by rw [IntKind.wrap_i64]; omega
      generalize cnt (bkB l) (List.range k) = C at *
      generalize bkB l k = kk at HDk HSk
      generalize cyc l k = V at *
      generalize cyc l (k + 1) = U at *
      obtain ⟨x1, y1⟩ := V
      obtain ⟨x2, y2⟩ := U
      dsimp only at c0 c1 d0 d1 HDk
      generalize (k + 1) % l.length = q at *
      have hs := hB.size
      have t0 := cell_lt c0
      have t1 := cell_lt d0
      clear v0 v1 HA HD HSu HBk HLe HVS
      go_wp2_with fail
      have hA2 : Below wr.heap.size wr (wr.alloc (.cells #[.int .i64 x1, .int .i64 y1] 26)) := by go_grown
      have e0 : (wr.alloc (.cells #[.int .i64 x1, .int .i64 y1] 26)).cell? ⟨wr.heap.size, 0, none⟩ = some (.int .i64 x1) := by simp
      have e1 : (wr.alloc (.cells #[.int .i64 x1, .int .i64 y1] 26)).cell? ⟨wr.heap.size, 1, none⟩ = some (.int .i64 y1) := by simp
      replace d1 := (hA2.cell (p := ⟨bv, ov + q * 2 + 1, none⟩) t1).trans d1
      replace d0 := (hA2.cell (p := ⟨bv, ov + q * 2, none⟩) t1).trans d0
      have hB2 := hB.trans (hA2.mono hs)
      obtain ⟨B3, hB3⟩ : ∃ B3, B3 = wr.heap.size := ⟨_, rfl⟩
      rw [← hB3] at e0 e1 ⊢
      generalize (wr.alloc (.cells #[.int .i64 x1, .int .i64 y1] 26)) = W3 at *
      clear hA2 hB3 c0 c1 t0 t1
      have hs3 := hB2.size
      have t0 := cell_lt e0
      have t1 := cell_lt d0
      go_region_held3 (fun w' => w'.cell? ⟨B3, 0, none⟩ = some (.int .i64 (x1)) ∧ w'.cell? ⟨B3, 1, none⟩ = some (.int .i64 (y1)) ∧ w'.cell? ⟨bv, ov + q * 2, none⟩ = some (.int .i64 (x2)) ∧ w'.cell? ⟨bv, ov + q * 2 + 1, none⟩ = some (.int .i64 (y2)) ∧ Below (w.heap.size) W3 w') ((go_split_ands; refine ⟨by (first | (with_reducible assumption) | (go_keep; done) | (go_cell; done) | (go_simp; done) | (simp [*]; done)), by (first | (with_reducible assumption) | (go_keep; done) | (go_cell; done) | (go_simp; done) | (simp [*]; done)), by (first | (with_reducible assumption) | (go_keep; done) | (go_cell; done) | (go_simp; done) | (simp [*]; done)), by (first | (with_reducible assumption) | (go_keep; done) | (go_cell; done) | (go_simp; done) | (simp [*]; done)), by first | (with_reducible assumption) | (go_grown; done)⟩)) (first | (go_at_call 124; go_call (HDk.out _) as e w1 ⟨rfl, hb0⟩; go_split_ands; have q0 : w1.cell? ⟨B3, 0, none⟩ = some (.int .i64 (x1)) := (hb0.cell (p := ⟨B3, 0, none⟩) (by first | (with_reducible assumption) | (go_size; done) | (simp; omega))).trans (by first | (with_reducible assumption) | (go_keep; done) | (go_cell; done) | (go_simp; done) | (simp [*]; done)); have q1 : w1.cell? ⟨B3, 1, none⟩ = some (.int .i64 (y1)) := (hb0.cell (p := ⟨B3, 1, none⟩) (by first | (with_reducible assumption) | (go_size; done) | (simp; omega))).trans (by first | (with_reducible assumption) | (go_keep; done) | (go_cell; done) | (go_simp; done) | (simp [*]; done)); have q2 : w1.cell? ⟨bv, ov + q * 2, none⟩ = some (.int .i64 (x2)) := (hb0.cell (p := ⟨bv, ov + q * 2, none⟩) (by first | (with_reducible assumption) | (go_size; done) | (simp; omega))).trans (by first | (with_reducible assumption) | (go_keep; done) | (go_cell; done) | (go_simp; done) | (simp [*]; done)); have q3 : w1.cell? ⟨bv, ov + q * 2 + 1, none⟩ = some (.int .i64 (y2)) := (hb0.cell (p := ⟨bv, ov + q * 2 + 1, none⟩) (by first | (with_reducible assumption) | (go_size; done) | (simp; omega))).trans (by first | (with_reducible assumption) | (go_keep; done) | (go_cell; done) | (go_simp; done) | (simp [*]; done)); have hs0 : B3 < w1.heap.size := Nat.lt_of_lt_of_le (by first | (with_reducible assumption) | (go_size; done) | (simp; omega)) hb0.size; have hs1 : bv < w1.heap.size := Nat.lt_of_lt_of_le (by first | (with_reducible assumption) | (go_size; done) | (simp; omega)) hb0.size; have hT : Below (w.heap.size) W3 w1 := Below.trans (by first | (with_reducible assumption) | (go_grown; done)) (hb0.mono (by first | (with_reducible assumption) | (go_size; done) | (simp; omega) | omega)); have hTs := hT.size; (try have hT2 : Below W3.heap.size W3 w1 := belowTo (by first | (with_reducible assumption) | (go_grown; done)) hb0); clear hb0))
      have hBk := hB2.trans hT
      cases kk
      · go_wp2
        go_roundw
        case rel => exact ⟨k + 1, by omega, by rw [show cnt (bkB l) (List.range (k + 1)) = C from HSk.out], by go_num, hBk⟩
        case measure => simp [intOf]; omega
      · go_wp2
        go_roundw
        case rel => exact ⟨k + 1, by omega, by rw [show cnt (bkB l) (List.range (k + 1)) = C + 1 from HSk.out]; go_num, by go_num, hBk⟩
        case measure => simp [intOf]; omega
    · obtain rfl : k = l.length := by omega
      have i2 : ¬ ((l.length : Nat) : Int) < (l.length : Int) := by omega
      go_wp2
      go_returns
      exact ⟨rfl, hB⟩
end Go.Proofs.YtcieihbknfeddaaDoor
