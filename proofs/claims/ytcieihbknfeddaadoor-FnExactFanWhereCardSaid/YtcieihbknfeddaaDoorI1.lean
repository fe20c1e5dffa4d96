import Derived.Test.YtcieihbknfeddaaDoorBa
import Derived.Test.YtcieihbknfeddaaDoorB9
import Derived.Test.YtcieihbknfeddaaDoorBf
import Derived.Test.YtcieihbknfeddaaDoorBb
/- Fans, the model's side: FanCone, FanWhere. -/
namespace Go.Proofs.YtcieihbknfeddaaDoor
open Go.RowKit

theorem idx_is (l : List V2) (i : Int) : (decide (0 ≤ i) && decide (i ≤ (l.length : Int) - 1)) = idxB l i := by
  unfold idxB
  congr 1
  exact decide_eq_decide.2 (by omega)
set_option maxHeartbeats 8000000 in
theorem specFanCone_any (v : Value) (l : List V2) (i : Int) (w : World) (hl : ReadsVecs w v l) :
    Calls Tryd.prog 37 #[v, .int .i64 i] w fun e w' => e = .returned (.tuple #[.agg #[.int .i64 (gate (fanB l && idxB l i) (cyc l i.toNat).1), .int .i64 (gate (fanB l && idxB l i) (cyc l i.toNat).2), .int .i64 (gate (fanB l && idxB l i) (cyc l (i.toNat + 1)).1), .int .i64 (gate (fanB l && idxB l i) (cyc l (i.toNat + 1)).2)], .bool (fanB l && idxB l i)]) ∧ Below w.heap.size w w' := by
  have HF := Lib.hid (fun w' (hb : Below w.heap.size w w') => specFanIn_any v l w' (hl.below hb))
  have HC := Lib.hid (fun k (h : k < l.length) w' (hb : Below w.heap.size w w') => l3Cone_any v l k w' (hl.below hb) h)
  have HI := Lib.hid (fun w' => l6In_any i 0 ((l.length : Int) - 1) w')
  rw [idx_is] at HI
  obtain ⟨a, c, rfl, _, hmm, _⟩ := hl
  have q1 : IntKind.i64.wrap ((l.length : Int) - 1) = (l.length : Int) - 1 := by rw [IntKind.wrap_i64]; omega
  cases hb : fanB l
  · rw [hb] at HF
    clear hb HC HI
    go_enter Tryd.func37, Tryd.ntmps37
    go_wp2_with fail
    refine Calls.mono (HF.out _ (by go_grown)) ?_
    rintro e w1 ⟨rfl, hb1⟩
    have hc0 : w1.cell? ⟨w.heap.size, 0, none⟩ = some (.int .i64 0) := (hb1.cell (p := ⟨w.heap.size, 0, none⟩) (by simp)).trans (by simp)
    have hc1 : w1.cell? ⟨w.heap.size, 1, none⟩ = some (.int .i64 0) := (hb1.cell (p := ⟨w.heap.size, 1, none⟩) (by simp)).trans (by simp)
    have hc2 : w1.cell? ⟨w.heap.size, 2, none⟩ = some (.int .i64 0) := (hb1.cell (p := ⟨w.heap.size, 2, none⟩) (by simp)).trans (by simp)
    have hc3 : w1.cell? ⟨w.heap.size, 3, none⟩ = some (.int .i64 0) := (hb1.cell (p := ⟨w.heap.size, 3, none⟩) (by simp)).trans (by simp)
    have hf0 : ∀ o, w1.frozen? ⟨w.heap.size, o, none⟩ = false := fun o => (hb1.frozen (p := ⟨w.heap.size, o, none⟩) (by simp)).trans (by simp)
    have hB : Below w.heap.size w w1 := belowTo (by go_grown) hb1
    have hl1 : w.heap.size < w1.heap.size := Nat.lt_of_lt_of_le (by simp) hb1.size
    clear hb1
    go_wp2
    refine bodyPost_ret (by simp [results, Tryd.results37, go_sem, *]; try rfl) rfl ?_
    exact ⟨rfl, by go_grown⟩
  · rw [hb] at HF
    clear hb
    cases hi : idxB l i
    · rw [hi] at HI
      clear hi HC
      go_enter Tryd.func37, Tryd.ntmps37
      go_wp2_with fail
      refine Calls.mono (HF.out _ (by go_grown)) ?_
      rintro e w1 ⟨rfl, hb1⟩
      have hc0 : w1.cell? ⟨w.heap.size, 0, none⟩ = some (.int .i64 0) := (hb1.cell (p := ⟨w.heap.size, 0, none⟩) (by simp)).trans (by simp)
      have hc1 : w1.cell? ⟨w.heap.size, 1, none⟩ = some (.int .i64 0) := (hb1.cell (p := ⟨w.heap.size, 1, none⟩) (by simp)).trans (by simp)
      have hc2 : w1.cell? ⟨w.heap.size, 2, none⟩ = some (.int .i64 0) := (hb1.cell (p := ⟨w.heap.size, 2, none⟩) (by simp)).trans (by simp)
      have hc3 : w1.cell? ⟨w.heap.size, 3, none⟩ = some (.int .i64 0) := (hb1.cell (p := ⟨w.heap.size, 3, none⟩) (by simp)).trans (by simp)
      have hf0 : ∀ o, w1.frozen? ⟨w.heap.size, o, none⟩ = false := fun o => (hb1.frozen (p := ⟨w.heap.size, o, none⟩) (by simp)).trans (by simp)
      have hB : Below w.heap.size w w1 := belowTo (by go_grown) hb1
      have hl1 : w.heap.size < w1.heap.size := Nat.lt_of_lt_of_le (by simp) hb1.size
      clear hb1
      go_wp2_with fail
      refine Calls.mono (HI.out _) ?_
      rintro e w2 ⟨rfl, rfl⟩
      go_wp2
      refine bodyPost_ret (by simp [results, Tryd.results37, go_sem, *]; try rfl) rfl ?_
      exact ⟨rfl, by go_grown⟩
    · rw [hi] at HI
      obtain ⟨m, rfl, hm⟩ := idx_in hi
      rw [Int.toNat_natCast]
      have HCm := Lib.hid (HC.out m hm)
      clear hi HC hm
      generalize hz2 : cyc l (m + 1) = z2 at HCm
      generalize hz1 : cyc l m = z1 at HCm
      obtain ⟨x1, y1⟩ := z1
      obtain ⟨x2, y2⟩ := z2
      dsimp only at HCm
      have HZ1 := Lib.hid hz1
      have HZ2 := Lib.hid hz2
      clear hz1 hz2
      go_enter Tryd.func37, Tryd.ntmps37
      go_wp2_with fail
      refine Calls.mono (HF.out _ (by go_grown)) ?_
      rintro e w1 ⟨rfl, hb1⟩
      have hc0 : w1.cell? ⟨w.heap.size, 0, none⟩ = some (.int .i64 0) := (hb1.cell (p := ⟨w.heap.size, 0, none⟩) (by simp)).trans (by simp)
      have hc1 : w1.cell? ⟨w.heap.size, 1, none⟩ = some (.int .i64 0) := (hb1.cell (p := ⟨w.heap.size, 1, none⟩) (by simp)).trans (by simp)
      have hc2 : w1.cell? ⟨w.heap.size, 2, none⟩ = some (.int .i64 0) := (hb1.cell (p := ⟨w.heap.size, 2, none⟩) (by simp)).trans (by simp)
      have hc3 : w1.cell? ⟨w.heap.size, 3, none⟩ = some (.int .i64 0) := (hb1.cell (p := ⟨w.heap.size, 3, none⟩) (by simp)).trans (by simp)
      have hf0 : ∀ o, w1.frozen? ⟨w.heap.size, o, none⟩ = false := fun o => (hb1.frozen (p := ⟨w.heap.size, o, none⟩) (by simp)).trans (by simp)
      have hB : Below w.heap.size w w1 := belowTo (by go_grown) hb1
      have hl1 : w.heap.size < w1.heap.size := Nat.lt_of_lt_of_le (by simp) hb1.size
      clear hb1
      go_wp2_with fail
      refine Calls.mono (HI.out _) ?_
      rintro e w2 ⟨rfl, rfl⟩
      go_wp2_with fail
      refine Calls.mono (HCm.out _ hB) ?_
      rintro e w3 ⟨rfl, hb3⟩
      replace hc0 := (hb3.cell (p := ⟨w.heap.size, 0, none⟩) hl1).trans hc0
      replace hc1 := (hb3.cell (p := ⟨w.heap.size, 1, none⟩) hl1).trans hc1
      replace hc2 := (hb3.cell (p := ⟨w.heap.size, 2, none⟩) hl1).trans hc2
      replace hc3 := (hb3.cell (p := ⟨w.heap.size, 3, none⟩) hl1).trans hc3
      replace hf0 : ∀ o, w3.frozen? ⟨w.heap.size, o, none⟩ = false := fun o => (hb3.frozen (p := ⟨w.heap.size, o, none⟩) hl1).trans (hf0 o)
      replace hl1 := Nat.lt_of_lt_of_le hl1 hb3.size
      replace hB := belowTo hB hb3
      clear hb3
      go_wp2
      refine bodyPost_ret (by simp [results, Tryd.results37, go_sem, *]; try rfl) rfl ?_
      exact ⟨by first | rfl | (rw [HZ1.out, HZ2.out]; rfl), by go_grown⟩
set_option maxHeartbeats 8000000 in
theorem specFanWhere_any (v : Value) (l : List V2) (x y : Int) (w : World) (hl : ReadsVecs w v l) :
    Calls Tryd.prog 40 #[v, .agg #[.int .i64 (x), .int .i64 (y)]] w fun e w' => e = .returned (.tuple #[.int .i64 (gate (fanB l && vecB x y) ((firstI (fun i => inC l i (x, y)) l.length : Nat) : Int)), .bool (fanB l && vecB x y)]) ∧ Below w.heap.size w w' := by
  have HF := Lib.hid (fun w' (hb : Below w.heap.size w w') => specFanIn_any v l w' (hl.below hb))
  have HC := Lib.hid (fun k (h : k < l.length) w' (hb : Below w.heap.size w w') => l3Cone_any v l k w' (hl.below hb) h)
  have HV := Lib.hid (fun w' => specVecIn_any x y w')
  obtain ⟨a, c, rfl, _, hmm, _⟩ := hl
  cases hb : fanB l
  · rw [hb] at HF
    clear hb HC HV
    go_enter Tryd.func40, Tryd.ntmps40
    go_wp2_with fail
    refine Calls.mono (HF.out _ (by go_grown)) ?_
    rintro e w1 ⟨rfl, hb1⟩
    have hB : Below w.heap.size w w1 := belowTo (by go_grown) hb1
    clear hb1
    go_wp2
    go_returns
    exact ⟨rfl, hB⟩
  · rw [hb] at HF
    have HFB := Lib.hid hb
    clear hb
    cases hv : vecB x y
    · rw [hv] at HV
      clear hv HC HFB
      go_enter Tryd.func40, Tryd.ntmps40
      go_wp2_with fail
      refine Calls.mono (HF.out _ (by go_grown)) ?_
      rintro e w1 ⟨rfl, hb1⟩
      have hc0 : w1.cell? ⟨w.heap.size, 0, none⟩ = some (.int .i64 x) := (hb1.cell (p := ⟨w.heap.size, 0, none⟩) (by simp)).trans (by simp)
      have hc1 : w1.cell? ⟨w.heap.size, 1, none⟩ = some (.int .i64 y) := (hb1.cell (p := ⟨w.heap.size, 1, none⟩) (by simp)).trans (by simp)
      have hB : Below w.heap.size w w1 := belowTo (by go_grown) hb1
      have hl1 : w.heap.size < w1.heap.size := Nat.lt_of_lt_of_le (by simp) hb1.size
      clear hb1
      go_wp2_with fail
      refine Calls.mono (HV.out _) ?_
      rintro e w2 ⟨rfl, hb2⟩
      replace hB := belowTo hB hb2
      clear hb2 hc0 hc1 hl1
      go_wp2
      go_returns
      exact ⟨rfl, hB⟩
    · rw [hv] at HV
      have h3 := fan_len HFB.out
      obtain ⟨n, hn⟩ : ∃ n, n = l.length := ⟨_, rfl⟩
      have HL := Lib.hid hn
      rw [← hn] at hmm h3 HC HF
      rw [← hn]
      have n20 := h3.2
      clear hn h3
      have HVB := Lib.hid hv
      clear hv
      go_enter Tryd.func40, Tryd.ntmps40
      go_wp2_with fail
      refine Calls.mono (HF.out _ (by go_grown)) ?_
      rintro e w1 ⟨rfl, hb1⟩
      have hc0 : w1.cell? ⟨w.heap.size, 0, none⟩ = some (.int .i64 x) := (hb1.cell (p := ⟨w.heap.size, 0, none⟩) (by simp)).trans (by simp)
      have hc1 : w1.cell? ⟨w.heap.size, 1, none⟩ = some (.int .i64 y) := (hb1.cell (p := ⟨w.heap.size, 1, none⟩) (by simp)).trans (by simp)
      have hB : Below w.heap.size w w1 := belowTo (by go_grown) hb1
      have hl1 : w.heap.size < w1.heap.size := Nat.lt_of_lt_of_le (by simp) hb1.size
      clear hb1
      go_wp2_with fail
      refine Calls.mono (HV.out _) ?_
      rintro e w2 ⟨rfl, hb2⟩
      replace hc0 := (hb2.cell (p := ⟨w.heap.size, 0, none⟩) hl1).trans hc0
      replace hc1 := (hb2.cell (p := ⟨w.heap.size, 1, none⟩) hl1).trans hc1
      replace hl1 := Nat.lt_of_lt_of_le hl1 hb2.size
      replace hB := belowTo hB hb2
      clear hb2 HV HF
      go_wp2
      go_loopw [6] (fun s wr => ∃ k : Nat, k ≤ n ∧ s = .int .i64 k ∧ Hid (∀ i, i < k → inC l i (x, y) = false) ∧ wr.cell? ⟨w.heap.size, 0, none⟩ = some (.int .i64 x) ∧ wr.cell? ⟨w.heap.size, 1, none⟩ = some (.int .i64 y) ∧ w.heap.size < wr.heap.size ∧ Below w.heap.size w wr) (fun s _ => n - (intOf s).toNat)
      case atStart => exact ⟨0, Nat.zero_le _, rfl, fun i hi => by omega, hc0, hc1, hl1, hB⟩
      case round =>
        obtain ⟨k, hk, rfl, HQ, r0, r1, rl, rB⟩ := hrel
        clear hc0 hc1 hl1 hB
        have i1 : (0 : Int) ≤ (k : Int) := by omega
        by_cases hlt : k < n
        · have i2 : (k : Int) < (n : Int) := by omega
          have HCk := Lib.hid (HC.out k hlt)
          have HK : Hid (inC l k (x, y) = inB (cyc l k).1 (cyc l k).2 (cyc l (k + 1)).1 (cyc l (k + 1)).2 x y) := rfl
          have HH := Lib.hid (fun w' => l2Has_any (cyc l k).1 (cyc l k).2 (cyc l (k + 1)).1 (cyc l (k + 1)).2 x y w' (fan_vec HFB.out k) (fan_vec HFB.out (k + 1)) HVB.out)
          generalize inB (cyc l k).1 (cyc l k).2 (cyc l (k + 1)).1 (cyc l (k + 1)).2 x y = kk at HH HK
          generalize cyc l (k + 1) = z2 at *
          generalize cyc l k = z1 at *
          obtain ⟨x1, y1⟩ := z1
          obtain ⟨x2, y2⟩ := z2
          dsimp only at HCk HH
          go_wp2
          refine wp_region_any (by kernel_rfl) ?_
          try (change wpAny _ _ _ _ _ _ _ (World.drew _))
          refine wpAny_take (i := 0) (v := ?_) rfl (by kernel_rfl) (by kernel_rfl) (by kernel_rfl) (fun _ _ _ h => h) (Or.inl ⟨by rfl, ?_⟩) ?_
          rotate_left
          focus (intro w0; go_simp; try with_reducible rfl)
          refine wpAny_take (i := 1) (v := ?_) rfl (by kernel_rfl) (by kernel_rfl) (by kernel_rfl) (fun _ _ _ h => h) (Or.inl ⟨by rfl, ?_⟩) ?_
          rotate_left
          focus (intro w0; go_simp; try with_reducible rfl)
          refine wpAny_ready (rs := [2, 3]) (by kernel_rfl) (by simp) (AllReady.cons rfl (fun K hK => ?_) (AllReady.cons rfl (fun K hK => ?_) (AllReady.nil)))
          focus
            go_simp
            (refine Calls.mono (HCk.out _ (rB.trans (by go_grown))) ?_; rintro e w3 ⟨rfl, hb3⟩; replace hb3 := undrew hb3; replace r0 := (hb3.cell (p := ⟨w.heap.size, 0, none⟩) rl).trans r0; replace r1 := (hb3.cell (p := ⟨w.heap.size, 1, none⟩) rl).trans r1; replace rl := Nat.lt_of_lt_of_le rl hb3.size; replace rB := belowTo rB hb3)
            refine hK _ _ ?_
            clear hK K
            refine wpAny_ready (rs := [3]) (by kernel_rfl) (by simp) (AllReady.cons rfl (fun K hK => ?_) (AllReady.nil))
            go_simp
            refine hK _ _ ?_
            clear hK K
            refine wpAny_seq 4 rfl (by kernel_rfl) ?_
            simp only [List.drop_succ_cons, List.drop_zero]
          rotate_left 1
          focus
            go_simp
            refine hK _ _ ?_
            clear hK K
            refine wpAny_ready (rs := [2]) (by kernel_rfl) (by simp) (AllReady.cons rfl (fun K hK => ?_) (AllReady.nil))
            go_simp
            (refine Calls.mono (HCk.out _ (rB.trans (by go_grown))) ?_; rintro e w3 ⟨rfl, hb3⟩; replace hb3 := undrew hb3; replace r0 := (hb3.cell (p := ⟨w.heap.size, 0, none⟩) rl).trans r0; replace r1 := (hb3.cell (p := ⟨w.heap.size, 1, none⟩) rl).trans r1; replace rl := Nat.lt_of_lt_of_le rl hb3.size; replace rB := belowTo rB hb3)
            refine hK _ _ ?_
            clear hK K
            refine wpAny_seq 4 rfl (by kernel_rfl) ?_
            simp only [List.drop_succ_cons, List.drop_zero]
          all_goals
            go_wp2_with fail
            refine Calls.mono (HH.out _) ?_
            rintro e w4 ⟨rfl, hb4⟩
            replace r0 := (hb4.cell (p := ⟨w.heap.size, 0, none⟩) rl).trans r0
            replace r1 := (hb4.cell (p := ⟨w.heap.size, 1, none⟩) rl).trans r1
            replace rl := Nat.lt_of_lt_of_le rl hb4.size
            replace rB := belowTo rB hb4
            clear hb4
            cases kk
            · have HQ2 : Hid (∀ i, i < k + 1 → inC l i (x, y) = false) := fun i hi => by
                by_cases e : i = k
                · subst e; exact HK.out
                · exact HQ.out i (by omega)
              go_wp2
              go_roundw
              case rel => exact ⟨k + 1, by omega, by go_num, HQ2, r0, r1, rl, rB⟩
              case measure => simp [intOf]; omega
            · have HE : Hid (firstI (fun i => inC l i (x, y)) n = k) := first_is hlt HK.out HQ.out
              go_wp2
              go_returns
              exact ⟨by rw [HE.out]; rfl, rB⟩
        · obtain rfl : k = n := by omega
          obtain ⟨j, hj, hjc⟩ := fan_covers HFB.out (x, y)
          have := HQ.out j (by have := HL.out; omega)
          rw [hjc] at this
          cases this
end Go.Proofs.YtcieihbknfeddaaDoor

/- Fans, the model's side: a list without one of its vectors; FanDown. -/
namespace Go.Proofs.YtcieihbknfeddaaDoor
open Go.RowKit

set_option maxHeartbeats 8000000 in
theorem l3Without_any (v : Value) (l : List V2) (k : Nat) (w : World) (hl : ReadsVecs w v l) (hk : k < l.length) (hm : l.length ≤ 1000) :
    Calls Tryd.prog 104 #[v, .int .i64 k] w (GivesVecs w (downL l k)) := by
  obtain ⟨i0, hi, hz0, hz1, hz2⟩ := info_parts infoVec
  obtain ⟨bb, off, c, rfl, hc, hmm, hbb, hcs⟩ := hl.open (by omega)
  have HCl := Lib.hid hcs
  have HOw : Hid (Vecs (w.drew.alloc (.cells #[] 26)) w.heap.size (.slice (some ⟨w.heap.size, 0, none⟩) 0 0) []) := Vecs.empty w.drew
  have hBd : Below w.heap.size w (w.drew.alloc (.cells #[] 26)) := by go_grown
  have HBd := Lib.hid hBd
  have hbd : w.heap.size ≤ (w.drew.alloc (.cells #[] 26)).heap.size := hBd.size
  have HBz := Lib.hid hbd
  clear hBd hbd
  have q1 : IntKind.i64.wrap ((k : Int) + 1) = (k : Int) + 1 := by rw [IntKind.wrap_i64]; omega
  have q2 : ((k : Int) + 1).toNat = k + 1 := by omega
  have q3 : (0 : Int) ≤ (k : Int) + 1 := by omega
  have i1 : (0 : Int) ≤ (k : Int) := by omega
  have i3 : k ≤ c := by omega
  have i4 : ¬ c = 0 := by omega
  have HT1 : Hid (0 + k ≤ l.length) := by show 0 + k ≤ l.length; omega
  have HT2 : Hid (k + 1 + (l.length - (k + 1)) ≤ l.length) := by show k + 1 + (l.length - (k + 1)) ≤ l.length; omega
  have HR : Hid (([] ++ (l.drop 0).take k) ++ (l.drop (k + 1)).take (l.length - (k + 1)) = downL l k) := by
    unfold downL
    rw [List.take_of_length_le (l := l.drop (k + 1)) (by simp)]
    rfl
  obtain ⟨n, hn⟩ : ∃ n, n = l.length := ⟨_, rfl⟩
  have HL := Lib.hid hn
  rw [← hn] at hc hmm hk hm HT2 HR ⊢
  have HT2' : Hid (k + 1 + (n - (k + 1)) ≤ l.length) := by have := HL.out; show k + 1 + (n - (k + 1)) ≤ l.length; omega
  clear HT2
  have HT2 := HT2'
  clear HT2'
  clear hn hcs hl
  by_cases hck : c = k + 1
  case pos =>
    have hnk : n = k + 1 := by omega
    subst hck
    subst hnk
    have HR2 : Hid (([] ++ (l.drop 0).take k) ++ [] = downL l k) := by
      have := HR.out
      rw [Nat.sub_self, List.take_zero] at this
      exact this
    clear HR HT2
    have i6 : (k : Int) ≤ (k : Int) + 1 := by omega
    go_enter Tryd.func104, Tryd.ntmps104
    go_wp2
    refine wp_region_any (by kernel_rfl) ?_
    try (change wpAny _ _ _ _ _ _ _ (World.drew _))
    refine wpAny_take (i := 1) (v := ?_) rfl (by kernel_rfl) (by kernel_rfl) (by kernel_rfl) (fun _ _ _ h => h) (Or.inl ⟨by rfl, ?_⟩) ?_
    rotate_left
    focus (intro w0; go_simp; try with_reducible rfl)
    refine wpAny_take (i := 2) (v := ?_) rfl (by kernel_rfl) (by kernel_rfl) (by kernel_rfl) (fun _ _ _ h => h) (Or.inl ⟨by rfl, ?_⟩) ?_
    rotate_left
    focus (intro w0; go_simp; try with_reducible rfl)
    refine wpAny_take (i := 3) (v := ?_) rfl (by kernel_rfl) (by kernel_rfl) (by kernel_rfl) (fun _ _ _ h => h) (Or.inl ⟨by rfl, ?_⟩) ?_
    rotate_left
    focus (intro w0; go_simp; try with_reducible rfl)
    refine wpAny_take (i := 5) (v := ?_) rfl (by kernel_rfl) (by kernel_rfl) (by kernel_rfl) (fun _ _ _ h => h) (Or.inl ⟨by rfl, ?_⟩) ?_
    rotate_left
    focus (intro w0; go_simp; try with_reducible rfl)
    refine wpAny_take (i := 6) (v := ?_) rfl (by kernel_rfl) (by kernel_rfl) (by kernel_rfl) (fun _ _ _ h => h) (Or.inl ⟨by rfl, ?_⟩) ?_
    rotate_left
    focus (intro w0; go_simp; try with_reducible rfl)
    refine wpAny_take (i := 7) (v := ?_) rfl (by kernel_rfl) (by kernel_rfl) (by kernel_rfl) (fun _ _ _ h => h) (Or.inl ⟨by rfl, ?_⟩) ?_
    rotate_left
    focus (intro w0; go_simp; try with_reducible rfl)
    refine wpAny_take (i := 8) (v := ?_) rfl (by kernel_rfl) (by kernel_rfl) (by kernel_rfl) (fun _ _ _ h => h) (Or.inl ⟨by rfl, ?_⟩) ?_
    rotate_left
    focus (intro w0; go_simp; try with_reducible rfl)
    refine wpAny_ready (rs := [0]) (by kernel_rfl) (by simp) (AllReady.cons rfl (fun K hK => ?_) (AllReady.nil))
    go_simp
    refine hK _ _ ?_
    clear hK K
    refine wpAny_ready (rs := [4]) (by kernel_rfl) (by simp) (AllReady.cons rfl (fun K hK => ?_) (AllReady.nil))
    (refine step_list (by rintro ⟨_, _, h⟩; obtain ⟨_, hv, _⟩ := h; cases hv) (by kernel_rfl) ?_; refine wpList_append_own_at _ rfl _ _ 39 rfl w.heap.size 26 i0 (.agg #[.int .i64 (0), .int .i64 (0)]) 2 16 Tryd.underlying39 hi hz0 hz1 hz2 rfl (by decide) _ _ _ rfl HOw.out _ _ _ _ rfl (piece_len HT1.out) (piece_cells (HCl.out _ HBd.out) HT1.out) (piece_one _) (by unfold maxLen; simp; omega) (by simp; omega) HBz.out ?_; intro v2 w2 hown2 hgrow2 _ _; have HB2 := Lib.hid (HBd.out.grown hgrow2 HBz.out (fun q hq => (World.ownsRow.lt HOw.out q hq).1)); have HO2 := Lib.hid (Vecs.join (l := []) hown2 (by have := HL.out; simp <;> omega)); clear hown2 hgrow2)
    refine hK _ _ ?_
    clear hK K
    refine wpAny_ready (rs := [9]) (by kernel_rfl) (by simp) (AllReady.cons rfl (fun K hK => ?_) (AllReady.nil))
    (refine step_list (by rintro ⟨_, _, h⟩; obtain ⟨_, hv, _⟩ := h; cases hv) (by kernel_rfl) ?_; refine wpList_append_own_at _ rfl _ _ 39 rfl w.heap.size 26 i0 (.agg #[.int .i64 (0), .int .i64 (0)]) 2 16 Tryd.underlying39 hi hz0 hz1 hz2 rfl (by decide) _ _ _ rfl HO2.out _ 0 _ [] rfl rfl (fun j u hj => by simp at hj) (fun u hu => by simp at hu) (by unfold maxLen; simp; omega) (by simp; omega) HB2.out.size ?_; intro v3 w3 hown3 hgrow3 _ _; have HB3 := Lib.hid (HB2.out.grown hgrow3 HB2.out.size (fun q hq => (World.ownsRow.lt HO2.out q hq).1)); have HO3 := Lib.hid (Vecs.join (m := []) hown3 (by have := HL.out; simp <;> omega)); clear hown3 hgrow3)
    refine hK _ _ ?_
    clear hK K
    refine wpAny_seq 10 rfl (by kernel_rfl) ?_
    simp only [List.drop_succ_cons, List.drop_zero]
    all_goals go_wp2
    all_goals go_returns
    all_goals exact ⟨_, rfl, by rw [← HR2.out]; exact HO3.out, HB3.out⟩
  case neg =>
    have j1 : k + 1 ≤ n := by omega
    have i5 : (k : Int) + 1 ≤ (n : Int) := by omega
    have j2 : ¬ (k + 1) * 2 = 0 := by omega
    have j3 : k + 1 ≤ c := by omega
    go_enter Tryd.func104, Tryd.ntmps104
    go_wp2
    refine wp_region_any (by kernel_rfl) ?_
    try (change wpAny _ _ _ _ _ _ _ (World.drew _))
    refine wpAny_take (i := 1) (v := ?_) rfl (by kernel_rfl) (by kernel_rfl) (by kernel_rfl) (fun _ _ _ h => h) (Or.inl ⟨by rfl, ?_⟩) ?_
    rotate_left
    focus (intro w0; go_simp; try with_reducible rfl)
    refine wpAny_take (i := 2) (v := ?_) rfl (by kernel_rfl) (by kernel_rfl) (by kernel_rfl) (fun _ _ _ h => h) (Or.inl ⟨by rfl, ?_⟩) ?_
    rotate_left
    focus (intro w0; go_simp; try with_reducible rfl)
    refine wpAny_take (i := 3) (v := ?_) rfl (by kernel_rfl) (by kernel_rfl) (by kernel_rfl) (fun _ _ _ h => h) (Or.inl ⟨by rfl, ?_⟩) ?_
    rotate_left
    focus (intro w0; go_simp; try with_reducible rfl)
    refine wpAny_take (i := 5) (v := ?_) rfl (by kernel_rfl) (by kernel_rfl) (by kernel_rfl) (fun _ _ _ h => h) (Or.inl ⟨by rfl, ?_⟩) ?_
    rotate_left
    focus (intro w0; go_simp; try with_reducible rfl)
    refine wpAny_take (i := 6) (v := ?_) rfl (by kernel_rfl) (by kernel_rfl) (by kernel_rfl) (fun _ _ _ h => h) (Or.inl ⟨by rfl, ?_⟩) ?_
    rotate_left
    focus (intro w0; go_simp; try with_reducible rfl)
    refine wpAny_take (i := 7) (v := ?_) rfl (by kernel_rfl) (by kernel_rfl) (by kernel_rfl) (fun _ _ _ h => h) (Or.inl ⟨by rfl, ?_⟩) ?_
    rotate_left
    focus (intro w0; go_simp; try with_reducible rfl)
    refine wpAny_take (i := 8) (v := ?_) rfl (by kernel_rfl) (by kernel_rfl) (by kernel_rfl) (fun _ _ _ h => h) (Or.inl ⟨by rfl, ?_⟩) ?_
    rotate_left
    focus (intro w0; go_simp; try with_reducible rfl)
    refine wpAny_ready (rs := [0]) (by kernel_rfl) (by simp) (AllReady.cons rfl (fun K hK => ?_) (AllReady.nil))
    go_simp
    refine hK _ _ ?_
    clear hK K
    refine wpAny_ready (rs := [4]) (by kernel_rfl) (by simp) (AllReady.cons rfl (fun K hK => ?_) (AllReady.nil))
    (refine step_list (by rintro ⟨_, _, h⟩; obtain ⟨_, hv, _⟩ := h; cases hv) (by kernel_rfl) ?_; refine wpList_append_own_at _ rfl _ _ 39 rfl w.heap.size 26 i0 (.agg #[.int .i64 (0), .int .i64 (0)]) 2 16 Tryd.underlying39 hi hz0 hz1 hz2 rfl (by decide) _ _ _ rfl HOw.out _ _ _ _ rfl (piece_len HT1.out) (piece_cells (HCl.out _ HBd.out) HT1.out) (piece_one _) (by unfold maxLen; simp; omega) (by simp; omega) HBz.out ?_; intro v2 w2 hown2 hgrow2 _ _; have HB2 := Lib.hid (HBd.out.grown hgrow2 HBz.out (fun q hq => (World.ownsRow.lt HOw.out q hq).1)); have HO2 := Lib.hid (Vecs.join (l := []) hown2 (by have := HL.out; simp <;> omega)); clear hown2 hgrow2)
    refine hK _ _ ?_
    clear hK K
    refine wpAny_ready (rs := [9]) (by kernel_rfl) (by simp) (AllReady.cons rfl (fun K hK => ?_) (AllReady.nil))
    (refine step_list (by rintro ⟨_, _, h⟩; obtain ⟨_, hv, _⟩ := h; cases hv) (by kernel_rfl) ?_; refine wpList_append_own_at _ rfl _ _ 39 rfl w.heap.size 26 i0 (.agg #[.int .i64 (0), .int .i64 (0)]) 2 16 Tryd.underlying39 hi hz0 hz1 hz2 rfl (by decide) _ _ _ rfl HO2.out _ _ _ _ rfl (piece_len HT2.out) (piece_cells (HCl.out _ HB2.out) HT2.out) (piece_one _) (by unfold maxLen; simp; omega) (by simp; omega) HB2.out.size ?_; intro v3 w3 hown3 hgrow3 _ _; have HB3 := Lib.hid (HB2.out.grown hgrow3 HB2.out.size (fun q hq => (World.ownsRow.lt HO2.out q hq).1)); have HO3 := Lib.hid (Vecs.join hown3 (by have := HL.out; simp <;> omega)); clear hown3 hgrow3)
    refine hK _ _ ?_
    clear hK K
    refine wpAny_seq 10 rfl (by kernel_rfl) ?_
    simp only [List.drop_succ_cons, List.drop_zero]
    all_goals go_wp2
    all_goals go_returns
    all_goals exact ⟨_, rfl, by rw [← HR.out]; exact HO3.out, HB3.out⟩
set_option maxHeartbeats 8000000 in
theorem specFanDown_any (v : Value) (l : List V2) (i : Int) (w : World) (hl : ReadsVecs w v l) :
    Calls Tryd.prog 50 #[v, .int .i64 i] w (GivesVecsOk w (gV (smoothB l && (idxB l i && downB l i.toNat)) (downL l i.toNat)) (smoothB l && (idxB l i && downB l i.toNat))) := by
  have HF := Lib.hid (specFanSmooth_any v l w hl)
  have hE := Lib.hid (fun w' => Vecs.empty w')
  have HI := Lib.hid (fun w' => l6In_any i 0 ((l.length : Int) - 1) w')
  rw [idx_is] at HI
  have HN := Lib.hid (fun k (hk : k < l.length) w' (hb : Below w.heap.size w w') h => l3Number_any v l k w' (hl.below hb) hk (by have := fan_len (smooth_in (l := l) h).1; omega) (smooth_all h))
  have HW := Lib.hid (fun k (hk : k < l.length) w' (hb : Below w.heap.size w w') h => l3Without_any v l k w' (hl.below hb) hk (by have := fan_len (smooth_in (l := l) h).1; omega))
  have HL := Lib.hid (fun h => fan_len (smooth_in (l := l) h).1)
  obtain ⟨a, c, rfl, _, hmm, _⟩ := hl
  have q1 : IntKind.i64.wrap ((l.length : Int) - 1) = (l.length : Int) - 1 := by rw [IntKind.wrap_i64]; omega
  cases hb : smoothB l
  · rw [hb] at HF
    clear hb HN HW HI HL
    go_enter Tryd.func50, Tryd.ntmps50
    go_wp2_with fail
    refine Calls.mono HF.out ?_
    rintro e w1 ⟨rfl, hb1⟩
    have hs1 := hb1.size
    have HE := Lib.hid ((hE.out w1).lower hs1)
    go_wp2
    go_returns
    exact ⟨_, rfl, HE.out, by go_grown⟩
  · rw [hb] at HF HN HW HL
    clear hb
    cases hi : idxB l i
    · rw [hi] at HI
      clear hi HN HW HL
      go_enter Tryd.func50, Tryd.ntmps50
      go_wp2_with fail
      refine Calls.mono HF.out ?_
      rintro e w1 ⟨rfl, hb1⟩
      have hs1 := hb1.size
      have HE := Lib.hid ((hE.out w1).lower hs1)
      go_wp2_with fail
      refine Calls.mono (HI.out _) ?_
      rintro e w2 ⟨rfl, rfl⟩
      go_wp2
      go_returns
      exact ⟨_, rfl, HE.out, by go_grown⟩
    · rw [hi] at HI
      obtain ⟨m, rfl, hm⟩ := idx_in hi
      rw [Int.toNat_natCast]
      have h20 := (HL.out (by simp)).2
      have HNm := Lib.hid (HN.out m hm)
      have HWm := Lib.hid (HW.out m hm)
      have HD : Hid (downB l m = (decide (3 < l.length) && (numZ l m == -1))) := rfl
      rw [HD.out]
      clear hi HN HW HL hm HD
      generalize numZ l m = z at HNm
      generalize l.length = n at *
      by_cases h3 : 3 < n
      case neg =>
        have j1 : (n : Int) < 4 := by omega
        have j2 : decide (3 < n) = false := by simpa using h3
        rw [j2]
        clear HNm HWm h3
        go_enter Tryd.func50, Tryd.ntmps50
        go_wp2_with fail
        refine Calls.mono HF.out ?_
        rintro e w1 ⟨rfl, hb1⟩
        have hs1 := hb1.size
        have HE := Lib.hid ((hE.out w1).lower hs1)
        go_wp2_with fail
        refine Calls.mono (HI.out _) ?_
        rintro e w2 ⟨rfl, rfl⟩
        go_wp2
        go_returns
        exact ⟨_, rfl, HE.out, by go_grown⟩
      case pos =>
        have j1 : ¬ (n : Int) < 4 := by omega
        have j2 : decide (3 < n) = true := by simpa using h3
        rw [j2]
        by_cases hz : z = -1
        case neg =>
          have hz2 : (z == -1) = false := by simpa using hz
          have hz3 : (z != -1) = true := by simp [bne, hz2]
          have hz4 : decide ((n : Int) < 4) = false := by simpa using j1
          rw [hz2]
          clear HWm h3
          go_enter Tryd.func50, Tryd.ntmps50
          go_wp2_with fail
          refine Calls.mono HF.out ?_
          rintro e w1 ⟨rfl, hb1⟩
          go_wp2_with fail
          refine Calls.mono (HI.out _) ?_
          rintro e w2 ⟨rfl, rfl⟩
          go_wp2_with fail
          refine Calls.mono (HNm.out _ hb1 (by simp)) ?_
          rintro e w3 ⟨rfl, hb3⟩
          have hB := belowTo hb1 hb3
          have hs1 := hB.size
          clear hb1 hb3
          have HE := Lib.hid ((hE.out w3).lower hs1)
          go_wp2
          go_returns
          exact ⟨_, rfl, HE.out, by go_grown⟩
        case pos =>
          subst hz
          clear h3
          go_enter Tryd.func50, Tryd.ntmps50
          go_wp2_with fail
          refine Calls.mono HF.out ?_
          rintro e w1 ⟨rfl, hb1⟩
          go_wp2_with fail
          refine Calls.mono (HI.out _) ?_
          rintro e w2 ⟨rfl, rfl⟩
          go_wp2_with fail
          refine Calls.mono (HNm.out _ hb1 (by simp)) ?_
          rintro e w3 ⟨rfl, hb3⟩
          have hB := belowTo hb1 hb3
          have hs1 := hB.size
          clear hb1 hb3
          go_wp2_with fail
          refine Calls.mono (HWm.out _ hB (by simp)) ?_
          rintro e w4 ⟨v4, rfl, hV, hb4⟩
          have HV := Lib.hid (hV.lower hs1)
          have hB4 := belowTo hB hb4
          clear hV hb4 hB hs1
          go_wp2
          go_returns
          exact ⟨_, rfl, HV.out, hB4⟩
end Go.Proofs.YtcieihbknfeddaaDoor

/- Fans, the model's side: FanLeast. -/
namespace Go.Proofs.YtcieihbknfeddaaDoor
open Go.RowKit

theorem smooth_nz {l : List V2} (h : Smooth l) (i : Nat) : nzB (cyc l i).1 (cyc l i).2 = true := by
  have hd := h.2 i
  by_cases hx : (cyc l i).1 = 0
  · by_cases hy : (cyc l i).2 = 0
    · exfalso
      simp [detV, detZ, hx, hy] at hd
    · simp [nzB, hy]
  · simp [nzB, hx]
def lenV : Value → Nat
  | .slice _ n _ => n
  | _ => 0
def LeastS (w : World) (l : List V2) (s4 s5 : Value) (wr : World) : Prop :=
  ∃ (L : List V2) (k : Nat), Vecs wr w.heap.size s4 L ∧ s5 = .int .i64 k ∧ Smooth L ∧ 0 < L.length ∧ L.length ≤ 1000 ∧ leastL L = leastL l ∧ k ≤ L.length ∧ (∀ j, j < k → downB L j = false) ∧ Below w.heap.size w wr
theorem all_down {L : List V2} {k : Nat} (h : ∀ j, j < k → downB L j = false) (hk : k = L.length ∨ ¬ 3 < L.length) : ∀ i, i < L.length → downB L i = false := by
  intro i hi
  rcases hk with rfl | hk
  · exact h i hi
  · unfold downB
    rw [show decide (3 < L.length) = false by simpa using hk]
    rfl
set_option maxHeartbeats 8000000 in
theorem specFanLeast_any (v : Value) (l : List V2) (w : World) (hl : ReadsVecs w v l) :
    Calls Tryd.prog 52 #[v] w (GivesVecsOk w (gV (smoothB l) (tidyL (leastL l))) (smoothB l)) := by
  have HF := Lib.hid (specFanSmooth_any v l w hl)
  have hE := Lib.hid (fun w' => Vecs.empty w')
  cases hb : smoothB l
  · rw [hb] at HF
    clear hb hl
    go_enter Tryd.func52, Tryd.ntmps52
    go_wp2_with fail
    refine Calls.mono HF.out ?_
    rintro e w1 ⟨rfl, hb1⟩
    have hs1 := hb1.size
    have HE := Lib.hid ((hE.out w1).lower hs1)
    go_wp2
    go_returns
    exact ⟨_, rfl, HE.out, by go_grown⟩
  · rw [hb] at HF
    have HS := Lib.hid (smooth_all hb)
    have h20 := fan_len (smooth_in hb).1
    obtain ⟨i0, hi, hz0, hz1, hz2⟩ := info_parts infoVec
    obtain ⟨bb, off, c, rfl, hc, hmm, hbb, hcs⟩ := hl.open (by omega)
    have HCl := Lib.hid hcs
    have HT1 : Hid (0 + l.length ≤ l.length) := by show 0 + l.length ≤ l.length; omega
    have h20' := h20.2
    clear hcs hl hb
    go_enter Tryd.func52, Tryd.ntmps52
    go_wp2_with fail
    refine Calls.mono HF.out ?_
    rintro e w1 ⟨rfl, hb1⟩
    have hs1 := hb1.size
    have HOw : Hid (Vecs (w1.alloc (.cells #[] 26)) w.heap.size (.slice (some ⟨w1.heap.size, 0, none⟩) 0 0) []) := (Vecs.empty w1).lower hs1
    have hBd : Below w.heap.size w (w1.alloc (.cells #[] 26)) := by go_grown
    have HBd := Lib.hid hBd
    have hbd : w.heap.size ≤ (w1.alloc (.cells #[] 26)).heap.size := hBd.size
    have HBz := Lib.hid hbd
    clear hBd hbd
    go_wp2_with (at_builtin; refine wpList_append_own_at _ rfl _ _ 39 rfl w.heap.size 26 i0 (.agg #[.int .i64 (0), .int .i64 (0)]) 2 16 Tryd.underlying39 hi hz0 hz1 hz2 rfl (by decide) _ _ _ rfl HOw.out _ _ _ _ rfl (piece_len HT1.out) (piece_cells (HCl.out _ HBd.out) HT1.out) (piece_one _) ?c3 ?c4 HBz.out ?_)
    case c3 => unfold maxLen; simp; omega
    case c4 => simp; omega
    intro v2 w2 hown2 hgrow2 _ _
    have hB2 := HBd.out.grown hgrow2 HBz.out (fun q hq => (World.ownsRow.lt HOw.out q hq).1)
    have hV2' := Vecs.join (l := []) hown2 (by simp)
    have hV2 : Vecs w2 w.heap.size v2 l := by first | exact hV2' | (simpa using hV2')
    clear hV2'
    have HI0 : Hid (LeastS w l v2 (.int .i64 0) w2) := ⟨l, 0, hV2, rfl, HS.out, by omega, by omega, rfl, by omega, fun j hj => by omega, hB2⟩
    clear hown2 hgrow2 hB2 hV2 HOw HBd HBz HCl HT1 HF hb1 hs1 HS
    go_wp2
    go_loopw [4, 5] (fun s4 s5 wr => Hid (LeastS w l s4 s5 wr)) (fun s4 s5 _ => lenV s4 * 2000 + (lenV s4 - (intOf s5).toNat))
    case atStart => exact HI0
    case round =>
      obtain ⟨L, k, hV, he, hS, h0, hm, hle, hk, hno, hB⟩ := hrel.out
      clear hrel HI0
      have hr := hV.reads (by omega)
      obtain ⟨a4, c4, hev, _⟩ := hr
      have HV := Lib.hid hV
      have HNo := Lib.hid hno
      have HLe := Lib.hid hle
      have HS := Lib.hid hS
      have i1 : (0 : Int) ≤ (k : Int) := by omega
      clear hV hno hle hS
      subst hev
      subst he
      by_cases hgo : k < L.length ∧ 3 < L.length
      · obtain ⟨hkl, h3⟩ := hgo
        have HN := Lib.hid (l3Number_any _ L k wr (HV.out.reads (by omega)) hkl hm HS.out)
        have HD : Hid (downB L k = (decide (3 < L.length) && (numZ L k == -1))) := rfl
        have i2 : (k : Int) < (L.length : Int) := by omega
        have i3 : (3 : Int) < (L.length : Int) := by omega
        have j2 : decide (3 < L.length) = true := by simpa using h3
        rw [j2] at HD
        by_cases hz : numZ L k = -1
        · have hz2 : (numZ L k == -1) = true := by simpa using hz
          rw [hz2] at HD
          rw [hz] at HN
          have HDt : Hid (downB L k = true) := HD.out
          have HWo := Lib.hid (fun w' (hb : Below wr.heap.size wr w') => l3Without_any _ L k w' ((HV.out.reads (by omega)).below hb) hkl hm)
          have HSd := Lib.hid (smooth_down HS.out hkl HDt.out)
          have HLd := Lib.hid ((least_step hkl HDt.out HNo.out).symm.trans HLe.out)
          have hdl := downL_len (l := L) hkl
          have HB := Lib.hid hB
          clear HD hz hz2 HV HNo HLe HS HDt
          go_wp2_with fail
          refine Calls.mono HN.out ?_
          rintro e w3 ⟨rfl, hb3⟩
          go_wp2_with fail
          refine Calls.mono (HWo.out _ hb3) ?_
          rintro e w4 ⟨v4, rfl, hV4, hb4⟩
          have hB3 := belowTo HB.out hb3
          have HI4 : Hid (LeastS w l v4 (.int .i64 0) w4) := ⟨downL L k, 0, hV4.lower hB3.size, rfl, HSd.out, by omega, by omega, HLd.out, by omega, fun j hj => by omega, belowTo hB3 hb4⟩
          obtain ⟨a5, c5, hev, _⟩ := hV4.reads (by omega)
          subst hev
          rw [hdl] at HI4
          clear hV4 hB3 hb4 hb3 hB
          go_wp2
          go_roundw
          case rel => exact HI4
          case measure => simp [lenV, intOf]; omega
        · have hz2 : (numZ L k == -1) = false := by simpa using hz
          rw [hz2] at HD
          generalize numZ L k = z at *
          have HI4 : Hid (∀ w4, Below wr.heap.size wr w4 → LeastS w l (.slice a4 L.length c4) (.int .i64 ((k : Int) + 1)) w4) := fun w4 hb4 =>
            ⟨L, k + 1, HV.out.below hb4, by simp, HS.out, h0, hm, HLe.out, by omega, fun j hj => by
              by_cases e : j = k
              · subst e; exact HD.out
              · exact HNo.out j (by omega), belowTo hB hb4⟩
          clear HD HV HNo HLe HS hB
          go_wp2_with fail
          refine Calls.mono HN.out ?_
          rintro e w3 ⟨rfl, hb3⟩
          have HI5 := Lib.hid (HI4.out _ hb3)
          clear hb3 HI4
          go_wp2
          go_roundw
          case rel => exact HI5
          case measure => simp [lenV, intOf]; omega
      · have HE : Hid (leastL L = L) := least_end (all_down HNo.out (by omega))
        have HE2 : Hid (leastL l = L) := HLe.out.symm.trans HE.out
        have HT := Lib.hid (l3Tidy_any _ L wr (HV.out.reads (by omega)) h0 hm HS.out.1 (smooth_nz HS.out))
        have hs := hB.size
        clear HE HNo HLe HS HV
        have fin : ∀ (w5 : World) (v5 : Value), Vecs w5 wr.heap.size v5 (tidyL L) → Below wr.heap.size wr w5 → Vecs w5 w.heap.size v5 (tidyL (leastL l)) ∧ Below w.heap.size w w5 := fun w5 v5 h1 h2 => ⟨by rw [HE2.out]; exact h1.lower hs, belowTo hB h2⟩
        have HFin := Lib.hid fin
        clear fin HE2
        by_cases hkl : k < L.length
        · have h3 : ¬ (3 : Int) < (L.length : Int) := by omega
          have i2 : (k : Int) < (L.length : Int) := by omega
          go_wp2_with fail
          refine Calls.mono HT.out ?_
          rintro e w5 ⟨v5, rfl, hV5, hb5⟩
          have HFF := Lib.hid (HFin.out w5 v5 hV5 hb5)
          clear hV5 hb5
          go_wp2
          go_returns
          exact ⟨_, rfl, HFF.out.1, HFF.out.2⟩
        · have i2 : ¬ (k : Int) < (L.length : Int) := by omega
          go_wp2_with fail
          refine Calls.mono HT.out ?_
          rintro e w5 ⟨v5, rfl, hV5, hb5⟩
          have HFF := Lib.hid (HFin.out w5 v5 hV5 hb5)
          clear hV5 hb5
          go_wp2
          go_returns
          exact ⟨_, rfl, HFF.out.1, HFF.out.2⟩
end Go.Proofs.YtcieihbknfeddaaDoor
