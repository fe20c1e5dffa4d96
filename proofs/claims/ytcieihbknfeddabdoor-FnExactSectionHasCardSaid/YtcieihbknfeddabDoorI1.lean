import Derived.Test.YtcieihbknfeddabDoorBa
import Derived.Test.YtcieihbknfeddabDoorB9
import Derived.Test.YtcieihbknfeddabDoorBf
import Derived.Test.YtcieihbknfeddabDoorBb
/- Fans, the model's side: FanCone, FanWhere. -/
namespace Go.Proofs.YtcieihbknfeddabDoor
open Go.RowKit

theorem idx_is (l : List V2) (i : Int) : (decide (0 ≤ i) && decide (i ≤ (l.length : Int) - 1)) = idxB l i := by
  unfold idxB
  congr 1
  exact decide_eq_decide.2 (by omega)
set_option maxHeartbeats 8000000 in
theorem specFanWhere_any (v : Value) (l : List V2) (x y : Int) (w : World) (hl : ReadsVecs w v l) :
    Calls Tryd.prog 139 #[v, .agg #[.int .i64 (x), .int .i64 (y)]] w fun e w' => e = .returned (.tuple #[.int .i64 (gate (fanB l && vecB x y) ((firstI (fun i => inC l i (x, y)) l.length : Nat) : Int)), .bool (fanB l && vecB x y)]) ∧ Below w.heap.size w w' := by
  have HF := Lib.hid (fun w' (hb : Below w.heap.size w w') => specFanIn_any v l w' (hl.below hb))
  have HC := Lib.hid (fun k (h : k < l.length) w' (hb : Below w.heap.size w w') => l3Cone_any v l k w' (hl.below hb) h)
  have HV := Lib.hid (fun w' => specVecIn_any x y w')
  obtain ⟨a, c, rfl, _, hmm, _⟩ := hl
  cases hb : fanB l
  · rw [hb] at HF
    clear hb HC HV
    go_enter Tryd.func139, Tryd.ntmps139
    go_wp2_with fail
    refine Calls.mono (HF.out _ (by go_grown)) ?_
    rintro e w1 ⟨rfl, hb1⟩
    have hB : Below w.heap.size w w1 := belowTo (by go_grown) hb1
    clear hb1
    go_wp2
    go_returns
    exact ⟨rfl, hB⟩
  · rw [hb] at HF
    have HFB := Lib.hid hb
    clear hb
    cases hv : vecB x y
    · rw [hv] at HV
      clear hv HC HFB
      go_enter Tryd.func139, Tryd.ntmps139
      go_wp2_with fail
      refine Calls.mono (HF.out _ (by go_grown)) ?_
      rintro e w1 ⟨rfl, hb1⟩
      have hc0 : w1.cell? ⟨w.heap.size, 0, none⟩ = some (.int .i64 x) := (hb1.cell (p := ⟨w.heap.size, 0, none⟩) (by simp)).trans (by simp)
      have hc1 : w1.cell? ⟨w.heap.size, 1, none⟩ = some (.int .i64 y) := (hb1.cell (p := ⟨w.heap.size, 1, none⟩) (by simp)).trans (by simp)
      have hB : Below w.heap.size w w1 := belowTo (by go_grown) hb1
      have hl1 : w.heap.size < w1.heap.size := Nat.lt_of_lt_of_le (by simp) hb1.size
      clear hb1
      go_wp2_with fail
      refine Calls.mono (HV.out _) ?_
      rintro e w2 ⟨rfl, hb2⟩
      replace hB := belowTo hB hb2
      clear hb2 hc0 hc1 hl1
      go_wp2
      go_returns
      exact ⟨rfl, hB⟩
    · rw [hv] at HV
      have h3 := fan_len HFB.out
      obtain ⟨n, hn⟩ : ∃ n, n = l.length := ⟨_, rfl⟩
      have HL := Lib.hid hn
      rw [← hn] at hmm h3 HC HF
      rw [← hn]
      have n20 := h3.2
      clear hn h3
      have HVB := Lib.hid hv
      clear hv
      go_enter Tryd.func139, Tryd.ntmps139
      go_wp2_with fail
      refine Calls.mono (HF.out _ (by go_grown)) ?_
      rintro e w1 ⟨rfl, hb1⟩
      have hc0 : w1.cell? ⟨w.heap.size, 0, none⟩ = some (.int .i64 x) := (hb1.cell (p := ⟨w.heap.size, 0, none⟩) (by simp)).trans (by simp)
      have hc1 : w1.cell? ⟨w.heap.size, 1, none⟩ = some (.int .i64 y) := (hb1.cell (p := ⟨w.heap.size, 1, none⟩) (by simp)).trans (by simp)
      have hB : Below w.heap.size w w1 := belowTo (by go_grown) hb1
      have hl1 : w.heap.size < w1.heap.size := Nat.lt_of_lt_of_le (by simp) hb1.size
      clear hb1
      go_wp2_with fail
      refine Calls.mono (HV.out _) ?_
      rintro e w2 ⟨rfl, hb2⟩
      replace hc0 := (hb2.cell (p := ⟨w.heap.size, 0, none⟩) hl1).trans hc0
      replace hc1 := (hb2.cell (p := ⟨w.heap.size, 1, none⟩) hl1).trans hc1
      replace hl1 := Nat.lt_of_lt_of_le hl1 hb2.size
      replace hB := belowTo hB hb2
      clear hb2 HV HF
      go_wp2
      go_loopw [6] (fun s wr => ∃ k : Nat, k ≤ n ∧ s = .int .i64 k ∧ Hid (∀ i, i < k → inC l i (x, y) = false) ∧ wr.cell? ⟨w.heap.size, 0, none⟩ = some (.int .i64 x) ∧ wr.cell? ⟨w.heap.size, 1, none⟩ = some (.int .i64 y) ∧ w.heap.size < wr.heap.size ∧ Below w.heap.size w wr) (fun s _ => n - (intOf s).toNat)
      case atStart => exact ⟨0, Nat.zero_le _, rfl, fun i hi => by omega, hc0, hc1, hl1, hB⟩
      case round =>
        obtain ⟨k, hk, rfl, HQ, r0, r1, rl, rB⟩ := hrel
        clear hc0 hc1 hl1 hB
        have i1 : (0 : Int) ≤ (k : Int) := by omega
        by_cases hlt : k < n
        · have i2 : (k : Int) < (n : Int) := by omega
          have HCk := Lib.hid (HC.out k hlt)
          have HK : Hid (inC l k (x, y) = inB (cyc l k).1 (cyc l k).2 (cyc l (k + 1)).1 (cyc l (k + 1)).2 x y) := rfl
          have HH := Lib.hid (fun w' => l2Has_any (cyc l k).1 (cyc l k).2 (cyc l (k + 1)).1 (cyc l (k + 1)).2 x y w' (fan_vec HFB.out k) (fan_vec HFB.out (k + 1)) HVB.out)
          generalize inB (cyc l k).1 (cyc l k).2 (cyc l (k + 1)).1 (cyc l (k + 1)).2 x y = kk at HH HK
          generalize cyc l (k + 1) = z2 at *
          generalize cyc l k = z1 at *
          obtain ⟨x1, y1⟩ := z1
          obtain ⟨x2, y2⟩ := z2
          dsimp only at HCk HH
          go_wp2
          refine wp_region_any (by kernel_rfl) ?_
          try (change wpAny _ _ _ _ _ _ _ (World.drew _))
          refine wpAny_take (i := 0) (v := ?_) rfl (by kernel_rfl) (by kernel_rfl) (by kernel_rfl) (fun _ _ _ h => h) (Or.inl ⟨by rfl, ?_⟩) ?_
          rotate_left
          focus (intro w0; go_simp; try with_reducible rfl)
          refine wpAny_take (i := 1) (v := ?_) rfl (by kernel_rfl) (by kernel_rfl) (by kernel_rfl) (fun _ _ _ h => h) (Or.inl ⟨by rfl, ?_⟩) ?_
          rotate_left
          focus (intro w0; go_simp; try with_reducible rfl)
          refine wpAny_ready (rs := [2, 3]) (by kernel_rfl) (by simp) (AllReady.cons rfl (fun K hK => ?_) (AllReady.cons rfl (fun K hK => ?_) (AllReady.nil)))
          focus
            go_simp
            (refine Calls.mono (HCk.out _ (rB.trans (by go_grown))) ?_; rintro e w3 ⟨rfl, hb3⟩; replace hb3 := undrew hb3; replace r0 := (hb3.cell (p := ⟨w.heap.size, 0, none⟩) rl).trans r0; replace r1 := (hb3.cell (p := ⟨w.heap.size, 1, none⟩) rl).trans r1; replace rl := Nat.lt_of_lt_of_le rl hb3.size; replace rB := belowTo rB hb3)
            refine hK _ _ ?_
            clear hK K
            refine wpAny_ready (rs := [3]) (by kernel_rfl) (by simp) (AllReady.cons rfl (fun K hK => ?_) (AllReady.nil))
            go_simp
            refine hK _ _ ?_
            clear hK K
            refine wpAny_seq 4 rfl (by kernel_rfl) ?_
            simp only [List.drop_succ_cons, List.drop_zero]
          rotate_left 1
          focus
            go_simp
            refine hK _ _ ?_
            clear hK K
            refine wpAny_ready (rs := [2]) (by kernel_rfl) (by simp) (AllReady.cons rfl (fun K hK => ?_) (AllReady.nil))
            go_simp
            (refine Calls.mono (HCk.out _ (rB.trans (by go_grown))) ?_; rintro e w3 ⟨rfl, hb3⟩; replace hb3 := undrew hb3; replace r0 := (hb3.cell (p := ⟨w.heap.size, 0, none⟩) rl).trans r0; replace r1 := (hb3.cell (p := ⟨w.heap.size, 1, none⟩) rl).trans r1; replace rl := Nat.lt_of_lt_of_le rl hb3.size; replace rB := belowTo rB hb3)
            refine hK _ _ ?_
            clear hK K
            refine wpAny_seq 4 rfl (by kernel_rfl) ?_
            simp only [List.drop_succ_cons, List.drop_zero]
          all_goals
            go_wp2_with fail
            refine Calls.mono (HH.out _) ?_
            rintro e w4 ⟨rfl, hb4⟩
            replace r0 := (hb4.cell (p := ⟨w.heap.size, 0, none⟩) rl).trans r0
            replace r1 := (hb4.cell (p := ⟨w.heap.size, 1, none⟩) rl).trans r1
            replace rl := Nat.lt_of_lt_of_le rl hb4.size
            replace rB := belowTo rB hb4
            clear hb4
            cases kk
            · have HQ2 : Hid (∀ i, i < k + 1 → inC l i (x, y) = false) := fun i hi => by
                by_cases e : i = k
                · subst e; exact HK.out
                · exact HQ.out i (by omega)
              go_wp2
              go_roundw
              case rel => exact ⟨k + 1, by omega, by go_num, HQ2, r0, r1, rl, rB⟩
              case measure => simp [intOf]; omega
            · have HE : Hid (firstI (fun i => inC l i (x, y)) n = k) := first_is hlt HK.out HQ.out
              go_wp2
              go_returns
              exact ⟨by rw [HE.out]; rfl, rB⟩
        · obtain rfl : k = n := by omega
          obtain ⟨j, hj, hjc⟩ := fan_covers HFB.out (x, y)
          have := HQ.out j (by have := HL.out; omega)
          rw [hjc] at this
          cases this
end Go.Proofs.YtcieihbknfeddabDoor

/- Fans, the model's side: a list without one of its vectors; FanDown. -/
namespace Go.Proofs.YtcieihbknfeddabDoor
open Go.RowKit

end Go.Proofs.YtcieihbknfeddabDoor

/- Fans, the model's side: FanLeast. -/
namespace Go.Proofs.YtcieihbknfeddabDoor
open Go.RowKit

theorem smooth_nz {l : List V2} (h : Smooth l) (i : Nat) : nzB (cyc l i).1 (cyc l i).2 = true := by
  have hd := h.2 i
  by_cases hx : (cyc l i).1 = 0
  · by_cases hy : (cyc l i).2 = 0
    · exfalso
      simp [detV, detZ, hx, hy] at hd
    · simp [nzB, hy]
  · simp [nzB, hx]
def lenV : Value → Nat
  | .slice _ n _ => n
  | _ => 0
def LeastS (w : World) (l : List V2) (s4 s5 : Value) (wr : World) : Prop :=
  ∃ (L : List V2) (k : Nat), Vecs wr w.heap.size s4 L ∧ s5 = .int .i64 k ∧ Smooth L ∧ 0 < L.length ∧ L.length ≤ 1000 ∧ leastL L = leastL l ∧ k ≤ L.length ∧ (∀ j, j < k → downB L j = false) ∧ Below w.heap.size w wr
theorem all_down {L : List V2} {k : Nat} (h : ∀ j, j < k → downB L j = false) (hk : k = L.length ∨ ¬ 3 < L.length) : ∀ i, i < L.length → downB L i = false := by
  intro i hi
  rcases hk with rfl | hk
  · exact h i hi
  · unfold downB
    rw [show decide (3 < L.length) = false by simpa using hk]
    rfl
end Go.Proofs.YtcieihbknfeddabDoor
