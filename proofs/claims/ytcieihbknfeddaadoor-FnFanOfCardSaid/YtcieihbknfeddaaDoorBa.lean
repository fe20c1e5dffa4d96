import Derived.Test.YtcieihbknfeddaaDoorL4
import Derived.Test.YtcieihbknfeddaaDoorB7
import Derived.Test.YtcieihbknfeddaaDoorB4
import Derived.Test.YtcieihbknfeddaaDoorB2
import Derived.Test.YtcieihbknfeddaaDoorB9
import Derived.Test.YtcieihbknfeddaaDoorB5
/- Fans, the model's side: what is a fan. -/
namespace Go.Proofs.YtcieihbknfeddaaDoor
open Go.RowKit

set_option maxHeartbeats 1000000 in
theorem l3Next_any (a : Option Addr) (n c k : Nat) (w : World) (hk : k < n) (hn : n ≤ 4611686018427387904) :
    Calls Tryd.prog 83 #[.slice a n c, .int .i64 k] w fun e w' => e = .returned (.int .i64 ((k + 1) % n : Nat)) ∧ w = w' := by
  have hT := next_is k n
  have j1 : ¬ (n : Int) = 0 := by omega
  have j2 : ((n : Int) == 0) = false := by simpa using j1
  have j3 := Nat.mod_lt (k + 1) (show n > 0 by omega)
  have j4 : (0 : Int) ≤ (((k + 1) % n : Nat) : Int) := by omega
  have j5 : (((k + 1) % n : Nat) : Int) ≤ 4611686018427387904 := by omega
  generalize (((k + 1) % n : Nat) : Int) = z at *
  go_enter Tryd.func83, Tryd.ntmps83
  go_wp2
  go_returns
  exact ⟨rfl, rfl⟩
theorem con_prim {l : List V2} {i : Nat} (h1 : primB (cyc l i).1 (cyc l i).2 = true) (h2 : primB (cyc l (i + 1)).1 (cyc l (i + 1)).2 = true) : conB l i = posB (cyc l i).1 (cyc l i).2 (cyc l (i + 1)).1 (cyc l (i + 1)).2 := by
  simp [conB, coneB, h1, h2]
theorem fanIs {l : List V2} (hr : rng l = true) (h : ∀ i, i < l.length → conB l i = true) : fanB l = oneBack l := by
  have : allC l = true := List.all_eq_true.2 (fun i hi => h i (List.mem_range.1 hi))
  unfold fanB
  rw [hr, this]
  simp
theorem fanNot {l : List V2} {i : Nat} (hi : i < l.length) (h : conB l i = false) : fanB l = false := by
  have : allC l = false := by
    unfold allC
    rw [List.all_eq_false]
    exact ⟨i, List.mem_range.2 hi, by rw [h]; decide⟩
  unfold fanB
  rw [this]
  simp
theorem cnt_range (p : Nat → Bool) (k : Nat) : cnt p (List.range (k + 1)) = cnt p (List.range k) + (if p k then 1 else 0) := by
  rw [List.range_succ, cnt_snoc]
set_option maxHeartbeats 8000000 in
theorem specFanIn_any (v : Value) (l : List V2) (w : World) (hl : ReadsVecs w v l) :
    Calls Tryd.prog 25 #[v] w fun e w' => e = .returned (.bool (fanB l)) ∧ Below w.heap.size w w' := by
  by_cases hr : 3 ≤ l.length ∧ l.length ≤ 20
  case neg =>
    have hf : fanB l = false := by
      have : rng l = false := by unfold rng; simp; omega
      simp [fanB, this]
    rw [hf]
    obtain ⟨a, c, rfl, hc, hm, _⟩ := hl
    have hk : (decide ((3 : Int) ≤ (l.length : Int)) && decide ((l.length : Int) ≤ 20)) = false := by simp; omega
    have HK := Lib.hid (fun w' => l6In_any (l.length : Int) 3 20 w')
    rw [hk] at HK
    clear hk hr
    go_enter Tryd.func25, Tryd.ntmps25
    go_wp2_with fail
    refine Calls.mono (HK.out _) ?_
    rintro e w1 ⟨rfl, rfl⟩
    go_wp2
    go_returns
    exact ⟨rfl, Below.refl _ _⟩
  case pos =>
    obtain ⟨bb, off, c, rfl, hc, hm, hbb, hcs⟩ := hl.open (by omega)
    have HC := Lib.hid hcs
    have hk : (decide ((3 : Int) ≤ (l.length : Int)) && decide ((l.length : Int) ≤ 20)) = true := by simp; omega
    have HK := Lib.hid (fun w' => l6In_any (l.length : Int) 3 20 w')
    rw [hk] at HK
    have hrg : rng l = true := by unfold rng; simp; omega
    have HI := Lib.hid (fun h => fanIs (l := l) hrg h)
    have HN := Lib.hid (fun i h1 h2 => fanNot (l := l) (i := i) h1 h2)
    have HNX := Lib.hid (fun k (h : k < l.length) w' => l3Next_any (some ⟨bb, off, none⟩) l.length c k w' h (by omega))
    have HO : Hid (oneBack l = (cnt (bkB l) (List.range l.length) == 1)) := rfl
    have h20 := hr.2
    have h3 := hr.1
    obtain ⟨n, hn⟩ : ∃ n, n = l.length := ⟨_, rfl⟩
    have HL := Lib.hid hn
    rw [← hn] at hc hm h20 h3 HI HK HNX HO ⊢
    rw [← hn] at HC HN
    clear hcs hk hr hrg hn hl
    go_enter Tryd.func25, Tryd.ntmps25
    go_wp2_with fail
    refine Calls.mono (HK.out _) ?_
    rintro e w1 ⟨rfl, rfl⟩
    go_wp2
    go_loopw [3] (fun i wr => ∃ k : Nat, k ≤ n ∧ i = .int .i64 k ∧ Hid (∀ j, j < k → primB (cyc l j).1 (cyc l j).2 = true) ∧ Below w.heap.size w wr) (fun i _ => n - (intOf i).toNat)
    case atStart => exact ⟨0, Nat.zero_le _, rfl, fun j hj => by omega, Below.refl _ _⟩
    case round =>
      obtain ⟨k, hk, rfl, hp, hB⟩ := hrel
      have i1 : (0 : Int) ≤ (k : Int) := by omega
      by_cases hlt : k < n
      · obtain ⟨c1, c2⟩ := HC.out wr hB k hlt
        have i2 : (k : Int) < (n : Int) := by omega
        have hbl := Nat.lt_of_lt_of_le hbb hB.size
        have HP := Lib.hid (fun w' => l2Primitive_any (cyc l k).1 (cyc l k).2 w')
        cases hq : primB (cyc l k).1 (cyc l k).2
        · rw [hq] at HP
          have HF : Hid (fanB l = false) := HN.out k hlt (by simp [conB, coneB, hq])
          clear hq
          generalize (cyc l k).1 = x at c1 HP
          generalize (cyc l k).2 = y at c2 HP
          go_wp2_with fail
          refine Calls.mono (HP.out _) ?_
          rintro e w2 ⟨rfl, hb2⟩
          go_wp2
          go_returns
          exact ⟨by rw [HF.out]; rfl, belowTo hB hb2⟩
        · rw [hq] at HP
          have HPk : Hid (∀ j, j < k + 1 → primB (cyc l j).1 (cyc l j).2 = true) := fun j hj => by
            by_cases e : j = k
            · subst e; exact hq
            · exact hp.out j (by omega)
          clear hq
          generalize (cyc l k).1 = x at c1 HP
          generalize (cyc l k).2 = y at c2 HP
          go_wp2_with fail
          refine Calls.mono (HP.out _) ?_
          rintro e w2 ⟨rfl, hb2⟩
          go_wp2
          go_roundw
          case rel => exact ⟨k + 1, by omega, by go_num, HPk, belowTo hB hb2⟩
          case measure => simp [intOf]; omega
      · obtain rfl : k = n := by omega
        have i2 : ¬ (k : Int) < (k : Int) := by omega
        have HPR : Hid (∀ i, primB (cyc l i).1 (cyc l i).2 = true) := fun i => by
          have := hp.out (i % l.length) (by have e := HL.out; have := Nat.mod_lt i (show l.length > 0 by omega); omega)
          rwa [cyc_mod] at this
        clear hp
        go_wp2
        go_loopw [4, 5] (fun b i wx => ∃ j : Nat, j ≤ k ∧ i = .int .i64 j ∧ b = .int .i64 (cnt (bkB l) (List.range j) : Nat) ∧ Hid (∀ q, q < j → conB l q = true) ∧ Below w.heap.size w wx) (fun _ i _ => k - (intOf i).toNat)
        case atStart => exact ⟨0, Nat.zero_le _, rfl, rfl, fun j hj => by omega, hB⟩
        case round =>
          obtain ⟨j, hj, rfl, rfl, hp, hB⟩ := hrel
          have i1 : (0 : Int) ≤ (j : Int) := by omega
          by_cases hlt : j < k
          · have hjn : (j + 1) % k < k := Nat.mod_lt _ (by omega)
            obtain ⟨d1, d2⟩ := HC.out wr hB _ hjn
            have ey : cyc l ((j + 1) % k) = cyc l (j + 1) := by rw [HL.out]; exact cyc_mod l (j + 1)
            rw [ey] at d1 d2
            have HX := Lib.hid (HNX.out j hlt)
            have i2 : (j : Int) < (k : Int) := by omega
            have i3 : (0 : Int) ≤ (((j + 1) % k : Nat) : Int) := by omega
            have i4 : (((j + 1) % k : Nat) : Int) < (k : Int) := by omega
            generalize (j + 1) % k = m at *
            have hbl := Nat.lt_of_lt_of_le hbb hB.size
            have p1 := HPR.out j
            have p2 := HPR.out (j + 1)
            obtain ⟨v1, o1⟩ := prim_in p1
            obtain ⟨v2, o2⟩ := prim_in p2
            have HD := Lib.hid (fun w' => l1Det_any _ _ _ _ w' v1 v2)
            have HA := Lib.hid (fun w' => l1Ahead_any _ _ _ _ w' v2 v1 (one_nz o2) (one_nz o1))
            have HCn := Lib.hid (con_prim p1 p2)
            have HS := Lib.hid (cnt_range (bkB l) j)
            have HBk : Hid (bkB l j = aheadB (cyc l (j + 1)).1 (cyc l (j + 1)).2 (cyc l j).1 (cyc l j).2) := rfl
            have hcl : ((cnt (bkB l) (List.range j) : Nat) : Int) ≤ 1000 := by have := cnt_le (bkB l) (List.range j); rw [List.length_range] at this; omega
            have hc0 : (0 : Int) ≤ ((cnt (bkB l) (List.range j) : Nat) : Int) := by omega
            have HB := Lib.hid hB
            have HPZ : Hid (posB (cyc l j).1 (cyc l j).2 (cyc l (j + 1)).1 (cyc l (j + 1)).2 = decide (0 < detZ (cyc l j).1 (cyc l j).2 (cyc l (j + 1)).1 (cyc l (j + 1)).2)) := rfl
            clear p1 p2 v1 v2 o1 o2 ey hjn
            generalize hz : (cyc l (j + 1)) = z at d1 d2 HD HA HCn HBk HPZ
            obtain ⟨x2, y2⟩ := z
            generalize hz1 : (cyc l j) = z1 at HD HA HCn HBk HPZ
            obtain ⟨x1, y1⟩ := z1
            dsimp only at d1 d2 HD HA HCn HBk HPZ
            have HZ := Lib.hid hz1
            clear hz hz1
            generalize detZ x1 y1 x2 y2 = dd at HD HPZ
            generalize aheadB x2 y2 x1 y1 = kk at HA HBk
            go_wp2_with fail
            refine Calls.mono (HX.out _) ?_
            rintro e w1 ⟨rfl, rfl⟩
            have hAl : Below w.heap.size w (wr.alloc (.cells #[.int .i64 x2, .int .i64 y2] 26)) := hB.alloc hB.size _
            obtain ⟨c1, c2⟩ := HC.out _ hAl j hlt
            rw [HZ.out] at c1 c2
            dsimp only at c1 c2
            go_wp2
            have hw2 : Below wr.heap.size wr (wr.alloc (.cells #[.int .i64 x2, .int .i64 y2] 26)).drew := by go_grown
            refine wp_region_any (by kernel_rfl) ?_
            try (change wpAny _ _ _ _ _ _ _ (World.drew _))
            refine wpAny_take (i := 0) (v := ?_) rfl (by kernel_rfl) (by kernel_rfl) (by kernel_rfl) (fun _ _ _ h => h) (Or.inl ⟨by rfl, ?_⟩) ?_
            rotate_left
            focus (intro w0; go_simp; try with_reducible rfl)
            refine wpAny_take (i := 1) (v := ?_) rfl (by kernel_rfl) (by kernel_rfl) (by kernel_rfl) (fun _ _ _ h => h) (Or.inl ⟨by rfl, ?_⟩) ?_
            rotate_left
            focus (intro w0; go_simp; try with_reducible rfl)
            refine wpAny_take (i := 2) (v := ?_) rfl (by kernel_rfl) (by kernel_rfl) (by kernel_rfl) (fun _ _ _ h => h) (Or.inl ⟨by rfl, ?_⟩) ?_
            rotate_left
            focus (intro w0; go_simp; try with_reducible rfl)
            refine wpAny_ready (rs := [3, 4]) (by kernel_rfl) (by simp) (AllReady.cons rfl (fun K hK => ?_) (AllReady.cons rfl (fun K hK => ?_) (AllReady.nil)))
            focus
              go_simp
              refine hK _ _ ?_
              clear hK K
              refine wpAny_ready (rs := [4]) (by kernel_rfl) (by simp) (AllReady.cons rfl (fun K hK => ?_) (AllReady.nil))
              go_simp
              refine hK _ _ ?_
              clear hK K
              refine wpAny_seq 5 rfl (by kernel_rfl) ?_
              simp only [List.drop_succ_cons, List.drop_zero]
            rotate_left 1
            focus
              go_simp
              refine hK _ _ ?_
              clear hK K
              refine wpAny_ready (rs := [3]) (by kernel_rfl) (by simp) (AllReady.cons rfl (fun K hK => ?_) (AllReady.nil))
              go_simp
              refine hK _ _ ?_
              clear hK K
              refine wpAny_seq 5 rfl (by kernel_rfl) ?_
              simp only [List.drop_succ_cons, List.drop_zero]
            all_goals
              go_wp2_with fail
              refine Calls.mono (HD.out _) ?_
              rintro e w2 ⟨rfl, hb2⟩
              have n0 : w2.cell? ⟨wr.heap.size, 0, none⟩ = some (.int .i64 x2) := (hb2.cell (p := ⟨wr.heap.size, 0, none⟩) (by simp)).trans (by simp)
              have n1 : w2.cell? ⟨wr.heap.size, 1, none⟩ = some (.int .i64 y2) := (hb2.cell (p := ⟨wr.heap.size, 1, none⟩) (by simp)).trans (by simp)
              have nl : wr.heap.size < w2.heap.size := Nat.lt_of_lt_of_le (by simp) hb2.size
              have hb3 : Below wr.heap.size wr w2 := belowTo hw2 hb2
              have hB2 := belowTo hB hb3
              obtain ⟨e1, e2⟩ := HC.out _ hB2 j hlt
              rw [HZ.out] at e1 e2
              dsimp only at e1 e2
              have hbl2 := Nat.lt_of_lt_of_le hbl hb3.size
              clear c1 c2 d1 d2 hb2 hb3 hw2 hAl
              by_cases hdd : dd ≤ 0
              · have HF : Hid (fanB l = false) := HN.out j hlt (HCn.out.trans (HPZ.out.trans (by simp; omega)))
                go_wp2
                go_returns
                exact ⟨by rw [HF.out]; rfl, hB2⟩
              · have HQ : Hid (∀ q, q < j + 1 → conB l q = true) := fun q hq => by
                  by_cases e : q = j
                  · subst e
                    exact HCn.out.trans (HPZ.out.trans (by simp; omega))
                  · exact hp.out q (by omega)
                go_wp2
                refine wp_region_any (by kernel_rfl) ?_
                try (change wpAny _ _ _ _ _ _ _ (World.drew _))
                refine wpAny_take (i := 1) (v := ?_) rfl (by kernel_rfl) (by kernel_rfl) (by kernel_rfl) (fun _ _ _ h => h) (Or.inl ⟨by rfl, ?_⟩) ?_
                rotate_left
                focus (intro w0; go_simp; try with_reducible rfl)
                refine wpAny_take (i := 2) (v := ?_) rfl (by kernel_rfl) (by kernel_rfl) (by kernel_rfl) (fun _ _ _ h => h) (Or.inl ⟨by rfl, ?_⟩) ?_
                rotate_left
                focus (intro w0; go_simp; try with_reducible rfl)
                refine wpAny_take (i := 3) (v := ?_) rfl (by kernel_rfl) (by kernel_rfl) (by kernel_rfl) (fun _ _ _ h => h) (Or.inl ⟨by rfl, ?_⟩) ?_
                rotate_left
                focus (intro w0; go_simp; try with_reducible rfl)
                refine wpAny_ready (rs := [0, 4]) (by kernel_rfl) (by simp) (AllReady.cons rfl (fun K hK => ?_) (AllReady.cons rfl (fun K hK => ?_) (AllReady.nil)))
                focus
                  go_simp
                  refine hK _ _ ?_
                  clear hK K
                  refine wpAny_ready (rs := [4]) (by kernel_rfl) (by simp) (AllReady.cons rfl (fun K hK => ?_) (AllReady.nil))
                  go_simp
                  refine hK _ _ ?_
                  clear hK K
                  refine wpAny_seq 5 rfl (by kernel_rfl) ?_
                  simp only [List.drop_succ_cons, List.drop_zero]
                rotate_left 1
                focus
                  go_simp
                  refine hK _ _ ?_
                  clear hK K
                  refine wpAny_ready (rs := [0]) (by kernel_rfl) (by simp) (AllReady.cons rfl (fun K hK => ?_) (AllReady.nil))
                  go_simp
                  refine hK _ _ ?_
                  clear hK K
                  refine wpAny_seq 5 rfl (by kernel_rfl) ?_
                  simp only [List.drop_succ_cons, List.drop_zero]
                all_goals
                  go_wp2_with fail
                  refine Calls.mono (HA.out _) ?_
                  rintro e w4 ⟨rfl, hb4⟩
                  have hB4 := belowTo hB2 (undrew hb4)
                  clear hb4
                  rw [HBk.out] at HS
                  cases kk
                  · have HS2 : Hid (((cnt (bkB l) (List.range j) : Nat) : Int) = ((cnt (bkB l) (List.range (j + 1)) : Nat) : Int)) := by rw [HS.out]; rfl
                    go_wp2
                    go_roundw
                    case rel =>
                      exact ⟨j + 1, by omega, by go_num, by rw [HS2.out], HQ, hB4⟩
                    case measure => simp [intOf]; omega
                  · have HS2 : Hid (((cnt (bkB l) (List.range j) : Nat) : Int) + 1 = ((cnt (bkB l) (List.range (j + 1)) : Nat) : Int)) := by rw [HS.out]; rfl
                    go_wp2
                    go_roundw
                    case rel =>
                      exact ⟨j + 1, by omega, by go_num, by rw [← HS2.out], HQ, hB4⟩
                    case measure => simp [intOf]; omega
          · obtain rfl : j = k := by omega
            have i2 : ¬ (j : Int) < (j : Int) := by omega
            have HF : Hid (fanB l = (cnt (bkB l) (List.range j) == 1)) := (HI.out hp.out).trans HO.out
            clear hp
            generalize cnt (bkB l) (List.range j) = q at *
            by_cases hq : q = 1
            · subst hq
              go_wp2
              go_returns
              exact ⟨by rw [HF.out]; rfl, hB⟩
            · have hq2 : ¬ (q : Int) = 1 := by omega
              have hq3 : (q == 1) = false := by simpa using hq
              have HF2 : Hid (fanB l = false) := HF.out.trans hq3
              have hq4 : ((q : Int) == 1) = false := by simpa using hq2
              clear HF hq hq3
              go_wp2
              go_returns
              exact ⟨by rw [HF2.out]; rfl, hB⟩
end Go.Proofs.YtcieihbknfeddaaDoor

/- Fans, the model's side: smooth ones; cones. -/
namespace Go.Proofs.YtcieihbknfeddaaDoor
open Go.RowKit

theorem smNot {l : List V2} {i : Nat} (hi : i < l.length) (h : smB l i = false) : allS l = false := by
  unfold allS
  rw [List.all_eq_false]
  exact ⟨i, List.mem_range.2 hi, by rw [h]; decide⟩
set_option maxHeartbeats 8000000 in
theorem l3Smooth_any (v : Value) (l : List V2) (w : World) (hl : ReadsVecs w v l) (h0 : 0 < l.length) (hv : allVec l) :
    Calls Tryd.prog 93 #[v] w fun e w' => e = .returned (.bool (allS l)) ∧ Below w.heap.size w w' := by
  obtain ⟨bb, off, c, rfl, hc, hm, hbb, hcs⟩ := hl.open h0
  have HC := Lib.hid hcs
  have HI : Hid ((∀ i, i < l.length → smB l i = true) → allS l = true) := fun h => List.all_eq_true.2 (fun i hi => h i (List.mem_range.1 hi))
  have HN := Lib.hid (fun i h1 h2 => smNot (l := l) (i := i) h1 h2)
  have HNX := Lib.hid (fun k (h : k < l.length) w' => l3Next_any (some ⟨bb, off, none⟩) l.length c k w' h (by omega))
  have HV := Lib.hid hv
  obtain ⟨n, hn⟩ : ∃ n, n = l.length := ⟨_, rfl⟩
  have HL := Lib.hid hn
  rw [← hn] at hc hm HI HNX h0 ⊢
  rw [← hn] at HC HN
  clear hcs hn hl hv
  go_enter Tryd.func93, Tryd.ntmps93
  go_wp2
  go_loopw [3] (fun i wr => ∃ j : Nat, j ≤ n ∧ i = .int .i64 j ∧ Hid (∀ q, q < j → smB l q = true) ∧ Below w.heap.size w wr) (fun i _ => n - (intOf i).toNat)
  case atStart => exact ⟨0, Nat.zero_le _, rfl, fun j hj => by omega, Below.refl _ _⟩
  case round =>
    obtain ⟨j, hj, rfl, hp, hB⟩ := hrel
    have i1 : (0 : Int) ≤ (j : Int) := by omega
    by_cases hlt : j < n
    · obtain ⟨c1, c2⟩ := HC.out wr hB j hlt
      have hjn : (j + 1) % n < n := Nat.mod_lt _ (by omega)
      obtain ⟨d1, d2⟩ := HC.out wr hB _ hjn
      have ey : cyc l ((j + 1) % n) = cyc l (j + 1) := by rw [HL.out]; exact cyc_mod l (j + 1)
      rw [ey] at d1 d2
      have HX := Lib.hid (HNX.out j hlt)
      have i2 : (j : Int) < (n : Int) := by omega
      have i3 : (0 : Int) ≤ (((j + 1) % n : Nat) : Int) := by omega
      have i4 : (((j + 1) % n : Nat) : Int) < (n : Int) := by omega
      generalize (j + 1) % n = m at *
      have hbl := Nat.lt_of_lt_of_le hbb hB.size
      have HD := Lib.hid (fun w' => l1Det_any _ _ _ _ w' (HV.out j) (HV.out (j + 1)))
      have HS : Hid (smB l j = (detZ (cyc l j).1 (cyc l j).2 (cyc l (j + 1)).1 (cyc l (j + 1)).2 == 1)) := rfl
      clear ey hjn
      generalize (cyc l (j + 1)) = z at d1 d2 HD HS
      obtain ⟨x2, y2⟩ := z
      generalize (cyc l j) = z1 at c1 c2 HD HS
      obtain ⟨x1, y1⟩ := z1
      dsimp only at c1 c2 d1 d2 HD HS
      generalize detZ x1 y1 x2 y2 = dd at HD HS
      go_wp2
      refine wp_region_any (by kernel_rfl) ?_
      try (change wpAny _ _ _ _ _ _ _ (World.drew _))
      refine wpAny_take (i := 0) (v := ?_) rfl (by kernel_rfl) (by kernel_rfl) (by kernel_rfl) (fun _ _ _ h => h) (Or.inl ⟨by rfl, ?_⟩) ?_
      rotate_left
      focus (intro w0; go_simp; try with_reducible rfl)
      refine wpAny_take (i := 1) (v := ?_) rfl (by kernel_rfl) (by kernel_rfl) (by kernel_rfl) (fun _ _ _ h => h) (Or.inl ⟨by rfl, ?_⟩) ?_
      rotate_left
      focus (intro w0; go_simp; try with_reducible rfl)
      refine wpAny_take (i := 2) (v := ?_) rfl (by kernel_rfl) (by kernel_rfl) (by kernel_rfl) (fun _ _ _ h => h) (Or.inl ⟨by rfl, ?_⟩) ?_
      rotate_left
      focus (intro w0; go_simp; try with_reducible rfl)
      refine wpAny_take (i := 4) (v := ?_) rfl (by kernel_rfl) (by kernel_rfl) (by kernel_rfl) (fun _ _ _ h => h) (Or.inl ⟨by rfl, ?_⟩) ?_
      rotate_left
      focus (intro w0; go_simp; try with_reducible rfl)
      refine wpAny_take (i := 5) (v := ?_) rfl (by kernel_rfl) (by kernel_rfl) (by kernel_rfl) (fun _ _ _ h => h) (Or.inl ⟨by rfl, ?_⟩) ?_
      rotate_left
      focus (intro w0; go_simp; try with_reducible rfl)
      refine wpAny_take (i := 6) (v := ?_) rfl (by kernel_rfl) (by kernel_rfl) (by kernel_rfl) (fun _ _ _ h => h) (Or.inl ⟨by rfl, ?_⟩) ?_
      rotate_left
      focus (intro w0; go_simp; try with_reducible rfl)
      refine wpAny_ready (rs := [3, 7]) (by kernel_rfl) (by simp) (AllReady.cons rfl (fun K hK => ?_) (AllReady.cons rfl (fun K hK => ?_) (AllReady.nil)))
      focus
        go_simp
        refine hK _ _ ?_
        clear hK K
        refine wpAny_ready (rs := [7]) (by kernel_rfl) (by simp) (AllReady.cons rfl (fun K hK => ?_) (AllReady.nil))
        go_simp
        (refine Calls.mono (HX.out _) ?_; rintro e w1 ⟨rfl, rfl⟩)
        refine hK _ _ ?_
        clear hK K
        refine wpAny_take (i := 8) (v := ?_) rfl (by kernel_rfl) (by kernel_rfl) (by kernel_rfl) (fun _ _ _ h => h) (Or.inl ⟨by rfl, ?_⟩) ?_
        rotate_left
        focus (intro w0; go_simp; try with_reducible rfl)
        refine wpAny_ready (rs := [9]) (by kernel_rfl) (by simp) (AllReady.cons rfl (fun K hK => ?_) (AllReady.nil))
        go_simp
        refine hK _ _ ?_
        clear hK K
        refine wpAny_seq 10 rfl (by kernel_rfl) ?_
        simp only [List.drop_succ_cons, List.drop_zero]
      rotate_left 1
      focus
        go_simp
        (refine Calls.mono (HX.out _) ?_; rintro e w1 ⟨rfl, rfl⟩)
        refine hK _ _ ?_
        clear hK K
        refine wpAny_take (i := 8) (v := ?_) rfl (by kernel_rfl) (by kernel_rfl) (by kernel_rfl) (fun _ _ _ h => h) (Or.inl ⟨by rfl, ?_⟩) ?_
        rotate_left
        focus (intro w0; go_simp; try with_reducible rfl)
        refine wpAny_ready (rs := [3, 9]) (by kernel_rfl) (by simp) (AllReady.cons rfl (fun K hK => ?_) (AllReady.cons rfl (fun K hK => ?_) (AllReady.nil)))
        focus
          go_simp
          refine hK _ _ ?_
          clear hK K
          refine wpAny_ready (rs := [9]) (by kernel_rfl) (by simp) (AllReady.cons rfl (fun K hK => ?_) (AllReady.nil))
          go_simp
          refine hK _ _ ?_
          clear hK K
          refine wpAny_seq 10 rfl (by kernel_rfl) ?_
          simp only [List.drop_succ_cons, List.drop_zero]
        rotate_left 1
        focus
          go_simp
          refine hK _ _ ?_
          clear hK K
          refine wpAny_ready (rs := [3]) (by kernel_rfl) (by simp) (AllReady.cons rfl (fun K hK => ?_) (AllReady.nil))
          go_simp
          refine hK _ _ ?_
          clear hK K
          refine wpAny_seq 10 rfl (by kernel_rfl) ?_
          simp only [List.drop_succ_cons, List.drop_zero]
      all_goals
        go_wp2_with fail
        refine Calls.mono (HD.out _) ?_
        rintro e w4 ⟨rfl, hb4⟩
        have hB4 := belowTo hB (undrew hb4)
        clear hb4
        by_cases hdd : dd = 1
        · have HQ : Hid (∀ q, q < j + 1 → smB l q = true) := fun q hq => by
            by_cases e : q = j
            · subst e
              exact HS.out.trans (by simpa using hdd)
            · exact hp.out q (by omega)
          go_wp2
          go_roundw
          case rel => exact ⟨j + 1, by omega, by go_num, HQ, hB4⟩
          case measure => simp [intOf]; omega
        · have hdf : (dd == 1) = false := by simpa using hdd
          have HF : Hid (allS l = false) := HN.out j hlt (HS.out.trans hdf)
          clear hdf
          go_wp2
          go_returns
          exact ⟨by rw [HF.out]; rfl, hB4⟩
    · obtain rfl : j = n := by omega
      have i2 : ¬ (j : Int) < (j : Int) := by omega
      have HF := Lib.hid (HI.out hp.out)
      clear hp
      go_wp2
      go_returns
      exact ⟨by rw [HF.out]; rfl, hB⟩
set_option maxHeartbeats 4000000 in
theorem specFanSmooth_any (v : Value) (l : List V2) (w : World) (hl : ReadsVecs w v l) :
    Calls Tryd.prog 35 #[v] w fun e w' => e = .returned (.bool (smoothB l)) ∧ Below w.heap.size w w' := by
  have HF := Lib.hid (specFanIn_any v l w hl)
  unfold smoothB
  cases hf : fanB l
  · rw [hf] at HF
    clear hf hl
    go_enter Tryd.func35, Tryd.ntmps35
    go_wp2_with fail
    refine Calls.mono HF.out ?_
    rintro e w1 ⟨rfl, hb1⟩
    go_wp2
    go_returns
    exact ⟨rfl, hb1⟩
  · rw [hf] at HF
    have HS := Lib.hid (fun w' (hb : Below w.heap.size w w') => l3Smooth_any v l w' (hl.below hb) (by have := fan_len hf; omega) (fan_vec hf))
    generalize allS l = k at HS
    clear hf hl
    go_enter Tryd.func35, Tryd.ntmps35
    go_wp2_with fail
    refine Calls.mono HF.out ?_
    rintro e w1 ⟨rfl, hb1⟩
    go_wp2_with fail
    refine Calls.mono (HS.out _ hb1) ?_
    rintro e w2 ⟨rfl, hb2⟩
    have hB := belowTo hb1 hb2
    clear hb1 hb2
    go_wp2
    go_returns
    exact ⟨rfl, hB⟩
set_option maxHeartbeats 4000000 in
theorem l3Cone_any (v : Value) (l : List V2) (k : Nat) (w : World) (hl : ReadsVecs w v l) (hk : k < l.length) :
    Calls Tryd.prog 95 #[v, .int .i64 k] w fun e w' => e = .returned (.agg #[.int .i64 ((cyc l k).1), .int .i64 ((cyc l k).2), .int .i64 ((cyc l (k + 1)).1), .int .i64 ((cyc l (k + 1)).2)]) ∧ Below w.heap.size w w' := by
  obtain ⟨bb, off, c, rfl, hc, hm, hbb, hcs⟩ := hl.open (by omega)
  obtain ⟨c1, c2⟩ := hcs w (Below.refl _ _) k hk
  have hjn : (k + 1) % l.length < l.length := Nat.mod_lt _ (by omega)
  obtain ⟨d1, d2⟩ := hcs w (Below.refl _ _) _ hjn
  rw [cyc_mod] at d1 d2
  have HX := Lib.hid (fun w' => l3Next_any (some ⟨bb, off, none⟩) l.length c k w' hk (by omega))
  have i1 : (0 : Int) ≤ (k : Int) := by omega
  have i2 : (k : Int) < (l.length : Int) := by omega
  have i3 : (0 : Int) ≤ (((k + 1) % l.length : Nat) : Int) := by omega
  have i4 : (((k + 1) % l.length : Nat) : Int) < (l.length : Int) := by omega
  generalize (k + 1) % l.length = m at *
  generalize l.length = n at *
  generalize cyc l (k + 1) = z at *
  obtain ⟨x2, y2⟩ := z
  generalize cyc l k = z1 at *
  obtain ⟨x1, y1⟩ := z1
  dsimp only at c1 c2 d1 d2 ⊢
  clear hcs hl
  go_enter Tryd.func95, Tryd.ntmps95
  go_wp2
  refine wp_region_any (by kernel_rfl) ?_
  try (change wpAny _ _ _ _ _ _ _ (World.drew _))
  refine wpAny_take (i := 0) (v := ?_) rfl (by kernel_rfl) (by kernel_rfl) (by kernel_rfl) (fun _ _ _ h => h) (Or.inl ⟨by rfl, ?_⟩) ?_
  rotate_left
  focus (intro w0; go_simp; try with_reducible rfl)
  refine wpAny_take (i := 1) (v := ?_) rfl (by kernel_rfl) (by kernel_rfl) (by kernel_rfl) (fun _ _ _ h => h) (Or.inl ⟨by rfl, ?_⟩) ?_
  rotate_left
  focus (intro w0; go_simp; try with_reducible rfl)
  refine wpAny_take (i := 2) (v := ?_) rfl (by kernel_rfl) (by kernel_rfl) (by kernel_rfl) (fun _ _ _ h => h) (Or.inl ⟨by rfl, ?_⟩) ?_
  rotate_left
  focus (intro w0; go_simp; try with_reducible rfl)
  refine wpAny_take (i := 4) (v := ?_) rfl (by kernel_rfl) (by kernel_rfl) (by kernel_rfl) (fun _ _ _ h => h) (Or.inl ⟨by rfl, ?_⟩) ?_
  rotate_left
  focus (intro w0; go_simp; try with_reducible rfl)
  refine wpAny_take (i := 5) (v := ?_) rfl (by kernel_rfl) (by kernel_rfl) (by kernel_rfl) (fun _ _ _ h => h) (Or.inl ⟨by rfl, ?_⟩) ?_
  rotate_left
  focus (intro w0; go_simp; try with_reducible rfl)
  refine wpAny_take (i := 6) (v := ?_) rfl (by kernel_rfl) (by kernel_rfl) (by kernel_rfl) (fun _ _ _ h => h) (Or.inl ⟨by rfl, ?_⟩) ?_
  rotate_left
  focus (intro w0; go_simp; try with_reducible rfl)
  refine wpAny_ready (rs := [3, 7]) (by kernel_rfl) (by simp) (AllReady.cons rfl (fun K hK => ?_) (AllReady.cons rfl (fun K hK => ?_) (AllReady.nil)))
  focus
    go_simp
    refine hK _ _ ?_
    clear hK K
    refine wpAny_ready (rs := [7]) (by kernel_rfl) (by simp) (AllReady.cons rfl (fun K hK => ?_) (AllReady.nil))
    go_simp
    (refine Calls.mono (HX.out _) ?_; rintro e w1 ⟨rfl, rfl⟩)
    refine hK _ _ ?_
    clear hK K
    refine wpAny_take (i := 8) (v := ?_) rfl (by kernel_rfl) (by kernel_rfl) (by kernel_rfl) (fun _ _ _ h => h) (Or.inl ⟨by rfl, ?_⟩) ?_
    rotate_left
    focus (intro w0; go_simp; try with_reducible rfl)
    refine wpAny_ready (rs := [9]) (by kernel_rfl) (by simp) (AllReady.cons rfl (fun K hK => ?_) (AllReady.nil))
    go_simp
    refine hK _ _ ?_
    clear hK K
    refine wpAny_seq 10 rfl (by kernel_rfl) ?_
    simp only [List.drop_succ_cons, List.drop_zero]
  rotate_left 1
  focus
    go_simp
    (refine Calls.mono (HX.out _) ?_; rintro e w1 ⟨rfl, rfl⟩)
    refine hK _ _ ?_
    clear hK K
    refine wpAny_take (i := 8) (v := ?_) rfl (by kernel_rfl) (by kernel_rfl) (by kernel_rfl) (fun _ _ _ h => h) (Or.inl ⟨by rfl, ?_⟩) ?_
    rotate_left
    focus (intro w0; go_simp; try with_reducible rfl)
    refine wpAny_ready (rs := [3, 9]) (by kernel_rfl) (by simp) (AllReady.cons rfl (fun K hK => ?_) (AllReady.cons rfl (fun K hK => ?_) (AllReady.nil)))
    focus
      go_simp
      refine hK _ _ ?_
      clear hK K
      refine wpAny_ready (rs := [9]) (by kernel_rfl) (by simp) (AllReady.cons rfl (fun K hK => ?_) (AllReady.nil))
      go_simp
      refine hK _ _ ?_
      clear hK K
      refine wpAny_seq 10 rfl (by kernel_rfl) ?_
      simp only [List.drop_succ_cons, List.drop_zero]
    rotate_left 1
    focus
      go_simp
      refine hK _ _ ?_
      clear hK K
      refine wpAny_ready (rs := [3]) (by kernel_rfl) (by simp) (AllReady.cons rfl (fun K hK => ?_) (AllReady.nil))
      go_simp
      refine hK _ _ ?_
      clear hK K
      refine wpAny_seq 10 rfl (by kernel_rfl) ?_
      simp only [List.drop_succ_cons, List.drop_zero]
  all_goals go_wp2
  all_goals refine bodyPost_ret (by simp [results, Tryd.results95, go_sem, *]; try rfl) rfl ?_
  all_goals exact ⟨rfl, by go_grown⟩
end Go.Proofs.YtcieihbknfeddaaDoor

/- Fans, the model's side: tidied; pieces of a list put together. -/
namespace Go.Proofs.YtcieihbknfeddaaDoor
open Go.RowKit

theorem cyc_piece {l : List V2} {s m q : Nat} (hq : q < m) (h : s + m ≤ l.length) : cyc ((l.drop s).take m) q = cyc l (s + q) := by
  rw [cyc_lt (by simp; omega), cyc_lt (by omega), List.getElem?_take_of_lt hq, List.getElem?_drop]
theorem piece_cells {wr : World} {l : List V2} {bb off s m : Nat} (hc : ∀ j, j < l.length → wr.cell? ⟨bb, off + j * 2, none⟩ = some (.int .i64 (cyc l j).1) ∧ wr.cell? ⟨bb, off + j * 2 + 1, none⟩ = some (.int .i64 (cyc l j).2)) (h : s + m ≤ l.length) :
    ∀ j u, (intsV (flat ((l.drop s).take m)))[j]? = some u → wr.cell? ((⟨bb, off + s * 2, none⟩ : Addr).add j) = some u := by
  intro j u hj
  have hml : ((l.drop s).take m).length = m := by simp; omega
  have hlen : j < (flat ((l.drop s).take m)).length := by
    have := (List.getElem?_eq_some_iff.1 hj).1
    simpa [intsV] using this
  have hj2 : j < 2 * m := by rw [flat_len, hml] at hlen; exact hlen
  rw [intsV_get _ _ hlen] at hj
  obtain ⟨e1, e2⟩ := flat_get ((l.drop s).take m) (j / 2) (by rw [hml]; omega)
  rw [cyc_piece (by omega) h] at e1 e2
  obtain ⟨c1, c2⟩ := hc (s + j / 2) (by omega)
  rcases Nat.mod_two_eq_zero_or_one j with h0 | h0
  · have : j / 2 * 2 = j := by omega
    rw [this] at e1
    rw [e1] at hj
    rw [← hj, ← c1]
    rw [show (⟨bb, off + s * 2, none⟩ : Addr).add j = ⟨bb, off + (s + j / 2) * 2, none⟩ from by unfold Addr.add; split <;> simp <;> omega]
  · have : j / 2 * 2 + 1 = j := by omega
    rw [this] at e2
    rw [e2] at hj
    rw [← hj, ← c2]
    rw [show (⟨bb, off + s * 2, none⟩ : Addr).add j = ⟨bb, off + (s + j / 2) * 2 + 1, none⟩ from by unfold Addr.add; split <;> simp <;> omega]
theorem piece_one (l : List Int) : ∀ u ∈ intsV l, u.oneCell' = true := by
  intro u hu
  simp [intsV] at hu
  obtain ⟨a, _, rfl⟩ := hu
  rfl
theorem piece_len {l : List V2} {s m : Nat} (h : s + m ≤ l.length) : (intsV (flat ((l.drop s).take m))).length = m * 2 := by
  have hml : ((l.drop s).take m).length = m := by simp; omega
  simp [intsV, flat_len, hml]
  omega
theorem Vecs.empty (w : World) : Vecs (w.alloc (.cells #[] 26)) w.heap.size (.slice (some ⟨w.heap.size, 0, none⟩) 0 0) [] :=
  World.ownsRow_made w #[] 0 (Nat.le_refl _) (by simp [maxLen]) rfl
theorem Vecs.join {w : World} {base n : Nat} {v : Value} {l m : List V2} (h : w.ownsRow base 26 2 v n (intsV (flat l) ++ intsV (flat m))) (hn : n = l.length + m.length) : Vecs w base v (l ++ m) := by
  unfold Vecs VRow
  rw [flat_app, List.length_append, ← hn]
  have : intsV (flat l ++ flat m) = intsV (flat l) ++ intsV (flat m) := by simp [intsV]
  rw [this]
  exact h
theorem tidyAt_one (l : List V2) : tidyAt l (List.range 1) = 0 := by
  show (if aheadV (cyc l 0) (cyc l 0) then 0 else 0) = 0
  split <;> rfl
set_option maxHeartbeats 8000000 in
theorem l3Tidy_any (v : Value) (l : List V2) (w : World) (hl : ReadsVecs w v l) (h0 : 0 < l.length) (hm : l.length ≤ 1000) (hV : allVec l) (hZ : ∀ i, nzB (cyc l i).1 (cyc l i).2 = true) :
    Calls Tryd.prog 88 #[v] w (GivesVecs w (tidyL l)) := by
  obtain ⟨i0, hi, hz0, hz1, hz2⟩ := info_parts infoVec
  obtain ⟨bb, off, c, rfl, hc, hmm, hbb, hcs⟩ := hl.open (by omega)
  have HC := Lib.hid hcs
  have HCl := Lib.hid hcs
  have HK0 := Lib.hid (tidyAt_one l)
  have HKS := Lib.hid (fun k => tidy_snoc l (List.range k) k)
  have HKL := Lib.hid (fun k (hk : k ≤ l.length) => tidyAt_lt h0 (List.range k) (fun i hi => by have := List.mem_range.1 hi; omega))
  have HA := Lib.hid (fun i j w' => l1Ahead_any (cyc l i).1 (cyc l i).2 (cyc l j).1 (cyc l j).2 w' (hV i) (hV j) (hZ i) (hZ j))
  obtain ⟨n, hn⟩ : ∃ n, n = l.length := ⟨_, rfl⟩
  have HL := Lib.hid hn
  rw [← hn] at hc hmm h0 hm HKL HC ⊢
  clear hn hcs hl hV hZ
  go_enter Tryd.func88, Tryd.ntmps88
  go_wp2
  go_loopw [3, 4] (fun s3 s4 wr => ∃ k : Nat, k ≤ n ∧ 1 ≤ k ∧ s4 = .int .i64 k ∧ s3 = .int .i64 (tidyAt l (List.range k)) ∧ Below w.heap.size w wr) (fun _ s4 _ => n - (intOf s4).toNat)
  case atStart => exact ⟨1, by omega, by omega, rfl, by rw [HK0.out]; rfl, Below.refl _ _⟩
  case round =>
    obtain ⟨k, hk, hk1, rfl, rfl, hB⟩ := hrel
    have ht := HKL.out k hk
    have hbl := Nat.lt_of_lt_of_le hbb hB.size
    have i1 : (0 : Int) ≤ (k : Int) := by omega
    have i3 : (0 : Int) ≤ ((tidyAt l (List.range k) : Nat) : Int) := by omega
    have i4 : ((tidyAt l (List.range k) : Nat) : Int) < (n : Int) := by omega
    by_cases hlt : k < n
    · have i2 : (k : Int) < (n : Int) := by omega
      have HKk := Lib.hid (HKS.out k)
      rw [← List.range_succ] at HKk
      generalize tidyAt l (List.range k) = t at *
      obtain ⟨c1, c2⟩ := HC.out wr hB k hlt
      obtain ⟨d1, d2⟩ := HC.out wr hB t ht
      have HAk := Lib.hid (HA.out k t)
      have HB : Hid (aheadV (cyc l k) (cyc l t) = aheadB (cyc l k).1 (cyc l k).2 (cyc l t).1 (cyc l t).2) := rfl
      rw [HB.out] at HKk
      clear HB
      generalize aheadB (cyc l k).1 (cyc l k).2 (cyc l t).1 (cyc l t).2 = kk at HAk HKk
      generalize cyc l k = z1 at c1 c2 HAk
      generalize cyc l t = z2 at d1 d2 HAk
      obtain ⟨x1, y1⟩ := z1
      obtain ⟨x2, y2⟩ := z2
      dsimp only at c1 c2 d1 d2 HAk
      go_wp2
      refine wp_region_any (by kernel_rfl) ?_
      try (change wpAny _ _ _ _ _ _ _ (World.drew _))
      refine wpAny_take (i := 0) (v := ?_) rfl (by kernel_rfl) (by kernel_rfl) (by kernel_rfl) (fun _ _ _ h => h) (Or.inl ⟨by rfl, ?_⟩) ?_
      rotate_left
      focus (intro w0; go_simp; try with_reducible rfl)
      refine wpAny_take (i := 1) (v := ?_) rfl (by kernel_rfl) (by kernel_rfl) (by kernel_rfl) (fun _ _ _ h => h) (Or.inl ⟨by rfl, ?_⟩) ?_
      rotate_left
      focus (intro w0; go_simp; try with_reducible rfl)
      refine wpAny_take (i := 2) (v := ?_) rfl (by kernel_rfl) (by kernel_rfl) (by kernel_rfl) (fun _ _ _ h => h) (Or.inl ⟨by rfl, ?_⟩) ?_
      rotate_left
      focus (intro w0; go_simp; try with_reducible rfl)
      refine wpAny_take (i := 4) (v := ?_) rfl (by kernel_rfl) (by kernel_rfl) (by kernel_rfl) (fun _ _ _ h => h) (Or.inl ⟨by rfl, ?_⟩) ?_
      rotate_left
      focus (intro w0; go_simp; try with_reducible rfl)
      refine wpAny_take (i := 5) (v := ?_) rfl (by kernel_rfl) (by kernel_rfl) (by kernel_rfl) (fun _ _ _ h => h) (Or.inl ⟨by rfl, ?_⟩) ?_
      rotate_left
      focus (intro w0; go_simp; try with_reducible rfl)
      refine wpAny_take (i := 6) (v := ?_) rfl (by kernel_rfl) (by kernel_rfl) (by kernel_rfl) (fun _ _ _ h => h) (Or.inl ⟨by rfl, ?_⟩) ?_
      rotate_left
      focus (intro w0; go_simp; try with_reducible rfl)
      refine wpAny_ready (rs := [3, 7]) (by kernel_rfl) (by simp) (AllReady.cons rfl (fun K hK => ?_) (AllReady.cons rfl (fun K hK => ?_) (AllReady.nil)))
      focus
        go_simp
        refine hK _ _ ?_
        clear hK K
        refine wpAny_ready (rs := [7]) (by kernel_rfl) (by simp) (AllReady.cons rfl (fun K hK => ?_) (AllReady.nil))
        go_simp
        refine hK _ _ ?_
        clear hK K
        refine wpAny_seq 8 rfl (by kernel_rfl) ?_
        simp only [List.drop_succ_cons, List.drop_zero]
      rotate_left 1
      focus
        go_simp
        refine hK _ _ ?_
        clear hK K
        refine wpAny_ready (rs := [3]) (by kernel_rfl) (by simp) (AllReady.cons rfl (fun K hK => ?_) (AllReady.nil))
        go_simp
        refine hK _ _ ?_
        clear hK K
        refine wpAny_seq 8 rfl (by kernel_rfl) ?_
        simp only [List.drop_succ_cons, List.drop_zero]
      all_goals
        go_wp2_with fail
        refine Calls.mono (HAk.out _) ?_
        rintro e w2 ⟨rfl, hb2⟩
        replace hB := belowTo hB (undrew hb2)
        clear hb2 c1 c2 d1 d2
        cases kk
        · have HE : Hid (tidyAt l (List.range (k + 1)) = t) := HKk.out
          go_wp2
          go_roundw
          case rel => exact ⟨k + 1, by omega, by omega, by go_num, by rw [HE.out], hB⟩
          case measure => simp [intOf]; omega
        · have HE : Hid (tidyAt l (List.range (k + 1)) = k) := HKk.out
          go_wp2
          go_roundw
          case rel => exact ⟨k + 1, by omega, by omega, by go_num, by rw [HE.out], hB⟩
          case measure => simp [intOf]; omega
    · obtain rfl : k = n := by omega
      have i2 : ¬ (k : Int) < (k : Int) := by omega
      have hT : tidyAt l (List.range k) = tidyK l := by unfold tidyK; rw [HL.out]
      have HT := Lib.hid hT
      clear hT
      generalize tidyAt l (List.range k) = t at *
      have hcl := HC.out
      have hbs := hB.size
      have l1 : 0 + (k - t) ≤ 1000 := by omega
      have HOw : Hid (Vecs (wr.drew.alloc (.cells #[] 26)) w.heap.size (.slice (some ⟨wr.heap.size, 0, none⟩) 0 0) []) := (Vecs.empty wr.drew).lower hbs
      have hBd : Below w.heap.size w (wr.drew.alloc (.cells #[] 26)) := by go_grown
      have HBd := Lib.hid hBd
      have hbd : w.heap.size ≤ (wr.drew.alloc (.cells #[] 26)).heap.size := hBd.size
      have HBz := Lib.hid hbd
      clear hBd hbd
      have HR : Hid (([] ++ (l.drop t).take (k - t)) ++ (l.drop 0).take t = tidyL l) := by
        show _ = rot (tidyK l) l
        rw [← HT.out]
        unfold rot
        rw [List.take_of_length_le (by have := HL.out; simp; omega)]
        rfl
      have HT1 : Hid (t + (k - t) ≤ l.length) := by have := HL.out; show t + (k - t) ≤ l.length; omega
      have HT2 : Hid (0 + t ≤ l.length) := by have := HL.out; show 0 + t ≤ l.length; omega
      have ht3 : t ≤ k := by omega
      have ht4 : ¬ c = t := by omega
      have ht5 : t ≤ c := by omega
      have ht6 : ¬ c = 0 := by omega
      clear HT HKL HKS HK0 HA
      by_cases ht0 : t = 0
      case pos =>
        subst ht0
        go_wp2
        refine wp_region_any (by kernel_rfl) ?_
        try (change wpAny _ _ _ _ _ _ _ (World.drew _))
        refine wpAny_take (i := 1) (v := ?_) rfl (by kernel_rfl) (by kernel_rfl) (by kernel_rfl) (fun _ _ _ h => h) (Or.inl ⟨by rfl, ?_⟩) ?_
        rotate_left
        focus (intro w0; go_simp; try with_reducible rfl)
        refine wpAny_take (i := 2) (v := ?_) rfl (by kernel_rfl) (by kernel_rfl) (by kernel_rfl) (fun _ _ _ h => h) (Or.inl ⟨by rfl, ?_⟩) ?_
        rotate_left
        focus (intro w0; go_simp; try with_reducible rfl)
        refine wpAny_take (i := 3) (v := ?_) rfl (by kernel_rfl) (by kernel_rfl) (by kernel_rfl) (fun _ _ _ h => h) (Or.inl ⟨by rfl, ?_⟩) ?_
        rotate_left
        focus (intro w0; go_simp; try with_reducible rfl)
        refine wpAny_take (i := 5) (v := ?_) rfl (by kernel_rfl) (by kernel_rfl) (by kernel_rfl) (fun _ _ _ h => h) (Or.inl ⟨by rfl, ?_⟩) ?_
        rotate_left
        focus (intro w0; go_simp; try with_reducible rfl)
        refine wpAny_take (i := 6) (v := ?_) rfl (by kernel_rfl) (by kernel_rfl) (by kernel_rfl) (fun _ _ _ h => h) (Or.inl ⟨by rfl, ?_⟩) ?_
        rotate_left
        focus (intro w0; go_simp; try with_reducible rfl)
        refine wpAny_take (i := 7) (v := ?_) rfl (by kernel_rfl) (by kernel_rfl) (by kernel_rfl) (fun _ _ _ h => h) (Or.inl ⟨by rfl, ?_⟩) ?_
        rotate_left
        focus (intro w0; go_simp; try with_reducible rfl)
        refine wpAny_ready (rs := [0]) (by kernel_rfl) (by simp) (AllReady.cons rfl (fun K hK => ?_) (AllReady.nil))
        go_simp
        refine hK _ _ ?_
        clear hK K
        refine wpAny_ready (rs := [4]) (by kernel_rfl) (by simp) (AllReady.cons rfl (fun K hK => ?_) (AllReady.nil))
        (refine step_list (by rintro ⟨_, _, h⟩; obtain ⟨_, hv, _⟩ := h; cases hv) (by kernel_rfl) ?_; refine wpList_append_own_at _ rfl _ _ 39 rfl w.heap.size 26 i0 (.agg #[.int .i64 (0), .int .i64 (0)]) 2 16 Tryd.underlying39 hi hz0 hz1 hz2 rfl (by decide) _ _ _ rfl HOw.out _ _ _ _ rfl (piece_len HT1.out) (piece_cells (HCl.out _ HBd.out) HT1.out) (piece_one _) (by unfold maxLen; simp; omega) (by simp; omega) HBz.out ?_; intro v2 w2 hown2 hgrow2 _ _; have HB2 := Lib.hid (HBd.out.grown hgrow2 HBz.out (fun q hq => (World.ownsRow.lt HOw.out q hq).1)); have HO2 := Lib.hid (Vecs.join (l := []) hown2 (by have := HL.out; simp <;> omega)); clear hown2 hgrow2)
        refine hK _ _ ?_
        clear hK K
        refine wpAny_ready (rs := [8]) (by kernel_rfl) (by simp) (AllReady.cons rfl (fun K hK => ?_) (AllReady.nil))
        (refine step_list (by rintro ⟨_, _, h⟩; obtain ⟨_, hv, _⟩ := h; cases hv) (by kernel_rfl) ?_; refine wpList_append_own_at _ rfl _ _ 39 rfl w.heap.size 26 i0 (.agg #[.int .i64 (0), .int .i64 (0)]) 2 16 Tryd.underlying39 hi hz0 hz1 hz2 rfl (by decide) _ _ _ rfl HO2.out _ _ _ _ rfl (piece_len HT2.out) (piece_cells (HCl.out _ HB2.out) HT2.out) (piece_one _) (by unfold maxLen; simp; omega) (by simp; omega) HB2.out.size ?_; intro v3 w3 hown3 hgrow3 _ _; have HB3 := Lib.hid (HB2.out.grown hgrow3 HB2.out.size (fun q hq => (World.ownsRow.lt HO2.out q hq).1)); have HO3 := Lib.hid (Vecs.join hown3 (by have := HL.out; simp <;> omega)); clear hown3 hgrow3)
        refine hK _ _ ?_
        clear hK K
        refine wpAny_seq 9 rfl (by kernel_rfl) ?_
        simp only [List.drop_succ_cons, List.drop_zero]
        all_goals go_wp2
        all_goals go_returns
        all_goals exact ⟨_, rfl, by rw [← HR.out]; exact HO3.out, HB3.out⟩
      case neg =>
        have ht1 : ¬ t * 2 = 0 := by omega
        go_wp2
        refine wp_region_any (by kernel_rfl) ?_
        try (change wpAny _ _ _ _ _ _ _ (World.drew _))
        refine wpAny_take (i := 1) (v := ?_) rfl (by kernel_rfl) (by kernel_rfl) (by kernel_rfl) (fun _ _ _ h => h) (Or.inl ⟨by rfl, ?_⟩) ?_
        rotate_left
        focus (intro w0; go_simp; try with_reducible rfl)
        refine wpAny_take (i := 2) (v := ?_) rfl (by kernel_rfl) (by kernel_rfl) (by kernel_rfl) (fun _ _ _ h => h) (Or.inl ⟨by rfl, ?_⟩) ?_
        rotate_left
        focus (intro w0; go_simp; try with_reducible rfl)
        refine wpAny_take (i := 3) (v := ?_) rfl (by kernel_rfl) (by kernel_rfl) (by kernel_rfl) (fun _ _ _ h => h) (Or.inl ⟨by rfl, ?_⟩) ?_
        rotate_left
        focus (intro w0; go_simp; try with_reducible rfl)
        refine wpAny_take (i := 5) (v := ?_) rfl (by kernel_rfl) (by kernel_rfl) (by kernel_rfl) (fun _ _ _ h => h) (Or.inl ⟨by rfl, ?_⟩) ?_
        rotate_left
        focus (intro w0; go_simp; try with_reducible rfl)
        refine wpAny_take (i := 6) (v := ?_) rfl (by kernel_rfl) (by kernel_rfl) (by kernel_rfl) (fun _ _ _ h => h) (Or.inl ⟨by rfl, ?_⟩) ?_
        rotate_left
        focus (intro w0; go_simp; try with_reducible rfl)
        refine wpAny_take (i := 7) (v := ?_) rfl (by kernel_rfl) (by kernel_rfl) (by kernel_rfl) (fun _ _ _ h => h) (Or.inl ⟨by rfl, ?_⟩) ?_
        rotate_left
        focus (intro w0; go_simp; try with_reducible rfl)
        refine wpAny_ready (rs := [0]) (by kernel_rfl) (by simp) (AllReady.cons rfl (fun K hK => ?_) (AllReady.nil))
        go_simp
        refine hK _ _ ?_
        clear hK K
        refine wpAny_ready (rs := [4]) (by kernel_rfl) (by simp) (AllReady.cons rfl (fun K hK => ?_) (AllReady.nil))
        (refine step_list (by rintro ⟨_, _, h⟩; obtain ⟨_, hv, _⟩ := h; cases hv) (by kernel_rfl) ?_; refine wpList_append_own_at _ rfl _ _ 39 rfl w.heap.size 26 i0 (.agg #[.int .i64 (0), .int .i64 (0)]) 2 16 Tryd.underlying39 hi hz0 hz1 hz2 rfl (by decide) _ _ _ rfl HOw.out _ _ _ _ rfl (piece_len HT1.out) (piece_cells (HCl.out _ HBd.out) HT1.out) (piece_one _) (by unfold maxLen; simp; omega) (by simp; omega) HBz.out ?_; intro v2 w2 hown2 hgrow2 _ _; have HB2 := Lib.hid (HBd.out.grown hgrow2 HBz.out (fun q hq => (World.ownsRow.lt HOw.out q hq).1)); have HO2 := Lib.hid (Vecs.join (l := []) hown2 (by have := HL.out; simp <;> omega)); clear hown2 hgrow2)
        refine hK _ _ ?_
        clear hK K
        refine wpAny_ready (rs := [8]) (by kernel_rfl) (by simp) (AllReady.cons rfl (fun K hK => ?_) (AllReady.nil))
        (refine step_list (by rintro ⟨_, _, h⟩; obtain ⟨_, hv, _⟩ := h; cases hv) (by kernel_rfl) ?_; refine wpList_append_own_at _ rfl _ _ 39 rfl w.heap.size 26 i0 (.agg #[.int .i64 (0), .int .i64 (0)]) 2 16 Tryd.underlying39 hi hz0 hz1 hz2 rfl (by decide) _ _ _ rfl HO2.out _ _ _ _ rfl (piece_len HT2.out) (piece_cells (HCl.out _ HB2.out) HT2.out) (piece_one _) (by unfold maxLen; simp; omega) (by simp; omega) HB2.out.size ?_; intro v3 w3 hown3 hgrow3 _ _; have HB3 := Lib.hid (HB2.out.grown hgrow3 HB2.out.size (fun q hq => (World.ownsRow.lt HO2.out q hq).1)); have HO3 := Lib.hid (Vecs.join hown3 (by have := HL.out; simp <;> omega)); clear hown3 hgrow3)
        refine hK _ _ ?_
        clear hK K
        refine wpAny_seq 9 rfl (by kernel_rfl) ?_
        simp only [List.drop_succ_cons, List.drop_zero]
        all_goals go_wp2
        all_goals go_returns
        all_goals exact ⟨_, rfl, by rw [← HR.out]; exact HO3.out, HB3.out⟩
set_option maxHeartbeats 4000000 in
theorem specFanTidy_any (v : Value) (l : List V2) (w : World) (hl : ReadsVecs w v l) :
    Calls Tryd.prog 29 #[v] w (GivesVecsOk w (gV (fanB l) (tidyL l)) (fanB l)) := by
  have HF := Lib.hid (specFanIn_any v l w hl)
  have HN := Lib.hid (fun w' (hb : Below w.heap.size w w') h => l3Tidy_any v l w' (hl.below hb) (by have := fan_len (l := l) h; omega) (by have := fan_len (l := l) h; omega) (fun i => fan_vec h i) (fun i => (con_nz (fan_cone h i)).1))
  have hE := Lib.hid (fun w' => Vecs.empty w')
  clear hl
  cases hb : fanB l
  · rw [hb] at HF
    clear hb HN
    go_enter Tryd.func29, Tryd.ntmps29
    go_wp2_with fail
    refine Calls.mono HF.out ?_
    rintro e w1 ⟨rfl, hb1⟩
    have hs1 := hb1.size
    have HE := Lib.hid ((hE.out w1).lower hs1)
    go_wp2
    go_returns
    exact ⟨_, rfl, HE.out, by go_grown⟩
  · rw [hb] at HF HN
    clear hb
    go_enter Tryd.func29, Tryd.ntmps29
    go_wp2_with fail
    refine Calls.mono HF.out ?_
    rintro e w1 ⟨rfl, hb1⟩
    have hs1 := hb1.size
    go_wp2_with fail
    refine Calls.mono (HN.out _ hb1 (by simp)) ?_
    rintro e w2 ⟨v2, rfl, hI, hb2⟩
    have HI := Lib.hid (hI.lower hs1)
    have hB := belowTo hb1 hb2
    clear hI hb1 hb2
    go_wp2
    go_returns
    exact ⟨_, rfl, HI.out, hB⟩
end Go.Proofs.YtcieihbknfeddaaDoor
