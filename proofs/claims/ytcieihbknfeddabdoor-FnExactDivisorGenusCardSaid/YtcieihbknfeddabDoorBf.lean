import Derived.Test.YtcieihbknfeddabDoorBe
import Derived.Test.YtcieihbknfeddabDoorBa
import Derived.Test.YtcieihbknfeddabDoorB9
import Derived.Test.YtcieihbknfeddabDoorB4
import Derived.StillTailTactics
import Derived.Test.YtcieihbknfeddabDoorB7
import Derived.Test.YtcieihbknfeddabDoorB2
/- Divisors: the model's side: what is a divisor. -/
namespace Go.Proofs.YtcieihbknfeddabDoor
open Go.RowKit

set_option maxHeartbeats 8000000 in
theorem specDivisorIn_any (v : Value) (l : List V2) (u : Value) (d : List Int) (w : World) (hl : ReadsVecs w v l) (hd : ReadsInts w u d) :
    Calls Tryd.prog 18 #[v, u] w fun e w' => e = .returned (.bool (divB l d)) ∧ Below w.heap.size w w' := by
  have HF := Lib.hid (specFanSmooth_any v l w hl)
  obtain ⟨a, c, rfl, _, hlm, _⟩ := hl
  obtain ⟨a1, c1, rfl, hm, hc⟩ := hd
  cases hs : smoothB l
  · have e0 : divB l d = false := by simp [divB, hs]
    rw [e0]
    rw [hs] at HF
    clear hs hc e0
    go_enter Tryd.func18, Tryd.ntmps18
    go_wp2_with fail
    refine Calls.mono HF.out ?_
    rintro e w1 ⟨rfl, hb1⟩
    go_wp2
    go_returns
    exact ⟨rfl, hb1⟩
  · rw [hs] at HF
    by_cases hn : d.length = l.length
    case neg =>
      have e0 : divB l d = false := by simp [divB, hn]
      rw [e0]
      have j1 : ¬ (d.length : Int) = (l.length : Int) := by omega
      have j2 : ((d.length : Int) == (l.length : Int)) = false := by simpa using j1
      have j3 : ((d.length : Int) != (l.length : Int)) = true := by simp [bne, j2]
      generalize d.length = m at *
      generalize l.length = n at *
      clear hs hc e0 hn
      go_enter Tryd.func18, Tryd.ntmps18
      go_wp2_with fail
      refine Calls.mono HF.out ?_
      rintro e w1 ⟨rfl, hb1⟩
      go_wp2
      go_returns
      exact ⟨rfl, hb1⟩
    case pos =>
      have e0 : divB l d = cfsB d := by simp [divB, hs, hn]
      rw [e0]
      have HC := Lib.hid hc
      have HB := Lib.hid (fun k hk h => cfs_bad (d := d) (k := k) hk h)
      have HG := Lib.hid (fun h => cfs_good (d := d) h)
      rw [← hn] at HF ⊢
      obtain ⟨n, hn2⟩ : ∃ n, n = d.length := ⟨_, rfl⟩
      have HN := Lib.hid hn2
      rw [← hn2] at hm HF ⊢
      have j2 : ((n : Int) == (n : Int)) = true := by simp
      have j3 : ((n : Int) != (n : Int)) = false := by simp
      clear hs hc e0 hn hn2 hlm
      go_enter Tryd.func18, Tryd.ntmps18
      go_wp2_with fail
      refine Calls.mono HF.out ?_
      rintro e w1 ⟨rfl, hb1⟩
      clear HF
      go_wp2
      go_loopw [5] (fun s wr => ∃ k : Nat, s = .int .i64 k ∧ k ≤ n ∧ Hid (∀ j, j < k → cfB (gz d j) = true) ∧ Below w.heap.size w wr) (fun s _ => n - (intOf s).toNat)
      case atStart => exact ⟨0, rfl, Nat.zero_le _, fun j hj => absurd hj (Nat.not_lt_zero _), hb1⟩
      case round =>
        obtain ⟨k, rfl, hk, HR, hB⟩ := hrel
        by_cases hlt : k < n
        · have hkl : k < d.length := by have := HN.out; omega
          obtain ⟨bb, off, rfl, hb, hcell⟩ := HC.out (by omega)
          have c2 : wr.cell? ⟨bb, off + k, none⟩ = some (.int .i64 (gz d k)) := (hB.cell (p := ⟨bb, off + k, none⟩) hb).trans (hcell k hkl)
          have i1 : (0 : Int) ≤ (k : Int) := by omega
          have i2 : (k : Int) < (n : Int) := by omega
          have HI := Lib.hid (fun w' => l6In_any (gz d k) (-100) 100 w')
          have hz0 : (decide ((-100 : Int) ≤ gz d k) && decide (gz d k ≤ 100)) = cfB (gz d k) := rfl
          rw [hz0] at HI
          cases hz : cfB (gz d k)
          · have HB2 := Lib.hid (HB.out k hkl hz)
            rw [hz] at HI
            clear hz hz0 hcell HR
            generalize gz d k = z at c2 HI
            go_wp2_with fail
            refine Calls.mono (HI.out _) ?_
            rintro e w2 ⟨rfl, rfl⟩
            go_wp2
            go_returns
            exact ⟨by rw [HB2.out]; rfl, hB⟩
          · have HR2 : Hid (∀ j, j < k + 1 → cfB (gz d j) = true) := fun j hj => by
              by_cases e : j = k
              · subst e; exact hz
              · exact HR.out j (by omega)
            rw [hz] at HI
            clear hz hz0 hcell HR
            generalize gz d k = z at c2 HI
            go_wp2_with fail
            refine Calls.mono (HI.out _) ?_
            rintro e w2 ⟨rfl, rfl⟩
            go_wp2
            go_roundw
            case rel => exact ⟨k + 1, by go_num, by omega, HR2, hB⟩
            case measure => simp [intOf]; omega
        · have hkn : k = n := by omega
          subst hkn
          have HA := Lib.hid (HG.out (fun j hj => HR.out j (by have := HN.out; omega)))
          clear HR HC
          go_wp2
          go_returns
          exact ⟨by rw [HA.out]; rfl, hB⟩
set_option maxHeartbeats 4000000 in
theorem l4Done_any (v : Value) (l : List V2) (u : Value) (d : List Int) (b : Nat) (w : World) (hl : ReadsVecs w v l) (hd : Ints w b u d) (hm : d.length ≤ 1048576) (hb : b ≤ w.heap.size) :
    Calls Tryd.prog 59 #[v, u] w fun e w' => ∃ u', e = .returned (.tuple #[u', .bool (divB l d)]) ∧ Ints w' b u' (gV (divB l d) d) ∧ Below w.heap.size w w' := by
  have HI := Lib.hid (specDivisorIn_any v l u d w hl (hd.reads (by omega)))
  have HD := Lib.hid hd
  have HE := Lib.hid (fun w' (h : w.heap.size ≤ (w' : World).heap.size) => (Ints.empty w').lower (Nat.le_trans hb h))
  obtain ⟨a, c, rfl, _⟩ := hd.reads (show d.length ≤ 1152921504606846976 by omega) |>.len
  clear hl hd
  generalize divB l d = k at *
  cases k
  · go_enter Tryd.func59, Tryd.ntmps59
    go_wp2_with fail
    refine Calls.mono HI.out ?_
    rintro e w1 ⟨rfl, hb1⟩
    have HE2 := Lib.hid (HE.out w1 hb1.size)
    have hs1 := hb1.size
    go_wp2
    go_returns
    exact ⟨_, rfl, HE2.out, by go_grown⟩
  · go_enter Tryd.func59, Tryd.ntmps59
    go_wp2_with fail
    refine Calls.mono HI.out ?_
    rintro e w1 ⟨rfl, hb1⟩
    have HD2 := Lib.hid (HD.out.below hb1)
    go_wp2
    go_returns
    exact ⟨_, rfl, HD2.out, hb1⟩
end Go.Proofs.YtcieihbknfeddabDoor

/- Fans, the model's side: the numbers of the rays. -/
namespace Go.Proofs.YtcieihbknfeddabDoor
open Go.RowKit

theorem ahead_is (k n : Nat) (hn : 0 < n) : Int.tmod ((k : Int) + (n : Int) - 1) (n : Int) = (((k + n - 1) % n : Nat) : Int) := by
  rw [show ((k : Int) + (n : Int) - 1) = ((k + n - 1 : Nat) : Int) by omega, Int.ofNat_tmod]
theorem vec_bounds {x y : Int} (h : vecB x y = true) : (-1000 ≤ x ∧ x ≤ 1000) ∧ -1000 ≤ y ∧ y ≤ 1000 := by
  obtain ⟨h1, h2⟩ := vecB_true h
  exact ⟨szB_true h1, szB_true h2⟩
set_option maxHeartbeats 8000000 in
theorem l3Number_any (v : Value) (l : List V2) (k : Nat) (w : World) (hl : ReadsVecs w v l) (hk : k < l.length) (hm : l.length ≤ 1000) (hS : Smooth l) :
    Calls Tryd.prog 131 #[v, .int .i64 k] w fun e w' => e = .returned (.int .i64 (numZ l k)) ∧ Below w.heap.size w w' := by
  obtain ⟨bb, off, c, rfl, hc, hmm, hbb, hcs⟩ := hl.open (by omega)
  have hn0 : 0 < l.length := by omega
  obtain ⟨c1, c2⟩ := hcs w (Below.refl _ _) k hk
  have hjn : (k + 1) % l.length < l.length := Nat.mod_lt _ hn0
  have hjm : (k + l.length - 1) % l.length < l.length := Nat.mod_lt _ hn0
  obtain ⟨d1, d2⟩ := hcs w (Below.refl _ _) _ hjn
  obtain ⟨e1, e2⟩ := hcs w (Below.refl _ _) _ hjm
  rw [cyc_mod] at d1 d2 e1 e2
  have HX := Lib.hid (fun w' => l3Next_any (some ⟨bb, off, none⟩) l.length c k w' hk (by omega))
  have hT := ahead_is k l.length hn0
  have i1 : (0 : Int) ≤ (k : Int) := by omega
  have i2 : (k : Int) < (l.length : Int) := by omega
  have i3 : (0 : Int) ≤ (((k + 1) % l.length : Nat) : Int) := by omega
  have i4 : (((k + 1) % l.length : Nat) : Int) < (l.length : Int) := by omega
  have i5 : (0 : Int) ≤ (((k + l.length - 1) % l.length : Nat) : Int) := by omega
  have i6 : (((k + l.length - 1) % l.length : Nat) : Int) < (l.length : Int) := by omega
  have j1 : ¬ (l.length : Int) = 0 := by omega
  have j2 : ((l.length : Int) == 0) = false := by simpa using j1
  have j3 : (l.length : Int) ≤ 1000 := by omega
  have a1 := hS.2 (k + l.length - 1)
  rw [show k + l.length - 1 + 1 = k + l.length by omega, cyc_add] at a1
  have a2 := hS.2 k
  obtain ⟨⟨b1, b2⟩, b3, b4⟩ := vec_bounds (hS.1 (k + l.length - 1))
  obtain ⟨⟨b5, b6⟩, b7, b8⟩ := vec_bounds (hS.1 (k + 1))
  have hd := det_sz (hS.1 (k + l.length - 1)) (hS.1 (k + 1))
  obtain ⟨b9, b10⟩ := hd
  have HV : Hid (numZ l k = -(detV (cyc l (k + l.length - 1)) (cyc l (k + 1)))) := rfl
  rw [HV.out]
  have hDD : detZ (cyc l (k + l.length - 1)).1 (cyc l (k + l.length - 1)).2 (cyc l (k + 1)).1 (cyc l (k + 1)).2 = detV (cyc l (k + l.length - 1)) (cyc l (k + 1)) := rfl
  rw [hDD] at b9 b10
  have hx : (cyc l k).1 ≠ 0 → ((cyc l (k + l.length - 1)).1 + (cyc l (k + 1)).1).tdiv (cyc l k).1 = detV (cyc l (k + l.length - 1)) (cyc l (k + 1)) := num_x a1 a2
  have hy : (cyc l k).2 ≠ 0 → ((cyc l (k + l.length - 1)).2 + (cyc l (k + 1)).2).tdiv (cyc l k).2 = detV (cyc l (k + l.length - 1)) (cyc l (k + 1)) := num_y a1 a2
  have hy0 : (cyc l k).1 = 0 → (cyc l k).2 ≠ 0 := fun h h0 => by
    have := a1
    simp [detV, detZ, h, h0] at this
  clear hDD HV a1 a2 hS hcs hl hmm
  generalize (k + 1) % l.length = m at *
  generalize (k + l.length - 1) % l.length = m0 at *
  generalize detV (cyc l (k + l.length - 1)) (cyc l (k + 1)) = dd at *
  generalize cyc l (k + 1) = z at *
  obtain ⟨x2, y2⟩ := z
  generalize cyc l (k + l.length - 1) = z0 at *
  obtain ⟨x0, y0⟩ := z0
  generalize cyc l k = z1 at *
  obtain ⟨x1, y1⟩ := z1
  generalize l.length = n at *
  dsimp only at c1 c2 d1 d2 e1 e2 b1 b2 b3 b4 b5 b6 b7 b8 hx hy hy0
  have hbb1 : bb < w.heap.size + 1 := by omega
  have hbb2 : bb < w.heap.size + 1 + 1 := by omega
  have q1 : IntKind.i64.wrap (0 - dd) = -dd := by rw [IntKind.wrap_i64]; omega
  by_cases h1 : x1 = 0
  · have hy' := hy (hy0 h1)
    have hy1 : ¬ y1 = 0 := hy0 h1
    have hy2 : (y1 == 0) = false := by simpa using hy1
    have q2 : IntKind.i64.wrap dd = dd := by rw [IntKind.wrap_i64]; omega
    clear hx hy hy0
    subst h1
    go_enter Tryd.func131, Tryd.ntmps131
    go_wp2_with fail
    refine Calls.mono (HX.out _) ?_
    rintro e w1 ⟨rfl, rfl⟩
    go_wp2
    refine wp_region_any (by kernel_rfl) ?_
    try (change wpAny _ _ _ _ _ _ _ (World.drew _))
    refine wpAny_take (i := 0) (v := ?_) rfl (by kernel_rfl) (by kernel_rfl) (by kernel_rfl) (fun _ _ _ h => h) (Or.inl ⟨by rfl, ?_⟩) ?_
    rotate_left
    focus (intro w0; go_simp; try with_reducible rfl)
    refine wpAny_take (i := 2) (v := ?_) rfl (by kernel_rfl) (by kernel_rfl) (by kernel_rfl) (fun _ _ _ h => h) (Or.inl ⟨by rfl, ?_⟩) ?_
    rotate_left
    focus (intro w0; go_simp; try with_reducible rfl)
    refine wpAny_take (i := 3) (v := ?_) rfl (by kernel_rfl) (by kernel_rfl) (by kernel_rfl) (fun _ _ _ h => h) (Or.inl ⟨by rfl, ?_⟩) ?_
    rotate_left
    focus (intro w0; go_simp; try with_reducible rfl)
    refine wpAny_take (i := 4) (v := ?_) rfl (by kernel_rfl) (by kernel_rfl) (by kernel_rfl) (fun _ _ _ h => h) (Or.inl ⟨by rfl, ?_⟩) ?_
    rotate_left
    focus (intro w0; go_simp; try with_reducible rfl)
    refine wpAny_take (i := 5) (v := ?_) rfl (by kernel_rfl) (by kernel_rfl) (by kernel_rfl) (fun _ _ _ h => h) (Or.inl ⟨by rfl, ?_⟩) ?_
    rotate_left
    focus (intro w0; go_simp; try with_reducible rfl)
    refine wpAny_ready (rs := [1, 6]) (by kernel_rfl) (by simp) (AllReady.cons rfl (fun K hK => ?_) (AllReady.cons rfl (fun K hK => ?_) (AllReady.nil)))
    focus
      go_simp
      refine hK _ _ ?_
      clear hK K
      refine wpAny_ready (rs := [6]) (by kernel_rfl) (by simp) (AllReady.cons rfl (fun K hK => ?_) (AllReady.nil))
      go_simp
      refine hK _ _ ?_
      clear hK K
      refine wpAny_seq 7 rfl (by kernel_rfl) ?_
      simp only [List.drop_succ_cons, List.drop_zero]
    rotate_left 1
    focus
      go_simp
      refine hK _ _ ?_
      clear hK K
      refine wpAny_ready (rs := [1]) (by kernel_rfl) (by simp) (AllReady.cons rfl (fun K hK => ?_) (AllReady.nil))
      go_simp
      refine hK _ _ ?_
      clear hK K
      refine wpAny_seq 7 rfl (by kernel_rfl) ?_
      simp only [List.drop_succ_cons, List.drop_zero]
    all_goals go_wp2
    all_goals go_returns
    all_goals exact ⟨by first | rfl | simp [*], by go_grown⟩
  · have hx' := hx h1
    have hx2 : (x1 == 0) = false := by simpa using h1
    have q2 : IntKind.i64.wrap dd = dd := by rw [IntKind.wrap_i64]; omega
    clear hx hy hy0
    go_enter Tryd.func131, Tryd.ntmps131
    go_wp2_with fail
    refine Calls.mono (HX.out _) ?_
    rintro e w1 ⟨rfl, rfl⟩
    go_wp2
    refine wp_region_any (by kernel_rfl) ?_
    try (change wpAny _ _ _ _ _ _ _ (World.drew _))
    refine wpAny_take (i := 0) (v := ?_) rfl (by kernel_rfl) (by kernel_rfl) (by kernel_rfl) (fun _ _ _ h => h) (Or.inl ⟨by rfl, ?_⟩) ?_
    rotate_left
    focus (intro w0; go_simp; try with_reducible rfl)
    refine wpAny_take (i := 2) (v := ?_) rfl (by kernel_rfl) (by kernel_rfl) (by kernel_rfl) (fun _ _ _ h => h) (Or.inl ⟨by rfl, ?_⟩) ?_
    rotate_left
    focus (intro w0; go_simp; try with_reducible rfl)
    refine wpAny_take (i := 3) (v := ?_) rfl (by kernel_rfl) (by kernel_rfl) (by kernel_rfl) (fun _ _ _ h => h) (Or.inl ⟨by rfl, ?_⟩) ?_
    rotate_left
    focus (intro w0; go_simp; try with_reducible rfl)
    refine wpAny_take (i := 4) (v := ?_) rfl (by kernel_rfl) (by kernel_rfl) (by kernel_rfl) (fun _ _ _ h => h) (Or.inl ⟨by rfl, ?_⟩) ?_
    rotate_left
    focus (intro w0; go_simp; try with_reducible rfl)
    refine wpAny_take (i := 5) (v := ?_) rfl (by kernel_rfl) (by kernel_rfl) (by kernel_rfl) (fun _ _ _ h => h) (Or.inl ⟨by rfl, ?_⟩) ?_
    rotate_left
    focus (intro w0; go_simp; try with_reducible rfl)
    refine wpAny_ready (rs := [1, 6]) (by kernel_rfl) (by simp) (AllReady.cons rfl (fun K hK => ?_) (AllReady.cons rfl (fun K hK => ?_) (AllReady.nil)))
    focus
      go_simp
      refine hK _ _ ?_
      clear hK K
      refine wpAny_ready (rs := [6]) (by kernel_rfl) (by simp) (AllReady.cons rfl (fun K hK => ?_) (AllReady.nil))
      go_simp
      refine hK _ _ ?_
      clear hK K
      refine wpAny_seq 7 rfl (by kernel_rfl) ?_
      simp only [List.drop_succ_cons, List.drop_zero]
    rotate_left 1
    focus
      go_simp
      refine hK _ _ ?_
      clear hK K
      refine wpAny_ready (rs := [1]) (by kernel_rfl) (by simp) (AllReady.cons rfl (fun K hK => ?_) (AllReady.nil))
      go_simp
      refine hK _ _ ?_
      clear hK K
      refine wpAny_seq 7 rfl (by kernel_rfl) ?_
      simp only [List.drop_succ_cons, List.drop_zero]
    all_goals go_wp2
    all_goals go_returns
    all_goals exact ⟨by first | rfl | simp [*], by go_grown⟩
theorem nums_snoc (l : List V2) (k : Nat) : (List.range (k + 1)).map (numZ l) = (List.range k).map (numZ l) ++ [numZ l k] := by simp [List.range_succ]
set_option maxHeartbeats 8000000 in
theorem l3Numbers_any (v : Value) (l : List V2) (w : World) (hl : ReadsVecs w v l) (hm : l.length ≤ 1000) (hS : Smooth l) :
    Calls Tryd.prog 104 #[v] w (GivesInts w (numsZ l)) := by
  obtain ⟨i0, hi, hz0, hz1, hz2⟩ := info_parts infoInt
  have hE := Lib.hid (Ints.empty w)
  have HN := Lib.hid (fun k (h : k < l.length) w' (hb : Below w.heap.size w w') => l3Number_any v l k w' (hl.below hb) h hm hS)
  have HM := Lib.hid (nums_snoc l)
  obtain ⟨a, c, rfl, hc, hmm, _⟩ := hl
  have HZ : Hid (numsZ l = (List.range l.length).map (numZ l)) := rfl
  obtain ⟨n, hn⟩ : ∃ n, n = l.length := ⟨_, rfl⟩
  rw [← hn] at HN HZ hm hc hmm ⊢
  clear hn hS
  go_enter Tryd.func104, Tryd.ntmps104
  go_wp2
  go_loopw [3, 4] (fun s3 s4 wr => ∃ k : Nat, k ≤ n ∧ s4 = .int .i64 k ∧ Hid (Ints wr w.heap.size s3 ((List.range k).map (numZ l))) ∧ Below w.heap.size w wr) (fun _ s4 _ => n - (intOf s4).toNat)
  case atStart => exact ⟨0, Nat.zero_le _, rfl, hE, by go_grown⟩
  case round =>
    obtain ⟨k, hk, rfl, HI, hB⟩ := hrel
    have i1 : (0 : Int) ≤ (k : Int) := by omega
    by_cases hlt : k < n
    · have i2 : (k : Int) < (n : Int) := by omega
      have HNk := Lib.hid (HN.out k hlt wr hB)
      have HMk := Lib.hid (HM.out k)
      have hkl : ((List.range k).map (numZ l)).length = k := by simp
      generalize numZ l k = z at *
      go_wp2_with fail
      refine Calls.mono HNk.out ?_
      rintro e w1 ⟨rfl, hb1⟩
      have hB1 := belowTo hB hb1
      have hown := HI.out.below hb1
      unfold Ints at hown
      rw [hkl] at hown
      have hbs := hB1.size
      clear hb1
      go_wp2_with (at_builtin; refine wpList_append_own_at _ rfl _ _ 23 rfl w.heap.size 3 i0 (.int .i64 0) 1 8 Tryd.underlying23 hi hz0 hz1 hz2 rfl (by decide) _ _ _ rfl (hown.alloc _) ⟨w1.heap.size, 0, none⟩ 1 1 [.int .i64 z] rfl rfl ?c1 ?c2 ?c3 ?c4 ?c5 ?_)
      case c1 =>
        intro j u hj
        match j, hj with
        | 0, hj => simp at hj; subst hj; simp [Addr.add]
      case c2 => intro u hu; simp at hu; subst hu; rfl
      case c3 => unfold maxLen; omega
      case c4 => omega
      case c5 => simp; omega
      intro v' w2 hown' hgrow _ _
      have hB2 : Below w.heap.size w w2 := (hB1.alloc hbs _).grown hgrow (by simp; omega) (fun k hk => (hown.lt k hk).1)
      have HV := Lib.hid (Ints.snoc (l := (List.range k).map (numZ l)) hkl.symm hown')
      rw [← HMk.out] at HV
      clear hown' hgrow hown hB1 HI hE
      go_wp2
      go_roundw
      case rel => exact ⟨k + 1, by omega, by go_num, HV, hB2⟩
      case measure => simp [intOf]; omega
    · obtain rfl : k = n := by omega
      have i2 : ¬ (k : Int) < (k : Int) := by omega
      go_wp2
      go_returns
      exact ⟨_, rfl, by rw [HZ.out]; exact HI.out, hB⟩
end Go.Proofs.YtcieihbknfeddabDoor

/- Divisors: the model's side: sums, degrees, products. -/
namespace Go.Proofs.YtcieihbknfeddabDoor
open Go.RowKit

theorem sum_snoc (a : List Int) (m : Int) (b : List Int) (k : Nat) : (List.range (k + 1)).map (fun i => gz a i + m * gz b i) = (List.range k).map (fun i => gz a i + m * gz b i) ++ [gz a k + m * gz b k] := tab_snoc _ _
set_option maxHeartbeats 16000000 in
theorem l4Sum_any (u v : Value) (a b : List Int) (m : Int) (w : World) (hu : ReadsInts w u a) (hv : ReadsInts w v b) (hl : b.length = a.length) (hm : a.length ≤ 1000) (ha : bnd 1000000000 a) (hb : bnd 1000000000 b) (hm2 : -100 ≤ m ∧ m ≤ 100) :
    Calls Tryd.prog 66 #[u, .int .i64 m, v] w (GivesInts w (sumL a m b)) := by
  obtain ⟨i0, hi, hz0, hz1, hz2⟩ := info_parts infoInt
  have hE := Lib.hid (Ints.empty w)
  have hu' := hu
  have hv' := hv
  obtain ⟨p1, q1, rfl, _⟩ := hu'.len
  obtain ⟨p2, q2, rfl, _⟩ := hv'.len
  have HU := Lib.hid (fun (h : 0 < a.length) => hu.open h)
  have HV := Lib.hid (fun (h : 0 < b.length) => hv.open h)
  have HMs := Lib.hid (fun k => sum_snoc a m b k)
  have HMb := Lib.hid (fun k => mul_le hm2 (hb k))
  have HMa := Lib.hid ha
  have HZ : Hid (sumL a m b = (List.range a.length).map (fun i => gz a i + m * gz b i)) := rfl
  have HL := Lib.hid hl
  rw [hl]
  obtain ⟨n, hn⟩ : ∃ n, n = a.length := ⟨_, rfl⟩
  have HN := Lib.hid hn
  rw [← hn] at HZ hm ⊢
  clear hn hu hv hu' hv' hl ha hb
  go_enter Tryd.func66, Tryd.ntmps66
  go_wp2
  go_loopw [7, 8] (fun s7 s8 wr => ∃ k : Nat, k ≤ n ∧ s8 = .int .i64 k ∧ Hid (Ints wr w.heap.size s7 ((List.range k).map (fun i => gz a i + m * gz b i))) ∧ Below w.heap.size w wr) (fun _ s8 _ => n - (intOf s8).toNat)
  case atStart => exact ⟨0, Nat.zero_le _, rfl, hE, by go_grown⟩
  case round =>
    obtain ⟨k, hk, rfl, HI, hB⟩ := hrel
    have i1 : (0 : Int) ≤ (k : Int) := by omega
    by_cases hlt : k < n
    · have i2 : (k : Int) < (n : Int) := by omega
      obtain ⟨bb, off, c1', e1, _, hbb, hcs⟩ := HU.out (by have := HN.out; omega)
      obtain ⟨bv, ov, c2', e2, _, hbv, hvs⟩ := HV.out (by have := HN.out; have := HL.out; omega)
      obtain rfl : p1 = some ⟨bb, off, none⟩ := by injection e1
      obtain rfl : p2 = some ⟨bv, ov, none⟩ := by injection e2
      have d1 := hcs wr hB k (by have := HN.out; omega)
      have d2 := hvs wr hB k (by have := HN.out; have := HL.out; omega)
      have hbl := Nat.lt_of_lt_of_le hbb hB.size
      have hbl2 := Nat.lt_of_lt_of_le hbv hB.size
      have b1 := HMa.out k
      have b2 := HMb.out k
      have HMk := Lib.hid (HMs.out k)
      have hkl : ((List.range k).map (fun i => gz a i + m * gz b i)).length = k := by simp
      have hown := HI.out
      unfold Ints at hown
      rw [hkl] at hown
      have HL2 := Lib.hid hkl
      have hbs := hB.size
      clear hcs hvs e1 e2 hkl HU HV HI
      generalize gz a k = x at *
      generalize gz b k = y at *
      have q1 : IntKind.i64.wrap (m * y) = m * y := by rw [IntKind.wrap_i64]; omega
      have q2 : IntKind.i64.wrap (x + m * y) = x + m * y := by rw [IntKind.wrap_i64]; omega
      go_wp2
      refine wp_region_any (by kernel_rfl) ?_
      try (change wpAny _ _ _ _ _ _ _ (World.drew _))
      refine wpAny_take (i := 0) (v := ?_) rfl (by kernel_rfl) (by kernel_rfl) (by kernel_rfl) (fun _ _ _ h => h) (Or.inl ⟨by rfl, ?_⟩) ?_
      rotate_left
      focus (intro w0; go_simp; try with_reducible rfl)
      refine wpAny_take (i := 1) (v := ?_) rfl (by kernel_rfl) (by kernel_rfl) (by kernel_rfl) (fun _ _ _ h => h) (Or.inl ⟨by rfl, ?_⟩) ?_
      rotate_left
      focus (intro w0; go_simp; try with_reducible rfl)
      refine wpAny_take (i := 2) (v := ?_) rfl (by kernel_rfl) (by kernel_rfl) (by kernel_rfl) (fun _ _ _ h => h) (Or.inl ⟨by rfl, ?_⟩) ?_
      rotate_left
      focus (intro w0; go_simp; try with_reducible rfl)
      refine wpAny_take (i := 3) (v := ?_) rfl (by kernel_rfl) (by kernel_rfl) (by kernel_rfl) (fun _ _ _ h => h) (Or.inl ⟨by rfl, ?_⟩) ?_
      rotate_left
      focus (intro w0; go_simp; try with_reducible rfl)
      refine wpAny_take (i := 5) (v := ?_) rfl (by kernel_rfl) (by kernel_rfl) (by kernel_rfl) (fun _ _ _ h => h) (Or.inl ⟨by rfl, ?_⟩) ?_
      rotate_left
      focus (intro w0; go_simp; try with_reducible rfl)
      refine wpAny_take (i := 6) (v := ?_) rfl (by kernel_rfl) (by kernel_rfl) (by kernel_rfl) (fun _ _ _ h => h) (Or.inl ⟨by rfl, ?_⟩) ?_
      rotate_left
      focus (intro w0; go_simp; try with_reducible rfl)
      refine wpAny_take (i := 7) (v := ?_) rfl (by kernel_rfl) (by kernel_rfl) (by kernel_rfl) (fun _ _ _ h => h) (Or.inl ⟨by rfl, ?_⟩) ?_
      rotate_left
      focus (intro w0; go_simp; try with_reducible rfl)
      refine wpAny_take (i := 8) (v := ?_) rfl (by kernel_rfl) (by kernel_rfl) (by kernel_rfl) (fun _ _ _ h => h) (Or.inl ⟨by rfl, ?_⟩) ?_
      rotate_left
      focus (intro w0; go_simp; try with_reducible rfl)
      refine wpAny_ready (rs := [4, 9]) (by kernel_rfl) (by simp) (AllReady.cons rfl (fun K hK => ?_) (AllReady.cons rfl (fun K hK => ?_) (AllReady.nil)))
      focus
        go_simp
        refine hK _ _ ?_
        clear hK K
        refine wpAny_ready (rs := [9]) (by kernel_rfl) (by simp) (AllReady.cons rfl (fun K hK => ?_) (AllReady.nil))
        go_simp
        refine hK _ _ ?_
        clear hK K
        refine wpAny_take (i := 10) (v := ?_) rfl (by kernel_rfl) (by kernel_rfl) (by kernel_rfl) (fun _ _ _ h => h) (Or.inl ⟨by rfl, ?_⟩) ?_
        rotate_left
        focus (intro w0; go_simp; try with_reducible rfl)
        refine wpAny_take (i := 11) (v := ?_) rfl (by kernel_rfl) (by kernel_rfl) (by kernel_rfl) (fun _ _ _ h => h) (Or.inl ⟨by rfl, ?_⟩) ?_
        rotate_left
        focus (intro w0; go_simp; try with_reducible rfl)
        refine wpAny_seq 12 rfl (by kernel_rfl) ?_
        simp only [List.drop_succ_cons, List.drop_zero]
      rotate_left 1
      focus
        go_simp
        refine hK _ _ ?_
        clear hK K
        refine wpAny_take (i := 10) (v := ?_) rfl (by kernel_rfl) (by kernel_rfl) (by kernel_rfl) (fun _ _ _ h => h) (Or.inl ⟨by rfl, ?_⟩) ?_
        rotate_left
        focus (intro w0; go_simp; try with_reducible rfl)
        refine wpAny_ready (rs := [4]) (by kernel_rfl) (by simp) (AllReady.cons rfl (fun K hK => ?_) (AllReady.nil))
        go_simp
        refine hK _ _ ?_
        clear hK K
        refine wpAny_take (i := 11) (v := ?_) rfl (by kernel_rfl) (by kernel_rfl) (by kernel_rfl) (fun _ _ _ h => h) (Or.inl ⟨by rfl, ?_⟩) ?_
        rotate_left
        focus (intro w0; go_simp; try with_reducible rfl)
        refine wpAny_seq 12 rfl (by kernel_rfl) ?_
        simp only [List.drop_succ_cons, List.drop_zero]
      all_goals
        go_wp2_with (at_builtin; refine wpList_append_own_at _ rfl _ _ 23 rfl w.heap.size 3 i0 (.int .i64 0) 1 8 Tryd.underlying23 hi hz0 hz1 hz2 rfl (by decide) _ _ _ rfl ((hown.drew).alloc _) ⟨wr.heap.size, 0, none⟩ 1 1 [.int .i64 (x + m * y)] rfl rfl ?c1 ?c2 ?c3 ?c4 ?c5 ?_)
        case c1 =>
          intro j u hj
          match j, hj with
          | 0, hj => simp at hj; subst hj; simp [Addr.add]
        case c2 => intro u hu; simp at hu; subst hu; rfl
        case c3 => unfold maxLen; omega
        case c4 => omega
        case c5 => simp; omega
        intro v' w3 hown' hgrow _ _
        have hB2 : Below w.heap.size w w3 := ((hB.drew).alloc (by simp; omega) _).grown hgrow (by simp; omega) (fun k hk => (hown.lt k hk).1)
        have HV := Lib.hid (Ints.snoc (l := (List.range k).map (fun i => gz a i + m * gz b i)) HL2.out.symm hown')
        rw [← HMk.out] at HV
        clear hown' hgrow hown
        go_wp2
        go_roundw
        case rel => exact ⟨k + 1, by omega, by go_num, HV, hB2⟩
        case measure => simp [intOf]; omega
    · obtain rfl : k = n := by omega
      have i2 : ¬ (k : Int) < (k : Int) := by omega
      go_wp2
      go_returns
      exact ⟨_, rfl, by rw [HZ.out]; exact HI.out, hB⟩
end Go.Proofs.YtcieihbknfeddabDoor

/- Divisors: the model's side: degrees, products. -/
namespace Go.Proofs.YtcieihbknfeddabDoor
open Go.RowKit

theorem degs_snocM (l : List V2) (d : List Int) (k : Nat) : (List.range (k + 1)).map (degZ l d) = (List.range k).map (degZ l d) ++ [degZ l d k] := tab_snoc _ _
theorem degZ_flip (l : List V2) (d : List Int) (i : Nat) : degZ l d i = gz d ((i + l.length - 1) % l.length) + numZ l i * gz d i + gz d ((i + 1) % l.length) := by
  unfold degZ
  rw [Int.mul_comm (gz d i)]
set_option maxHeartbeats 32000000 in
theorem l4Degrees_any (v u : Value) (l : List V2) (d : List Int) (w : World) (hv : ReadsVecs w v l) (hu : ReadsInts w u d) (hl : d.length = l.length) (hm : l.length ≤ 1000) (h0 : 0 < l.length) (hS : Smooth l) (hd : bnd 101 d) :
    Calls Tryd.prog 74 #[v, u] w (GivesInts w (degsZ l d)) := by
  obtain ⟨i0, hi, hz0, hz1, hz2⟩ := info_parts infoInt
  have HN3 := Lib.hid (l3Numbers_any v l w hv hm hS)
  have HE := Lib.hid (fun w' => Ints.empty w')
  obtain ⟨bb, off, c, rfl, _, hbb, hcs⟩ := hu.open (by omega)
  obtain ⟨p1, p2, rfl, _, _, _⟩ := hv
  have HC := Lib.hid hcs
  have HMs := Lib.hid (fun k => degs_snocM l d k)
  have HD := Lib.hid (fun k => degZ_flip l d k)
  have HMb := Lib.hid (fun k => deg_mul_bnd hS hd k)
  have HDb := Lib.hid hd
  have HZ : Hid (degsZ l d = (List.range l.length).map (degZ l d)) := rfl
  have HT1 := Lib.hid (fun k => aheadD k l.length h0)
  have HT2 := Lib.hid (fun k => behindD k l.length)
  have hnl := nums_len l
  have HG := Lib.hid (fun k (h : k < l.length) => gz_nums (l := l) h)
  rw [hl]
  obtain ⟨n, hn⟩ : ∃ n, n = l.length := ⟨_, rfl⟩
  have HN := Lib.hid hn
  have HL := Lib.hid hl
  rw [← hn] at HZ hm h0 HT1 HT2 hnl ⊢
  rw [← hn] at HN3 HG
  have HNL := Lib.hid hnl
  clear hn hu hcs hl hd hS hnl
  go_enter Tryd.func74, Tryd.ntmps74
  go_wp2_with fail
  refine Calls.mono HN3.out ?_
  rintro e w1 ⟨v6, rfl, hI6, hb1⟩
  obtain ⟨bv, ov, cv, rfl, _, hbv, hvs⟩ := (hI6.reads (show (numsZ l).length ≤ 1152921504606846976 by have := HNL.out; omega)).open (by have := HNL.out; omega)
  rw [HNL.out] at hvs ⊢
  have HVs := Lib.hid hvs
  have hE := Lib.hid ((HE.out w1).lower hb1.size)
  have hs1 := hb1.size
  clear hI6 hvs HN3 HE
  go_wp2
  go_loopw [7, 8] (fun s7 s8 wr => ∃ k : Nat, k ≤ n ∧ s8 = .int .i64 k ∧ Hid (Ints wr w1.heap.size s7 ((List.range k).map (degZ l d))) ∧ Below w1.heap.size w1 wr) (fun _ s8 _ => n - (intOf s8).toNat)
  case atStart => exact ⟨0, Nat.zero_le _, rfl, Ints.empty w1, by go_grown⟩
  case round =>
    obtain ⟨k, hk, rfl, HI, hB⟩ := hrel
    have i1 : (0 : Int) ≤ (k : Int) := by omega
    by_cases hlt : k < n
    · have i2 : (k : Int) < (n : Int) := by omega
      have hBw := hb1.trans (hB.mono hs1)
      have hp1 : (k + n - 1) % n < n := Nat.mod_lt _ h0
      have hp2 : (k + 1) % n < n := Nat.mod_lt _ h0
      have d0 := HC.out wr hBw ((k + n - 1) % n) (by have := HN.out; have := HL.out; omega)
      have d1 := HC.out wr hBw k (by have := HN.out; have := HL.out; omega)
      have d2 := HC.out wr hBw ((k + 1) % n) (by have := HN.out; have := HL.out; omega)
      have d3 := HVs.out wr hB k hlt
      rw [HG.out k hlt] at d3
      have hbl := Nat.lt_of_lt_of_le hbb hBw.size
      have hbl2 := Nat.lt_of_lt_of_le hbv hB.size
      have t1 := HT1.out k
      have t2 := HT2.out k
      have b0 := HDb.out ((k + n - 1) % n)
      have b2 := HDb.out ((k + 1) % n)
      have bm := HMb.out k
      have HDk := Lib.hid (HD.out k)
      rw [← HN.out] at HDk
      have HMk := Lib.hid (HMs.out k)
      have hkl : ((List.range k).map (degZ l d)).length = k := by simp
      have hown := HI.out
      unfold Ints at hown
      rw [hkl] at hown
      have HL2 := Lib.hid hkl
      have hbs := hB.size
      have i3 : (0 : Int) ≤ (((k + n - 1) % n : Nat) : Int) := by omega
      have i4 : (((k + n - 1) % n : Nat) : Int) < (n : Int) := by omega
      have i5 : (0 : Int) ≤ (((k + 1) % n : Nat) : Int) := by omega
      have i6 : (((k + 1) % n : Nat) : Int) < (n : Int) := by omega
      clear hkl HI HT1 HT2 HC HVs HG HMs HMb HDb hBw hp1 hp2
      rw [HDk.out] at HMk
      clear HDk HD
      generalize gz d ((k + n - 1) % n) = x0 at *
      generalize gz d ((k + 1) % n) = x2 at *
      generalize gz d k = x1 at *
      generalize numZ l k = z at *
      generalize (k + n - 1) % n = p at *
      generalize (k + 1) % n = q at *
      have j1 : ¬ (n : Int) = 0 := by omega
      have j3 : ¬ n = 0 := by omega
      have j2 : ((n : Int) == 0) = false := by simpa using j1
      rw [Int.mul_comm] at bm
      have q1 : IntKind.i64.wrap ((k : Int) + (n : Int)) = (k : Int) + (n : Int) := by rw [IntKind.wrap_i64]; omega
      have q2 : IntKind.i64.wrap ((k : Int) + (n : Int) - 1) = (k : Int) + (n : Int) - 1 := by rw [IntKind.wrap_i64]; omega
      have q3 : IntKind.i64.wrap ((k : Int) + 1) = (k : Int) + 1 := by rw [IntKind.wrap_i64]; omega
      have q4 : IntKind.i64.wrap (z * x1) = z * x1 := by rw [IntKind.wrap_i64]; omega
      have q5 : IntKind.i64.wrap (x0 + z * x1) = x0 + z * x1 := by rw [IntKind.wrap_i64]; omega
      have q6 : IntKind.i64.wrap (x0 + z * x1 + x2) = x0 + z * x1 + x2 := by rw [IntKind.wrap_i64]; omega
      go_wp2
      refine wp_region_any (by kernel_rfl) ?_
      try (change wpAny _ _ _ _ _ _ _ (World.drew _))
      refine wpAny_take (i := 0) (v := ?_) rfl (by kernel_rfl) (by kernel_rfl) (by kernel_rfl) (fun _ _ _ h => h) (Or.inl ⟨by rfl, ?_⟩) ?_
      rotate_left
      focus (intro w0; go_simp; try with_reducible rfl)
      refine wpAny_take (i := 1) (v := ?_) rfl (by kernel_rfl) (by kernel_rfl) (by kernel_rfl) (fun _ _ _ h => h) (Or.inl ⟨by rfl, ?_⟩) ?_
      rotate_left
      focus (intro w0; go_simp; try with_reducible rfl)
      refine wpAny_take (i := 2) (v := ?_) rfl (by kernel_rfl) (by kernel_rfl) (by kernel_rfl) (fun _ _ _ h => h) (Or.inl ⟨by rfl, ?_⟩) ?_
      rotate_left
      focus (intro w0; go_simp; try with_reducible rfl)
      refine wpAny_take (i := 3) (v := ?_) rfl (by kernel_rfl) (by kernel_rfl) (by kernel_rfl) (fun _ _ _ h => h) (Or.inl ⟨by rfl, ?_⟩) ?_
      rotate_left
      focus (intro w0; go_simp; try with_reducible rfl)
      refine wpAny_take (i := 4) (v := ?_) rfl (by kernel_rfl) (by kernel_rfl) (by kernel_rfl) (fun _ _ _ h => h) (Or.inl ⟨by rfl, ?_⟩) ?_
      rotate_left
      focus (intro w0; go_simp; try with_reducible rfl)
      refine wpAny_take (i := 5) (v := ?_) rfl (by kernel_rfl) (by kernel_rfl) (by kernel_rfl) (fun _ _ _ h => h) (Or.inl ⟨by rfl, ?_⟩) ?_
      rotate_left
      focus (intro w0; go_simp; try with_reducible rfl)
      refine wpAny_take (i := 6) (v := ?_) rfl (by kernel_rfl) (by kernel_rfl) (by kernel_rfl) (fun _ _ _ h => h) (Or.inl ⟨by rfl, ?_⟩) ?_
      rotate_left
      focus (intro w0; go_simp; try with_reducible rfl)
      refine wpAny_take (i := 7) (v := ?_) rfl (by kernel_rfl) (by kernel_rfl) (by kernel_rfl) (fun _ _ _ h => h) (Or.inl ⟨by rfl, ?_⟩) ?_
      rotate_left
      focus (intro w0; go_simp; try with_reducible rfl)
      refine wpAny_take (i := 8) (v := ?_) rfl (by kernel_rfl) (by kernel_rfl) (by kernel_rfl) (fun _ _ _ h => h) (Or.inl ⟨by rfl, ?_⟩) ?_
      rotate_left
      focus (intro w0; go_simp; try with_reducible rfl)
      refine wpAny_take (i := 10) (v := ?_) rfl (by kernel_rfl) (by kernel_rfl) (by kernel_rfl) (fun _ _ _ h => h) (Or.inl ⟨by rfl, ?_⟩) ?_
      rotate_left
      focus (intro w0; go_simp; try with_reducible rfl)
      refine wpAny_take (i := 11) (v := ?_) rfl (by kernel_rfl) (by kernel_rfl) (by kernel_rfl) (fun _ _ _ h => h) (Or.inl ⟨by rfl, ?_⟩) ?_
      rotate_left
      focus (intro w0; go_simp; try with_reducible rfl)
      refine wpAny_take (i := 12) (v := ?_) rfl (by kernel_rfl) (by kernel_rfl) (by kernel_rfl) (fun _ _ _ h => h) (Or.inl ⟨by rfl, ?_⟩) ?_
      rotate_left
      focus (intro w0; go_simp; try with_reducible rfl)
      refine wpAny_take (i := 14) (v := ?_) rfl (by kernel_rfl) (by kernel_rfl) (by kernel_rfl) (fun _ _ _ h => h) (Or.inl ⟨by rfl, ?_⟩) ?_
      rotate_left
      focus (intro w0; go_simp; try with_reducible rfl)
      refine wpAny_take (i := 15) (v := ?_) rfl (by kernel_rfl) (by kernel_rfl) (by kernel_rfl) (fun _ _ _ h => h) (Or.inl ⟨by rfl, ?_⟩) ?_
      rotate_left
      focus (intro w0; go_simp; try with_reducible rfl)
      refine wpAny_take (i := 16) (v := ?_) rfl (by kernel_rfl) (by kernel_rfl) (by kernel_rfl) (fun _ _ _ h => h) (Or.inl ⟨by rfl, ?_⟩) ?_
      rotate_left
      focus (intro w0; go_simp; try with_reducible rfl)
      refine wpAny_take (i := 20) (v := ?_) rfl (by kernel_rfl) (by kernel_rfl) (by kernel_rfl) (fun _ _ _ h => h) (Or.inl ⟨by rfl, ?_⟩) ?_
      rotate_left
      focus (intro w0; go_simp; try with_reducible rfl)
      refine wpAny_take (i := 21) (v := ?_) rfl (by kernel_rfl) (by kernel_rfl) (by kernel_rfl) (fun _ _ _ h => h) (Or.inl ⟨by rfl, ?_⟩) ?_
      rotate_left
      focus (intro w0; go_simp; try with_reducible rfl)
      refine wpAny_take (i := 22) (v := ?_) rfl (by kernel_rfl) (by kernel_rfl) (by kernel_rfl) (fun _ _ _ h => h) (Or.inl ⟨by rfl, ?_⟩) ?_
      rotate_left
      focus (intro w0; go_simp; try with_reducible rfl)
      refine wpAny_take (i := 23) (v := ?_) rfl (by kernel_rfl) (by kernel_rfl) (by kernel_rfl) (fun _ _ _ h => h) (Or.inl ⟨by rfl, ?_⟩) ?_
      rotate_left
      focus (intro w0; go_simp; try with_reducible rfl)
      refine wpAny_take (i := 24) (v := ?_) rfl (by kernel_rfl) (by kernel_rfl) (by kernel_rfl) (fun _ _ _ h => h) (Or.inl ⟨by rfl, ?_⟩) ?_
      rotate_left
      focus (intro w0; go_simp; try with_reducible rfl)
      refine wpAny_take (i := 25) (v := ?_) rfl (by kernel_rfl) (by kernel_rfl) (by kernel_rfl) (fun _ _ _ h => h) (Or.inl ⟨by rfl, ?_⟩) ?_
      rotate_left
      focus (intro w0; go_simp; try with_reducible rfl)
      refine wpAny_ready (rs := [9, 13, 17, 26]) (by kernel_rfl) (by simp) (AllReady.cons rfl (fun K hK => ?_) (AllReady.cons rfl (fun K hK => ?_) (AllReady.cons rfl (fun K hK => ?_) (AllReady.cons rfl (fun K hK => ?_) (AllReady.nil)))))
      focus
        go_simp
        refine hK _ _ ?_
        clear hK K
        refine wpAny_ready (rs := [13, 17, 26]) (by kernel_rfl) (by simp) (AllReady.cons rfl (fun K hK => ?_) (AllReady.cons rfl (fun K hK => ?_) (AllReady.cons rfl (fun K hK => ?_) (AllReady.nil))))
        focus
          go_simp
          refine hK _ _ ?_
          clear hK K
          refine wpAny_ready (rs := [17, 26]) (by kernel_rfl) (by simp) (AllReady.cons rfl (fun K hK => ?_) (AllReady.cons rfl (fun K hK => ?_) (AllReady.nil)))
          focus
            go_simp
            refine hK _ _ ?_
            clear hK K
            refine wpAny_take (i := 18) (v := ?_) rfl (by kernel_rfl) (by kernel_rfl) (by kernel_rfl) (fun _ _ _ h => h) (Or.inl ⟨by rfl, ?_⟩) ?_
            rotate_left
            focus (intro w0; go_simp; try with_reducible rfl)
            refine wpAny_take (i := 19) (v := ?_) rfl (by kernel_rfl) (by kernel_rfl) (by kernel_rfl) (fun _ _ _ h => h) (Or.inl ⟨by rfl, ?_⟩) ?_
            rotate_left
            focus (intro w0; go_simp; try with_reducible rfl)
            refine wpAny_ready (rs := [26]) (by kernel_rfl) (by simp) (AllReady.cons rfl (fun K hK => ?_) (AllReady.nil))
            go_simp
            refine hK _ _ ?_
            clear hK K
            refine wpAny_take (i := 27) (v := ?_) rfl (by kernel_rfl) (by kernel_rfl) (by kernel_rfl) (fun _ _ _ h => h) (Or.inl ⟨by rfl, ?_⟩) ?_
            rotate_left
            focus (intro w0; go_simp; try with_reducible rfl)
            refine wpAny_seq 28 rfl (by kernel_rfl) ?_
            simp only [List.drop_succ_cons, List.drop_zero]
          rotate_left 1
          focus
            go_simp
            refine hK _ _ ?_
            clear hK K
            refine wpAny_ready (rs := [17]) (by kernel_rfl) (by simp) (AllReady.cons rfl (fun K hK => ?_) (AllReady.nil))
            go_simp
            refine hK _ _ ?_
            clear hK K
            refine wpAny_take (i := 18) (v := ?_) rfl (by kernel_rfl) (by kernel_rfl) (by kernel_rfl) (fun _ _ _ h => h) (Or.inl ⟨by rfl, ?_⟩) ?_
            rotate_left
            focus (intro w0; go_simp; try with_reducible rfl)
            refine wpAny_take (i := 19) (v := ?_) rfl (by kernel_rfl) (by kernel_rfl) (by kernel_rfl) (fun _ _ _ h => h) (Or.inl ⟨by rfl, ?_⟩) ?_
            rotate_left
            focus (intro w0; go_simp; try with_reducible rfl)
            refine wpAny_take (i := 27) (v := ?_) rfl (by kernel_rfl) (by kernel_rfl) (by kernel_rfl) (fun _ _ _ h => h) (Or.inl ⟨by rfl, ?_⟩) ?_
            rotate_left
            focus (intro w0; go_simp; try with_reducible rfl)
            refine wpAny_seq 28 rfl (by kernel_rfl) ?_
            simp only [List.drop_succ_cons, List.drop_zero]
        rotate_left 2
        focus
          go_simp
          refine hK _ _ ?_
          clear hK K
          refine wpAny_ready (rs := [13, 26]) (by kernel_rfl) (by simp) (AllReady.cons rfl (fun K hK => ?_) (AllReady.cons rfl (fun K hK => ?_) (AllReady.nil)))
          focus
            go_simp
            refine hK _ _ ?_
            clear hK K
            refine wpAny_take (i := 18) (v := ?_) rfl (by kernel_rfl) (by kernel_rfl) (by kernel_rfl) (fun _ _ _ h => h) (Or.inl ⟨by rfl, ?_⟩) ?_
            rotate_left
            focus (intro w0; go_simp; try with_reducible rfl)
            refine wpAny_take (i := 19) (v := ?_) rfl (by kernel_rfl) (by kernel_rfl) (by kernel_rfl) (fun _ _ _ h => h) (Or.inl ⟨by rfl, ?_⟩) ?_
            rotate_left
            focus (intro w0; go_simp; try with_reducible rfl)
            refine wpAny_ready (rs := [26]) (by kernel_rfl) (by simp) (AllReady.cons rfl (fun K hK => ?_) (AllReady.nil))
            go_simp
            refine hK _ _ ?_
            clear hK K
            refine wpAny_take (i := 27) (v := ?_) rfl (by kernel_rfl) (by kernel_rfl) (by kernel_rfl) (fun _ _ _ h => h) (Or.inl ⟨by rfl, ?_⟩) ?_
            rotate_left
            focus (intro w0; go_simp; try with_reducible rfl)
            refine wpAny_seq 28 rfl (by kernel_rfl) ?_
            simp only [List.drop_succ_cons, List.drop_zero]
          rotate_left 1
          focus
            go_simp
            refine hK _ _ ?_
            clear hK K
            refine wpAny_ready (rs := [13]) (by kernel_rfl) (by simp) (AllReady.cons rfl (fun K hK => ?_) (AllReady.nil))
            go_simp
            refine hK _ _ ?_
            clear hK K
            refine wpAny_take (i := 18) (v := ?_) rfl (by kernel_rfl) (by kernel_rfl) (by kernel_rfl) (fun _ _ _ h => h) (Or.inl ⟨by rfl, ?_⟩) ?_
            rotate_left
            focus (intro w0; go_simp; try with_reducible rfl)
            refine wpAny_take (i := 19) (v := ?_) rfl (by kernel_rfl) (by kernel_rfl) (by kernel_rfl) (fun _ _ _ h => h) (Or.inl ⟨by rfl, ?_⟩) ?_
            rotate_left
            focus (intro w0; go_simp; try with_reducible rfl)
            refine wpAny_take (i := 27) (v := ?_) rfl (by kernel_rfl) (by kernel_rfl) (by kernel_rfl) (fun _ _ _ h => h) (Or.inl ⟨by rfl, ?_⟩) ?_
            rotate_left
            focus (intro w0; go_simp; try with_reducible rfl)
            refine wpAny_seq 28 rfl (by kernel_rfl) ?_
            simp only [List.drop_succ_cons, List.drop_zero]
        rotate_left 2
        focus
          go_simp
          refine hK _ _ ?_
          clear hK K
          refine wpAny_ready (rs := [13, 17]) (by kernel_rfl) (by simp) (AllReady.cons rfl (fun K hK => ?_) (AllReady.cons rfl (fun K hK => ?_) (AllReady.nil)))
          focus
            go_simp
            refine hK _ _ ?_
            clear hK K
            refine wpAny_ready (rs := [17]) (by kernel_rfl) (by simp) (AllReady.cons rfl (fun K hK => ?_) (AllReady.nil))
            go_simp
            refine hK _ _ ?_
            clear hK K
            refine wpAny_take (i := 18) (v := ?_) rfl (by kernel_rfl) (by kernel_rfl) (by kernel_rfl) (fun _ _ _ h => h) (Or.inl ⟨by rfl, ?_⟩) ?_
            rotate_left
            focus (intro w0; go_simp; try with_reducible rfl)
            refine wpAny_take (i := 19) (v := ?_) rfl (by kernel_rfl) (by kernel_rfl) (by kernel_rfl) (fun _ _ _ h => h) (Or.inl ⟨by rfl, ?_⟩) ?_
            rotate_left
            focus (intro w0; go_simp; try with_reducible rfl)
            refine wpAny_take (i := 27) (v := ?_) rfl (by kernel_rfl) (by kernel_rfl) (by kernel_rfl) (fun _ _ _ h => h) (Or.inl ⟨by rfl, ?_⟩) ?_
            rotate_left
            focus (intro w0; go_simp; try with_reducible rfl)
            refine wpAny_seq 28 rfl (by kernel_rfl) ?_
            simp only [List.drop_succ_cons, List.drop_zero]
          rotate_left 1
          focus
            go_simp
            refine hK _ _ ?_
            clear hK K
            refine wpAny_ready (rs := [13]) (by kernel_rfl) (by simp) (AllReady.cons rfl (fun K hK => ?_) (AllReady.nil))
            go_simp
            refine hK _ _ ?_
            clear hK K
            refine wpAny_take (i := 18) (v := ?_) rfl (by kernel_rfl) (by kernel_rfl) (by kernel_rfl) (fun _ _ _ h => h) (Or.inl ⟨by rfl, ?_⟩) ?_
            rotate_left
            focus (intro w0; go_simp; try with_reducible rfl)
            refine wpAny_take (i := 19) (v := ?_) rfl (by kernel_rfl) (by kernel_rfl) (by kernel_rfl) (fun _ _ _ h => h) (Or.inl ⟨by rfl, ?_⟩) ?_
            rotate_left
            focus (intro w0; go_simp; try with_reducible rfl)
            refine wpAny_take (i := 27) (v := ?_) rfl (by kernel_rfl) (by kernel_rfl) (by kernel_rfl) (fun _ _ _ h => h) (Or.inl ⟨by rfl, ?_⟩) ?_
            rotate_left
            focus (intro w0; go_simp; try with_reducible rfl)
            refine wpAny_seq 28 rfl (by kernel_rfl) ?_
            simp only [List.drop_succ_cons, List.drop_zero]
      rotate_left 6
      focus
        go_simp
        refine hK _ _ ?_
        clear hK K
        refine wpAny_ready (rs := [9, 17, 26]) (by kernel_rfl) (by simp) (AllReady.cons rfl (fun K hK => ?_) (AllReady.cons rfl (fun K hK => ?_) (AllReady.cons rfl (fun K hK => ?_) (AllReady.nil))))
        focus
          go_simp
          refine hK _ _ ?_
          clear hK K
          refine wpAny_ready (rs := [17, 26]) (by kernel_rfl) (by simp) (AllReady.cons rfl (fun K hK => ?_) (AllReady.cons rfl (fun K hK => ?_) (AllReady.nil)))
          focus
            go_simp
            refine hK _ _ ?_
            clear hK K
            refine wpAny_take (i := 18) (v := ?_) rfl (by kernel_rfl) (by kernel_rfl) (by kernel_rfl) (fun _ _ _ h => h) (Or.inl ⟨by rfl, ?_⟩) ?_
            rotate_left
            focus (intro w0; go_simp; try with_reducible rfl)
            refine wpAny_take (i := 19) (v := ?_) rfl (by kernel_rfl) (by kernel_rfl) (by kernel_rfl) (fun _ _ _ h => h) (Or.inl ⟨by rfl, ?_⟩) ?_
            rotate_left
            focus (intro w0; go_simp; try with_reducible rfl)
            refine wpAny_ready (rs := [26]) (by kernel_rfl) (by simp) (AllReady.cons rfl (fun K hK => ?_) (AllReady.nil))
            go_simp
            refine hK _ _ ?_
            clear hK K
            refine wpAny_take (i := 27) (v := ?_) rfl (by kernel_rfl) (by kernel_rfl) (by kernel_rfl) (fun _ _ _ h => h) (Or.inl ⟨by rfl, ?_⟩) ?_
            rotate_left
            focus (intro w0; go_simp; try with_reducible rfl)
            refine wpAny_seq 28 rfl (by kernel_rfl) ?_
            simp only [List.drop_succ_cons, List.drop_zero]
          rotate_left 1
          focus
            go_simp
            refine hK _ _ ?_
            clear hK K
            refine wpAny_ready (rs := [17]) (by kernel_rfl) (by simp) (AllReady.cons rfl (fun K hK => ?_) (AllReady.nil))
            go_simp
            refine hK _ _ ?_
            clear hK K
            refine wpAny_take (i := 18) (v := ?_) rfl (by kernel_rfl) (by kernel_rfl) (by kernel_rfl) (fun _ _ _ h => h) (Or.inl ⟨by rfl, ?_⟩) ?_
            rotate_left
            focus (intro w0; go_simp; try with_reducible rfl)
            refine wpAny_take (i := 19) (v := ?_) rfl (by kernel_rfl) (by kernel_rfl) (by kernel_rfl) (fun _ _ _ h => h) (Or.inl ⟨by rfl, ?_⟩) ?_
            rotate_left
            focus (intro w0; go_simp; try with_reducible rfl)
            refine wpAny_take (i := 27) (v := ?_) rfl (by kernel_rfl) (by kernel_rfl) (by kernel_rfl) (fun _ _ _ h => h) (Or.inl ⟨by rfl, ?_⟩) ?_
            rotate_left
            focus (intro w0; go_simp; try with_reducible rfl)
            refine wpAny_seq 28 rfl (by kernel_rfl) ?_
            simp only [List.drop_succ_cons, List.drop_zero]
        rotate_left 2
        focus
          go_simp
          refine hK _ _ ?_
          clear hK K
          refine wpAny_take (i := 18) (v := ?_) rfl (by kernel_rfl) (by kernel_rfl) (by kernel_rfl) (fun _ _ _ h => h) (Or.inl ⟨by rfl, ?_⟩) ?_
          rotate_left
          focus (intro w0; go_simp; try with_reducible rfl)
          refine wpAny_ready (rs := [9, 26]) (by kernel_rfl) (by simp) (AllReady.cons rfl (fun K hK => ?_) (AllReady.cons rfl (fun K hK => ?_) (AllReady.nil)))
          focus
            go_simp
            refine hK _ _ ?_
            clear hK K
            refine wpAny_take (i := 19) (v := ?_) rfl (by kernel_rfl) (by kernel_rfl) (by kernel_rfl) (fun _ _ _ h => h) (Or.inl ⟨by rfl, ?_⟩) ?_
            rotate_left
            focus (intro w0; go_simp; try with_reducible rfl)
            refine wpAny_ready (rs := [26]) (by kernel_rfl) (by simp) (AllReady.cons rfl (fun K hK => ?_) (AllReady.nil))
            go_simp
            refine hK _ _ ?_
            clear hK K
            refine wpAny_take (i := 27) (v := ?_) rfl (by kernel_rfl) (by kernel_rfl) (by kernel_rfl) (fun _ _ _ h => h) (Or.inl ⟨by rfl, ?_⟩) ?_
            rotate_left
            focus (intro w0; go_simp; try with_reducible rfl)
            refine wpAny_seq 28 rfl (by kernel_rfl) ?_
            simp only [List.drop_succ_cons, List.drop_zero]
          rotate_left 1
          focus
            go_simp
            refine hK _ _ ?_
            clear hK K
            refine wpAny_ready (rs := [9]) (by kernel_rfl) (by simp) (AllReady.cons rfl (fun K hK => ?_) (AllReady.nil))
            go_simp
            refine hK _ _ ?_
            clear hK K
            refine wpAny_take (i := 19) (v := ?_) rfl (by kernel_rfl) (by kernel_rfl) (by kernel_rfl) (fun _ _ _ h => h) (Or.inl ⟨by rfl, ?_⟩) ?_
            rotate_left
            focus (intro w0; go_simp; try with_reducible rfl)
            refine wpAny_take (i := 27) (v := ?_) rfl (by kernel_rfl) (by kernel_rfl) (by kernel_rfl) (fun _ _ _ h => h) (Or.inl ⟨by rfl, ?_⟩) ?_
            rotate_left
            focus (intro w0; go_simp; try with_reducible rfl)
            refine wpAny_seq 28 rfl (by kernel_rfl) ?_
            simp only [List.drop_succ_cons, List.drop_zero]
        rotate_left 2
        focus
          go_simp
          refine hK _ _ ?_
          clear hK K
          refine wpAny_ready (rs := [9, 17]) (by kernel_rfl) (by simp) (AllReady.cons rfl (fun K hK => ?_) (AllReady.cons rfl (fun K hK => ?_) (AllReady.nil)))
          focus
            go_simp
            refine hK _ _ ?_
            clear hK K
            refine wpAny_ready (rs := [17]) (by kernel_rfl) (by simp) (AllReady.cons rfl (fun K hK => ?_) (AllReady.nil))
            go_simp
            refine hK _ _ ?_
            clear hK K
            refine wpAny_take (i := 18) (v := ?_) rfl (by kernel_rfl) (by kernel_rfl) (by kernel_rfl) (fun _ _ _ h => h) (Or.inl ⟨by rfl, ?_⟩) ?_
            rotate_left
            focus (intro w0; go_simp; try with_reducible rfl)
            refine wpAny_take (i := 19) (v := ?_) rfl (by kernel_rfl) (by kernel_rfl) (by kernel_rfl) (fun _ _ _ h => h) (Or.inl ⟨by rfl, ?_⟩) ?_
            rotate_left
            focus (intro w0; go_simp; try with_reducible rfl)
            refine wpAny_take (i := 27) (v := ?_) rfl (by kernel_rfl) (by kernel_rfl) (by kernel_rfl) (fun _ _ _ h => h) (Or.inl ⟨by rfl, ?_⟩) ?_
            rotate_left
            focus (intro w0; go_simp; try with_reducible rfl)
            refine wpAny_seq 28 rfl (by kernel_rfl) ?_
            simp only [List.drop_succ_cons, List.drop_zero]
          rotate_left 1
          focus
            go_simp
            refine hK _ _ ?_
            clear hK K
            refine wpAny_take (i := 18) (v := ?_) rfl (by kernel_rfl) (by kernel_rfl) (by kernel_rfl) (fun _ _ _ h => h) (Or.inl ⟨by rfl, ?_⟩) ?_
            rotate_left
            focus (intro w0; go_simp; try with_reducible rfl)
            refine wpAny_ready (rs := [9]) (by kernel_rfl) (by simp) (AllReady.cons rfl (fun K hK => ?_) (AllReady.nil))
            go_simp
            refine hK _ _ ?_
            clear hK K
            refine wpAny_take (i := 19) (v := ?_) rfl (by kernel_rfl) (by kernel_rfl) (by kernel_rfl) (fun _ _ _ h => h) (Or.inl ⟨by rfl, ?_⟩) ?_
            rotate_left
            focus (intro w0; go_simp; try with_reducible rfl)
            refine wpAny_take (i := 27) (v := ?_) rfl (by kernel_rfl) (by kernel_rfl) (by kernel_rfl) (fun _ _ _ h => h) (Or.inl ⟨by rfl, ?_⟩) ?_
            rotate_left
            focus (intro w0; go_simp; try with_reducible rfl)
            refine wpAny_seq 28 rfl (by kernel_rfl) ?_
            simp only [List.drop_succ_cons, List.drop_zero]
      rotate_left 6
      focus
        go_simp
        refine hK _ _ ?_
        clear hK K
        refine wpAny_ready (rs := [9, 13, 26]) (by kernel_rfl) (by simp) (AllReady.cons rfl (fun K hK => ?_) (AllReady.cons rfl (fun K hK => ?_) (AllReady.cons rfl (fun K hK => ?_) (AllReady.nil))))
        focus
          go_simp
          refine hK _ _ ?_
          clear hK K
          refine wpAny_ready (rs := [13, 26]) (by kernel_rfl) (by simp) (AllReady.cons rfl (fun K hK => ?_) (AllReady.cons rfl (fun K hK => ?_) (AllReady.nil)))
          focus
            go_simp
            refine hK _ _ ?_
            clear hK K
            refine wpAny_take (i := 18) (v := ?_) rfl (by kernel_rfl) (by kernel_rfl) (by kernel_rfl) (fun _ _ _ h => h) (Or.inl ⟨by rfl, ?_⟩) ?_
            rotate_left
            focus (intro w0; go_simp; try with_reducible rfl)
            refine wpAny_take (i := 19) (v := ?_) rfl (by kernel_rfl) (by kernel_rfl) (by kernel_rfl) (fun _ _ _ h => h) (Or.inl ⟨by rfl, ?_⟩) ?_
            rotate_left
            focus (intro w0; go_simp; try with_reducible rfl)
            refine wpAny_ready (rs := [26]) (by kernel_rfl) (by simp) (AllReady.cons rfl (fun K hK => ?_) (AllReady.nil))
            go_simp
            refine hK _ _ ?_
            clear hK K
            refine wpAny_take (i := 27) (v := ?_) rfl (by kernel_rfl) (by kernel_rfl) (by kernel_rfl) (fun _ _ _ h => h) (Or.inl ⟨by rfl, ?_⟩) ?_
            rotate_left
            focus (intro w0; go_simp; try with_reducible rfl)
            refine wpAny_seq 28 rfl (by kernel_rfl) ?_
            simp only [List.drop_succ_cons, List.drop_zero]
          rotate_left 1
          focus
            go_simp
            refine hK _ _ ?_
            clear hK K
            refine wpAny_ready (rs := [13]) (by kernel_rfl) (by simp) (AllReady.cons rfl (fun K hK => ?_) (AllReady.nil))
            go_simp
            refine hK _ _ ?_
            clear hK K
            refine wpAny_take (i := 18) (v := ?_) rfl (by kernel_rfl) (by kernel_rfl) (by kernel_rfl) (fun _ _ _ h => h) (Or.inl ⟨by rfl, ?_⟩) ?_
            rotate_left
            focus (intro w0; go_simp; try with_reducible rfl)
            refine wpAny_take (i := 19) (v := ?_) rfl (by kernel_rfl) (by kernel_rfl) (by kernel_rfl) (fun _ _ _ h => h) (Or.inl ⟨by rfl, ?_⟩) ?_
            rotate_left
            focus (intro w0; go_simp; try with_reducible rfl)
            refine wpAny_take (i := 27) (v := ?_) rfl (by kernel_rfl) (by kernel_rfl) (by kernel_rfl) (fun _ _ _ h => h) (Or.inl ⟨by rfl, ?_⟩) ?_
            rotate_left
            focus (intro w0; go_simp; try with_reducible rfl)
            refine wpAny_seq 28 rfl (by kernel_rfl) ?_
            simp only [List.drop_succ_cons, List.drop_zero]
        rotate_left 2
        focus
          go_simp
          refine hK _ _ ?_
          clear hK K
          refine wpAny_take (i := 18) (v := ?_) rfl (by kernel_rfl) (by kernel_rfl) (by kernel_rfl) (fun _ _ _ h => h) (Or.inl ⟨by rfl, ?_⟩) ?_
          rotate_left
          focus (intro w0; go_simp; try with_reducible rfl)
          refine wpAny_ready (rs := [9, 26]) (by kernel_rfl) (by simp) (AllReady.cons rfl (fun K hK => ?_) (AllReady.cons rfl (fun K hK => ?_) (AllReady.nil)))
          focus
            go_simp
            refine hK _ _ ?_
            clear hK K
            refine wpAny_take (i := 19) (v := ?_) rfl (by kernel_rfl) (by kernel_rfl) (by kernel_rfl) (fun _ _ _ h => h) (Or.inl ⟨by rfl, ?_⟩) ?_
            rotate_left
            focus (intro w0; go_simp; try with_reducible rfl)
            refine wpAny_ready (rs := [26]) (by kernel_rfl) (by simp) (AllReady.cons rfl (fun K hK => ?_) (AllReady.nil))
            go_simp
            refine hK _ _ ?_
            clear hK K
            refine wpAny_take (i := 27) (v := ?_) rfl (by kernel_rfl) (by kernel_rfl) (by kernel_rfl) (fun _ _ _ h => h) (Or.inl ⟨by rfl, ?_⟩) ?_
            rotate_left
            focus (intro w0; go_simp; try with_reducible rfl)
            refine wpAny_seq 28 rfl (by kernel_rfl) ?_
            simp only [List.drop_succ_cons, List.drop_zero]
          rotate_left 1
          focus
            go_simp
            refine hK _ _ ?_
            clear hK K
            refine wpAny_ready (rs := [9]) (by kernel_rfl) (by simp) (AllReady.cons rfl (fun K hK => ?_) (AllReady.nil))
            go_simp
            refine hK _ _ ?_
            clear hK K
            refine wpAny_take (i := 19) (v := ?_) rfl (by kernel_rfl) (by kernel_rfl) (by kernel_rfl) (fun _ _ _ h => h) (Or.inl ⟨by rfl, ?_⟩) ?_
            rotate_left
            focus (intro w0; go_simp; try with_reducible rfl)
            refine wpAny_take (i := 27) (v := ?_) rfl (by kernel_rfl) (by kernel_rfl) (by kernel_rfl) (fun _ _ _ h => h) (Or.inl ⟨by rfl, ?_⟩) ?_
            rotate_left
            focus (intro w0; go_simp; try with_reducible rfl)
            refine wpAny_seq 28 rfl (by kernel_rfl) ?_
            simp only [List.drop_succ_cons, List.drop_zero]
        rotate_left 2
        focus
          go_simp
          refine hK _ _ ?_
          clear hK K
          refine wpAny_ready (rs := [9, 13]) (by kernel_rfl) (by simp) (AllReady.cons rfl (fun K hK => ?_) (AllReady.cons rfl (fun K hK => ?_) (AllReady.nil)))
          focus
            go_simp
            refine hK _ _ ?_
            clear hK K
            refine wpAny_ready (rs := [13]) (by kernel_rfl) (by simp) (AllReady.cons rfl (fun K hK => ?_) (AllReady.nil))
            go_simp
            refine hK _ _ ?_
            clear hK K
            refine wpAny_take (i := 18) (v := ?_) rfl (by kernel_rfl) (by kernel_rfl) (by kernel_rfl) (fun _ _ _ h => h) (Or.inl ⟨by rfl, ?_⟩) ?_
            rotate_left
            focus (intro w0; go_simp; try with_reducible rfl)
            refine wpAny_take (i := 19) (v := ?_) rfl (by kernel_rfl) (by kernel_rfl) (by kernel_rfl) (fun _ _ _ h => h) (Or.inl ⟨by rfl, ?_⟩) ?_
            rotate_left
            focus (intro w0; go_simp; try with_reducible rfl)
            refine wpAny_take (i := 27) (v := ?_) rfl (by kernel_rfl) (by kernel_rfl) (by kernel_rfl) (fun _ _ _ h => h) (Or.inl ⟨by rfl, ?_⟩) ?_
            rotate_left
            focus (intro w0; go_simp; try with_reducible rfl)
            refine wpAny_seq 28 rfl (by kernel_rfl) ?_
            simp only [List.drop_succ_cons, List.drop_zero]
          rotate_left 1
          focus
            go_simp
            refine hK _ _ ?_
            clear hK K
            refine wpAny_take (i := 18) (v := ?_) rfl (by kernel_rfl) (by kernel_rfl) (by kernel_rfl) (fun _ _ _ h => h) (Or.inl ⟨by rfl, ?_⟩) ?_
            rotate_left
            focus (intro w0; go_simp; try with_reducible rfl)
            refine wpAny_ready (rs := [9]) (by kernel_rfl) (by simp) (AllReady.cons rfl (fun K hK => ?_) (AllReady.nil))
            go_simp
            refine hK _ _ ?_
            clear hK K
            refine wpAny_take (i := 19) (v := ?_) rfl (by kernel_rfl) (by kernel_rfl) (by kernel_rfl) (fun _ _ _ h => h) (Or.inl ⟨by rfl, ?_⟩) ?_
            rotate_left
            focus (intro w0; go_simp; try with_reducible rfl)
            refine wpAny_take (i := 27) (v := ?_) rfl (by kernel_rfl) (by kernel_rfl) (by kernel_rfl) (fun _ _ _ h => h) (Or.inl ⟨by rfl, ?_⟩) ?_
            rotate_left
            focus (intro w0; go_simp; try with_reducible rfl)
            refine wpAny_seq 28 rfl (by kernel_rfl) ?_
            simp only [List.drop_succ_cons, List.drop_zero]
      rotate_left 6
      focus
        go_simp
        refine hK _ _ ?_
        clear hK K
        refine wpAny_ready (rs := [9, 13, 17]) (by kernel_rfl) (by simp) (AllReady.cons rfl (fun K hK => ?_) (AllReady.cons rfl (fun K hK => ?_) (AllReady.cons rfl (fun K hK => ?_) (AllReady.nil))))
        focus
          go_simp
          refine hK _ _ ?_
          clear hK K
          refine wpAny_ready (rs := [13, 17]) (by kernel_rfl) (by simp) (AllReady.cons rfl (fun K hK => ?_) (AllReady.cons rfl (fun K hK => ?_) (AllReady.nil)))
          focus
            go_simp
            refine hK _ _ ?_
            clear hK K
            refine wpAny_ready (rs := [17]) (by kernel_rfl) (by simp) (AllReady.cons rfl (fun K hK => ?_) (AllReady.nil))
            go_simp
            refine hK _ _ ?_
            clear hK K
            refine wpAny_take (i := 18) (v := ?_) rfl (by kernel_rfl) (by kernel_rfl) (by kernel_rfl) (fun _ _ _ h => h) (Or.inl ⟨by rfl, ?_⟩) ?_
            rotate_left
            focus (intro w0; go_simp; try with_reducible rfl)
            refine wpAny_take (i := 19) (v := ?_) rfl (by kernel_rfl) (by kernel_rfl) (by kernel_rfl) (fun _ _ _ h => h) (Or.inl ⟨by rfl, ?_⟩) ?_
            rotate_left
            focus (intro w0; go_simp; try with_reducible rfl)
            refine wpAny_take (i := 27) (v := ?_) rfl (by kernel_rfl) (by kernel_rfl) (by kernel_rfl) (fun _ _ _ h => h) (Or.inl ⟨by rfl, ?_⟩) ?_
            rotate_left
            focus (intro w0; go_simp; try with_reducible rfl)
            refine wpAny_seq 28 rfl (by kernel_rfl) ?_
            simp only [List.drop_succ_cons, List.drop_zero]
          rotate_left 1
          focus
            go_simp
            refine hK _ _ ?_
            clear hK K
            refine wpAny_ready (rs := [13]) (by kernel_rfl) (by simp) (AllReady.cons rfl (fun K hK => ?_) (AllReady.nil))
            go_simp
            refine hK _ _ ?_
            clear hK K
            refine wpAny_take (i := 18) (v := ?_) rfl (by kernel_rfl) (by kernel_rfl) (by kernel_rfl) (fun _ _ _ h => h) (Or.inl ⟨by rfl, ?_⟩) ?_
            rotate_left
            focus (intro w0; go_simp; try with_reducible rfl)
            refine wpAny_take (i := 19) (v := ?_) rfl (by kernel_rfl) (by kernel_rfl) (by kernel_rfl) (fun _ _ _ h => h) (Or.inl ⟨by rfl, ?_⟩) ?_
            rotate_left
            focus (intro w0; go_simp; try with_reducible rfl)
            refine wpAny_take (i := 27) (v := ?_) rfl (by kernel_rfl) (by kernel_rfl) (by kernel_rfl) (fun _ _ _ h => h) (Or.inl ⟨by rfl, ?_⟩) ?_
            rotate_left
            focus (intro w0; go_simp; try with_reducible rfl)
            refine wpAny_seq 28 rfl (by kernel_rfl) ?_
            simp only [List.drop_succ_cons, List.drop_zero]
        rotate_left 2
        focus
          go_simp
          refine hK _ _ ?_
          clear hK K
          refine wpAny_ready (rs := [9, 17]) (by kernel_rfl) (by simp) (AllReady.cons rfl (fun K hK => ?_) (AllReady.cons rfl (fun K hK => ?_) (AllReady.nil)))
          focus
            go_simp
            refine hK _ _ ?_
            clear hK K
            refine wpAny_ready (rs := [17]) (by kernel_rfl) (by simp) (AllReady.cons rfl (fun K hK => ?_) (AllReady.nil))
            go_simp
            refine hK _ _ ?_
            clear hK K
            refine wpAny_take (i := 18) (v := ?_) rfl (by kernel_rfl) (by kernel_rfl) (by kernel_rfl) (fun _ _ _ h => h) (Or.inl ⟨by rfl, ?_⟩) ?_
            rotate_left
            focus (intro w0; go_simp; try with_reducible rfl)
            refine wpAny_take (i := 19) (v := ?_) rfl (by kernel_rfl) (by kernel_rfl) (by kernel_rfl) (fun _ _ _ h => h) (Or.inl ⟨by rfl, ?_⟩) ?_
            rotate_left
            focus (intro w0; go_simp; try with_reducible rfl)
            refine wpAny_take (i := 27) (v := ?_) rfl (by kernel_rfl) (by kernel_rfl) (by kernel_rfl) (fun _ _ _ h => h) (Or.inl ⟨by rfl, ?_⟩) ?_
            rotate_left
            focus (intro w0; go_simp; try with_reducible rfl)
            refine wpAny_seq 28 rfl (by kernel_rfl) ?_
            simp only [List.drop_succ_cons, List.drop_zero]
          rotate_left 1
          focus
            go_simp
            refine hK _ _ ?_
            clear hK K
            refine wpAny_take (i := 18) (v := ?_) rfl (by kernel_rfl) (by kernel_rfl) (by kernel_rfl) (fun _ _ _ h => h) (Or.inl ⟨by rfl, ?_⟩) ?_
            rotate_left
            focus (intro w0; go_simp; try with_reducible rfl)
            refine wpAny_ready (rs := [9]) (by kernel_rfl) (by simp) (AllReady.cons rfl (fun K hK => ?_) (AllReady.nil))
            go_simp
            refine hK _ _ ?_
            clear hK K
            refine wpAny_take (i := 19) (v := ?_) rfl (by kernel_rfl) (by kernel_rfl) (by kernel_rfl) (fun _ _ _ h => h) (Or.inl ⟨by rfl, ?_⟩) ?_
            rotate_left
            focus (intro w0; go_simp; try with_reducible rfl)
            refine wpAny_take (i := 27) (v := ?_) rfl (by kernel_rfl) (by kernel_rfl) (by kernel_rfl) (fun _ _ _ h => h) (Or.inl ⟨by rfl, ?_⟩) ?_
            rotate_left
            focus (intro w0; go_simp; try with_reducible rfl)
            refine wpAny_seq 28 rfl (by kernel_rfl) ?_
            simp only [List.drop_succ_cons, List.drop_zero]
        rotate_left 2
        focus
          go_simp
          refine hK _ _ ?_
          clear hK K
          refine wpAny_ready (rs := [9, 13]) (by kernel_rfl) (by simp) (AllReady.cons rfl (fun K hK => ?_) (AllReady.cons rfl (fun K hK => ?_) (AllReady.nil)))
          focus
            go_simp
            refine hK _ _ ?_
            clear hK K
            refine wpAny_ready (rs := [13]) (by kernel_rfl) (by simp) (AllReady.cons rfl (fun K hK => ?_) (AllReady.nil))
            go_simp
            refine hK _ _ ?_
            clear hK K
            refine wpAny_take (i := 18) (v := ?_) rfl (by kernel_rfl) (by kernel_rfl) (by kernel_rfl) (fun _ _ _ h => h) (Or.inl ⟨by rfl, ?_⟩) ?_
            rotate_left
            focus (intro w0; go_simp; try with_reducible rfl)
            refine wpAny_take (i := 19) (v := ?_) rfl (by kernel_rfl) (by kernel_rfl) (by kernel_rfl) (fun _ _ _ h => h) (Or.inl ⟨by rfl, ?_⟩) ?_
            rotate_left
            focus (intro w0; go_simp; try with_reducible rfl)
            refine wpAny_take (i := 27) (v := ?_) rfl (by kernel_rfl) (by kernel_rfl) (by kernel_rfl) (fun _ _ _ h => h) (Or.inl ⟨by rfl, ?_⟩) ?_
            rotate_left
            focus (intro w0; go_simp; try with_reducible rfl)
            refine wpAny_seq 28 rfl (by kernel_rfl) ?_
            simp only [List.drop_succ_cons, List.drop_zero]
          rotate_left 1
          focus
            go_simp
            refine hK _ _ ?_
            clear hK K
            refine wpAny_take (i := 18) (v := ?_) rfl (by kernel_rfl) (by kernel_rfl) (by kernel_rfl) (fun _ _ _ h => h) (Or.inl ⟨by rfl, ?_⟩) ?_
            rotate_left
            focus (intro w0; go_simp; try with_reducible rfl)
            refine wpAny_ready (rs := [9]) (by kernel_rfl) (by simp) (AllReady.cons rfl (fun K hK => ?_) (AllReady.nil))
            go_simp
            refine hK _ _ ?_
            clear hK K
            refine wpAny_take (i := 19) (v := ?_) rfl (by kernel_rfl) (by kernel_rfl) (by kernel_rfl) (fun _ _ _ h => h) (Or.inl ⟨by rfl, ?_⟩) ?_
            rotate_left
            focus (intro w0; go_simp; try with_reducible rfl)
            refine wpAny_take (i := 27) (v := ?_) rfl (by kernel_rfl) (by kernel_rfl) (by kernel_rfl) (fun _ _ _ h => h) (Or.inl ⟨by rfl, ?_⟩) ?_
            rotate_left
            focus (intro w0; go_simp; try with_reducible rfl)
            refine wpAny_seq 28 rfl (by kernel_rfl) ?_
            simp only [List.drop_succ_cons, List.drop_zero]
      all_goals
        go_wp2_with (at_builtin; refine wpList_append_own_at _ rfl _ _ 23 rfl w1.heap.size 3 i0 (.int .i64 0) 1 8 Tryd.underlying23 hi hz0 hz1 hz2 rfl (by decide) _ _ _ rfl ((hown.drew).alloc _) ⟨wr.heap.size, 0, none⟩ 1 1 [.int .i64 (x0 + z * x1 + x2)] rfl rfl ?c1 ?c2 ?c3 ?c4 ?c5 ?_)
        case c1 =>
          intro j u hj
          match j, hj with
          | 0, hj => simp at hj; subst hj; simp [Addr.add]
        case c2 => intro u hu; simp at hu; subst hu; rfl
        case c3 => unfold maxLen; omega
        case c4 => omega
        case c5 => simp; omega
        intro v' w3 hown' hgrow _ _
        have hB2 : Below w1.heap.size w1 w3 := ((hB.drew).alloc (by simp; omega) _).grown hgrow (by simp; omega) (fun k hk => (hown.lt k hk).1)
        have HV := Lib.hid (Ints.snoc (l := (List.range k).map (degZ l d)) HL2.out.symm hown')
        rw [← HMk.out] at HV
        clear hown' hgrow hown
        go_wp2
        go_roundw
        case rel => exact ⟨k + 1, by omega, by go_num, HV, hB2⟩
        case measure => simp [intOf]; omega
    · obtain rfl : k = n := by omega
      have i2 : ¬ (k : Int) < (k : Int) := by omega
      have hBw := hb1.trans (hB.mono hs1)
      go_wp2
      go_returns
      exact ⟨_, rfl, by rw [HZ.out]; exact HI.out.lower hs1, hBw⟩
end Go.Proofs.YtcieihbknfeddabDoor

/- Divisors: the model's side: products; the divisor of a vector; the canonical one. -/
namespace Go.Proofs.YtcieihbknfeddabDoor
open Go.RowKit

theorem gz_degs {l : List V2} {d : List Int} {k : Nat} (h : k < l.length) : gz (degsZ l d) k = degZ l d k := gz_tab _ h
set_option maxHeartbeats 8000000 in
theorem l4Product_any (v u1 u2 : Value) (l : List V2) (a b : List Int) (w : World) (hv : ReadsVecs w v l) (h1 : ReadsInts w u1 a) (h2 : ReadsInts w u2 b) (ha : a.length = l.length) (hb : b.length = l.length) (hm : l.length ≤ 20) (h0 : 0 < l.length) (hS : Smooth l) (hda : bnd 100 a) (hdb : bnd 101 b) :
    Calls Tryd.prog 71 #[v, u1, u2] w fun e w' => e = .returned (.int .i64 (prodZ l a b)) ∧ Below w.heap.size w w' := by
  have HD := Lib.hid (l4Degrees_any v u2 l b w hv h2 hb (by omega) h0 hS hdb)
  have hq : ∀ i, -404000404 ≤ degZ l b i ∧ degZ l b i ≤ 404000404 := fun i => by have := deg_bnd hS hdb i; omega
  have HB := Lib.hid (fun k (hk : k ≤ 20) => dot_bnd hda hq hk)
  have HT := Lib.hid (fun i => dot_term hda hq i)
  have HS := Lib.hid (fun k => dot_succ a (degZ l b) k)
  have HG := Lib.hid (fun k (h : k < l.length) => gz_degs (l := l) (d := b) h)
  have HP : Hid (prodZ l a b = dotD a (degZ l b) l.length) := rfl
  have HL2 := Lib.hid (degs_len l b)
  obtain ⟨p1, p2, rfl, _, _, _⟩ := hv
  obtain ⟨p3, p4, rfl, _⟩ := h2.len
  obtain ⟨bb, off, c, rfl, _, hbb, hcs⟩ := h1.open (by omega)
  have HC := Lib.hid hcs
  rw [ha] at HC ⊢
  obtain ⟨n, hn⟩ : ∃ n, n = l.length := ⟨_, rfl⟩
  have HN := Lib.hid hn
  rw [← hn] at HC HG HP hm h0 HD HL2 ⊢
  have H00 : Hid (dotD a (degZ l b) 0 = 0) := rfl
  clear h1 h2 ha hb hda hdb hS hcs hq hn
  go_enter Tryd.func71, Tryd.ntmps71
  go_wp2_with fail
  refine Calls.mono HD.out ?_
  rintro e w1 ⟨v7, rfl, hI, hb1⟩
  obtain ⟨bv, ov, cv, rfl, _, hbv, hvs⟩ := (hI.reads (show (degsZ l b).length ≤ 1152921504606846976 by have := HL2.out; omega)).open (by have := HL2.out; omega)
  rw [HL2.out] at hvs ⊢
  have HVs := Lib.hid hvs
  have hs1 := hb1.size
  clear hI hvs HD
  go_wp2
  go_loopw [8, 9] (fun s8 s9 wr => ∃ k : Nat, k ≤ n ∧ s8 = .int .i64 (dotD a (degZ l b) k) ∧ s9 = .int .i64 k ∧ Below w1.heap.size w1 wr) (fun _ s9 _ => n - (intOf s9).toNat)
  case atStart => exact ⟨0, Nat.zero_le _, by rw [H00.out], rfl, Below.refl _ _⟩
  case round =>
    obtain ⟨k, hk, rfl, rfl, hB⟩ := hrel
    have i1 : (0 : Int) ≤ (k : Int) := by omega
    by_cases hlt : k < n
    · have i2 : (k : Int) < (n : Int) := by omega
      have hBw := hb1.trans (hB.mono hs1)
      have d0 := HC.out wr hBw k hlt
      have d1 := HVs.out wr hB k hlt
      rw [HG.out k hlt] at d1
      have b1 := HB.out k (by omega)
      have b2 := HT.out k
      have HSk := Lib.hid (HS.out k)
      generalize dotD a (degZ l b) k = x at *
      generalize gz a k = z at *
      generalize degZ l b k = t at *
      have q1 : IntKind.i64.wrap (z * t) = z * t := by rw [IntKind.wrap_i64]; omega
      have q2 : IntKind.i64.wrap (x + z * t) = x + z * t := by rw [IntKind.wrap_i64]; omega
      clear HC HVs HG HB HT HS hBw
      go_wp2_with fail
      go_quiet (fail)
      go_wp2
      go_roundw
      case rel => exact ⟨k + 1, by omega, by rw [HSk.out], by go_num, below_drewN hB _⟩
      case measure => simp [intOf]; omega
    · obtain rfl : k = n := by omega
      have i2 : ¬ (k : Int) < (k : Int) := by omega
      have hBw := hb1.trans (hB.mono hs1)
      go_wp2
      go_returns
      exact ⟨by rw [HP.out]; rfl, hBw⟩
/-! products with vectors that may be great -/
set_option maxHeartbeats 1000000 in
theorem l1ProductBig_any (x1 y1 x2 y2 : Int) (w : World) (h1 : vecB x1 y1 = true) (h2 : (-400000 ≤ x2 ∧ x2 ≤ 400000) ∧ -400000 ≤ y2 ∧ y2 ≤ 400000) :
    Calls Tryd.prog 94 #[.agg #[.int .i64 (x1), .int .i64 (y1)], .agg #[.int .i64 (x2), .int .i64 (y2)]] w fun e w' => e = .returned (.int .i64 (dotZ x1 y1 x2 y2)) ∧ Below w.heap.size w w' := by
  have h3 := dot_big h2 h1
  rw [Int.mul_comm x2, Int.mul_comm y2] at h3
  obtain ⟨⟨_, _⟩, _, _⟩ := h3
  clear h1 h2
  go_enter Tryd.func94, Tryd.ntmps94
  go_wp2
  go_returns
  exact ⟨rfl, by go_grown⟩
theorem triv_snoc (l : List V2) (m : V2) (k : Nat) : (List.range (k + 1)).map (fun i => dotZ m.1 m.2 (cyc l i).1 (cyc l i).2) = (List.range k).map (fun i => dotZ m.1 m.2 (cyc l i).1 (cyc l i).2) ++ [dotZ m.1 m.2 (cyc l k).1 (cyc l k).2] := tab_snoc _ _
set_option maxHeartbeats 16000000 in
theorem l4Of_any (v : Value) (l : List V2) (x y : Int) (w : World) (hv : ReadsVecs w v l) (h0 : 0 < l.length) (hm : l.length ≤ 1000) (ha : allVec l) (hb : (-400000 ≤ x ∧ x ≤ 400000) ∧ -400000 ≤ y ∧ y ≤ 400000) :
    Calls Tryd.prog 60 #[v, .agg #[.int .i64 (x), .int .i64 (y)]] w (GivesInts w (trivL l (x, y))) := by
  obtain ⟨i0, hi, hz0, hz1, hz2⟩ := info_parts infoInt
  obtain ⟨bb, off, c, rfl, hc, _, hbb, hcs⟩ := hv.open h0
  have HC := Lib.hid hcs
  have HMs := Lib.hid (fun k => triv_snoc l (x, y) k)
  have HPr := Lib.hid (fun k w' => l1ProductBig_any (cyc l k).1 (cyc l k).2 x y w' (ha k) hb)
  have HZ : Hid (trivL l (x, y) = (List.range l.length).map (fun i => dotZ (x, y).1 (x, y).2 (cyc l i).1 (cyc l i).2)) := rfl
  have HFl := Lib.hid (fun k => dot_flip (cyc l k).1 (cyc l k).2 x y)
  have hE := Lib.hid (Ints.empty (w.alloc (.cells #[.int .i64 x, .int .i64 y] 36)))
  have hA : Below w.heap.size w (w.alloc (.cells #[.int .i64 x, .int .i64 y] 36)) := by go_grown
  have x0 : (w.alloc (.cells #[.int .i64 x, .int .i64 y] 36)).cell? ⟨w.heap.size, 0, none⟩ = some (.int .i64 x) := by simp
  have x1 : (w.alloc (.cells #[.int .i64 x, .int .i64 y] 36)).cell? ⟨w.heap.size, 1, none⟩ = some (.int .i64 y) := by simp
  have hz : (w.alloc (.cells #[.int .i64 x, .int .i64 y] 36)).heap.size = w.heap.size + 1 := by simp
  have HX0 := Lib.hid x0
  have HX1 := Lib.hid x1
  have HZz := Lib.hid hz
  obtain ⟨n, hn⟩ : ∃ n, n = l.length := ⟨_, rfl⟩
  have HN := Lib.hid hn
  rw [← hn] at HZ HC hm hc h0 ⊢
  clear hn hv hcs ha hb x0 x1 hz
  go_enter Tryd.func60, Tryd.ntmps60
  go_wp2
  generalize (w.alloc (.cells #[.int .i64 x, .int .i64 y] 36)) = W0 at *
  go_loopw [5, 6] (fun s5 s6 wr => ∃ k : Nat, k ≤ n ∧ s6 = .int .i64 k ∧ Hid (Ints wr W0.heap.size s5 ((List.range k).map (fun i => dotZ (x, y).1 (x, y).2 (cyc l i).1 (cyc l i).2))) ∧ Below W0.heap.size W0 wr) (fun _ s6 _ => n - (intOf s6).toNat)
  case atStart => exact ⟨0, Nat.zero_le _, rfl, by first | exact hE | (have h := HZz.out; rw [h] at hE ⊢; exact hE), by go_grown⟩
  case round =>
    obtain ⟨k, hk, rfl, HI, hB⟩ := hrel
    have i1 : (0 : Int) ≤ (k : Int) := by omega
    by_cases hlt : k < n
    · have i2 : (k : Int) < (n : Int) := by omega
      have hBw := hA.trans (hB.mono hA.size)
      obtain ⟨c0, c1⟩ := HC.out wr hBw k hlt
      have y0 := (hB.cell (p := ⟨w.heap.size, 0, none⟩) (show w.heap.size < _ by have := HZz.out; omega)).trans HX0.out
      have y1 := (hB.cell (p := ⟨w.heap.size, 1, none⟩) (show w.heap.size < _ by have := HZz.out; omega)).trans HX1.out
      have l0 : w.heap.size < wr.heap.size := cell_lt y0
      have l1 := cell_lt c0
      have HP := Lib.hid (HPr.out k)
      have HF := Lib.hid (HFl.out k)
      have HMk := Lib.hid (HMs.out k)
      have hkl : ((List.range k).map (fun i => dotZ (x, y).1 (x, y).2 (cyc l i).1 (cyc l i).2)).length = k := by simp
      have hown := HI.out
      unfold Ints at hown
      rw [hkl] at hown
      have HL2 := Lib.hid hkl
      have hbs := hB.size
      have HHown := Lib.hid hown
      clear hkl HI HC HPr HFl HMs hBw hown
      rw [HF.out] at HP
      have e1 : dotZ (x, y).1 (x, y).2 (cyc l k).1 (cyc l k).2 = dotZ x y (cyc l k).1 (cyc l k).2 := rfl
      rw [e1] at HMk
      clear e1 HF
      generalize dotZ x y (cyc l k).1 (cyc l k).2 = z at HP HMk
      generalize (cyc l k) = p at c0 c1 HP
      obtain ⟨px, py⟩ := p
      dsimp only at c0 c1 HP
      go_wp2
      refine wp_region_any (by kernel_rfl) ?_
      try (change wpAny _ _ _ _ _ _ _ (World.drew _))
      refine wpAny_take (i := 0) (v := ?_) rfl (by kernel_rfl) (by kernel_rfl) (by kernel_rfl) (fun _ _ _ h => h) (Or.inl ⟨by rfl, ?_⟩) ?_
      rotate_left
      focus (intro w0; go_simp; try with_reducible rfl)
      refine wpAny_take (i := 1) (v := ?_) rfl (by kernel_rfl) (by kernel_rfl) (by kernel_rfl) (fun _ _ _ h => h) (Or.inl ⟨by rfl, ?_⟩) ?_
      rotate_left
      focus (intro w0; go_simp; try with_reducible rfl)
      refine wpAny_take (i := 2) (v := ?_) rfl (by kernel_rfl) (by kernel_rfl) (by kernel_rfl) (fun _ _ _ h => h) (Or.inl ⟨by rfl, ?_⟩) ?_
      rotate_left
      focus (intro w0; go_simp; try with_reducible rfl)
      refine wpAny_take (i := 3) (v := ?_) rfl (by kernel_rfl) (by kernel_rfl) (by kernel_rfl) (fun _ _ _ h => h) (Or.inl ⟨by rfl, ?_⟩) ?_
      rotate_left
      focus (intro w0; go_simp; try with_reducible rfl)
      refine wpAny_ready (rs := [4, 5]) (by kernel_rfl) (by simp) (AllReady.cons rfl (fun K hK => ?_) (AllReady.cons rfl (fun K hK => ?_) (AllReady.nil)))
      focus
        go_simp
        refine hK _ _ ?_
        clear hK K
        refine wpAny_ready (rs := [5]) (by kernel_rfl) (by simp) (AllReady.cons rfl (fun K hK => ?_) (AllReady.nil))
        go_simp
        refine hK _ _ ?_
        clear hK K
        refine wpAny_ready (rs := [6]) (by kernel_rfl) (by simp) (AllReady.cons rfl (fun K hK => ?_) (AllReady.nil))
        go_simp
        (refine Calls.mono (HP.out _) ?_; rintro e w2 ⟨rfl, hb2⟩; replace hb2 := undrew hb2)
        refine hK _ _ ?_
        clear hK K
        refine wpAny_seq 7 rfl (by kernel_rfl) ?_
        simp only [List.drop_succ_cons, List.drop_zero]
      rotate_left 1
      focus
        go_simp
        refine hK _ _ ?_
        clear hK K
        refine wpAny_ready (rs := [4]) (by kernel_rfl) (by simp) (AllReady.cons rfl (fun K hK => ?_) (AllReady.nil))
        go_simp
        refine hK _ _ ?_
        clear hK K
        refine wpAny_ready (rs := [6]) (by kernel_rfl) (by simp) (AllReady.cons rfl (fun K hK => ?_) (AllReady.nil))
        go_simp
        (refine Calls.mono (HP.out _) ?_; rintro e w2 ⟨rfl, hb2⟩; replace hb2 := undrew hb2)
        refine hK _ _ ?_
        clear hK K
        refine wpAny_seq 7 rfl (by kernel_rfl) ?_
        simp only [List.drop_succ_cons, List.drop_zero]
      all_goals
        have hB1 := belowTo hB hb2
        have hown : w2.ownsRow W0.heap.size 3 1 _ _ _ := HHown.out.kept (row := none) (grown_of_below hb2 none) (by first | exact .inl rfl | (generalize Value.ownBlock _ = ob; cases ob <;> simp))
        have hbs2 := hB1.size
        clear hb2
        go_wp2_with (at_builtin; refine wpList_append_own_at _ rfl _ _ 23 rfl W0.heap.size 3 i0 (.int .i64 0) 1 8 Tryd.underlying23 hi hz0 hz1 hz2 rfl (by decide) _ _ _ rfl (hown.alloc _) ⟨w2.heap.size, 0, none⟩ 1 1 [.int .i64 z] rfl rfl ?c1 ?c2 ?c3 ?c4 ?c5 ?_)
        case c1 =>
          intro j u hj
          match j, hj with
          | 0, hj => simp at hj; subst hj; simp [Addr.add]
        case c2 => intro u hu; simp at hu; subst hu; rfl
        case c3 => unfold maxLen; omega
        case c4 => omega
        case c5 => simp; omega
        intro v' w3 hown' hgrow _ _
        have hB2 : Below W0.heap.size W0 w3 := (hB1.alloc hbs2 _).grown hgrow (by simp; omega) (fun k hk => (hown.lt k hk).1)
        have HV := Lib.hid (Ints.snoc (l := (List.range k).map (fun i => dotZ (x, y).1 (x, y).2 (cyc l i).1 (cyc l i).2)) HL2.out.symm hown')
        rw [← HMk.out] at HV
        clear hown' hgrow hown
        go_wp2
        go_roundw
        case rel => exact ⟨k + 1, by omega, by go_num, HV, hB2⟩
        case measure => simp [intOf]; omega
    · obtain rfl : k = n := by omega
      have i2 : ¬ (k : Int) < (k : Int) := by omega
      have hBw := hA.trans (hB.mono hA.size)
      have has := hA.size
      go_wp2
      go_returns
      exact ⟨_, rfl, by rw [HZ.out]; exact HI.out.lower has, hBw⟩
theorem can_snoc (k : Nat) : canL (k + 1) = canL k ++ [-1] := by
  unfold canL
  rw [List.replicate_succ']
set_option maxHeartbeats 8000000 in
theorem l4Canonical_any (v : Value) (l : List V2) (w : World) (hv : ReadsVecs w v l) (hm : l.length ≤ 1000) :
    Calls Tryd.prog 82 #[v] w (GivesInts w (canL l.length)) := by
  obtain ⟨i0, hi, hz0, hz1, hz2⟩ := info_parts infoInt
  obtain ⟨p1, p2, rfl, _, _, _⟩ := hv
  have hE := Lib.hid (Ints.empty w)
  have HMs := Lib.hid can_snoc
  generalize l.length = n at *
  go_enter Tryd.func82, Tryd.ntmps82
  go_wp2
  go_loopw [3, 4] (fun s3 s4 wr => ∃ k : Nat, k ≤ n ∧ s4 = .int .i64 k ∧ Hid (Ints wr w.heap.size s3 (canL k)) ∧ Below w.heap.size w wr) (fun _ s4 _ => n - (intOf s4).toNat)
  case atStart => exact ⟨0, Nat.zero_le _, rfl, hE, by go_grown⟩
  case round =>
    obtain ⟨k, hk, rfl, HI, hB⟩ := hrel
    have i1 : (0 : Int) ≤ (k : Int) := by omega
    by_cases hlt : k < n
    · have i2 : (k : Int) < (n : Int) := by omega
      have hkl : (canL k).length = k := by simp [canL]
      have HL2 := Lib.hid hkl
      have HMk := Lib.hid (HMs.out k)
      have hown := HI.out
      unfold Ints at hown
      rw [hkl] at hown
      have hbs := hB.size
      clear hkl HI
      go_wp2_with (at_builtin; refine wpList_append_own_at _ rfl _ _ 23 rfl w.heap.size 3 i0 (.int .i64 0) 1 8 Tryd.underlying23 hi hz0 hz1 hz2 rfl (by decide) _ _ _ rfl (hown.alloc _) ⟨wr.heap.size, 0, none⟩ 1 1 [.int .i64 (-1)] rfl rfl ?c1 ?c2 ?c3 ?c4 ?c5 ?_)
      case c1 =>
        intro j u hj
        match j, hj with
        | 0, hj => simp at hj; subst hj; simp [Addr.add]
      case c2 => intro u hu; simp at hu; subst hu; rfl
      case c3 => unfold maxLen; omega
      case c4 => omega
      case c5 => simp; omega
      intro v' w3 hown' hgrow _ _
      have hB2 : Below w.heap.size w w3 := (hB.alloc hbs _).grown hgrow (by simp; omega) (fun k hk => (hown.lt k hk).1)
      have HV := Lib.hid (Ints.snoc (l := canL k) HL2.out.symm hown')
      rw [← HMk.out] at HV
      clear hown' hgrow hown
      go_wp2
      go_roundw
      case rel => exact ⟨k + 1, by omega, by go_num, HV, hB2⟩
      case measure => simp [intOf]; omega
    · obtain rfl : k = n := by omega
      have i2 : ¬ (k : Int) < (k : Int) := by omega
      go_wp2
      go_returns
      exact ⟨_, rfl, HI.out, hB⟩
end Go.Proofs.YtcieihbknfeddabDoor

/- Divisors: the model's functions. -/
namespace Go.Proofs.YtcieihbknfeddabDoor
open Go.RowKit

set_option maxHeartbeats 4000000 in
theorem specDivisorDegrees_any (v : Value) (l : List V2) (u : Value) (d : List Int) (w : World) (hl : ReadsVecs w v l) (hd : ReadsInts w u d) :
    Calls Tryd.prog 36 #[v, u] w (GivesIntsOk w (gV (divB l d) (degsZ l d)) (divB l d)) := by
  have HI := Lib.hid (specDivisorIn_any v l u d w hl hd)
  have HE := Lib.hid (fun w' => Ints.empty w')
  have HD := Lib.hid (fun w' (hb : Below w.heap.size w w') (h : divB l d = true) => l4Degrees_any v u l d w' (hl.below hb) (hd.below hb) (div_in h).2.1 (by have := div_len h; omega) (by have := div_len h; omega) (div_smooth h) (bnd_mono (div_bnd h) (by omega)))
  clear hl hd
  cases hb : divB l d
  · rw [hb] at HI
    clear hb HD
    go_enter Tryd.func36, Tryd.ntmps36
    go_wp2_with fail
    refine Calls.mono HI.out ?_
    rintro e w1 ⟨rfl, hb1⟩
    have hs1 := hb1.size
    have HE2 := Lib.hid ((HE.out w1).lower hs1)
    go_wp2
    go_returns
    exact ⟨_, rfl, HE2.out, by go_grown⟩
  · rw [hb] at HI HD
    clear hb
    go_enter Tryd.func36, Tryd.ntmps36
    go_wp2_with fail
    refine Calls.mono HI.out ?_
    rintro e w1 ⟨rfl, hb1⟩
    have hs1 := hb1.size
    go_wp2_with fail
    refine Calls.mono (HD.out _ hb1 (by simp)) ?_
    rintro e w2 ⟨v2, rfl, hI, hb2⟩
    have HI2 := Lib.hid (hI.lower hs1)
    have hB := belowTo hb1 hb2
    clear hI hb1 hb2
    go_wp2
    go_returns
    exact ⟨_, rfl, HI2.out, hB⟩
set_option maxHeartbeats 4000000 in
theorem specDivisorProduct_any (v : Value) (l : List V2) (u1 : Value) (a : List Int) (u2 : Value) (b : List Int) (w : World) (hl : ReadsVecs w v l) (h1 : ReadsInts w u1 a) (h2 : ReadsInts w u2 b) :
    Calls Tryd.prog 34 #[v, u1, u2] w fun e w' => e = .returned (.tuple #[.int .i64 (gate (divB l a && divB l b) (prodZ l a b)), .bool (divB l a && divB l b)]) ∧ Below w.heap.size w w' := by
  have HA := Lib.hid (specDivisorIn_any v l u1 a w hl h1)
  have HB := Lib.hid (fun w' (hb : Below w.heap.size w w') => specDivisorIn_any v l u2 b w' (hl.below hb) (h2.below hb))
  have HP := Lib.hid (fun w' (hb : Below w.heap.size w w') (ha : divB l a = true) (hb2 : divB l b = true) => l4Product_any v u1 u2 l a b w' (hl.below hb) (h1.below hb) (h2.below hb) (div_in ha).2.1 (div_in hb2).2.1 (div_len ha).2 (by have := div_len ha; omega) (div_smooth ha) (div_bnd ha) (bnd_mono (div_bnd hb2) (by omega)))
  clear hl h1 h2
  cases ha : divB l a
  · rw [ha] at HA
    clear ha HP HB
    go_enter Tryd.func34, Tryd.ntmps34
    go_wp2_with fail
    refine Calls.mono HA.out ?_
    rintro e w1 ⟨rfl, hb1⟩
    go_wp2
    go_returns
    exact ⟨rfl, hb1⟩
  · cases hb : divB l b
    · rw [ha] at HA
      rw [hb] at HB
      clear ha hb HP
      go_enter Tryd.func34, Tryd.ntmps34
      go_wp2_with fail
      refine Calls.mono HA.out ?_
      rintro e w1 ⟨rfl, hb1⟩
      go_wp2_with fail
      refine Calls.mono (HB.out _ hb1) ?_
      rintro e w2 ⟨rfl, hb2⟩
      have hB := belowTo hb1 hb2
      clear hb1 hb2
      go_wp2
      go_returns
      exact ⟨rfl, hB⟩
    · rw [ha] at HA
      rw [hb] at HB
      have HP2 := Lib.hid (fun w' h => HP.out w' h ha hb)
      clear ha hb HP
      generalize prodZ l a b = z at *
      go_enter Tryd.func34, Tryd.ntmps34
      go_wp2_with fail
      refine Calls.mono HA.out ?_
      rintro e w1 ⟨rfl, hb1⟩
      go_wp2_with fail
      refine Calls.mono (HB.out _ hb1) ?_
      rintro e w2 ⟨rfl, hb2⟩
      have hB := belowTo hb1 hb2
      clear hb1 hb2
      go_wp2_with fail
      refine Calls.mono (HP2.out _ hB) ?_
      rintro e w3 ⟨rfl, hb3⟩
      replace hB := belowTo hB hb3
      clear hb3
      go_wp2
      go_returns
      exact ⟨rfl, hB⟩
set_option maxHeartbeats 4000000 in
theorem specDivisorAdd_any (v : Value) (l : List V2) (u1 : Value) (a : List Int) (u2 : Value) (b : List Int) (w : World) (hl : ReadsVecs w v l) (h1 : ReadsInts w u1 a) (h2 : ReadsInts w u2 b) :
    Calls Tryd.prog 30 #[v, u1, u2] w (GivesIntsOk w (gV (addDB l a b) (sumL a 1 b)) (addDB l a b)) := by
  have HA := Lib.hid (specDivisorIn_any v l u1 a w hl h1)
  have HB := Lib.hid (fun w' (hb : Below w.heap.size w w') => specDivisorIn_any v l u2 b w' (hl.below hb) (h2.below hb))
  have HE := Lib.hid (fun w' => Ints.empty w')
  have HS := Lib.hid (fun w' (hb : Below w.heap.size w w') (ha : divB l a = true) (hb2 : divB l b = true) => l4Sum_any u1 u2 a b 1 w' (h1.below hb) (h2.below hb) ((div_in hb2).2.1.trans (div_in ha).2.1.symm) (by have := div_len ha; have := (div_in ha).2.1; omega) (bnd_big (div_bnd ha) (by omega)) (bnd_big (div_bnd hb2) (by omega)) (by omega))
  have HD := Lib.hid (fun u' b' w' (hb : Below w.heap.size w w') (hI : Ints w' b' u' (sumL a 1 b)) (ha : divB l a = true) (hs : b' ≤ (w' : World).heap.size) => l4Done_any v l u' (sumL a 1 b) b' w' (hl.below hb) hI (by rw [sumL_len]; have := div_len ha; have := (div_in ha).2.1; omega) hs)
  unfold addDB
  clear hl h1 h2
  cases ha : divB l a
  · rw [ha] at HA
    clear ha HS HD HB
    go_enter Tryd.func30, Tryd.ntmps30
    go_wp2_with fail
    refine Calls.mono HA.out ?_
    rintro e w1 ⟨rfl, hb1⟩
    have hs1 := hb1.size
    have HE2 := Lib.hid ((HE.out w1).lower hs1)
    go_wp2
    go_returns
    exact ⟨_, rfl, HE2.out, by go_grown⟩
  · cases hb : divB l b
    · rw [ha] at HA
      rw [hb] at HB
      clear ha hb HS HD
      go_enter Tryd.func30, Tryd.ntmps30
      go_wp2_with fail
      refine Calls.mono HA.out ?_
      rintro e w1 ⟨rfl, hb1⟩
      go_wp2_with fail
      refine Calls.mono (HB.out _ hb1) ?_
      rintro e w2 ⟨rfl, hb2⟩
      have hB := belowTo hb1 hb2
      have hs2 := hB.size
      have HE2 := Lib.hid ((HE.out w2).lower hs2)
      clear hb1 hb2
      go_wp2
      go_returns
      exact ⟨_, rfl, HE2.out, by go_grown⟩
    · rw [ha] at HA
      rw [hb] at HB
      have HS2 := Lib.hid (fun w' h => HS.out w' h ha hb)
      have HD2 := Lib.hid (fun u' b' w' h hI hs => HD.out u' b' w' h hI ha hs)
      clear ha hb HS HD
      go_enter Tryd.func30, Tryd.ntmps30
      go_wp2_with fail
      refine Calls.mono HA.out ?_
      rintro e w1 ⟨rfl, hb1⟩
      go_wp2_with fail
      refine Calls.mono (HB.out _ hb1) ?_
      rintro e w2 ⟨rfl, hb2⟩
      have hB := belowTo hb1 hb2
      clear hb1 hb2
      go_wp2_with fail
      refine Calls.mono (HS2.out _ hB) ?_
      rintro e w3 ⟨v3, rfl, hI, hb3⟩
      have hB3 := belowTo hB hb3
      have hI3 := hI.lower hB.size
      have hs3 := hB3.size
      clear hI hb3
      go_wp2_with fail
      refine Calls.mono (HD2.out v3 _ _ hB3 hI3 hs3) ?_
      rintro e w4 ⟨v4, rfl, hI4, hb4⟩
      have HI4 := Lib.hid hI4
      have hB4 := belowTo hB3 hb4
      clear hI4 hI3 hb4 hB3
      go_wp2
      go_returns
      exact ⟨_, rfl, HI4.out, hB4⟩
set_option maxHeartbeats 4000000 in
theorem specDivisorTimes_any (v : Value) (l : List V2) (u1 : Value) (a : List Int) (m : Int) (w : World) (hl : ReadsVecs w v l) (h1 : ReadsInts w u1 a) :
    Calls Tryd.prog 32 #[v, u1, .int .i64 m] w (GivesIntsOk w (gV (timDB l a m) (timesL a m)) (timDB l a m)) := by
  obtain ⟨i0, hi, hz0, hz1, hz2⟩ := info_parts infoInt
  have HA := Lib.hid (specDivisorIn_any v l u1 a w hl h1)
  have HE := Lib.hid (fun w' => Ints.empty w')
  have HK := Lib.hid (fun w' => l6In_any m (-100) 100 w')
  have hz : (decide ((-100 : Int) ≤ m) && decide (m ≤ 100)) = cfB m := rfl
  rw [hz] at HK
  have HS := Lib.hid (fun u0 w' (hb : Below w.heap.size w w') (h0 : ReadsInts w' u0 (List.replicate a.length 0)) (ha : divB l a = true) (hm : cfB m = true) => l4Sum_any u0 u1 (List.replicate a.length 0) a m w' h0 (h1.below hb) (by simp) (by have := div_len ha; have := (div_in ha).2.1; simp; omega) (by
    intro j
    by_cases hj : j < a.length
    · simp [gz, hj]
    · rw [gz_out (by simp; omega)]; omega) (bnd_big (div_bnd ha) (by omega)) (cfB_in hm))
  rw [times_is] at HS
  have HD := Lib.hid (fun u' b' w' (hb : Below w.heap.size w w') (hI : Ints w' b' u' (timesL a m)) (ha : divB l a = true) (hs : b' ≤ (w' : World).heap.size) => l4Done_any v l u' (timesL a m) b' w' (hl.below hb) hI (by rw [timesL_len]; have := div_len ha; have := (div_in ha).2.1; omega) hs)
  have HLen : Hid (divB l a = true → a.length ≤ 20) := fun h => by have := div_len h; have := (div_in h).2.1; omega
  obtain ⟨p1, q1, rfl, _⟩ := h1.len
  unfold timDB
  clear hl h1 hz
  cases ha : divB l a
  · rw [ha] at HA
    clear ha HS HD HK HLen
    go_enter Tryd.func32, Tryd.ntmps32
    go_wp2_with fail
    refine Calls.mono HA.out ?_
    rintro e w1 ⟨rfl, hb1⟩
    have hs1 := hb1.size
    have HE2 := Lib.hid ((HE.out w1).lower hs1)
    go_wp2
    go_returns
    exact ⟨_, rfl, HE2.out, by go_grown⟩
  · cases hm : cfB m
    · rw [ha] at HA
      rw [hm] at HK
      clear ha hm HS HD HLen
      go_enter Tryd.func32, Tryd.ntmps32
      go_wp2_with fail
      refine Calls.mono HA.out ?_
      rintro e w1 ⟨rfl, hb1⟩
      go_wp2_with fail
      refine Calls.mono (HK.out _) ?_
      rintro e w2 ⟨rfl, rfl⟩
      have hs2 := hb1.size
      have HE2 := Lib.hid ((HE.out w1).lower hs2)
      go_wp2
      go_returns
      exact ⟨_, rfl, HE2.out, by go_grown⟩
    · rw [ha] at HA
      rw [hm] at HK
      have HS2 := Lib.hid (fun u0 w' h h0 => HS.out u0 w' h h0 ha hm)
      have HD2 := Lib.hid (fun u' b' w' h hI hs => HD.out u' b' w' h hI ha hs)
      have hlen := HLen.out ha
      obtain ⟨n, hn⟩ : ∃ n, n = a.length := ⟨_, rfl⟩
      have HN := Lib.hid hn
      rw [← hn] at HA HS2 hlen ⊢
      clear ha hm HS HD hn HLen
      go_enter Tryd.func32, Tryd.ntmps32
      go_wp2_with fail
      refine Calls.mono HA.out ?_
      rintro e w1 ⟨rfl, hb1⟩
      go_wp2_with fail
      refine Calls.mono (HK.out _) ?_
      rintro e w2 ⟨rfl, rfl⟩
      have hs2 := hb1.size
      go_wp2_with (at_make; refine wpList_make_full _ rfl _ _ 23 rfl w1.heap.size 3 i0 (.int .i64 0) 1 Tryd.underlying23 hi hz0 hz1 .i64 .i64 _ _ n rfl rfl rfl rfl ?c1 ?c2 ?c3 ?_)
      case c1 => rw [hz2]; omega
      case c2 => unfold maxLen; omega
      case c3 => exact Nat.le_refl _
      intro w3 hown hgrow
      have hB3 : Below w1.heap.size w1 w3 := (Below.refl _ w1).grown hgrow (Nat.le_refl _) (fun k e => by cases e)
      have hB := hb1.trans (hB3.mono hs2)
      have h0 : Ints w3 w1.heap.size (.slice (some ⟨w1.heap.size, 0, none⟩) n n) (List.replicate n 0) := by
        have e : intsV (List.replicate n 0) = (madeCells #[Value.int .i64 0] n).toList := by
          refine List.ext_getElem (by simp [intsV, madeCells]) (fun i h1 h2 => ?_)
          simp [intsV, madeCells, Nat.mod_one]
        unfold Ints
        rw [List.length_replicate, e]
        simpa using hown
      have h0r := h0.reads (by simp; omega)
      clear hown hgrow hB3
      go_wp2_with fail
      refine Calls.mono (HS2.out _ _ hB h0r) ?_
      rintro e w4 ⟨v4, rfl, hI, hb4⟩
      have hB4 := belowTo hB hb4
      have hI4 := hI.lower hB.size
      have hs4 := hB4.size
      clear hI hb4 h0 h0r
      go_wp2_with fail
      refine Calls.mono (HD2.out v4 _ _ hB4 hI4 hs4) ?_
      rintro e w5 ⟨v5, rfl, hI5, hb5⟩
      have HI5 := Lib.hid hI5
      have hB5 := belowTo hB4 hb5
      clear hI5 hI4 hb5 hB4
      go_wp2
      go_returns
      exact ⟨_, rfl, HI5.out, hB5⟩
set_option maxHeartbeats 4000000 in
theorem specDivisorCanonical_any (v : Value) (l : List V2) (w : World) (hl : ReadsVecs w v l) :
    Calls Tryd.prog 44 #[v] w (GivesIntsOk w (gV (smoothB l) (canL l.length)) (smoothB l)) := by
  have HF := Lib.hid (specFanSmooth_any v l w hl)
  have HC := Lib.hid (fun w' (hb : Below w.heap.size w w') (h : smoothB l = true) => l4Canonical_any v l w' (hl.below hb) (by have := smooth_len h; omega))
  have HE := Lib.hid (fun w' => Ints.empty w')
  clear hl
  cases hb : smoothB l
  · rw [hb] at HF
    clear hb HC
    go_enter Tryd.func44, Tryd.ntmps44
    go_wp2_with fail
    refine Calls.mono HF.out ?_
    rintro e w1 ⟨rfl, hb1⟩
    have hs1 := hb1.size
    have HE2 := Lib.hid ((HE.out w1).lower hs1)
    go_wp2
    go_returns
    exact ⟨_, rfl, HE2.out, by go_grown⟩
  · rw [hb] at HF HC
    clear hb
    go_enter Tryd.func44, Tryd.ntmps44
    go_wp2_with fail
    refine Calls.mono HF.out ?_
    rintro e w1 ⟨rfl, hb1⟩
    have hs1 := hb1.size
    go_wp2_with fail
    refine Calls.mono (HC.out _ hb1 (by simp)) ?_
    rintro e w2 ⟨v2, rfl, hI, hb2⟩
    have HI2 := Lib.hid (hI.lower hs1)
    have hB := belowTo hb1 hb2
    clear hI hb1 hb2
    go_wp2
    go_returns
    exact ⟨_, rfl, HI2.out, hB⟩
set_option maxHeartbeats 4000000 in
theorem specDivisorOf_any (v : Value) (l : List V2) (x y : Int) (w : World) (hl : ReadsVecs w v l) :
    Calls Tryd.prog 24 #[v, .agg #[.int .i64 (x), .int .i64 (y)]] w (GivesIntsOk w (gV (ofDB l x y) (trivL l (x, y))) (ofDB l x y)) := by
  have HF := Lib.hid (fun w' (hb : Below w.heap.size w w') => specFanSmooth_any v l w' (hl.below hb))
  have HE := Lib.hid (fun w' => Ints.empty w')
  have HV := Lib.hid (fun w' => specVecIn_any x y w')
  have HO := Lib.hid (fun w' (hb : Below w.heap.size w w') (h : smoothB l = true) (hv : vecB x y = true) => l4Of_any v l x y w' (hl.below hb) (by have := smooth_len h; omega) (by have := smooth_len h; omega) (smooth_all h).1 (by have := szs hv; omega))
  have HD := Lib.hid (fun u' b' w' (hb : Below w.heap.size w w') (hI : Ints w' b' u' (trivL l (x, y))) (h : smoothB l = true) (hs : b' ≤ (w' : World).heap.size) => l4Done_any v l u' (trivL l (x, y)) b' w' (hl.below hb) hI (by rw [trivL_len]; have := smooth_len h; omega) hs)
  unfold ofDB
  clear hl
  cases hs : smoothB l
  · rw [hs] at HF
    clear hs HO HD HV
    go_enter Tryd.func24, Tryd.ntmps24
    go_wp2_with fail
    refine Calls.mono (HF.out _ (by go_grown)) ?_
    rintro e w1 ⟨rfl, hb1⟩
    have hB : Below w.heap.size w w1 := belowTo (by go_grown) hb1
    have hs1 := hB.size
    have HE2 := Lib.hid ((HE.out w1).lower hs1)
    clear hb1
    go_wp2
    go_returns
    exact ⟨_, rfl, HE2.out, by go_grown⟩
  · cases hv : vecB x y
    · rw [hs] at HF
      rw [hv] at HV
      clear hs hv HO HD
      go_enter Tryd.func24, Tryd.ntmps24
      go_wp2_with fail
      refine Calls.mono (HF.out _ (by go_grown)) ?_
      rintro e w1 ⟨rfl, hb1⟩
      have hB : Below w.heap.size w w1 := belowTo (by go_grown) hb1
      have c0 : w1.cell? ⟨w.heap.size, 0, none⟩ = some (.int .i64 x) := (hb1.cell (p := ⟨w.heap.size, 0, none⟩) (by simp)).trans (by simp)
      have c1 : w1.cell? ⟨w.heap.size, 1, none⟩ = some (.int .i64 y) := (hb1.cell (p := ⟨w.heap.size, 1, none⟩) (by simp)).trans (by simp)
      clear hb1
      go_wp2_with fail
      refine Calls.mono (HV.out _) ?_
      rintro e w2 ⟨rfl, hb2⟩
      have hB2 := belowTo hB hb2
      have hs2 := hB2.size
      have HE2 := Lib.hid ((HE.out w2).lower hs2)
      clear hb2 c0 c1
      go_wp2
      go_returns
      exact ⟨_, rfl, HE2.out, by go_grown⟩
    · rw [hs] at HF
      rw [hv] at HV
      have HO2 := Lib.hid (fun w' h => HO.out w' h hs hv)
      have HD2 := Lib.hid (fun u' b' w' h hI hq => HD.out u' b' w' h hI hs hq)
      clear hs hv HO HD
      go_enter Tryd.func24, Tryd.ntmps24
      go_wp2_with fail
      refine Calls.mono (HF.out _ (by go_grown)) ?_
      rintro e w1 ⟨rfl, hb1⟩
      have hB : Below w.heap.size w w1 := belowTo (by go_grown) hb1
      have c0 : w1.cell? ⟨w.heap.size, 0, none⟩ = some (.int .i64 x) := (hb1.cell (p := ⟨w.heap.size, 0, none⟩) (by simp)).trans (by simp)
      have c1 : w1.cell? ⟨w.heap.size, 1, none⟩ = some (.int .i64 y) := (hb1.cell (p := ⟨w.heap.size, 1, none⟩) (by simp)).trans (by simp)
      have s0 : w.heap.size < w1.heap.size := cell_lt c0
      clear hb1
      go_wp2_with fail
      refine Calls.mono (HV.out _) ?_
      rintro e w2 ⟨rfl, hb2⟩
      have hB2 := belowTo hB hb2
      have d0 := (hb2.cell (p := ⟨w.heap.size, 0, none⟩) s0).trans c0
      have d1 := (hb2.cell (p := ⟨w.heap.size, 1, none⟩) s0).trans c1
      clear hb2 c0 c1
      go_wp2_with fail
      refine Calls.mono (HO2.out _ hB2) ?_
      rintro e w3 ⟨v3, rfl, hI, hb3⟩
      have hB3 := belowTo hB2 hb3
      have hI3 := hI.lower hB2.size
      have hs3 := hB3.size
      clear hI hb3 d0 d1
      go_wp2_with fail
      refine Calls.mono (HD2.out v3 _ _ hB3 hI3 hs3) ?_
      rintro e w4 ⟨v4, rfl, hI4, hb4⟩
      have HI4 := Lib.hid hI4
      have hB4 := belowTo hB3 hb4
      clear hI4 hI3 hb4 hB3
      go_wp2
      go_returns
      exact ⟨_, rfl, HI4.out, hB4⟩
end Go.Proofs.YtcieihbknfeddabDoor
