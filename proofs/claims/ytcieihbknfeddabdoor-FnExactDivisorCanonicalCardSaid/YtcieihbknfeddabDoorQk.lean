/- The canonical divisor: slices.Repeat over one number; the program. -/
import Derived.Test.YtcieihbknfeddabDoorBe
import Derived.Test.YtcieihbknfeddabDoorQh
import Derived.Test.YtcieihbknfeddabDoorQf
import Derived.Test.YtcieihbknfeddabDoorB7
import Derived.Laws.CopyOwn
import Derived.Laws.Bits64b
namespace Go.Proofs.YtcieihbknfeddabDoor
open Go.RowKit

theorem mask32 (a : Nat) (ha : a < 4294967296) : bits .and .u64 (a : Int) 4294967295 = (a : Int) := by
  have h := bits_and_u64_nat a 4294967295 (by omega) (by omega)
  have e : a &&& 4294967295 = a % 4294967296 := Nat.and_two_pow_sub_one_eq_mod a 32
  rw [e, Nat.mod_eq_of_lt ha] at h
  exact h
set_option maxHeartbeats 4000000 in
theorem mul64_one (n : Nat) (hn : n ≤ 1000) (w : World) :
    Calls Tryd.prog 151 #[.int .u64 1, .int .u64 (n : Int)] w fun e w' => e = .returned (.tuple #[.int .u64 0, .int .u64 (n : Int)]) ∧ w' = w := by
  have m1 : bits .and .u64 1 4294967295 = 1 := mask32 1 (by omega)
  have m2 : bits .and .u64 (n : Int) 4294967295 = (n : Int) := mask32 n (by omega)
  have m3 : bits .and .u64 0 4294967295 = 0 := mask32 0 (by omega)
  have d1 : (n : Int) / 4294967296 = 0 := by omega
  have d2 : (n : Int) / 2 ^ 32 = 0 := by omega
  have q1 : IntKind.u64.wrap (n : Int) = (n : Int) := by rw [IntKind.wrap_u64]; omega
  go_enter Tryd.func151, Tryd.ntmps151
  go_wp2
  go_returns
  exact ⟨rfl, rfl⟩
set_option maxHeartbeats 4000000 in
theorem mul_one_any (n : Nat) (hn : n ≤ 1000) (w : World) :
    Calls Tryd.prog 136 #[.int .u64 1, .int .u64 (n : Int)] w fun e w' => e = .returned (.tuple #[.int .u64 0, .int .u64 (n : Int)]) ∧ w' = w := by
  have HM := Lib.hid (fun w' => mul64_one n hn w')
  go_enter Tryd.func136, Tryd.ntmps136
  go_wp2_with fail
  refine Calls.mono (HM.out _) ?_
  rintro e w1 ⟨rfl, rfl⟩
  go_wp2
  go_returns
  exact ⟨rfl, rfl⟩
/-- the first k numbers are -1, those behind them still 0 -/
def repL (n k : Nat) : List Int := List.replicate k (-1) ++ List.replicate (n - k) 0
theorem rep_len {n k : Nat} (h : k ≤ n) : (repL n k).length = n := by simp [repL]; omega
theorem rep_all (n : Nat) : repL n n = canL n := by simp [repL, canL]
theorem rep_lenV {n k : Nat} (h : k ≤ n) : (intsV (repL n k)).length = n := by simp [intsV, rep_len h]
theorem rep_get {n k j : Nat} (hj : j < k) : (intsV (repL n k))[j]? = some (.int .i64 (-1)) := by
  simp [intsV, repL, List.getElem?_append, hj]
theorem rep_splice {n k m : Nat} (h : k + m ≤ n) : splice (intsV (repL n k)) k (intsV (List.replicate m (-1))) = intsV (repL n (k + m)) := by
  unfold splice intsV repL
  simp only [List.map_append, List.map_replicate, List.length_replicate]
  rw [List.take_append_of_le_length (by simp), List.take_of_length_le (by simp), List.drop_append]
  simp only [List.length_replicate, List.drop_replicate]
  rw [show k - (k + m) = 0 by omega, List.replicate_zero, List.nil_append, show n - k - (k + m - k) = n - (k + m) by omega, ← List.append_assoc, List.replicate_append_replicate]
theorem cell_row {w : World} {g j : Nat} {cur : List Value} {t : TypeId} {v : Value} (hg : w.heap[g]? = some (.cells cur.toArray t (0, 0))) (h : cur[j]? = some v) : w.cell? ⟨g, j, none⟩ = some v := by
  simp [World.cell?, hg, h]
set_option maxRecDepth 100000 in
set_option maxHeartbeats 16000000 in
theorem repeat_any (bx n : Nat) (w : World) (hx : w.cell? ⟨bx, 0, none⟩ = some (.int .i64 (-1))) (h0 : 0 < n) (hn : n ≤ 1000) :
    Calls Tryd.prog 112 #[.slice (some ⟨bx, 0, none⟩) 1 1, .int .i64 (n : Int)] w (GivesInts w (canL n)) := by
  obtain ⟨i0, hi, hz0, hz1, hz2⟩ := info_parts infoInt
  have hsz : (Tryd.prog.info? 3).map (·.size) = some 1 := by rw [hi]; simp [hz1]
  have HM := Lib.hid (fun w' => mul_one_any n hn w')
  have q1 : IntKind.u64.wrap (n : Int) = (n : Int) := by rw [IntKind.wrap_u64]; omega
  have q2 : IntKind.i64.wrap (n : Int) = (n : Int) := by rw [IntKind.wrap_i64]; omega
  have q3 : ¬ (n : Int) < 0 := by omega
  have q4 : ¬ (9223372036854775807 : Int) < (n : Int) := by omega
  have hbx := cell_lt hx
  go_enter Tryd.func112, Tryd.ntmps112
  go_wp2_with fail
  refine Calls.mono (HM.out _) ?_
  rintro e w1 ⟨rfl, rfl⟩
  go_wp2_with (at_make; refine wpList_make_full _ rfl _ _ 23 rfl w1.heap.size 3 i0 (.int .i64 0) 1 Tryd.underlying23 hi hz0 hz1 .i64 .i64 _ _ n rfl rfl rfl rfl ?c1 ?c2 ?c3 ?_)
  case c1 => rw [hz2]; omega
  case c2 => unfold maxLen; omega
  case c3 => exact Nat.le_refl _
  intro w2 hown hgrow
  have hB2 : Below w1.heap.size w1 w2 := (Below.refl _ w1).grown hgrow (Nat.le_refl _) (fun k e => by cases e)
  have hz : (madeCells #[Value.int .i64 0] n).toList = intsV (repL n 0) := by
    refine List.ext_getElem (by simp [intsV, repL, madeCells]) (fun i h1 h2 => ?_)
    simp [intsV, repL, madeCells, Nat.mod_one]
  have hh : w2.heap[w1.heap.size]? = some (.cells (intsV (repL n 0)).toArray 3 (0, 0)) := by
    obtain ⟨hlen, h | ⟨g, cap, cur, hv, hb, hh, hc, hcm, hcs, hct⟩⟩ := hown
    · have := h.2; omega
    · injection hv with h1 h2 h3
      injection h1 with h1
      injection h1 with h1 _ _
      subst h1 h3
      rw [hh]
      have e : cur.toList = intsV (repL n 0) := by
        rw [← hz]
        have e2 : cur.toList.take (n * 1) = cur.toList := List.take_of_length_le (by simp; omega)
        exact e2.symm.trans hct
      rw [← e]
  have hbx2 : w2.cell? ⟨bx, 0, none⟩ = some (.int .i64 (-1)) := (hB2.cell (p := ⟨bx, 0, none⟩) hbx).trans hx
  have HS1 := Lib.hid (rep_splice (n := n) (k := 0) (m := 1) (by omega))
  have HS := Lib.hid (fun k m (h : k + m ≤ n) => rep_splice (n := n) (k := k) (m := m) h)
  have HRl := Lib.hid (fun k (h : k ≤ n) => rep_lenV (n := n) (k := k) h)
  have HRg := Lib.hid (fun k j (h : j < k) => rep_get (n := n) (k := k) (j := j) h)
  have HH := Lib.hid hh
  have HX := Lib.hid hbx2
  have hbs := hB2.size
  clear hown hgrow hz hh hbx2 hx
  go_wp2_with (refine wpList_copy_splice rfl _ _ 23 23 rfl 3 Tryd.underlying23 hsz _ _ _ _ _ _ rfl rfl w1.heap.size 0 (intsV (repL n 0)) 3 HH.out (intsV (List.replicate 1 (-1))) ?d1 ?d2 ?d3 (ints_one _) w1.heap.size w1 hB2 (Nat.le_refl _) ?_)
  case d1 => simp [intsV]; exact (Nat.min_eq_left (by omega)).symm
  case d2 =>
    intro _ j u hj
    match j, hj with
    | 0, hj => simp [intsV] at hj; subst hj; exact HX.out
    | j + 1, hj => simp [intsV] at hj
  case d3 => rw [HRl.out 0 (by omega)]; simp [intsV]; omega
  intro w3 hh3 hB3
  have HH3 : Hid (w3.heap[w1.heap.size]? = some (.cells (intsV (repL n (0 + 1))).toArray 3 (0, 0))) := by rw [← HS1.out]; exact hh3.out
  clear hh3 HH HX HS1
  go_wp2
  go_loopw [8] (fun s wr => ∃ k : Nat, s = .int .i64 k ∧ 1 ≤ k ∧ k ≤ n ∧ Hid (wr.heap[w1.heap.size]? = some (.cells (intsV (repL n k)).toArray 3 (0, 0))) ∧ Below w1.heap.size w1 wr) (fun s _ => n - (intOf s).toNat)
  case atStart => exact ⟨1, by simp [intsV], Nat.le_refl _, by omega, HH3, hB3⟩
  case round =>
    obtain ⟨k, rfl, hk1, hk, HR, hB⟩ := hrel
    have i1 : (0 : Int) ≤ (k : Int) := by omega
    by_cases hlt : k < n
    · have i2 : (k : Int) < (n : Int) := by omega
      have i3 : (k : Int) ≤ (n : Int) := by omega
      have i4 : k ≤ n := hk
      go_wp2
      have hnk : ¬ n = k := by omega
      refine wp_region_any (by kernel_rfl) ?_
      try (change wpAny _ _ _ _ _ _ _ (World.drew _))
      refine wpAny_take (i := 0) (v := ?_) rfl (by kernel_rfl) (by kernel_rfl) (by kernel_rfl) (fun _ _ _ h => h) (Or.inl ⟨by rfl, ?_⟩) ?_
      rotate_left
      focus (intro w0; go_simp; try with_reducible rfl)
      refine wpAny_take (i := 1) (v := ?_) rfl (by kernel_rfl) (by kernel_rfl) (by kernel_rfl) (fun _ _ _ h => h) (Or.inl ⟨by rfl, ?_⟩) ?_
      rotate_left
      focus (intro w0; go_simp; try with_reducible rfl)
      refine wpAny_take (i := 2) (v := ?_) rfl (by kernel_rfl) (by kernel_rfl) (by kernel_rfl) (fun _ _ _ h => h) (Or.inl ⟨by rfl, ?_⟩) ?_
      rotate_left
      focus (intro w0; go_simp; try with_reducible rfl)
      refine wpAny_take (i := 3) (v := ?_) rfl (by kernel_rfl) (by kernel_rfl) (by kernel_rfl) (fun _ _ _ h => h) (Or.inl ⟨by rfl, ?_⟩) ?_
      rotate_left
      focus (intro w0; go_simp; try with_reducible rfl)
      refine wpAny_take (i := 4) (v := ?_) rfl (by kernel_rfl) (by kernel_rfl) (by kernel_rfl) (fun _ _ _ h => h) (Or.inl ⟨by rfl, ?_⟩) ?_
      rotate_left
      focus (intro w0; go_simp; try with_reducible rfl)
      refine wpAny_take (i := 5) (v := ?_) rfl (by kernel_rfl) (by kernel_rfl) (by kernel_rfl) (fun _ _ _ h => h) (Or.inl ⟨by rfl, ?_⟩) ?_
      rotate_left
      focus (intro w0; go_simp; try with_reducible rfl)
      refine wpAny_take (i := 6) (v := ?_) rfl (by kernel_rfl) (by kernel_rfl) (by kernel_rfl) (fun _ _ _ h => h) (Or.inl ⟨by rfl, ?_⟩) ?_
      rotate_left
      focus (intro w0; go_simp; try with_reducible rfl)
      refine wpAny_seq 7 rfl (by kernel_rfl) ?_
      simp only [List.drop_succ_cons, List.drop_zero]
      go_simp
      have HSk := Lib.hid (HS.out k (Nat.min k (n - k)) (by have := Nat.min_le_right k (n - k); show k + min k (n - k) ≤ n; omega))
      have hcs : (intsV (List.replicate (Nat.min k (n - k)) (-1))).length = Nat.min k (n - k) := by simp [intsV]
      have HCs := Lib.hid hcs
      have hml : Nat.min k (n - k) ≤ k := Nat.min_le_left _ _
      have hmr : Nat.min k (n - k) ≤ n - k := Nat.min_le_right _ _
      have hm1 : 1 ≤ Nat.min k (n - k) := Nat.le_min.2 ⟨hk1, by omega⟩
      have HM0 : Hid (Nat.min k (n - k) = Nat.min k (n - k)) := rfl
      obtain ⟨m, hm⟩ : ∃ m, m = Nat.min k (n - k) := ⟨_, rfl⟩
      have HMm := Lib.hid hm
      rw [← hm] at HSk HCs hml hmr hm1
      have hBd : Below w1.heap.size w1 wr.drew := hB.trans (by go_grown)
      clear hcs hm
      have hgd : wr.drew.heap[w1.heap.size]? = some (.cells (intsV (repL n k)).toArray 3 (0, 0)) := HR.out
      refine wpList_copy_splice rfl (.tmp 41) (.tmp 44) 23 23 rfl 3 Tryd.underlying23 hsz (some ⟨w1.heap.size, k, none⟩) (some ⟨w1.heap.size, 0, none⟩) (n - k) (n - k) k n (by rfl) (by rfl) w1.heap.size k (intsV (repL n k)) 3 hgd (intsV (List.replicate m (-1))) ?d1 ?d2 ?d3 (ints_one _) w1.heap.size w1 hBd (Nat.le_refl _) ?_
      case d1 => rw [HCs.out]; exact HMm.out
      case d2 =>
        intro _
        refine ⟨rfl, _, rfl, ?_⟩
        intro j u hj
        have hjm : j < m := by
          have := (List.getElem?_eq_some_iff.1 hj).1
          rw [HCs.out] at this
          exact this
        rw [addr_add, Nat.zero_add]
        have e1 : u = .int .i64 (-1) := by
          simp [intsV, hjm] at hj
          exact hj.symm
        subst e1
        exact cell_row hgd (HRg.out k j (by omega))
      case d3 => rw [HRl.out k hk, HCs.out]; omega
      intro w4 hh4 hB4
      have HH4 : Hid (w4.heap[w1.heap.size]? = some (.cells (intsV (repL n (k + m))).toArray 3 (0, 0))) := by rw [← HSk.out]; exact hh4.out
      rw [HCs.out]
      have q5 : IntKind.i64.wrap ((k : Int) + (m : Int)) = (k : Int) + (m : Int) := by rw [IntKind.wrap_i64]; omega
      clear hh4 HSk hgd HR
      go_wp2
      go_roundw
      case rel => exact ⟨k + m, by go_num, by omega, by omega, HH4, hB4⟩
      case measure => simp [intOf]; omega
    · obtain rfl : k = n := by omega
      have i2 : ¬ (k : Int) < (k : Int) := by omega
      have HI : Hid (Ints wr w1.heap.size (.slice (some ⟨w1.heap.size, 0, none⟩) k k) (canL k)) := by
        have h := HR.out
        rw [rep_all] at h
        have e : (canL k).length = k := by simp [canL]
        have e3 : (intsV (canL k)).length = k := by simp [intsV, e]
        refine ⟨by simp [intsV], .inr ⟨w1.heap.size, k, _, by rw [e], Nat.le_refl _, h, by rw [e]; exact Nat.le_refl _, by unfold maxLen; omega, by simp [intsV, e], ?_⟩⟩
        exact List.take_of_length_le (by simp [e3, e])
      go_wp2
      go_returns
      exact ⟨_, rfl, HI.out, hB⟩
set_option maxHeartbeats 4000000 in
theorem canonical_any (g n : Nat) (w : World) (c1 : w.cell? ⟨g, 1, none⟩ = some (.int .i64 (n : Int))) (h0 : 0 < n) (hn : n ≤ 1000) :
    Calls Tryd.prog 83 #[.pointer (some ⟨g, 0, none⟩)] w (GivesDiv w g (canL n)) := by
  have hlt := cell_lt c1
  have HR := Lib.hid (fun bx w' (hx : (w' : World).cell? ⟨bx, 0, none⟩ = some (.int .i64 (-1))) => repeat_any bx n w' hx h0 hn)
  have HLn : Hid ((canL n).length = n) := by show _ = _; simp [canL]
  go_enter Tryd.func83, Tryd.ntmps83
  go_wp2_with fail
  refine Calls.mono (HR.out _ _ (by first | (go_cell; done) | (go_simp; done) | (simp; done))) ?_
  rintro e w1 ⟨v2, rfl, hI, hb1⟩
  have hB : Below w.heap.size w w1 := belowTo (by go_grown) hb1
  have hw1 := hb1.size
  simp only [World.size_alloc] at hw1
  have r0 : w1.cell? ⟨w.heap.size, 0, none⟩ = some (.pointer none) := (hb1.cell (p := ⟨w.heap.size, 0, none⟩) (by simp; omega)).trans (by first | (go_cell; done) | (go_simp; done) | (simp; done))
  have r1 : w1.cell? ⟨w.heap.size, 1, none⟩ = some (.slice none 0 0) := (hb1.cell (p := ⟨w.heap.size, 1, none⟩) (by simp; omega)).trans (by first | (go_cell; done) | (go_simp; done) | (simp; done))
  have f0 : w1.frozen? ⟨w.heap.size, 0, none⟩ = false := (hb1.frozen (p := ⟨w.heap.size, 0, none⟩) (by simp; omega)).trans (by first | (go_cell; done) | (go_simp; done) | (simp; done))
  have f1 : w1.frozen? ⟨w.heap.size, 1, none⟩ = false := (hb1.frozen (p := ⟨w.heap.size, 1, none⟩) (by simp; omega)).trans (by first | (go_cell; done) | (go_simp; done) | (simp; done))
  have hI2 := hI.lower (base' := w.heap.size + 1) (by simp)
  obtain ⟨a9, c9, hv9, _⟩ := (hI.reads (show (canL n).length ≤ 1152921504606846976 by rw [HLn.out]; omega)).len
  subst hv9
  have HI2 := Lib.hid hI2
  clear hI hI2 hb1 HR
  go_wp2
  refine bodyPost_ret (by simp [results, Tryd.results83, go_sem, *]; try rfl) rfl ?_
  exact ⟨_, rfl, Ints.lower (base := w.heap.size + 1) (by first | exact HI2.out | exact HI2.out.setLow (by omega) _ | exact (HI2.out.setLow (by omega) _).setLow (by omega) _) (by omega), by go_grown⟩
theorem can_fit (n : Nat) : fitB n (canL n) = true := by
  unfold fitB
  have h1 : (canL n).length = n := by simp [canL]
  have h2 : cfsB (canL n) = true := cfs_good (fun k hk => by rw [can_gz (by omega)]; decide)
  simp [h1, h2]
set_option maxHeartbeats 8000000 in
theorem divisorCanonical_any (v : Value) (l : List V2) (w : World) (hl : ReadsVecs w v l) (hg : EtOk w) :
    Calls Tryd.prog 45 #[v] w (GivesIntsOk w (gV (smoothB l) (canL l.length)) (smoothB l)) := by
  have HO := Lib.hid (smoothFanOf_any v l w hl hg)
  have HG := Lib.hid hg
  have HS : Hid (smoothB l = true → 0 < l.length ∧ l.length ≤ 20) := fun h => ⟨by have := smooth_len h; omega, (smooth_len h).2⟩
  clear hl hg
  cases hs : smoothB l
  · rw [hs] at HO
    clear HS hs
    go_enter Tryd.func45, Tryd.ntmps45
    go_wp2_with fail
    refine Calls.mono HO.out ?_
    rintro e w1 ⟨⟨h, _⟩ | ⟨_, rfl⟩, hb1⟩
    · cases h
    go_wp2
    go_returns
    exact ⟨_, rfl, Ints.nil _ _, hb1⟩
  · rw [hs] at HO
    obtain ⟨h0, h20⟩ := HS.out hs
    clear HS hs
    go_enter Tryd.func45, Tryd.ntmps45
    go_wp2_with fail
    refine Calls.mono HO.out ?_
    rintro e w1 ⟨⟨_, g, ns, rfl, hF, hn⟩ | ⟨h, _⟩, hb1⟩
    case inr => cases h
    have hnl : ns.length = l.length := by rw [← hn, rays_len]
    have c1 := hF.head.c1
    rw [hnl] at c1
    have hlt := cell_lt c1
    have HC := Lib.hid (canonical_any g l.length w1 c1 h0 (by omega))
    have hlc : (canL l.length).length ≤ 1152921504606846976 := by simp [canL]; omega
    have HT := Lib.hid (fun v' base w' (hb : Below w1.heap.size w1 w') (hI : Ints w' base v' (canL l.length)) => by
      have h := told_any g l.length v' (canL l.length) w' (HG.out.below (belowTo hb1 hb)) ((hb.cell (p := ⟨g, 1, none⟩) hlt).trans c1) (hI.reads hlc) (by omega)
      rw [can_fit] at h
      exact h)
    have hs1 := hb1.size
    clear hF hn hnl c1 hlt h0 h20 hlc
    go_wp2_with fail
    refine Calls.mono HC.out ?_
    rintro e w2 ⟨v2, rfl, hI, hb2⟩
    have hB2 := belowTo hb1 hb2
    have hI2 := hI.lower hs1
    have HT2 := Lib.hid (HT.out v2 _ w2 hb2 hI2)
    clear hI hb2
    go_wp2_with fail
    refine Calls.mono HT2.out ?_
    rintro e w3 ⟨rfl, hb3⟩
    have hB3 := belowTo hB2 hb3
    have HI3 := Lib.hid (hI2.below hb3)
    clear hI2 hb3 hB2
    go_wp2
    go_returns
    exact ⟨_, rfl, HI3.out, hB3⟩
end Go.Proofs.YtcieihbknfeddabDoor
