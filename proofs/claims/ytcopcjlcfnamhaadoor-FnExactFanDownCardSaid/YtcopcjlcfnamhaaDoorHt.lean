/- Fans, the model's side: tidied; pieces of a list put together. -/
import Derived.Test.YtcopcjlcfnamhaaDoorHs
import Derived.Test.YtcopcjlcfnamhaaDoorGy
import Derived.Test.YtcopcjlcfnamhaaDoorB7
import Derived.Test.YtcopcjlcfnamhaaDoorB5
namespace Go.Proofs.YtcopcjlcfnamhaaDoor
open Go.RowKit

theorem cyc_piece {l : List V2} {s m q : Nat} (hq : q < m) (h : s + m ≤ l.length) : cyc ((l.drop s).take m) q = cyc l (s + q) := by
  rw [cyc_lt (by simp; omega), cyc_lt (by omega), List.getElem?_take_of_lt hq, List.getElem?_drop]
theorem piece_cells {wr : World} {l : List V2} {bb off s m : Nat} (hc : ∀ j, j < l.length → wr.cell? ⟨bb, off + j * 2, none⟩ = some (.int .i64 (cyc l j).1) ∧ wr.cell? ⟨bb, off + j * 2 + 1, none⟩ = some (.int .i64 (cyc l j).2)) (h : s + m ≤ l.length) :
    ∀ j u, (intsV (flat ((l.drop s).take m)))[j]? = some u → wr.cell? ((⟨bb, off + s * 2, none⟩ : Addr).add j) = some u := by
  intro j u hj
  have hml : ((l.drop s).take m).length = m := by simp; omega
  have hlen : j < (flat ((l.drop s).take m)).length := by
    have := (List.getElem?_eq_some_iff.1 hj).1
    simpa [intsV] using this
  have hj2 : j < 2 * m := by rw [flat_len, hml] at hlen; exact hlen
  rw [intsV_get _ _ hlen] at hj
  obtain ⟨e1, e2⟩ := flat_get ((l.drop s).take m) (j / 2) (by rw [hml]; omega)
  rw [cyc_piece (by omega) h] at e1 e2
  obtain ⟨c1, c2⟩ := hc (s + j / 2) (by omega)
  rcases Nat.mod_two_eq_zero_or_one j with h0 | h0
  · have : j / 2 * 2 = j := by omega
    rw [this] at e1
    rw [e1] at hj
    rw [← hj, ← c1]
    rw [show (⟨bb, off + s * 2, none⟩ : Addr).add j = ⟨bb, off + (s + j / 2) * 2, none⟩ from by unfold Addr.add; split <;> simp <;> omega]
  · have : j / 2 * 2 + 1 = j := by omega
    rw [this] at e2
    rw [e2] at hj
    rw [← hj, ← c2]
    rw [show (⟨bb, off + s * 2, none⟩ : Addr).add j = ⟨bb, off + (s + j / 2) * 2 + 1, none⟩ from by unfold Addr.add; split <;> simp <;> omega]
theorem piece_one (l : List Int) : ∀ u ∈ intsV l, u.oneCell' = true := by
  intro u hu
  simp [intsV] at hu
  obtain ⟨a, _, rfl⟩ := hu
  rfl
theorem piece_len {l : List V2} {s m : Nat} (h : s + m ≤ l.length) : (intsV (flat ((l.drop s).take m))).length = m * 2 := by
  have hml : ((l.drop s).take m).length = m := by simp; omega
  simp [intsV, flat_len, hml]
  omega
theorem Vecs.empty (w : World) : Vecs (w.alloc (.cells #[] 33)) w.heap.size (.slice (some ⟨w.heap.size, 0, none⟩) 0 0) [] :=
  World.ownsRow_made w #[] 0 (Nat.le_refl _) (by simp [maxLen]) rfl
theorem Vecs.join {w : World} {base n : Nat} {v : Value} {l m : List V2} (h : w.ownsRow base 33 2 v n (intsV (flat l) ++ intsV (flat m))) (hn : n = l.length + m.length) : Vecs w base v (l ++ m) := by
  unfold Vecs VRow
  rw [flat_app, List.length_append, ← hn]
  have : intsV (flat l ++ flat m) = intsV (flat l) ++ intsV (flat m) := by simp [intsV]
  rw [this]
  exact h
theorem tidyAt_one (l : List V2) : tidyAt l (List.range 1) = 0 := by
  show (if aheadV (cyc l 0) (cyc l 0) then 0 else 0) = 0
  split <;> rfl
set_option maxHeartbeats 8000000 in
theorem l3Tidy_any (v : Value) (l : List V2) (w : World) (hl : ReadsVecs w v l) (h0 : 0 < l.length) (hm : l.length ≤ 1000) (hV : allVec l) (hZ : ∀ i, nzB (cyc l i).1 (cyc l i).2 = true) :
    Calls Tryd.prog 44 #[v] w (GivesVecs w (tidyL l)) := by
  obtain ⟨i0, hi, hz0, hz1, hz2⟩ := info_parts infoVec
  obtain ⟨bb, off, c, rfl, hc, hmm, hbb, hcs⟩ := hl.open (by omega)
  have HC := Lib.hid hcs
  have HCl := Lib.hid hcs
  have HK0 := Lib.hid (tidyAt_one l)
  have HKS := Lib.hid (fun k => tidy_snoc l (List.range k) k)
  have HKL := Lib.hid (fun k (hk : k ≤ l.length) => tidyAt_lt h0 (List.range k) (fun i hi => by have := List.mem_range.1 hi; omega))
  have HA := Lib.hid (fun i j w' => l1Ahead_any (cyc l i).1 (cyc l i).2 (cyc l j).1 (cyc l j).2 w' (hV i) (hV j) (hZ i) (hZ j))
  obtain ⟨n, hn⟩ : ∃ n, n = l.length := ⟨_, rfl⟩
  have HL := Lib.hid hn
  rw [← hn] at hc hmm h0 hm HKL HC ⊢
  clear hn hcs hl hV hZ
  go_enter Tryd.func44, Tryd.ntmps44
  go_wp2
  go_loopw [3, 4] (fun s3 s4 wr => ∃ k : Nat, k ≤ n ∧ 1 ≤ k ∧ s4 = .int .i64 k ∧ s3 = .int .i64 (tidyAt l (List.range k)) ∧ Below w.heap.size w wr) (fun _ s4 _ => n - (intOf s4).toNat)
  case atStart => exact ⟨1, by omega, by omega, rfl, by rw [HK0.out]; rfl, Below.refl _ _⟩
  case round =>
    obtain ⟨k, hk, hk1, rfl, rfl, hB⟩ := hrel
    have ht := HKL.out k hk
    have hbl := Nat.lt_of_lt_of_le hbb hB.size
    have i1 : (0 : Int) ≤ (k : Int) := by omega
    have i3 : (0 : Int) ≤ ((tidyAt l (List.range k) : Nat) : Int) := by omega
    have i4 : ((tidyAt l (List.range k) : Nat) : Int) < (n : Int) := by omega
    by_cases hlt : k < n
    · have i2 : (k : Int) < (n : Int) := by omega
      have HKk := Lib.hid (HKS.out k)
      rw [← List.range_succ] at HKk
      generalize tidyAt l (List.range k) = t at *
      obtain ⟨c1, c2⟩ := HC.out wr hB k hlt
      obtain ⟨d1, d2⟩ := HC.out wr hB t ht
      have HAk := Lib.hid (HA.out k t)
      have HB : Hid (aheadV (cyc l k) (cyc l t) = aheadB (cyc l k).1 (cyc l k).2 (cyc l t).1 (cyc l t).2) := rfl
      rw [HB.out] at HKk
      clear HB
      generalize aheadB (cyc l k).1 (cyc l k).2 (cyc l t).1 (cyc l t).2 = kk at HAk HKk
      generalize cyc l k = z1 at c1 c2 HAk
      generalize cyc l t = z2 at d1 d2 HAk
      obtain ⟨x1, y1⟩ := z1
      obtain ⟨x2, y2⟩ := z2
      dsimp only at c1 c2 d1 d2 HAk
      go_wp2
      refine wp_region_any (by kernel_rfl) ?_
      try (change wpAny _ _ _ _ _ _ _ (World.drew _))
      refine wpAny_take (i := 0) (v := ?_) rfl (by kernel_rfl) (by kernel_rfl) (by kernel_rfl) (fun _ _ _ h => h) (Or.inl ⟨by rfl, ?_⟩) ?_
      rotate_left
      focus (intro w0; go_simp; try with_reducible rfl)
      refine wpAny_take (i := 1) (v := ?_) rfl (by kernel_rfl) (by kernel_rfl) (by kernel_rfl) (fun _ _ _ h => h) (Or.inl ⟨by rfl, ?_⟩) ?_
      rotate_left
      focus (intro w0; go_simp; try with_reducible rfl)
      refine wpAny_take (i := 2) (v := ?_) rfl (by kernel_rfl) (by kernel_rfl) (by kernel_rfl) (fun _ _ _ h => h) (Or.inl ⟨by rfl, ?_⟩) ?_
      rotate_left
      focus (intro w0; go_simp; try with_reducible rfl)
      refine wpAny_take (i := 4) (v := ?_) rfl (by kernel_rfl) (by kernel_rfl) (by kernel_rfl) (fun _ _ _ h => h) (Or.inl ⟨by rfl, ?_⟩) ?_
      rotate_left
      focus (intro w0; go_simp; try with_reducible rfl)
      refine wpAny_take (i := 5) (v := ?_) rfl (by kernel_rfl) (by kernel_rfl) (by kernel_rfl) (fun _ _ _ h => h) (Or.inl ⟨by rfl, ?_⟩) ?_
      rotate_left
      focus (intro w0; go_simp; try with_reducible rfl)
      refine wpAny_take (i := 6) (v := ?_) rfl (by kernel_rfl) (by kernel_rfl) (by kernel_rfl) (fun _ _ _ h => h) (Or.inl ⟨by rfl, ?_⟩) ?_
      rotate_left
      focus (intro w0; go_simp; try with_reducible rfl)
      refine wpAny_ready (rs := [3, 7]) (by kernel_rfl) (by simp) (AllReady.cons rfl (fun K hK => ?_) (AllReady.cons rfl (fun K hK => ?_) (AllReady.nil)))
      focus
        go_simp
        refine hK _ _ ?_
        clear hK K
        refine wpAny_ready (rs := [7]) (by kernel_rfl) (by simp) (AllReady.cons rfl (fun K hK => ?_) (AllReady.nil))
        go_simp
        refine hK _ _ ?_
        clear hK K
        refine wpAny_seq 8 rfl (by kernel_rfl) ?_
        simp only [List.drop_succ_cons, List.drop_zero]
      rotate_left 1
      focus
        go_simp
        refine hK _ _ ?_
        clear hK K
        refine wpAny_ready (rs := [3]) (by kernel_rfl) (by simp) (AllReady.cons rfl (fun K hK => ?_) (AllReady.nil))
        go_simp
        refine hK _ _ ?_
        clear hK K
        refine wpAny_seq 8 rfl (by kernel_rfl) ?_
        simp only [List.drop_succ_cons, List.drop_zero]
      all_goals
        go_wp2_with fail
        refine Calls.mono (HAk.out _) ?_
        rintro e w2 ⟨rfl, hb2⟩
        replace hB := belowTo hB (undrew hb2)
        clear hb2 c1 c2 d1 d2
        cases kk
        · have HE : Hid (tidyAt l (List.range (k + 1)) = t) := HKk.out
          go_wp2
          go_roundw
          case rel => exact ⟨k + 1, by omega, by omega, by go_num, by rw [HE.out], hB⟩
          case measure => simp [intOf]; omega
        · have HE : Hid (tidyAt l (List.range (k + 1)) = k) := HKk.out
          go_wp2
          go_roundw
          case rel => exact ⟨k + 1, by omega, by omega, by go_num, by rw [HE.out], hB⟩
          case measure => simp [intOf]; omega
    · obtain rfl : k = n := by omega
      have i2 : ¬ (k : Int) < (k : Int) := by omega
      have hT : tidyAt l (List.range k) = tidyK l := by unfold tidyK; rw [HL.out]
      have HT := Lib.hid hT
      clear hT
      generalize tidyAt l (List.range k) = t at *
      have hcl := HC.out
      have hbs := hB.size
      have l1 : 0 + (k - t) ≤ 1000 := by omega
      have HOw : Hid (Vecs (wr.drew.alloc (.cells #[] 33)) w.heap.size (.slice (some ⟨wr.heap.size, 0, none⟩) 0 0) []) := (Vecs.empty wr.drew).lower hbs
      have hBd : Below w.heap.size w (wr.drew.alloc (.cells #[] 33)) := by go_grown
      have HBd := Lib.hid hBd
      have hbd : w.heap.size ≤ (wr.drew.alloc (.cells #[] 33)).heap.size := hBd.size
      have HBz := Lib.hid hbd
      clear hBd hbd
      have HR : Hid (([] ++ (l.drop t).take (k - t)) ++ (l.drop 0).take t = tidyL l) := by
        show _ = rot (tidyK l) l
        rw [← HT.out]
        unfold rot
        rw [List.take_of_length_le (by have := HL.out; simp; omega)]
        rfl
      have HT1 : Hid (t + (k - t) ≤ l.length) := by have := HL.out; show t + (k - t) ≤ l.length; omega
      have HT2 : Hid (0 + t ≤ l.length) := by have := HL.out; show 0 + t ≤ l.length; omega
      have ht3 : t ≤ k := by omega
      have ht4 : ¬ c = t := by omega
      have ht5 : t ≤ c := by omega
      have ht6 : ¬ c = 0 := by omega
      clear HT HKL HKS HK0 HA
      by_cases ht0 : t = 0
      case pos =>
        subst ht0
        go_wp2
        refine wp_region_any (by kernel_rfl) ?_
        try (change wpAny _ _ _ _ _ _ _ (World.drew _))
        refine wpAny_take (i := 1) (v := ?_) rfl (by kernel_rfl) (by kernel_rfl) (by kernel_rfl) (fun _ _ _ h => h) (Or.inl ⟨by rfl, ?_⟩) ?_
        rotate_left
        focus (intro w0; go_simp; try with_reducible rfl)
        refine wpAny_take (i := 2) (v := ?_) rfl (by kernel_rfl) (by kernel_rfl) (by kernel_rfl) (fun _ _ _ h => h) (Or.inl ⟨by rfl, ?_⟩) ?_
        rotate_left
        focus (intro w0; go_simp; try with_reducible rfl)
        refine wpAny_take (i := 3) (v := ?_) rfl (by kernel_rfl) (by kernel_rfl) (by kernel_rfl) (fun _ _ _ h => h) (Or.inl ⟨by rfl, ?_⟩) ?_
        rotate_left
        focus (intro w0; go_simp; try with_reducible rfl)
        refine wpAny_take (i := 5) (v := ?_) rfl (by kernel_rfl) (by kernel_rfl) (by kernel_rfl) (fun _ _ _ h => h) (Or.inl ⟨by rfl, ?_⟩) ?_
        rotate_left
        focus (intro w0; go_simp; try with_reducible rfl)
        refine wpAny_take (i := 6) (v := ?_) rfl (by kernel_rfl) (by kernel_rfl) (by kernel_rfl) (fun _ _ _ h => h) (Or.inl ⟨by rfl, ?_⟩) ?_
        rotate_left
        focus (intro w0; go_simp; try with_reducible rfl)
        refine wpAny_take (i := 7) (v := ?_) rfl (by kernel_rfl) (by kernel_rfl) (by kernel_rfl) (fun _ _ _ h => h) (Or.inl ⟨by rfl, ?_⟩) ?_
        rotate_left
        focus (intro w0; go_simp; try with_reducible rfl)
        refine wpAny_ready (rs := [0]) (by kernel_rfl) (by simp) (AllReady.cons rfl (fun K hK => ?_) (AllReady.nil))
        go_simp
        refine hK _ _ ?_
        clear hK K
        refine wpAny_ready (rs := [4]) (by kernel_rfl) (by simp) (AllReady.cons rfl (fun K hK => ?_) (AllReady.nil))
        (refine step_list (by rintro ⟨_, _, h⟩; obtain ⟨_, hv, _⟩ := h; cases hv) (by kernel_rfl) ?_; refine wpList_append_own_at _ rfl _ _ 25 rfl w.heap.size 33 i0 (.agg #[.int .i64 (0), .int .i64 (0)]) 2 16 Tryd.underlying25 hi hz0 hz1 hz2 rfl (by decide) _ _ _ rfl HOw.out _ _ _ _ rfl (piece_len HT1.out) (piece_cells (HCl.out _ HBd.out) HT1.out) (piece_one _) (by unfold maxLen; simp; omega) (by simp; omega) HBz.out ?_; intro v2 w2 hown2 hgrow2 _ _; have HB2 := Lib.hid (HBd.out.grown hgrow2 HBz.out (fun q hq => (World.ownsRow.lt HOw.out q hq).1)); have HO2 := Lib.hid (Vecs.join (l := []) hown2 (by have := HL.out; simp <;> omega)); clear hown2 hgrow2)
        refine hK _ _ ?_
        clear hK K
        refine wpAny_ready (rs := [8]) (by kernel_rfl) (by simp) (AllReady.cons rfl (fun K hK => ?_) (AllReady.nil))
        (refine step_list (by rintro ⟨_, _, h⟩; obtain ⟨_, hv, _⟩ := h; cases hv) (by kernel_rfl) ?_; refine wpList_append_own_at _ rfl _ _ 25 rfl w.heap.size 33 i0 (.agg #[.int .i64 (0), .int .i64 (0)]) 2 16 Tryd.underlying25 hi hz0 hz1 hz2 rfl (by decide) _ _ _ rfl HO2.out _ _ _ _ rfl (piece_len HT2.out) (piece_cells (HCl.out _ HB2.out) HT2.out) (piece_one _) (by unfold maxLen; simp; omega) (by simp; omega) HB2.out.size ?_; intro v3 w3 hown3 hgrow3 _ _; have HB3 := Lib.hid (HB2.out.grown hgrow3 HB2.out.size (fun q hq => (World.ownsRow.lt HO2.out q hq).1)); have HO3 := Lib.hid (Vecs.join hown3 (by have := HL.out; simp <;> omega)); clear hown3 hgrow3)
        refine hK _ _ ?_
        clear hK K
        refine wpAny_seq 9 rfl (by kernel_rfl) ?_
        simp only [List.drop_succ_cons, List.drop_zero]
        all_goals go_wp2
        all_goals go_returns
        all_goals exact ⟨_, rfl, by rw [← HR.out]; exact HO3.out, HB3.out⟩
      case neg =>
        have ht1 : ¬ t * 2 = 0 := by omega
        go_wp2
        refine wp_region_any (by kernel_rfl) ?_
        try (change wpAny _ _ _ _ _ _ _ (World.drew _))
        refine wpAny_take (i := 1) (v := ?_) rfl (by kernel_rfl) (by kernel_rfl) (by kernel_rfl) (fun _ _ _ h => h) (Or.inl ⟨by rfl, ?_⟩) ?_
        rotate_left
        focus (intro w0; go_simp; try with_reducible rfl)
        refine wpAny_take (i := 2) (v := ?_) rfl (by kernel_rfl) (by kernel_rfl) (by kernel_rfl) (fun _ _ _ h => h) (Or.inl ⟨by rfl, ?_⟩) ?_
        rotate_left
        focus (intro w0; go_simp; try with_reducible rfl)
        refine wpAny_take (i := 3) (v := ?_) rfl (by kernel_rfl) (by kernel_rfl) (by kernel_rfl) (fun _ _ _ h => h) (Or.inl ⟨by rfl, ?_⟩) ?_
        rotate_left
        focus (intro w0; go_simp; try with_reducible rfl)
        refine wpAny_take (i := 5) (v := ?_) rfl (by kernel_rfl) (by kernel_rfl) (by kernel_rfl) (fun _ _ _ h => h) (Or.inl ⟨by rfl, ?_⟩) ?_
        rotate_left
        focus (intro w0; go_simp; try with_reducible rfl)
        refine wpAny_take (i := 6) (v := ?_) rfl (by kernel_rfl) (by kernel_rfl) (by kernel_rfl) (fun _ _ _ h => h) (Or.inl ⟨by rfl, ?_⟩) ?_
        rotate_left
        focus (intro w0; go_simp; try with_reducible rfl)
        refine wpAny_take (i := 7) (v := ?_) rfl (by kernel_rfl) (by kernel_rfl) (by kernel_rfl) (fun _ _ _ h => h) (Or.inl ⟨by rfl, ?_⟩) ?_
        rotate_left
        focus (intro w0; go_simp; try with_reducible rfl)
        refine wpAny_ready (rs := [0]) (by kernel_rfl) (by simp) (AllReady.cons rfl (fun K hK => ?_) (AllReady.nil))
        go_simp
        refine hK _ _ ?_
        clear hK K
        refine wpAny_ready (rs := [4]) (by kernel_rfl) (by simp) (AllReady.cons rfl (fun K hK => ?_) (AllReady.nil))
        (refine step_list (by rintro ⟨_, _, h⟩; obtain ⟨_, hv, _⟩ := h; cases hv) (by kernel_rfl) ?_; refine wpList_append_own_at _ rfl _ _ 25 rfl w.heap.size 33 i0 (.agg #[.int .i64 (0), .int .i64 (0)]) 2 16 Tryd.underlying25 hi hz0 hz1 hz2 rfl (by decide) _ _ _ rfl HOw.out _ _ _ _ rfl (piece_len HT1.out) (piece_cells (HCl.out _ HBd.out) HT1.out) (piece_one _) (by unfold maxLen; simp; omega) (by simp; omega) HBz.out ?_; intro v2 w2 hown2 hgrow2 _ _; have HB2 := Lib.hid (HBd.out.grown hgrow2 HBz.out (fun q hq => (World.ownsRow.lt HOw.out q hq).1)); have HO2 := Lib.hid (Vecs.join (l := []) hown2 (by have := HL.out; simp <;> omega)); clear hown2 hgrow2)
        refine hK _ _ ?_
        clear hK K
        refine wpAny_ready (rs := [8]) (by kernel_rfl) (by simp) (AllReady.cons rfl (fun K hK => ?_) (AllReady.nil))
        (refine step_list (by rintro ⟨_, _, h⟩; obtain ⟨_, hv, _⟩ := h; cases hv) (by kernel_rfl) ?_; refine wpList_append_own_at _ rfl _ _ 25 rfl w.heap.size 33 i0 (.agg #[.int .i64 (0), .int .i64 (0)]) 2 16 Tryd.underlying25 hi hz0 hz1 hz2 rfl (by decide) _ _ _ rfl HO2.out _ _ _ _ rfl (piece_len HT2.out) (piece_cells (HCl.out _ HB2.out) HT2.out) (piece_one _) (by unfold maxLen; simp; omega) (by simp; omega) HB2.out.size ?_; intro v3 w3 hown3 hgrow3 _ _; have HB3 := Lib.hid (HB2.out.grown hgrow3 HB2.out.size (fun q hq => (World.ownsRow.lt HO2.out q hq).1)); have HO3 := Lib.hid (Vecs.join hown3 (by have := HL.out; simp <;> omega)); clear hown3 hgrow3)
        refine hK _ _ ?_
        clear hK K
        refine wpAny_seq 9 rfl (by kernel_rfl) ?_
        simp only [List.drop_succ_cons, List.drop_zero]
        all_goals go_wp2
        all_goals go_returns
        all_goals exact ⟨_, rfl, by rw [← HR.out]; exact HO3.out, HB3.out⟩
set_option maxHeartbeats 4000000 in
theorem specFanTidy_any (v : Value) (l : List V2) (w : World) (hl : ReadsVecs w v l) :
    Calls Tryd.prog 16 #[v] w (GivesVecsOk w (gV (fanB l) (tidyL l)) (fanB l)) := by
  have HF := Lib.hid (specFanIn_any v l w hl)
  have HN := Lib.hid (fun w' (hb : Below w.heap.size w w') h => l3Tidy_any v l w' (hl.below hb) (by have := fan_len (l := l) h; omega) (by have := fan_len (l := l) h; omega) (fun i => fan_vec h i) (fun i => (con_nz (fan_cone h i)).1))
  have hE := Lib.hid (fun w' => Vecs.empty w')
  clear hl
  cases hb : fanB l
  · rw [hb] at HF
    clear hb HN
    go_enter Tryd.func16, Tryd.ntmps16
    go_wp2_with fail
    refine Calls.mono HF.out ?_
    rintro e w1 ⟨rfl, hb1⟩
    have hs1 := hb1.size
    have HE := Lib.hid ((hE.out w1).lower hs1)
    go_wp2
    go_returns
    exact ⟨_, rfl, HE.out, by go_grown⟩
  · rw [hb] at HF HN
    clear hb
    go_enter Tryd.func16, Tryd.ntmps16
    go_wp2_with fail
    refine Calls.mono HF.out ?_
    rintro e w1 ⟨rfl, hb1⟩
    have hs1 := hb1.size
    go_wp2_with fail
    refine Calls.mono (HN.out _ hb1 (by simp)) ?_
    rintro e w2 ⟨v2, rfl, hI, hb2⟩
    have HI := Lib.hid (hI.lower hs1)
    have hB := belowTo hb1 hb2
    clear hI hb1 hb2
    go_wp2
    go_returns
    exact ⟨_, rfl, HI.out, hB⟩
end Go.Proofs.YtcopcjlcfnamhaaDoor
