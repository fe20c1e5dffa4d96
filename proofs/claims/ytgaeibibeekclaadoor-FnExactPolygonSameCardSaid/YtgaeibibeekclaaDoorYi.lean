/- PolygonTidy: both sides. -/
import Derived.Test.YtgaeibibeekclaaDoorYh
import Derived.Test.YtgaeibibeekclaaDoorWf
import Derived.Test.YtgaeibibeekclaaDoorBa
namespace Go.Proofs.YtgaeibibeekclaaDoor
open Go.RowKit

set_option maxHeartbeats 2000000 in
theorem l6gLess_any (x1 y1 x2 y2 : Int) (w : World) :
    Calls Tryd.prog 90 #[.agg #[.int .i64 (x1), .int .i64 (y1)], .agg #[.int .i64 (x2), .int .i64 (y2)]] w fun e w' => e = .returned (.bool (lessB (x1, y1) (x2, y2))) ∧ Below w.heap.size w w' := by
  have HZ : Hid (lessB (x1, y1) (x2, y2) = (decide (x1 < x2) || (decide (x1 = x2) && decide (y1 < y2)))) := rfl
  generalize lessB (x1, y1) (x2, y2) = Z at *
  by_cases h1 : x1 < x2
  · go_enter Tryd.func90, Tryd.ntmps90
    go_wp2
    go_returns
    exact ⟨by rw [HZ.out]; simp [h1], by go_grown⟩
  · by_cases h2 : x1 = x2
    · subst h2
      by_cases h3 : y1 < y2
      · go_enter Tryd.func90, Tryd.ntmps90
        go_wp2
        go_returns
        exact ⟨by rw [HZ.out]; simp [h3], by go_grown⟩
      · go_enter Tryd.func90, Tryd.ntmps90
        go_wp2
        go_returns
        exact ⟨by rw [HZ.out]; simp [h3], by go_grown⟩
    · go_enter Tryd.func90, Tryd.ntmps90
      go_wp2
      go_returns
      exact ⟨by rw [HZ.out]; simp [h1, h2], by go_grown⟩
set_option maxHeartbeats 8000000 in
theorem l6gTidy_any (v : Value) (l : List V2) (w : World) (hl : ReadsVecs w v l) (h0 : 0 < l.length) (hm : l.length ≤ 1000) :
    Calls Tryd.prog 65 #[v] w (GivesVecs w (tidyP l)) := by
  obtain ⟨i0, hi, hz0, hz1, hz2⟩ := info_parts infoVec
  obtain ⟨bb, off, c, rfl, hc, hmm, hbb, hcs⟩ := hl.open h0
  have HCl := Lib.hid hcs
  have HLs := Lib.hid (fun k => leastAt_le l k)
  have HSt : Hid (∀ k, leastAt l (k + 1) = if lessB (cyc l (k + 1)) (cyc l (leastAt l k)) = true then k + 1 else leastAt l k) := fun k => rfl
  have HTd : Hid (tidyP l = ([] ++ (l.drop (leastAt l (l.length - 1))).take (l.length - leastAt l (l.length - 1))) ++ (l.drop 0).take (leastAt l (l.length - 1))) := by
    show _ = _
    rw [List.take_of_length_le (l := l.drop _) (by simp)]
    rfl
  have HL0 : Hid (leastAt l 0 = 0) := rfl
  obtain ⟨n, hn⟩ : ∃ n, n = l.length := ⟨_, rfl⟩
  have HL := Lib.hid hn
  rw [← hn] at hc hmm h0 hm HTd ⊢
  clear hn hcs hl
  generalize hTT : tidyP l = T at *
  clear hTT
  generalize hLA : leastAt l = LA at *
  clear hLA
  go_enter Tryd.func65, Tryd.ntmps65
  go_wp2
  go_loopw [3, 4] (fun s3 s4 wr => ∃ k : Nat, k + 1 ≤ n ∧ s3 = .int .i64 (LA k) ∧ s4 = .int .i64 ((k : Int) + 1) ∧ Below w.heap.size w wr) (fun _ s4 _ => n - (intOf s4).toNat)
  case atStart => exact ⟨0, by omega, by rw [HL0.out]; rfl, rfl, Below.refl _ _⟩
  case round =>
    obtain ⟨k, hk, rfl, rfl, hB⟩ := hrel
    have hle := HLs.out k
    have i1 : (0 : Int) ≤ (k : Int) + 1 := by omega
    have i2 : ((k : Int) + 1).toNat = k + 1 := by omega
    have i3 : (0 : Int) ≤ (LA k : Int) := by omega
    by_cases hlt : k + 1 < n
    · have j1 : (k : Int) + 1 < (n : Int) := by omega
      have j2 : (LA k : Int) < (n : Int) := by omega
      have j3 : IntKind.i64.wrap ((k : Int) + 1 + 1) = (k : Int) + 1 + 1 := by rw [IntKind.wrap_i64]; omega
      obtain ⟨d0, d1⟩ := HCl.out wr hB (k + 1) (by rw [← HL.out]; omega)
      obtain ⟨d2, d3⟩ := HCl.out wr hB (LA k) (by rw [← HL.out]; omega)
      have HS := HSt.out k
      generalize cyc l (k + 1) = V at *
      generalize cyc l (LA k) = U at *
      generalize hA : LA k = A at *
      obtain ⟨x1, y1⟩ := V
      obtain ⟨x2, y2⟩ := U
      dsimp only at d0 d1 d2 d3
      have HLs1 := Lib.hid (fun w' => l6gLess_any x1 y1 x2 y2 w')
      generalize lessB (x1, y1) (x2, y2) = K at *
      have HS := Lib.hid HS
      have q1 := cell_lt d0
      clear hA
      go_wp2
      refine wp_region_any (by kernel_rfl) ?_
      try (change wpAny _ _ _ _ _ _ _ (World.drew _))
      refine wpAny_of_held (S := fun w' => Below (wr.heap.size) wr w') _ _ _ _ ?_
      have hSw : Below (wr.heap.size) wr (World.drew wr) := by go_grown
      generalize World.drew wr = wd at hSw ⊢
      refine wpAnyH_take (i := 0) (v := ?_) rfl (by kernel_rfl) (by kernel_rfl) (by kernel_rfl) (fun _ _ _ h => h) (Or.inl ⟨by rfl, ?_⟩) hSw ?_
      rotate_left
      focus (intro w0 hS0; clear hS0; go_simp; try with_reducible rfl)
      refine wpAnyH_take (i := 1) (v := ?_) rfl (by kernel_rfl) (by kernel_rfl) (by kernel_rfl) (fun _ _ _ h => h) (Or.inl ⟨by rfl, ?_⟩) hSw ?_
      rotate_left
      focus (intro w0 hS0; clear hS0; go_simp; try with_reducible rfl)
      refine wpAnyH_take (i := 2) (v := ?_) rfl (by kernel_rfl) (by kernel_rfl) (by kernel_rfl) (fun _ _ _ h => h) (Or.inl ⟨by rfl, ?_⟩) hSw ?_
      rotate_left
      focus (intro w0 hS0; clear hS0; go_simp; try with_reducible rfl)
      refine wpAnyH_take (i := 3) (v := ?_) rfl (by kernel_rfl) (by kernel_rfl) (by kernel_rfl) (fun _ _ _ h => h) (Or.inl ⟨by rfl, ?_⟩) hSw ?_
      rotate_left
      focus (intro w0 hS0; have c0 := (hS0.cell (p := ⟨bb, off + (k + 1) * 2, none⟩) q1).trans d0; have c1 := (hS0.cell (p := ⟨bb, off + (k + 1) * 2 + 1, none⟩) q1).trans d1; have c2 := (hS0.cell (p := ⟨bb, off + A * 2, none⟩) q1).trans d2; have c3 := (hS0.cell (p := ⟨bb, off + A * 2 + 1, none⟩) q1).trans d3; clear hS0; go_simp; try with_reducible rfl)
      refine wpAnyH_take (i := 4) (v := ?_) rfl (by kernel_rfl) (by kernel_rfl) (by kernel_rfl) (fun _ _ _ h => h) (Or.inl ⟨by rfl, ?_⟩) hSw ?_
      rotate_left
      focus (intro w0 hS0; clear hS0; go_simp; try with_reducible rfl)
      refine wpAnyH_take (i := 5) (v := ?_) rfl (by kernel_rfl) (by kernel_rfl) (by kernel_rfl) (fun _ _ _ h => h) (Or.inl ⟨by rfl, ?_⟩) hSw ?_
      rotate_left
      focus (intro w0 hS0; clear hS0; go_simp; try with_reducible rfl)
      refine wpAnyH_take (i := 6) (v := ?_) rfl (by kernel_rfl) (by kernel_rfl) (by kernel_rfl) (fun _ _ _ h => h) (Or.inl ⟨by rfl, ?_⟩) hSw ?_
      rotate_left
      focus (intro w0 hS0; clear hS0; go_simp; try with_reducible rfl)
      refine wpAnyH_take (i := 7) (v := ?_) rfl (by kernel_rfl) (by kernel_rfl) (by kernel_rfl) (fun _ _ _ h => h) (Or.inl ⟨by rfl, ?_⟩) hSw ?_
      rotate_left
      focus (intro w0 hS0; have c0 := (hS0.cell (p := ⟨bb, off + (k + 1) * 2, none⟩) q1).trans d0; have c1 := (hS0.cell (p := ⟨bb, off + (k + 1) * 2 + 1, none⟩) q1).trans d1; have c2 := (hS0.cell (p := ⟨bb, off + A * 2, none⟩) q1).trans d2; have c3 := (hS0.cell (p := ⟨bb, off + A * 2 + 1, none⟩) q1).trans d3; clear hS0; go_simp; try with_reducible rfl)
      refine wpAnyH_ready (rs := [8]) (by kernel_rfl) (by simp) (AllReadyH.cons rfl (fun K hK => ?_) (AllReadyH.nil))
      go_simp
      (refine Calls.mono (HLs1.out _) ?_; rintro e w4 ⟨rfl, hbX⟩; replace hSw := belowTo hSw hbX; refine hK.out _ _ hSw (fun _ => ?_); clear hK K hbX)
      refine wpAnyH_done (by kernel_rfl) ?_ _
      have hB4 := belowTo hB hSw
      clear hSw d0 d1 d2 d3
      cases K
      · go_wp2
        go_roundw
        case rel => exact ⟨k + 1, by omega, by rw [HS.out]; rfl, by go_num, hB4⟩
        case measure => simp [intOf]; omega
      · go_wp2
        go_roundw
        case rel => exact ⟨k + 1, by omega, by rw [HS.out]; go_num, by go_num, hB4⟩
        case measure => simp [intOf]; omega
    · have hkn : k = n - 1 := by omega
      subst hkn
      have j1 : ¬ ((n - 1 : Nat) : Int) + 1 < (n : Int) := by omega
      generalize LA (n - 1) = A at *
      have j4 : A < n := by omega
      have j5 : (A : Int) ≤ (n : Int) := by omega
      have j6 : ¬ c = A := by omega
      have j7 : A ≤ n := by omega
      have j8 : (A : Int) ≤ (c : Int) := by omega
      have HT1 : Hid (A + (n - A) ≤ l.length) := by have := HL.out; show _ ≤ _; omega
      have HT2 : Hid (0 + A ≤ l.length) := by have := HL.out; show _ ≤ _; omega
      have HOw : Hid (Vecs (wr.drew.alloc (.cells #[] 31)) w.heap.size (.slice (some ⟨wr.heap.size, 0, none⟩) 0 0) []) := (Vecs.empty wr.drew).lower hB.size
      have hBd : Below w.heap.size w (wr.drew.alloc (.cells #[] 31)) := hB.drew.alloc hB.size _
      have HBd := Lib.hid hBd
      have HBz : Hid (w.heap.size ≤ (wr.drew.alloc (.cells #[] 31)).heap.size) := hBd.size
      clear hBd HLs HSt
      go_wp2
      refine wp_region_any (by kernel_rfl) ?_
      try (change wpAny _ _ _ _ _ _ _ (World.drew _))
      refine wpAny_take (i := 1) (v := ?_) rfl (by kernel_rfl) (by kernel_rfl) (by kernel_rfl) (fun _ _ _ h => h) (Or.inl ⟨by rfl, ?_⟩) ?_
      rotate_left
      focus (intro w0; go_simp; try with_reducible rfl)
      refine wpAny_take (i := 2) (v := ?_) rfl (by kernel_rfl) (by kernel_rfl) (by kernel_rfl) (fun _ _ _ h => h) (Or.inl ⟨by rfl, ?_⟩) ?_
      rotate_left
      focus (intro w0; go_simp; try with_reducible rfl)
      refine wpAny_take (i := 3) (v := ?_) rfl (by kernel_rfl) (by kernel_rfl) (by kernel_rfl) (fun _ _ _ h => h) (Or.inl ⟨by rfl, ?_⟩) ?_
      rotate_left
      focus (intro w0; go_simp; try with_reducible rfl)
      refine wpAny_take (i := 5) (v := ?_) rfl (by kernel_rfl) (by kernel_rfl) (by kernel_rfl) (fun _ _ _ h => h) (Or.inl ⟨by rfl, ?_⟩) ?_
      rotate_left
      focus (intro w0; go_simp; try with_reducible rfl)
      refine wpAny_take (i := 6) (v := ?_) rfl (by kernel_rfl) (by kernel_rfl) (by kernel_rfl) (fun _ _ _ h => h) (Or.inl ⟨by rfl, ?_⟩) ?_
      rotate_left
      focus (intro w0; go_simp; try with_reducible rfl)
      refine wpAny_take (i := 7) (v := ?_) rfl (by kernel_rfl) (by kernel_rfl) (by kernel_rfl) (fun _ _ _ h => h) (Or.inl ⟨by rfl, ?_⟩) ?_
      rotate_left
      focus (intro w0; go_simp; try with_reducible rfl)
      refine wpAny_ready (rs := [0]) (by kernel_rfl) (by simp) (AllReady.cons rfl (fun K hK => ?_) (AllReady.nil))
      go_simp
      refine hK _ _ ?_
      clear hK K
      refine wpAny_ready (rs := [4]) (by kernel_rfl) (by simp) (AllReady.cons rfl (fun K hK => ?_) (AllReady.nil))
      (refine step_list (by rintro ⟨_, _, h⟩; obtain ⟨_, hv, _⟩ := h; cases hv) (by kernel_rfl) ?_; refine wpList_append_own_at _ rfl _ _ 23 rfl w.heap.size 31 i0 (.agg #[.int .i64 (0), .int .i64 (0)]) 2 16 Tryd.underlying23 hi hz0 hz1 hz2 rfl (by decide) _ _ _ rfl HOw.out _ _ _ _ rfl (piece_len HT1.out) (piece_cells (HCl.out _ HBd.out) HT1.out) (piece_one _) (by unfold maxLen; simp; omega) (by simp; omega) HBz.out ?_; intro v2 w2 hown2 hgrow2 _ _; have HB2 := Lib.hid (HBd.out.grown hgrow2 HBz.out (fun q hq => (World.ownsRow.lt HOw.out q hq).1)); have HO2 := Lib.hid (Vecs.join (l := []) hown2 (by have := HL.out; simp <;> omega)); clear hown2 hgrow2)
      refine hK _ _ ?_
      clear hK K
      refine wpAny_ready (rs := [8]) (by kernel_rfl) (by simp) (AllReady.cons rfl (fun K hK => ?_) (AllReady.nil))
      (refine step_list (by rintro ⟨_, _, h⟩; obtain ⟨_, hv, _⟩ := h; cases hv) (by kernel_rfl) ?_; refine wpList_append_own_at _ rfl _ _ 23 rfl w.heap.size 31 i0 (.agg #[.int .i64 (0), .int .i64 (0)]) 2 16 Tryd.underlying23 hi hz0 hz1 hz2 rfl (by decide) _ _ _ rfl HO2.out _ _ _ _ rfl (piece_len HT2.out) (piece_cells (HCl.out _ HB2.out) HT2.out) (piece_one _) (by unfold maxLen; simp; omega) (by simp; omega) HB2.out.size ?_; intro v3 w3 hown3 hgrow3 _ _; have HB3 := Lib.hid (HB2.out.grown hgrow3 HB2.out.size (fun q hq => (World.ownsRow.lt HO2.out q hq).1)); have HO3 := Lib.hid (Vecs.join hown3 (by have := HL.out; simp <;> omega)); clear hown3 hgrow3)
      refine hK _ _ ?_
      clear hK K
      refine wpAny_seq 9 rfl (by kernel_rfl) ?_
      simp only [List.drop_succ_cons, List.drop_zero]
      all_goals go_wp2
      all_goals go_returns
      all_goals exact ⟨_, rfl, by rw [HTd.out]; exact HO3.out, HB3.out⟩
end Go.Proofs.YtgaeibibeekclaaDoor
