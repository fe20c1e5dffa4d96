/- PolygonTimes: the model. -/
import Derived.Test.YtgaeibibeekclaaDoorK2
namespace Go.Proofs.YtgaeibibeekclaaDoor
open Go.RowKit

theorem two_cellsN (W : World) (X Y : Int) (t : TypeId) : ∀ j u, [Value.int .i64 X, Value.int .i64 Y][j]? = some u → (W.alloc (.cells #[.int .i64 X, .int .i64 Y] t)).cell? ((⟨W.heap.size, 0, none⟩ : Addr).add j) = some u := by
  intro j u hj
  match j, hj with
  | 0, hj => simp at hj; subst hj; simp [Addr.add]
  | 1, hj => simp at hj; subst hj; simp [Addr.add]
theorem two_oneN (X Y : Int) : ∀ u ∈ [Value.int .i64 X, Value.int .i64 Y], u.oneCell' = true := by
  intro u hu
  simp at hu
  rcases hu with rfl | rfl <;> rfl
set_option maxHeartbeats 4000000 in
theorem specPolygonTimes_any (v : Value) (l : List V2) (n : Int) (w : World) (hl : ReadsVecs w v l) :
    Calls Tryd.prog 16 #[v, .int .i64 n] w (GivesVecsOk w (TimesL l n) (TimesB l n && polyB (l.map (timesF n)))) := by
  have HI := Lib.hid (fun w' (hb : Below w.heap.size w w') => specPolygonIn_any v l w' (hl.below hb))
  have HL := Lib.hid (fun w' => l6In_any n 1 20 w')
  have hE := Lib.hid (fun w' => Vecs.empty w')
  unfold GivesVecsOk TimesL
  have HT : Hid (TimesB l n = (polyB l && (decide (1 ≤ n) && decide (n ≤ 20)))) := rfl
  generalize hTB : TimesB l n = TB at *
  clear hTB
  cases hb : polyB l
  · have hTB : TB = false := by rw [HT.out, hb]; rfl
    subst hTB
    rw [hb] at HI
    obtain ⟨a, c, rfl, _⟩ := hl
    clear HL HT hb
    have hE0 := Lib.hid (hE.out w)
    go_enter Tryd.func16, Tryd.ntmps16
    go_wp2_with fail
    refine Calls.mono (HI.out _ (by go_grown)) ?_
    rintro e w1 ⟨rfl, hb1⟩
    have HE1 := Lib.hid (hE0.out.below hb1)
    have hB := belowTo (a := w) (by go_grown) hb1
    clear hb1
    go_wp2
    go_returns
    exact ⟨_, rfl, HE1.out, hB⟩
  · have h3 := poly_len hb
    by_cases hn : 1 ≤ n ∧ n ≤ 20
    · obtain ⟨h1, h2⟩ := hn
      have hTB : TB = true := by rw [HT.out, hb]; simp [h1, h2]
      subst hTB
      rw [hb] at HI
      have hin : (decide (1 ≤ n) && decide (n ≤ 20)) = true := by simp [h1, h2]
      obtain ⟨i0, hi, hz0, hz1, hz2⟩ := info_parts infoVec
      have HSm := Lib.hid (fun k => poly_small hb k)
      have HX : Hid (∀ k, (List.range (k + 1)).map (fun i => timesF n (cyc l i)) = (List.range k).map (fun i => timesF n (cyc l i)) ++ [(n * (cyc l k).1, n * (cyc l k).2)]) := fun k => by simp [List.range_succ, timesF]
      have HZ : Hid ((List.range l.length).map (fun i => timesF n (cyc l i)) = l.map (timesF n)) := range_map _ _
      have HD := Lib.hid (fun v' b' w' (hI : Vecs w' b' v' (l.map (timesF n))) => l6gDone_any v' (l.map (timesF n)) w' (hI.reads (by rw [List.length_map]; omega)))
      unfold TidyS GivesVecsOk at HD
      have HMl := Lib.hid (fun u (hu : -100 ≤ u ∧ u ≤ 100) => small_mul h1 h2 hu)
      obtain ⟨bb, off, c, rfl, _, _, hbb, hcs⟩ := hl.open (by omega)
      have HCl := Lib.hid hcs
      rw [Bool.true_and]
      generalize gV (polyB (l.map (timesF n))) (tidyP (l.map (timesF n))) = R at *
      generalize polyB (l.map (timesF n)) = P at *
      have hE0 := Lib.hid (hE.out w)
      clear HT hb hcs hl h1 h2 hE
      go_enter Tryd.func16, Tryd.ntmps16
      go_wp2_with fail
      refine Calls.mono (HI.out _ (by go_grown)) ?_
      rintro e w1 ⟨rfl, hb1⟩
      have HE1 := Lib.hid (hE0.out.below hb1)
      have HB1 := Lib.hid (belowTo (a := w) (by go_grown) hb1)
      clear hb1 hE0 HI
      go_wp2_with fail
      refine Calls.mono (HL.out _) ?_
      rintro e w2 ⟨rfl, rfl⟩
      rw [hin]
      clear HL hin
      go_wp2
      go_loopw [6, 7] (fun s6 s7 wr => ∃ k : Nat, k ≤ l.length ∧ s7 = .int .i64 k ∧ Hid (Vecs wr w.heap.size s6 ((List.range k).map (fun i => timesF n (cyc l i)))) ∧ Below w.heap.size w wr) (fun _ s7 _ => l.length - (intOf s7).toNat)
      case atStart => exact ⟨0, Nat.zero_le _, rfl, HE1.out, HB1.out⟩
      case round =>
        obtain ⟨k, hk, rfl, HV, hB⟩ := hrel
        have i1 : (0 : Int) ≤ (k : Int) := by omega
        by_cases hlt : k < l.length
        · have i2 : (k : Int) < (l.length : Int) := by omega
          obtain ⟨d0, d1⟩ := HCl.out wr hB k hlt
          obtain ⟨s1, s2⟩ := HSm.out k
          have m1 := HMl.out _ s1
          have m2 := HMl.out _ s2
          have HXk := Lib.hid (HX.out k)
          have hkl : ((List.range k).map (fun i => timesF n (cyc l i))).length = k := by simp
          generalize hV : cyc l k = V at *
          clear hV
          obtain ⟨x, y⟩ := V
          dsimp only at d0 d1 m1 m2 HXk
          obtain ⟨X, hX⟩ : ∃ X, X = n * x := ⟨_, rfl⟩
          obtain ⟨Y, hY⟩ : ∃ Y, Y = n * y := ⟨_, rfl⟩
          have q1 : IntKind.i64.wrap (n * x) = X := by rw [IntKind.wrap_i64, hX]; omega
          have q2 : IntKind.i64.wrap (n * y) = Y := by rw [IntKind.wrap_i64, hY]; omega
          rw [← hX, ← hY] at HXk
          have hs := hB.size
          have hown := HV.out
          unfold Vecs VRow at hown
          rw [hkl] at hown
          have HOw := Lib.hid (World.ownsRow.drew hown)
          have HB := Lib.hid hB
          have HHk := Lib.hid hkl
          have h1000 : k ≤ 1000 := by omega
          clear hown HV HSm HX HZ HD HMl HCl HE1 HB1 m1 m2 s1 s2 hX hY hkl hB h3
          go_wp2
          refine wp_region_any (by kernel_rfl) ?_
          try (change wpAny _ _ _ _ _ _ _ (World.drew _))
          refine wpAny_take (i := 0) (v := ?_) rfl (by kernel_rfl) (by kernel_rfl) (by kernel_rfl) (fun _ _ _ h => h) (Or.inl ⟨by rfl, ?_⟩) ?_
          rotate_left
          focus (intro w0; go_simp; try with_reducible rfl)
          refine wpAny_take (i := 1) (v := ?_) rfl (by kernel_rfl) (by kernel_rfl) (by kernel_rfl) (fun _ _ _ h => h) (Or.inl ⟨by rfl, ?_⟩) ?_
          rotate_left
          focus (intro w0; go_simp; try with_reducible rfl)
          refine wpAny_take (i := 2) (v := ?_) rfl (by kernel_rfl) (by kernel_rfl) (by kernel_rfl) (fun _ _ _ h => h) (Or.inl ⟨by rfl, ?_⟩) ?_
          rotate_left
          focus (intro w0; go_simp; try with_reducible rfl)
          refine wpAny_take (i := 3) (v := ?_) rfl (by kernel_rfl) (by kernel_rfl) (by kernel_rfl) (fun _ _ _ h => h) (Or.inl ⟨by rfl, ?_⟩) ?_
          rotate_left
          focus (intro w0; go_simp; try with_reducible rfl)
          refine wpAny_take (i := 4) (v := ?_) rfl (by kernel_rfl) (by kernel_rfl) (by kernel_rfl) (fun _ _ _ h => h) (Or.inl ⟨by rfl, ?_⟩) ?_
          rotate_left
          focus (intro w0; go_simp; try with_reducible rfl)
          refine wpAny_take (i := 5) (v := ?_) rfl (by kernel_rfl) (by kernel_rfl) (by kernel_rfl) (fun _ _ _ h => h) (Or.inl ⟨by rfl, ?_⟩) ?_
          rotate_left
          focus (intro w0; go_simp; try with_reducible rfl)
          refine wpAny_take (i := 8) (v := ?_) rfl (by kernel_rfl) (by kernel_rfl) (by kernel_rfl) (fun _ _ _ h => h) (Or.inl ⟨by rfl, ?_⟩) ?_
          rotate_left
          focus (intro w0; go_simp; try with_reducible rfl)
          refine wpAny_take (i := 9) (v := ?_) rfl (by kernel_rfl) (by kernel_rfl) (by kernel_rfl) (fun _ _ _ h => h) (Or.inl ⟨by rfl, ?_⟩) ?_
          rotate_left
          focus (intro w0; go_simp; try with_reducible rfl)
          refine wpAny_take (i := 10) (v := ?_) rfl (by kernel_rfl) (by kernel_rfl) (by kernel_rfl) (fun _ _ _ h => h) (Or.inl ⟨by rfl, ?_⟩) ?_
          rotate_left
          focus (intro w0; go_simp; try with_reducible rfl)
          refine wpAny_take (i := 11) (v := ?_) rfl (by kernel_rfl) (by kernel_rfl) (by kernel_rfl) (fun _ _ _ h => h) (Or.inl ⟨by rfl, ?_⟩) ?_
          rotate_left
          focus (intro w0; go_simp; try with_reducible rfl)
          refine wpAny_take (i := 12) (v := ?_) rfl (by kernel_rfl) (by kernel_rfl) (by kernel_rfl) (fun _ _ _ h => h) (Or.inl ⟨by rfl, ?_⟩) ?_
          rotate_left
          focus (intro w0; go_simp; try with_reducible rfl)
          refine wpAny_ready (rs := [6, 13]) (by kernel_rfl) (by simp) (AllReady.cons rfl (fun K hK => ?_) (AllReady.cons rfl (fun K hK => ?_) (AllReady.nil)))
          focus
            go_simp
            refine hK _ _ ?_
            clear hK K
            refine wpAny_take (i := 7) (v := ?_) rfl (by kernel_rfl) (by kernel_rfl) (by kernel_rfl) (fun _ _ _ h => h) (Or.inl ⟨by rfl, ?_⟩) ?_
            rotate_left
            focus (intro w0; go_simp; try with_reducible rfl)
            refine wpAny_ready (rs := [13]) (by kernel_rfl) (by simp) (AllReady.cons rfl (fun K hK => ?_) (AllReady.nil))
            go_simp
            refine hK _ _ ?_
            clear hK K
            refine wpAny_take (i := 14) (v := ?_) rfl (by kernel_rfl) (by kernel_rfl) (by kernel_rfl) (fun _ _ _ h => h) (Or.inl ⟨by rfl, ?_⟩) ?_
            rotate_left
            focus (intro w0; go_simp; try with_reducible rfl)
            refine wpAny_take (i := 15) (v := ?_) rfl (by kernel_rfl) (by kernel_rfl) (by kernel_rfl) (fun _ _ _ h => h) (Or.inl ⟨by rfl, ?_⟩) ?_
            rotate_left
            focus (intro w0; go_simp; try with_reducible rfl)
            refine wpAny_ready (rs := [16]) (by kernel_rfl) (by simp) (AllReady.cons rfl (fun K hK => ?_) (AllReady.nil))
            go_simp
            refine hK _ _ ?_
            clear hK K
            refine wpAny_ready (rs := [17]) (by kernel_rfl) (by simp) (AllReady.cons rfl (fun K hK => ?_) (AllReady.nil))
            (refine step_list (by rintro ⟨_, _, h⟩; obtain ⟨_, hv, _⟩ := h; cases hv) (by kernel_rfl) ?_; refine wpList_append_own_at _ rfl _ _ 23 rfl w.heap.size 31 i0 (.agg #[.int .i64 (0), .int .i64 (0)]) 2 16 Tryd.underlying23 hi hz0 hz1 hz2 rfl (by decide) _ _ _ rfl (HOw.out.alloc _) ⟨_, 0, none⟩ 1 1 [.int .i64 X, .int .i64 Y] rfl rfl (two_cellsN wr X Y _) (two_oneN X Y) (by unfold maxLen; omega) (by omega) (by have := HB.out.size; simp; omega) ?_; intro v' w4 hown' hgrow _ _; have HB5 := Lib.hid ((HB.out.drew.alloc (by have := HB.out.size; exact this) _).grown hgrow (by have := HB.out.size; simp; omega) (fun k hk => (HOw.out.lt k hk).1)); have HVv := Lib.hid (Vecs.snoc (l := (List.range k).map (fun i => timesF n (cyc l i))) HHk.out.symm hown'); clear hown' hgrow)
            refine hK _ _ ?_
            clear hK K
            refine wpAny_seq 18 rfl (by kernel_rfl) ?_
            simp only [List.drop_succ_cons, List.drop_zero]
          rotate_left 1
          focus
            go_simp
            refine hK _ _ ?_
            clear hK K
            refine wpAny_take (i := 14) (v := ?_) rfl (by kernel_rfl) (by kernel_rfl) (by kernel_rfl) (fun _ _ _ h => h) (Or.inl ⟨by rfl, ?_⟩) ?_
            rotate_left
            focus (intro w0; go_simp; try with_reducible rfl)
            refine wpAny_ready (rs := [6]) (by kernel_rfl) (by simp) (AllReady.cons rfl (fun K hK => ?_) (AllReady.nil))
            go_simp
            refine hK _ _ ?_
            clear hK K
            refine wpAny_take (i := 7) (v := ?_) rfl (by kernel_rfl) (by kernel_rfl) (by kernel_rfl) (fun _ _ _ h => h) (Or.inl ⟨by rfl, ?_⟩) ?_
            rotate_left
            focus (intro w0; go_simp; try with_reducible rfl)
            refine wpAny_take (i := 15) (v := ?_) rfl (by kernel_rfl) (by kernel_rfl) (by kernel_rfl) (fun _ _ _ h => h) (Or.inl ⟨by rfl, ?_⟩) ?_
            rotate_left
            focus (intro w0; go_simp; try with_reducible rfl)
            refine wpAny_ready (rs := [16]) (by kernel_rfl) (by simp) (AllReady.cons rfl (fun K hK => ?_) (AllReady.nil))
            go_simp
            refine hK _ _ ?_
            clear hK K
            refine wpAny_ready (rs := [17]) (by kernel_rfl) (by simp) (AllReady.cons rfl (fun K hK => ?_) (AllReady.nil))
            (refine step_list (by rintro ⟨_, _, h⟩; obtain ⟨_, hv, _⟩ := h; cases hv) (by kernel_rfl) ?_; refine wpList_append_own_at _ rfl _ _ 23 rfl w.heap.size 31 i0 (.agg #[.int .i64 (0), .int .i64 (0)]) 2 16 Tryd.underlying23 hi hz0 hz1 hz2 rfl (by decide) _ _ _ rfl (HOw.out.alloc _) ⟨_, 0, none⟩ 1 1 [.int .i64 X, .int .i64 Y] rfl rfl (two_cellsN wr X Y _) (two_oneN X Y) (by unfold maxLen; omega) (by omega) (by have := HB.out.size; simp; omega) ?_; intro v' w4 hown' hgrow _ _; have HB5 := Lib.hid ((HB.out.drew.alloc (by have := HB.out.size; exact this) _).grown hgrow (by have := HB.out.size; simp; omega) (fun k hk => (HOw.out.lt k hk).1)); have HVv := Lib.hid (Vecs.snoc (l := (List.range k).map (fun i => timesF n (cyc l i))) HHk.out.symm hown'); clear hown' hgrow)
            refine hK _ _ ?_
            clear hK K
            refine wpAny_seq 18 rfl (by kernel_rfl) ?_
            simp only [List.drop_succ_cons, List.drop_zero]
          all_goals
            rw [← HXk.out] at HVv
            go_wp2
            go_roundw
            case rel => exact ⟨k + 1, by omega, by go_num, HVv, HB5.out⟩
            case measure => simp [intOf]; omega
        · obtain rfl : k = l.length := by omega
          have i2 : ¬ ((l.length : Nat) : Int) < (l.length : Int) := by omega
          have hI := HV.out
          rw [HZ.out] at hI
          have HH2 := Lib.hid (HD.out _ _ wr hI)
          have hs := hB.size
          clear hI HV HD HX HZ HSm HMl HCl HE1 HB1
          go_wp2_with fail
          refine Calls.mono HH2.out ?_
          rintro e w3 ⟨v3, rfl, I3, hb3⟩
          have HB := Lib.hid (belowTo hB hb3)
          have HI3 := Lib.hid (I3.lower hs)
          clear hb3 I3 hB
          go_wp2
          go_returns
          exact ⟨_, rfl, HI3.out, HB.out⟩
    · have hTB : TB = false := by rw [HT.out]; simp; omega
      subst hTB
      have hin : (decide (1 ≤ n) && decide (n ≤ 20)) = false := by simp; omega
      rw [hb] at HI
      rw [hin] at HL
      obtain ⟨a, c, rfl, _⟩ := hl
      have hE0 := Lib.hid (hE.out w)
      clear HT hb h3 hn hin
      go_enter Tryd.func16, Tryd.ntmps16
      go_wp2_with fail
      refine Calls.mono (HI.out _ (by go_grown)) ?_
      rintro e w1 ⟨rfl, hb1⟩
      have HE1 := Lib.hid (hE0.out.below hb1)
      have hB := belowTo (a := w) (by go_grown) hb1
      clear hb1
      go_wp2_with fail
      refine Calls.mono (HL.out _) ?_
      rintro e w2 ⟨rfl, rfl⟩
      go_wp2
      go_returns
      exact ⟨_, rfl, HE1.out, hB⟩
end Go.Proofs.YtgaeibibeekclaaDoor
