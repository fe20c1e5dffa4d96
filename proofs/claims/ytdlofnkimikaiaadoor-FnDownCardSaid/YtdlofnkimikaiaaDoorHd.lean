/- Fans, the model's side: a list without one of its vectors; FanDown. -/
import Derived.Test.YtdlofnkimikaiaaDoorBa
import Derived.Test.YtdlofnkimikaiaaDoorBf
import Derived.Test.YtdlofnkimikaiaaDoorHc
namespace Go.Proofs.YtdlofnkimikaiaaDoor
open Go.RowKit

set_option maxHeartbeats 8000000 in
theorem l3Without_any (v : Value) (l : List V2) (k : Nat) (w : World) (hl : ReadsVecs w v l) (hk : k < l.length) (hm : l.length ≤ 1000) :
    Calls Tryd.prog 93 #[v, .int .i64 k] w (GivesVecs w (downL l k)) := by
  obtain ⟨i0, hi, hz0, hz1, hz2⟩ := info_parts infoVec
  obtain ⟨bb, off, c, rfl, hc, hmm, hbb, hcs⟩ := hl.open (by omega)
  have HCl := Lib.hid hcs
  have HOw : Hid (Vecs (w.drew.alloc (.cells #[] 27)) w.heap.size (.slice (some ⟨w.heap.size, 0, none⟩) 0 0) []) := Vecs.empty w.drew
  have hBd : Below w.heap.size w (w.drew.alloc (.cells #[] 27)) := by go_grown
  have HBd := Lib.hid hBd
  have hbd : w.heap.size ≤ (w.drew.alloc (.cells #[] 27)).heap.size := hBd.size
  have HBz := Lib.hid hbd
  clear hBd hbd
  have q1 : IntKind.i64.wrap ((k : Int) + 1) = (k : Int) + 1 := by rw [IntKind.wrap_i64]; omega
  have q2 : ((k : Int) + 1).toNat = k + 1 := by omega
  have q3 : (0 : Int) ≤ (k : Int) + 1 := by omega
  have i1 : (0 : Int) ≤ (k : Int) := by omega
  have i3 : k ≤ c := by omega
  have i4 : ¬ c = 0 := by omega
  have HT1 : Hid (0 + k ≤ l.length) := by show 0 + k ≤ l.length; omega
  have HT2 : Hid (k + 1 + (l.length - (k + 1)) ≤ l.length) := by show k + 1 + (l.length - (k + 1)) ≤ l.length; omega
  have HR : Hid (([] ++ (l.drop 0).take k) ++ (l.drop (k + 1)).take (l.length - (k + 1)) = downL l k) := by
    unfold downL
    rw [List.take_of_length_le (l := l.drop (k + 1)) (by simp)]
    rfl
  obtain ⟨n, hn⟩ : ∃ n, n = l.length := ⟨_, rfl⟩
  have HL := Lib.hid hn
  rw [← hn] at hc hmm hk hm HT2 HR ⊢
  have HT2' : Hid (k + 1 + (n - (k + 1)) ≤ l.length) := by have := HL.out; show k + 1 + (n - (k + 1)) ≤ l.length; omega
  clear HT2
  have HT2 := HT2'
  clear HT2'
  clear hn hcs hl
  by_cases hck : c = k + 1
  case pos =>
    have hnk : n = k + 1 := by omega
    subst hck
    subst hnk
    have HR2 : Hid (([] ++ (l.drop 0).take k) ++ [] = downL l k) := by
      have := HR.out
      rw [Nat.sub_self, List.take_zero] at this
      exact this
    clear HR HT2
    have i6 : (k : Int) ≤ (k : Int) + 1 := by omega
    go_enter Tryd.func93, Tryd.ntmps93
    go_wp2
    refine wp_region_any (by kernel_rfl) ?_
    try (change wpAny _ _ _ _ _ _ _ (World.drew _))
    refine wpAny_take (i := 1) (v := ?_) rfl (by kernel_rfl) (by kernel_rfl) (by kernel_rfl) (fun _ _ _ h => h) (Or.inl ⟨by rfl, ?_⟩) ?_
    rotate_left
    focus (intro w0; go_simp; try with_reducible rfl)
    refine wpAny_take (i := 2) (v := ?_) rfl (by kernel_rfl) (by kernel_rfl) (by kernel_rfl) (fun _ _ _ h => h) (Or.inl ⟨by rfl, ?_⟩) ?_
    rotate_left
    focus (intro w0; go_simp; try with_reducible rfl)
    refine wpAny_take (i := 3) (v := ?_) rfl (by kernel_rfl) (by kernel_rfl) (by kernel_rfl) (fun _ _ _ h => h) (Or.inl ⟨by rfl, ?_⟩) ?_
    rotate_left
    focus (intro w0; go_simp; try with_reducible rfl)
    refine wpAny_take (i := 5) (v := ?_) rfl (by kernel_rfl) (by kernel_rfl) (by kernel_rfl) (fun _ _ _ h => h) (Or.inl ⟨by rfl, ?_⟩) ?_
    rotate_left
    focus (intro w0; go_simp; try with_reducible rfl)
    refine wpAny_take (i := 6) (v := ?_) rfl (by kernel_rfl) (by kernel_rfl) (by kernel_rfl) (fun _ _ _ h => h) (Or.inl ⟨by rfl, ?_⟩) ?_
    rotate_left
    focus (intro w0; go_simp; try with_reducible rfl)
    refine wpAny_take (i := 7) (v := ?_) rfl (by kernel_rfl) (by kernel_rfl) (by kernel_rfl) (fun _ _ _ h => h) (Or.inl ⟨by rfl, ?_⟩) ?_
    rotate_left
    focus (intro w0; go_simp; try with_reducible rfl)
    refine wpAny_take (i := 8) (v := ?_) rfl (by kernel_rfl) (by kernel_rfl) (by kernel_rfl) (fun _ _ _ h => h) (Or.inl ⟨by rfl, ?_⟩) ?_
    rotate_left
    focus (intro w0; go_simp; try with_reducible rfl)
    refine wpAny_ready (rs := [0]) (by kernel_rfl) (by simp) (AllReady.cons rfl (fun K hK => ?_) (AllReady.nil))
    go_simp
    refine hK _ _ ?_
    clear hK K
    refine wpAny_ready (rs := [4]) (by kernel_rfl) (by simp) (AllReady.cons rfl (fun K hK => ?_) (AllReady.nil))
    (refine step_list (by rintro ⟨_, _, h⟩; obtain ⟨_, hv, _⟩ := h; cases hv) (by kernel_rfl) ?_; refine wpList_append_own_at _ rfl _ _ 23 rfl w.heap.size 27 i0 (.agg #[.int .i64 (0), .int .i64 (0)]) 2 16 Tryd.underlying23 hi hz0 hz1 hz2 rfl (by decide) _ _ _ rfl HOw.out _ _ _ _ rfl (piece_len HT1.out) (piece_cells (HCl.out _ HBd.out) HT1.out) (piece_one _) (by unfold maxLen; simp; omega) (by simp; omega) HBz.out ?_; intro v2 w2 hown2 hgrow2 _ _; have HB2 := Lib.hid (HBd.out.grown hgrow2 HBz.out (fun q hq => (World.ownsRow.lt HOw.out q hq).1)); have HO2 := Lib.hid (Vecs.join (l := []) hown2 (by have := HL.out; simp <;> omega)); clear hown2 hgrow2)
    refine hK _ _ ?_
    clear hK K
    refine wpAny_ready (rs := [9]) (by kernel_rfl) (by simp) (AllReady.cons rfl (fun K hK => ?_) (AllReady.nil))
    (refine step_list (by rintro ⟨_, _, h⟩; obtain ⟨_, hv, _⟩ := h; cases hv) (by kernel_rfl) ?_; refine wpList_append_own_at _ rfl _ _ 23 rfl w.heap.size 27 i0 (.agg #[.int .i64 (0), .int .i64 (0)]) 2 16 Tryd.underlying23 hi hz0 hz1 hz2 rfl (by decide) _ _ _ rfl HO2.out _ 0 _ [] rfl rfl (fun j u hj => by simp at hj) (fun u hu => by simp at hu) (by unfold maxLen; simp; omega) (by simp; omega) HB2.out.size ?_; intro v3 w3 hown3 hgrow3 _ _; have HB3 := Lib.hid (HB2.out.grown hgrow3 HB2.out.size (fun q hq => (World.ownsRow.lt HO2.out q hq).1)); have HO3 := Lib.hid (Vecs.join (m := []) hown3 (by have := HL.out; simp <;> omega)); clear hown3 hgrow3)
    refine hK _ _ ?_
    clear hK K
    refine wpAny_seq 10 rfl (by kernel_rfl) ?_
    simp only [List.drop_succ_cons, List.drop_zero]
    all_goals go_wp2
    all_goals go_returns
    all_goals exact ⟨_, rfl, by rw [← HR2.out]; exact HO3.out, HB3.out⟩
  case neg =>
    have j1 : k + 1 ≤ n := by omega
    have i5 : (k : Int) + 1 ≤ (n : Int) := by omega
    have j2 : ¬ (k + 1) * 2 = 0 := by omega
    have j3 : k + 1 ≤ c := by omega
    go_enter Tryd.func93, Tryd.ntmps93
    go_wp2
    refine wp_region_any (by kernel_rfl) ?_
    try (change wpAny _ _ _ _ _ _ _ (World.drew _))
    refine wpAny_take (i := 1) (v := ?_) rfl (by kernel_rfl) (by kernel_rfl) (by kernel_rfl) (fun _ _ _ h => h) (Or.inl ⟨by rfl, ?_⟩) ?_
    rotate_left
    focus (intro w0; go_simp; try with_reducible rfl)
    refine wpAny_take (i := 2) (v := ?_) rfl (by kernel_rfl) (by kernel_rfl) (by kernel_rfl) (fun _ _ _ h => h) (Or.inl ⟨by rfl, ?_⟩) ?_
    rotate_left
    focus (intro w0; go_simp; try with_reducible rfl)
    refine wpAny_take (i := 3) (v := ?_) rfl (by kernel_rfl) (by kernel_rfl) (by kernel_rfl) (fun _ _ _ h => h) (Or.inl ⟨by rfl, ?_⟩) ?_
    rotate_left
    focus (intro w0; go_simp; try with_reducible rfl)
    refine wpAny_take (i := 5) (v := ?_) rfl (by kernel_rfl) (by kernel_rfl) (by kernel_rfl) (fun _ _ _ h => h) (Or.inl ⟨by rfl, ?_⟩) ?_
    rotate_left
    focus (intro w0; go_simp; try with_reducible rfl)
    refine wpAny_take (i := 6) (v := ?_) rfl (by kernel_rfl) (by kernel_rfl) (by kernel_rfl) (fun _ _ _ h => h) (Or.inl ⟨by rfl, ?_⟩) ?_
    rotate_left
    focus (intro w0; go_simp; try with_reducible rfl)
    refine wpAny_take (i := 7) (v := ?_) rfl (by kernel_rfl) (by kernel_rfl) (by kernel_rfl) (fun _ _ _ h => h) (Or.inl ⟨by rfl, ?_⟩) ?_
    rotate_left
    focus (intro w0; go_simp; try with_reducible rfl)
    refine wpAny_take (i := 8) (v := ?_) rfl (by kernel_rfl) (by kernel_rfl) (by kernel_rfl) (fun _ _ _ h => h) (Or.inl ⟨by rfl, ?_⟩) ?_
    rotate_left
    focus (intro w0; go_simp; try with_reducible rfl)
    refine wpAny_ready (rs := [0]) (by kernel_rfl) (by simp) (AllReady.cons rfl (fun K hK => ?_) (AllReady.nil))
    go_simp
    refine hK _ _ ?_
    clear hK K
    refine wpAny_ready (rs := [4]) (by kernel_rfl) (by simp) (AllReady.cons rfl (fun K hK => ?_) (AllReady.nil))
    (refine step_list (by rintro ⟨_, _, h⟩; obtain ⟨_, hv, _⟩ := h; cases hv) (by kernel_rfl) ?_; refine wpList_append_own_at _ rfl _ _ 23 rfl w.heap.size 27 i0 (.agg #[.int .i64 (0), .int .i64 (0)]) 2 16 Tryd.underlying23 hi hz0 hz1 hz2 rfl (by decide) _ _ _ rfl HOw.out _ _ _ _ rfl (piece_len HT1.out) (piece_cells (HCl.out _ HBd.out) HT1.out) (piece_one _) (by unfold maxLen; simp; omega) (by simp; omega) HBz.out ?_; intro v2 w2 hown2 hgrow2 _ _; have HB2 := Lib.hid (HBd.out.grown hgrow2 HBz.out (fun q hq => (World.ownsRow.lt HOw.out q hq).1)); have HO2 := Lib.hid (Vecs.join (l := []) hown2 (by have := HL.out; simp <;> omega)); clear hown2 hgrow2)
    refine hK _ _ ?_
    clear hK K
    refine wpAny_ready (rs := [9]) (by kernel_rfl) (by simp) (AllReady.cons rfl (fun K hK => ?_) (AllReady.nil))
    (refine step_list (by rintro ⟨_, _, h⟩; obtain ⟨_, hv, _⟩ := h; cases hv) (by kernel_rfl) ?_; refine wpList_append_own_at _ rfl _ _ 23 rfl w.heap.size 27 i0 (.agg #[.int .i64 (0), .int .i64 (0)]) 2 16 Tryd.underlying23 hi hz0 hz1 hz2 rfl (by decide) _ _ _ rfl HO2.out _ _ _ _ rfl (piece_len HT2.out) (piece_cells (HCl.out _ HB2.out) HT2.out) (piece_one _) (by unfold maxLen; simp; omega) (by simp; omega) HB2.out.size ?_; intro v3 w3 hown3 hgrow3 _ _; have HB3 := Lib.hid (HB2.out.grown hgrow3 HB2.out.size (fun q hq => (World.ownsRow.lt HO2.out q hq).1)); have HO3 := Lib.hid (Vecs.join hown3 (by have := HL.out; simp <;> omega)); clear hown3 hgrow3)
    refine hK _ _ ?_
    clear hK K
    refine wpAny_seq 10 rfl (by kernel_rfl) ?_
    simp only [List.drop_succ_cons, List.drop_zero]
    all_goals go_wp2
    all_goals go_returns
    all_goals exact ⟨_, rfl, by rw [← HR.out]; exact HO3.out, HB3.out⟩
set_option maxHeartbeats 8000000 in
theorem specFanDown_any (v : Value) (l : List V2) (i : Int) (w : World) (hl : ReadsVecs w v l) :
    Calls Tryd.prog 41 #[v, .int .i64 i] w (GivesVecsOk w (gV (smoothB l && (idxB l i && downB l i.toNat)) (downL l i.toNat)) (smoothB l && (idxB l i && downB l i.toNat))) := by
  have HF := Lib.hid (specFanSmooth_any v l w hl)
  have hE := Lib.hid (fun w' => Vecs.empty w')
  have HI := Lib.hid (fun w' => l6In_any i 0 ((l.length : Int) - 1) w')
  rw [idx_is] at HI
  have HN := Lib.hid (fun k (hk : k < l.length) w' (hb : Below w.heap.size w w') h => l3Number_any v l k w' (hl.below hb) hk (by have := fan_len (smooth_in (l := l) h).1; omega) (smooth_all h))
  have HW := Lib.hid (fun k (hk : k < l.length) w' (hb : Below w.heap.size w w') h => l3Without_any v l k w' (hl.below hb) hk (by have := fan_len (smooth_in (l := l) h).1; omega))
  have HL := Lib.hid (fun h => fan_len (smooth_in (l := l) h).1)
  obtain ⟨a, c, rfl, _, hmm, _⟩ := hl
  have q1 : IntKind.i64.wrap ((l.length : Int) - 1) = (l.length : Int) - 1 := by rw [IntKind.wrap_i64]; omega
  cases hb : smoothB l
  · rw [hb] at HF
    clear hb HN HW HI HL
    go_enter Tryd.func41, Tryd.ntmps41
    go_wp2_with fail
    refine Calls.mono HF.out ?_
    rintro e w1 ⟨rfl, hb1⟩
    have hs1 := hb1.size
    have HE := Lib.hid ((hE.out w1).lower hs1)
    go_wp2
    go_returns
    exact ⟨_, rfl, HE.out, by go_grown⟩
  · rw [hb] at HF HN HW HL
    clear hb
    cases hi : idxB l i
    · rw [hi] at HI
      clear hi HN HW HL
      go_enter Tryd.func41, Tryd.ntmps41
      go_wp2_with fail
      refine Calls.mono HF.out ?_
      rintro e w1 ⟨rfl, hb1⟩
      have hs1 := hb1.size
      have HE := Lib.hid ((hE.out w1).lower hs1)
      go_wp2_with fail
      refine Calls.mono (HI.out _) ?_
      rintro e w2 ⟨rfl, rfl⟩
      go_wp2
      go_returns
      exact ⟨_, rfl, HE.out, by go_grown⟩
    · rw [hi] at HI
      obtain ⟨m, rfl, hm⟩ := idx_in hi
      rw [Int.toNat_natCast]
      have h20 := (HL.out (by simp)).2
      have HNm := Lib.hid (HN.out m hm)
      have HWm := Lib.hid (HW.out m hm)
      have HD : Hid (downB l m = (decide (3 < l.length) && (numZ l m == -1))) := rfl
      rw [HD.out]
      clear hi HN HW HL hm HD
      generalize numZ l m = z at HNm
      generalize l.length = n at *
      by_cases h3 : 3 < n
      case neg =>
        have j1 : (n : Int) < 4 := by omega
        have j2 : decide (3 < n) = false := by simpa using h3
        rw [j2]
        clear HNm HWm h3
        go_enter Tryd.func41, Tryd.ntmps41
        go_wp2_with fail
        refine Calls.mono HF.out ?_
        rintro e w1 ⟨rfl, hb1⟩
        have hs1 := hb1.size
        have HE := Lib.hid ((hE.out w1).lower hs1)
        go_wp2_with fail
        refine Calls.mono (HI.out _) ?_
        rintro e w2 ⟨rfl, rfl⟩
        go_wp2
        go_returns
        exact ⟨_, rfl, HE.out, by go_grown⟩
      case pos =>
        have j1 : ¬ (n : Int) < 4 := by omega
        have j2 : decide (3 < n) = true := by simpa using h3
        rw [j2]
        by_cases hz : z = -1
        case neg =>
          have hz2 : (z == -1) = false := by simpa using hz
          have hz3 : (z != -1) = true := by simp [bne, hz2]
          have hz4 : decide ((n : Int) < 4) = false := by simpa using j1
          rw [hz2]
          clear HWm h3
          go_enter Tryd.func41, Tryd.ntmps41
          go_wp2_with fail
          refine Calls.mono HF.out ?_
          rintro e w1 ⟨rfl, hb1⟩
          go_wp2_with fail
          refine Calls.mono (HI.out _) ?_
          rintro e w2 ⟨rfl, rfl⟩
          go_wp2_with fail
          refine Calls.mono (HNm.out _ hb1 (by simp)) ?_
          rintro e w3 ⟨rfl, hb3⟩
          have hB := belowTo hb1 hb3
          have hs1 := hB.size
          clear hb1 hb3
          have HE := Lib.hid ((hE.out w3).lower hs1)
          go_wp2
          go_returns
          exact ⟨_, rfl, HE.out, by go_grown⟩
        case pos =>
          subst hz
          clear h3
          go_enter Tryd.func41, Tryd.ntmps41
          go_wp2_with fail
          refine Calls.mono HF.out ?_
          rintro e w1 ⟨rfl, hb1⟩
          go_wp2_with fail
          refine Calls.mono (HI.out _) ?_
          rintro e w2 ⟨rfl, rfl⟩
          go_wp2_with fail
          refine Calls.mono (HNm.out _ hb1 (by simp)) ?_
          rintro e w3 ⟨rfl, hb3⟩
          have hB := belowTo hb1 hb3
          have hs1 := hB.size
          clear hb1 hb3
          go_wp2_with fail
          refine Calls.mono (HWm.out _ hB (by simp)) ?_
          rintro e w4 ⟨v4, rfl, hV, hb4⟩
          have HV := Lib.hid (hV.lower hs1)
          have hB4 := belowTo hB hb4
          clear hV hb4 hB hs1
          go_wp2
          go_returns
          exact ⟨_, rfl, HV.out, hB4⟩
end Go.Proofs.YtdlofnkimikaiaaDoor
