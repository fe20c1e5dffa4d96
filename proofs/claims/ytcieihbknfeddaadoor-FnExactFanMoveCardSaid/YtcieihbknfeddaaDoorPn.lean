/- Moved fans: the model's side. -/
import Derived.Test.YtcieihbknfeddaaDoorPm
import Derived.Test.YtcieihbknfeddaaDoorSu
namespace Go.Proofs.YtcieihbknfeddaaDoor
open Go.RowKit

set_option maxRecDepth 100000 in
set_option maxHeartbeats 2000000 in
theorem specFanMove_in (v : Value) (l : List V2) (e f g h : Int) (w : World) (hl : ReadsVecs w v l) (hf : fanB l = true) (hM : matB e f g h = true) :
    Calls Tryd.prog 56 #[v, .agg #[.int .i64 (e), .int .i64 (f), .int .i64 (g), .int .i64 (h)]] w (GivesVecsOk w (gV (ofB (movedZ l e f g h)) (sortL (movedZ l e f g h))) (ofB (movedZ l e f g h))) := by
  obtain ⟨i0, hi, hz0, hz1, hz2⟩ := info_parts infoVec
  obtain ⟨⟨he1, he2, he3, he4⟩, _⟩ := mat_in hM
  have h20 := (fan_len hf)
  obtain ⟨bb, off, c, rfl, hc, hmm, hbb, hcs⟩ := hl.open (by omega)
  have HFI := Lib.hid (fun w' (hb : Below w.heap.size w w') => specFanIn_any _ l w' (hl.below hb))
  have HMI := Lib.hid (fun w' => specMatIn_any e f g h w')
  have HMv := Lib.hid (fun x y w' (hx : vecB x y = true) => l1Move_any e f g h x y w' he1 he2 he3 he4 (vecB_true hx).1 (vecB_true hx).2)
  have HV := Lib.hid (fan_vec hf)
  have HCl := Lib.hid hcs
  have HFo := Lib.hid (fun v' w' hV (hm : (movedZ l e f g h).length ≤ 1048576) => specFanOf_any v' (movedZ l e f g h) w' hV hm)
  have hE := Lib.hid (fun w' => Vecs.empty w')
  have HMo := Lib.hid (fun k => movedL_snoc l e f g h (List.range k) k)
  have HLn := Lib.hid (fun k => movedL_len l e f g h (List.range k))
  have HZ : Hid (movedZ l e f g h = movedL l e f g h (List.range l.length)) := rfl
  rw [hf] at HFI
  rw [hM] at HMI
  obtain ⟨n, hn⟩ : ∃ n, n = l.length := ⟨_, rfl⟩
  rw [← hn] at HCl HFI HZ h20 hc hmm
  rw [← hn]
  clear hcs hl hf hM he1 he2 he3 he4 hn
  go_enter Tryd.func56, Tryd.ntmps56
  go_wp2_with fail
  refine Calls.mono (HFI.out _ (by go_grown)) ?_
  rintro e1 w1 ⟨rfl, hb1⟩
  have hB : Below w.heap.size w w1 := belowTo (by go_grown) hb1
  have c0 : w1.cell? ⟨w.heap.size, 0, none⟩ = some (.int .i64 e) := (hb1.cell (p := ⟨w.heap.size, 0, none⟩) (by simp)).trans (by simp)
  have c1 : w1.cell? ⟨w.heap.size, 1, none⟩ = some (.int .i64 f) := (hb1.cell (p := ⟨w.heap.size, 1, none⟩) (by simp)).trans (by simp)
  have c2 : w1.cell? ⟨w.heap.size, 2, none⟩ = some (.int .i64 g) := (hb1.cell (p := ⟨w.heap.size, 2, none⟩) (by simp)).trans (by simp)
  have c3 : w1.cell? ⟨w.heap.size, 3, none⟩ = some (.int .i64 h) := (hb1.cell (p := ⟨w.heap.size, 3, none⟩) (by simp)).trans (by simp)
  have s0 : w.heap.size < w1.heap.size := Nat.lt_of_lt_of_le (by simp) hb1.size
  clear hb1 HFI
  go_wp2_with fail
  refine Calls.mono (HMI.out _) ?_
  rintro e2 w2 ⟨rfl, hb2⟩
  replace hB := belowTo hB hb2
  replace c0 := (hb2.cell (p := ⟨w.heap.size, 0, none⟩) s0).trans c0
  replace c1 := (hb2.cell (p := ⟨w.heap.size, 1, none⟩) s0).trans c1
  replace c2 := (hb2.cell (p := ⟨w.heap.size, 2, none⟩) s0).trans c2
  replace c3 := (hb2.cell (p := ⟨w.heap.size, 3, none⟩) s0).trans c3
  replace s0 := Nat.lt_of_lt_of_le s0 hb2.size
  clear hb2 HMI
  have hs2 := hB.size
  have HI0 : Hid (Vecs (w2.alloc (.cells #[] 26)) w2.heap.size (.slice (some ⟨w2.heap.size, 0, none⟩) 0 0) (movedL l e f g h (List.range 0))) := hE.out w2
  have HB := Lib.hid hB
  clear hB hE
  go_wp2
  go_loopw [6, 7] (fun s6 s7 wr => ∃ k : Nat, k ≤ n ∧ s7 = .int .i64 k ∧ Hid (Vecs wr w2.heap.size s6 (movedL l e f g h (List.range k))) ∧ Below w2.heap.size w2 wr) (fun _ s7 _ => n - (intOf s7).toNat)
  case atStart => exact ⟨0, Nat.zero_le _, rfl, HI0, by go_grown⟩
  case round =>
    clear HI0
    obtain ⟨k, hk, rfl, HI, hB2⟩ := hrel
    have i1 : (0 : Int) ≤ (k : Int) := by omega
    by_cases hlt : k < n
    · have i2 : (k : Int) < (n : Int) := by omega
      have hB3 := HB.out.trans (hB2.mono hs2)
      obtain ⟨u0, u1⟩ := HCl.out wr hB3 k hlt
      have hbl : bb < wr.heap.size := Nat.lt_of_lt_of_le hbb hB3.size
      have hvx := HV.out k
      have HX := Lib.hid (HMo.out k)
      rw [← List.range_succ] at HX
      have hkl := HLn.out k
      rw [List.length_range] at hkl
      have d0 := (hB2.cell (p := ⟨w.heap.size, 0, none⟩) s0).trans c0
      have d1 := (hB2.cell (p := ⟨w.heap.size, 1, none⟩) s0).trans c1
      have d2 := (hB2.cell (p := ⟨w.heap.size, 2, none⟩) s0).trans c2
      have d3 := (hB2.cell (p := ⟨w.heap.size, 3, none⟩) s0).trans c3
      have HM2 := Lib.hid (fun w' => HMv.out (cyc l k).1 (cyc l k).2 w' hvx)
      generalize moveX e f (cyc l k).1 (cyc l k).2 = mx at HX HM2
      generalize moveX g h (cyc l k).1 (cyc l k).2 = my at HX HM2
      generalize cyc l k = z at u0 u1 HM2
      obtain ⟨zx, zy⟩ := z
      dsimp only at u0 u1 HM2
      have sl : w.heap.size < wr.heap.size := Nat.lt_of_lt_of_le s0 hB2.size
      clear hvx c0 c1 c2 c3 hB3
      go_wp2
      refine wp_region_any (by kernel_rfl) ?_
      try (change wpAny _ _ _ _ _ _ _ (World.drew _))
      refine wpAny_take (i := 0) (v := ?_) rfl (by kernel_rfl) (by kernel_rfl) (by kernel_rfl) (fun _ _ _ h => h) (Or.inl ⟨by rfl, ?_⟩) ?_
      rotate_left
      focus (intro w0; go_simp; try with_reducible rfl)
      refine wpAny_take (i := 2) (v := ?_) rfl (by kernel_rfl) (by kernel_rfl) (by kernel_rfl) (fun _ _ _ h => h) (Or.inl ⟨by rfl, ?_⟩) ?_
      rotate_left
      focus (intro w0; go_simp; try with_reducible rfl)
      refine wpAny_take (i := 3) (v := ?_) rfl (by kernel_rfl) (by kernel_rfl) (by kernel_rfl) (fun _ _ _ h => h) (Or.inl ⟨by rfl, ?_⟩) ?_
      rotate_left
      focus (intro w0; go_simp; try with_reducible rfl)
      refine wpAny_take (i := 4) (v := ?_) rfl (by kernel_rfl) (by kernel_rfl) (by kernel_rfl) (fun _ _ _ h => h) (Or.inl ⟨by rfl, ?_⟩) ?_
      rotate_left
      focus (intro w0; go_simp; try with_reducible rfl)
      refine wpAny_ready (rs := [1, 5]) (by kernel_rfl) (by simp) (AllReady.cons rfl (fun K hK => ?_) (AllReady.cons rfl (fun K hK => ?_) (AllReady.nil)))
      focus
        go_simp
        refine hK _ _ ?_
        clear hK K
        refine wpAny_ready (rs := [5]) (by kernel_rfl) (by simp) (AllReady.cons rfl (fun K hK => ?_) (AllReady.nil))
        go_simp
        refine hK _ _ ?_
        clear hK K
        refine wpAny_ready (rs := [6]) (by kernel_rfl) (by simp) (AllReady.cons rfl (fun K hK => ?_) (AllReady.nil))
        go_simp
        (refine Calls.mono (HM2.out _) ?_; rintro e w1 ⟨rfl, hb1⟩; replace hb1 := undrew hb1)
        refine hK _ _ ?_
        clear hK K
        refine wpAny_ready (rs := [7]) (by kernel_rfl) (by simp) (AllReady.cons rfl (fun K hK => ?_) (AllReady.nil))
        go_simp
        refine hK _ _ ?_
        clear hK K
        refine wpAny_seq 8 rfl (by kernel_rfl) ?_
        simp only [List.drop_succ_cons, List.drop_zero]
      rotate_left 1
      focus
        go_simp
        refine hK _ _ ?_
        clear hK K
        refine wpAny_ready (rs := [1]) (by kernel_rfl) (by simp) (AllReady.cons rfl (fun K hK => ?_) (AllReady.nil))
        go_simp
        refine hK _ _ ?_
        clear hK K
        refine wpAny_ready (rs := [6]) (by kernel_rfl) (by simp) (AllReady.cons rfl (fun K hK => ?_) (AllReady.nil))
        go_simp
        (refine Calls.mono (HM2.out _) ?_; rintro e w1 ⟨rfl, hb1⟩; replace hb1 := undrew hb1)
        refine hK _ _ ?_
        clear hK K
        refine wpAny_ready (rs := [7]) (by kernel_rfl) (by simp) (AllReady.cons rfl (fun K hK => ?_) (AllReady.nil))
        go_simp
        refine hK _ _ ?_
        clear hK K
        refine wpAny_seq 8 rfl (by kernel_rfl) ?_
        simp only [List.drop_succ_cons, List.drop_zero]
      all_goals
        have hB4 := belowTo hB2 hb1
        have hown := HI.out.below hb1
        unfold Vecs VRow at hown
        rw [hkl] at hown
        have hbs := hB4.size
        clear hb1 d0 d1 d2 d3 u0 u1
        go_wp2_with (at_builtin; refine wpList_append_own_at _ rfl _ _ 39 rfl w2.heap.size 26 i0 (.agg #[.int .i64 (0), .int .i64 (0)]) 2 16 Tryd.underlying39 hi hz0 hz1 hz2 rfl (by decide) _ _ _ rfl (hown.alloc _) ⟨_, 0, none⟩ 1 1 [.int .i64 mx, .int .i64 my] rfl rfl ?c1 ?c2 ?c3 ?c4 ?c5 ?_)
        case c1 =>
          intro j u hj
          match j, hj with
          | 0, hj => simp at hj; subst hj; simp [Addr.add]
          | 1, hj => simp at hj; subst hj; simp [Addr.add]
        case c2 => intro u hu; simp at hu; rcases hu with rfl | rfl <;> rfl
        case c3 => unfold maxLen; omega
        case c4 => omega
        case c5 => simp; omega
        intro v' w4 hown' hgrow _ _
        have hB5 := (hB4.alloc hbs _).grown hgrow (by simp; omega) (fun k hk => (hown.lt k hk).1)
        have HVv := Lib.hid (Vecs.snoc (l := movedL l e f g h (List.range k)) hkl.symm hown')
        rw [← HX.out] at HVv
        clear hown' hgrow hown hB4 HI hkl hbs
        go_wp2
        go_roundw
        case rel => exact ⟨k + 1, by omega, by go_num, HVv, hB5⟩
        case measure => simp [intOf]; omega
    · obtain rfl : k = n := by omega
      have i2 : ¬ (k : Int) < (k : Int) := by omega
      have hml : (movedZ l e f g h).length ≤ 1048576 := by rw [HZ.out, HLn.out, List.length_range]; omega
      have hV := HI.out
      rw [← HZ.out] at hV
      have HC4 := Lib.hid (HFo.out _ wr (hV.reads (by omega)) hml)
      have hB3 := HB.out.trans (hB2.mono hs2)
      clear hV hml HFo c0 c1 c2 c3
      generalize ofB (movedZ l e f g h) = B at *
      generalize gV B (sortL (movedZ l e f g h)) = R at *
      go_wp2_with fail
      refine Calls.mono HC4.out ?_
      rintro e5 w5 ⟨v5, rfl, hV5, hb5⟩
      have HV5 := Lib.hid (hV5.lower hB3.size)
      have hB6 := belowTo hB3 hb5
      clear hV5 hb5 HC4
      go_wp2
      go_returns
      exact ⟨_, rfl, HV5.out, hB6⟩
set_option maxHeartbeats 4000000 in
theorem specFanMove_any (v : Value) (l : List V2) (e f g h : Int) (w : World) (hl : ReadsVecs w v l) :
    Calls Tryd.prog 56 #[v, .agg #[.int .i64 (e), .int .i64 (f), .int .i64 (g), .int .i64 (h)]] w (GivesVecsOk w (gV (mvB l e f g h) (sortL (movedZ l e f g h))) (mvB l e f g h)) := by
  have HFI := Lib.hid (fun w' (hb : Below w.heap.size w w') => specFanIn_any v l w' (hl.below hb))
  have HMI := Lib.hid (fun w' => specMatIn_any e f g h w')
  have hE := Lib.hid (fun w' => Vecs.empty w')
  cases hf : fanB l
  · have e0 : mvB l e f g h = false := by simp [mvB, hf]
    rw [e0]
    rw [hf] at HFI
    clear hf hl
    go_enter Tryd.func56, Tryd.ntmps56
    go_wp2_with fail
    refine Calls.mono (HFI.out _ (by go_grown)) ?_
    rintro e1 w1 ⟨rfl, hb1⟩
    have hB : Below w.heap.size w w1 := belowTo (by go_grown) hb1
    have HE := Lib.hid ((hE.out w1).lower hB.size)
    have hs := hB.size
    clear hb1
    go_wp2
    go_returns
    exact ⟨_, rfl, HE.out, by go_grown⟩
  · cases hM : matB e f g h
    · have e0 : mvB l e f g h = false := by simp [mvB, hM]
      rw [e0]
      rw [hf] at HFI
      rw [hM] at HMI
      clear hf hM hl
      go_enter Tryd.func56, Tryd.ntmps56
      go_wp2_with fail
      refine Calls.mono (HFI.out _ (by go_grown)) ?_
      rintro e1 w1 ⟨rfl, hb1⟩
      have hB : Below w.heap.size w w1 := belowTo (by go_grown) hb1
      have c0 : w1.cell? ⟨w.heap.size, 0, none⟩ = some (.int .i64 e) := (hb1.cell (p := ⟨w.heap.size, 0, none⟩) (by simp)).trans (by simp)
      have c1 : w1.cell? ⟨w.heap.size, 1, none⟩ = some (.int .i64 f) := (hb1.cell (p := ⟨w.heap.size, 1, none⟩) (by simp)).trans (by simp)
      have c2 : w1.cell? ⟨w.heap.size, 2, none⟩ = some (.int .i64 g) := (hb1.cell (p := ⟨w.heap.size, 2, none⟩) (by simp)).trans (by simp)
      have c3 : w1.cell? ⟨w.heap.size, 3, none⟩ = some (.int .i64 h) := (hb1.cell (p := ⟨w.heap.size, 3, none⟩) (by simp)).trans (by simp)
      clear hb1
      go_wp2_with fail
      refine Calls.mono (HMI.out _) ?_
      rintro e2 w2 ⟨rfl, hb2⟩
      replace hB := belowTo hB hb2
      have HE := Lib.hid ((hE.out w2).lower hB.size)
      have hs := hB.size
      clear hb2 c0 c1 c2 c3
      go_wp2
      go_returns
      exact ⟨_, rfl, HE.out, by go_grown⟩
    · have e0 : mvB l e f g h = ofB (movedZ l e f g h) := by simp [mvB, hf, hM]
      rw [e0]
      exact specFanMove_in v l e f g h w hl hf hM
end Go.Proofs.YtcieihbknfeddaaDoor
