/- Divisors: the model's side: sums, degrees, products. -/
import Derived.Test.YtmencjdlfeojkaaDoorQs
import Derived.Test.YtmencjdlfeojkaaDoorQc
import Derived.Test.YtmencjdlfeojkaaDoorHn
import Derived.Test.YtmencjdlfeojkaaDoorB7
namespace Go.Proofs.YtmencjdlfeojkaaDoor
open Go.RowKit

theorem sum_snoc (a : List Int) (m : Int) (b : List Int) (k : Nat) : (List.range (k + 1)).map (fun i => gz a i + m * gz b i) = (List.range k).map (fun i => gz a i + m * gz b i) ++ [gz a k + m * gz b k] := tab_snoc _ _
set_option maxHeartbeats 16000000 in
theorem l4Sum_any (u v : Value) (a b : List Int) (m : Int) (w : World) (hu : ReadsInts w u a) (hv : ReadsInts w v b) (hl : b.length = a.length) (hm : a.length ≤ 1000) (ha : bnd 1000000000 a) (hb : bnd 1000000000 b) (hm2 : -100 ≤ m ∧ m ≤ 100) :
    Calls Tryd.prog 63 #[u, .int .i64 m, v] w (GivesInts w (sumL a m b)) := by
  obtain ⟨i0, hi, hz0, hz1, hz2⟩ := info_parts infoInt
  have hE := Lib.hid (Ints.empty w)
  have hu' := hu
  have hv' := hv
  obtain ⟨p1, q1, rfl, _⟩ := hu'.len
  obtain ⟨p2, q2, rfl, _⟩ := hv'.len
  have HU := Lib.hid (fun (h : 0 < a.length) => hu.open h)
  have HV := Lib.hid (fun (h : 0 < b.length) => hv.open h)
  have HMs := Lib.hid (fun k => sum_snoc a m b k)
  have HMb := Lib.hid (fun k => mul_le hm2 (hb k))
  have HMa := Lib.hid ha
  have HZ : Hid (sumL a m b = (List.range a.length).map (fun i => gz a i + m * gz b i)) := rfl
  have HL := Lib.hid hl
  rw [hl]
  obtain ⟨n, hn⟩ : ∃ n, n = a.length := ⟨_, rfl⟩
  have HN := Lib.hid hn
  rw [← hn] at HZ hm ⊢
  clear hn hu hv hu' hv' hl ha hb
  go_enter Tryd.func63, Tryd.ntmps63
  go_wp2
  go_loopw [7, 8] (fun s7 s8 wr => ∃ k : Nat, k ≤ n ∧ s8 = .int .i64 k ∧ Hid (Ints wr w.heap.size s7 ((List.range k).map (fun i => gz a i + m * gz b i))) ∧ Below w.heap.size w wr) (fun _ s8 _ => n - (intOf s8).toNat)
  case atStart => exact ⟨0, Nat.zero_le _, rfl, hE, by go_grown⟩
  case round =>
    obtain ⟨k, hk, rfl, HI, hB⟩ := hrel
    have i1 : (0 : Int) ≤ (k : Int) := by omega
    by_cases hlt : k < n
    · have i2 : (k : Int) < (n : Int) := by omega
      obtain ⟨bb, off, c1', e1, _, hbb, hcs⟩ := HU.out (by have := HN.out; omega)
      obtain ⟨bv, ov, c2', e2, _, hbv, hvs⟩ := HV.out (by have := HN.out; have := HL.out; omega)
      obtain rfl : p1 = some ⟨bb, off, none⟩ := by injection e1
      obtain rfl : p2 = some ⟨bv, ov, none⟩ := by injection e2
      have d1 := hcs wr hB k (by have := HN.out; omega)
      have d2 := hvs wr hB k (by have := HN.out; have := HL.out; omega)
      have hbl := Nat.lt_of_lt_of_le hbb hB.size
      have hbl2 := Nat.lt_of_lt_of_le hbv hB.size
      have b1 := HMa.out k
      have b2 := HMb.out k
      have HMk := Lib.hid (HMs.out k)
      have hkl : ((List.range k).map (fun i => gz a i + m * gz b i)).length = k := by simp
      have hown := HI.out
      unfold Ints at hown
      rw [hkl] at hown
      have HL2 := Lib.hid hkl
      have hbs := hB.size
      clear hcs hvs e1 e2 hkl HU HV HI
      generalize gz a k = x at *
      generalize gz b k = y at *
      have q1 : IntKind.i64.wrap (m * y) = m * y := by rw [IntKind.wrap_i64]; omega
      have q2 : IntKind.i64.wrap (x + m * y) = x + m * y := by rw [IntKind.wrap_i64]; omega
      go_wp2
      refine wp_region_any (by kernel_rfl) ?_
      try (change wpAny _ _ _ _ _ _ _ (World.drew _))
      refine wpAny_take (i := 0) (v := ?_) rfl (by kernel_rfl) (by kernel_rfl) (by kernel_rfl) (fun _ _ _ h => h) (Or.inl ⟨by rfl, ?_⟩) ?_
      rotate_left
      focus (intro w0; go_simp; try with_reducible rfl)
      refine wpAny_take (i := 1) (v := ?_) rfl (by kernel_rfl) (by kernel_rfl) (by kernel_rfl) (fun _ _ _ h => h) (Or.inl ⟨by rfl, ?_⟩) ?_
      rotate_left
      focus (intro w0; go_simp; try with_reducible rfl)
      refine wpAny_take (i := 2) (v := ?_) rfl (by kernel_rfl) (by kernel_rfl) (by kernel_rfl) (fun _ _ _ h => h) (Or.inl ⟨by rfl, ?_⟩) ?_
      rotate_left
      focus (intro w0; go_simp; try with_reducible rfl)
      refine wpAny_take (i := 3) (v := ?_) rfl (by kernel_rfl) (by kernel_rfl) (by kernel_rfl) (fun _ _ _ h => h) (Or.inl ⟨by rfl, ?_⟩) ?_
      rotate_left
      focus (intro w0; go_simp; try with_reducible rfl)
      refine wpAny_take (i := 5) (v := ?_) rfl (by kernel_rfl) (by kernel_rfl) (by kernel_rfl) (fun _ _ _ h => h) (Or.inl ⟨by rfl, ?_⟩) ?_
      rotate_left
      focus (intro w0; go_simp; try with_reducible rfl)
      refine wpAny_take (i := 6) (v := ?_) rfl (by kernel_rfl) (by kernel_rfl) (by kernel_rfl) (fun _ _ _ h => h) (Or.inl ⟨by rfl, ?_⟩) ?_
      rotate_left
      focus (intro w0; go_simp; try with_reducible rfl)
      refine wpAny_take (i := 7) (v := ?_) rfl (by kernel_rfl) (by kernel_rfl) (by kernel_rfl) (fun _ _ _ h => h) (Or.inl ⟨by rfl, ?_⟩) ?_
      rotate_left
      focus (intro w0; go_simp; try with_reducible rfl)
      refine wpAny_take (i := 8) (v := ?_) rfl (by kernel_rfl) (by kernel_rfl) (by kernel_rfl) (fun _ _ _ h => h) (Or.inl ⟨by rfl, ?_⟩) ?_
      rotate_left
      focus (intro w0; go_simp; try with_reducible rfl)
      refine wpAny_ready (rs := [4, 9]) (by kernel_rfl) (by simp) (AllReady.cons rfl (fun K hK => ?_) (AllReady.cons rfl (fun K hK => ?_) (AllReady.nil)))
      focus
        go_simp
        refine hK _ _ ?_
        clear hK K
        refine wpAny_ready (rs := [9]) (by kernel_rfl) (by simp) (AllReady.cons rfl (fun K hK => ?_) (AllReady.nil))
        go_simp
        refine hK _ _ ?_
        clear hK K
        refine wpAny_take (i := 10) (v := ?_) rfl (by kernel_rfl) (by kernel_rfl) (by kernel_rfl) (fun _ _ _ h => h) (Or.inl ⟨by rfl, ?_⟩) ?_
        rotate_left
        focus (intro w0; go_simp; try with_reducible rfl)
        refine wpAny_take (i := 11) (v := ?_) rfl (by kernel_rfl) (by kernel_rfl) (by kernel_rfl) (fun _ _ _ h => h) (Or.inl ⟨by rfl, ?_⟩) ?_
        rotate_left
        focus (intro w0; go_simp; try with_reducible rfl)
        refine wpAny_seq 12 rfl (by kernel_rfl) ?_
        simp only [List.drop_succ_cons, List.drop_zero]
      rotate_left 1
      focus
        go_simp
        refine hK _ _ ?_
        clear hK K
        refine wpAny_take (i := 10) (v := ?_) rfl (by kernel_rfl) (by kernel_rfl) (by kernel_rfl) (fun _ _ _ h => h) (Or.inl ⟨by rfl, ?_⟩) ?_
        rotate_left
        focus (intro w0; go_simp; try with_reducible rfl)
        refine wpAny_ready (rs := [4]) (by kernel_rfl) (by simp) (AllReady.cons rfl (fun K hK => ?_) (AllReady.nil))
        go_simp
        refine hK _ _ ?_
        clear hK K
        refine wpAny_take (i := 11) (v := ?_) rfl (by kernel_rfl) (by kernel_rfl) (by kernel_rfl) (fun _ _ _ h => h) (Or.inl ⟨by rfl, ?_⟩) ?_
        rotate_left
        focus (intro w0; go_simp; try with_reducible rfl)
        refine wpAny_seq 12 rfl (by kernel_rfl) ?_
        simp only [List.drop_succ_cons, List.drop_zero]
      all_goals
        go_wp2_with (at_builtin; refine wpList_append_own_at _ rfl _ _ 23 rfl w.heap.size 3 i0 (.int .i64 0) 1 8 Tryd.underlying23 hi hz0 hz1 hz2 rfl (by decide) _ _ _ rfl ((hown.drew).alloc _) ⟨wr.heap.size, 0, none⟩ 1 1 [.int .i64 (x + m * y)] rfl rfl ?c1 ?c2 ?c3 ?c4 ?c5 ?_)
        case c1 =>
          intro j u hj
          match j, hj with
          | 0, hj => simp at hj; subst hj; simp [Addr.add]
        case c2 => intro u hu; simp at hu; subst hu; rfl
        case c3 => unfold maxLen; omega
        case c4 => omega
        case c5 => simp; omega
        intro v' w3 hown' hgrow _ _
        have hB2 : Below w.heap.size w w3 := ((hB.drew).alloc (by simp; omega) _).grown hgrow (by simp; omega) (fun k hk => (hown.lt k hk).1)
        have HV := Lib.hid (Ints.snoc (l := (List.range k).map (fun i => gz a i + m * gz b i)) HL2.out.symm hown')
        rw [← HMk.out] at HV
        clear hown' hgrow hown
        go_wp2
        go_roundw
        case rel => exact ⟨k + 1, by omega, by go_num, HV, hB2⟩
        case measure => simp [intOf]; omega
    · obtain rfl : k = n := by omega
      have i2 : ¬ (k : Int) < (k : Int) := by omega
      go_wp2
      go_returns
      exact ⟨_, rfl, by rw [HZ.out]; exact HI.out, hB⟩
end Go.Proofs.YtmencjdlfeojkaaDoor
