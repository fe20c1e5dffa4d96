/- Lists of numbers and their fans: the rays; NumbersFan; the program. -/
import Derived.Test.YtohojjoediibhaaDoorEf
import Derived.Test.YtohojjoediibhaaDoorEi
import Derived.Test.YtohojjoediibhaaDoorBe
import Derived.Test.YtohojjoediibhaaDoorQh
namespace Go.Proofs.YtohojjoediibhaaDoor
open Go.RowKit

/-- two pairs are the same -/
theorem run_eqPair (x1 y1 x2 y2 z1 t1 z2 t2 : Int) (w : World) : (binOp .eql 146 (.agg #[.int .i64 (x1), .int .i64 (y1), .int .i64 (x2), .int .i64 (y2)]) (.agg #[.int .i64 (z1), .int .i64 (t1), .int .i64 (z2), .int .i64 (t2)])).run Tryd.prog w = .ok (.bool (decide (((x1, y1), (x2, y2)) = ((z1, t1), (z2, t2))))) w := by
  have hu : Tryd.prog.underlying 146 = some (.array 2 43) := by kernel_rfl
  obtain ⟨i0, hi, hz0, hz1, hz2⟩ := info_parts infoVec
  have hc : Tryd.prog.cellsOf 43 = 2 := by kernel_rfl
  have hS : Tryd.prog.underlying 43 = some (.struct (Tryd.prog.fieldsOf 43)) := by kernel_rfl
  have hp : Tryd.prog.stoodInHeld 43 = false := by kernel_rfl
  have u3 := Tryd.underlying3
  have a3 := Tryd.isAgg3
  have z3 := Tryd.sizeOf3
  have av := Tryd.isAgg43
  have zv := Tryd.sizeOf43
  have E : ∀ (D : Nat) (a b c d : Int), (Op.equalIn (D + 1 + 1) 43 (.agg #[.int .i64 (a), .int .i64 (b)]) (.agg #[.int .i64 (c), .int .i64 (d)])).run Tryd.prog w = .ok (decide (a = c) && decide (b = d)) w := by
    intro D a b c d
    rw [run_equalIn_agg w (D + 1) 43 _ _ hS hp]
    simp only [Program.fieldsOf, Tryd.underlying43]
    go_simp
    by_cases h1 : a = c <;> by_cases h2 : b = d <;> simp [h1, h2]
  have F : ∀ D : Nat, (Op.equalIn (D + 1 + 1 + 1) 146 (.agg #[.int .i64 (x1), .int .i64 (y1), .int .i64 (x2), .int .i64 (y2)]) (.agg #[.int .i64 (z1), .int .i64 (t1), .int .i64 (z2), .int .i64 (t2)])).run Tryd.prog w = .ok (decide (((x1, y1), (x2, y2)) = ((z1, t1), (z2, t2)))) w := by
    intro D
    rw [run_equalIn_array w (D + 1 + 1) _ _ hu hi, hc]
    simp only [List.range_succ, List.range_zero, List.nil_append, List.cons_append, Op.eqItems]
    have e1 := E D x1 y1 z1 t1
    have e2 := E D x2 y2 z2 t2
    generalize Op.equalIn (D + 1 + 1) 43 = G at *
    go_simp
    by_cases h1 : x1 = z1 <;> by_cases h2 : y1 = t1 <;> by_cases h3 : x2 = z2 <;> by_cases h4 : y2 = t2 <;> simp [h1, h2, h3, h4]
  rw [run_eql_struct, show (10000 : Nat) = 9997 + 1 + 1 + 1 from rfl, F]
  rfl
/-- what closed gives: the rays, if all of them are vectors -/
def GivesClosed (w : World) (d : List Int) (e : Ending) (w' : World) : Prop := ∃ v, e = .returned (.tuple #[v, .bool (inN d && closeN d)]) ∧ Vecs w' w.heap.size v (gV (inN d) (raysN d d.length)) ∧ Below w.heap.size w w'
theorem vecs_low {W : World} {base k o : Nat} {v : Value} {l : List V2} (h : Vecs W base v l) (hk : k < base) (u : Value) : Vecs (W.setCell ⟨k, o, none⟩ u) base v l :=
  h.far (grown_set W k o u) (fun q hq e => by have := (h.block q hq).1; cases e; omega)
theorem vecs_low4 {W : World} {base k : Nat} {v : Value} {l : List V2} (h : Vecs W base v l) (hk : k < base) (u0 u1 u2 u3 : Value) : Vecs ((((W.setCell ⟨k, 0, none⟩ u0).setCell ⟨k, 1, none⟩ u1).setCell ⟨k, 2, none⟩ u2).setCell ⟨k, 3, none⟩ u3) base v l :=
  vecs_low (vecs_low (vecs_low (vecs_low h hk _) hk _) hk _) hk _
set_option maxHeartbeats 16000000 in
theorem closed_any (v : Value) (d : List Int) (w : World) (h : ReadsInts w v d) (hg : EtOk w) (ha : areN d 0 = true) :
    Calls Tryd.prog 125 #[v] w (GivesClosed w d) := by
  obtain ⟨h3, h20, hr⟩ := are_in ha
  obtain ⟨i0, hi, hz0, hz1, hz2⟩ := info_parts infoVec
  have HO := Lib.hid (h.open (by omega))
  obtain ⟨bb, off, c, rfl, _, hbb, hcs⟩ := h.open (by omega)
  have HCs := Lib.hid hcs
  have HNum := Lib.hid (fun i (hi : i < d.length) => num_at hr hi)
  have HBad := Lib.hid (fun k hk h => in_bad (d := d) (k := k) hk h)
  have HGood := Lib.hid (fun h => in_good (d := d) h)
  have HRay := Lib.hid (fun k h => ok_ray (d := d) (k := k) h)
  have HNx := Lib.hid (fun i => ray_next d i)
  have HSn := Lib.hid (fun k => raysN_succ d k)
  have HCl := Lib.hid (close_pair d)
  have HRl := Lib.hid (fun k => raysN_len d k)
  have HG := Lib.hid hg
  have HEq := Lib.hid (fun x1 y1 x2 y2 w' => run_eqPair x1 y1 x2 y2 1 0 0 1 w')
  obtain ⟨n, hn⟩ : ∃ n, n = d.length := ⟨_, rfl⟩
  have HN := Lib.hid hn
  rw [← hn] at h3 h20 HCs HNum ⊢
  clear h hg ha hr hcs HO hn
  go_enter Tryd.func125, Tryd.ntmps125
  go_wp2
  have hA : Below w.heap.size w ((w.alloc (.cells #[.int .i64 1, .int .i64 0, .int .i64 0, .int .i64 1] 146)).alloc (.cells #[.int .i64 1, .int .i64 0, .int .i64 0, .int .i64 1] 146)) := by go_grown
  have rA : RowAt ((w.alloc (.cells #[.int .i64 1, .int .i64 0, .int .i64 0, .int .i64 1] 146)).alloc (.cells #[.int .i64 1, .int .i64 0, .int .i64 0, .int .i64 1] 146)) w.heap.size 146 (fourV 1 0 0 1) := (RowAt.made w 146 (fourV 1 0 0 1)).more _
  have rB : RowAt ((w.alloc (.cells #[.int .i64 1, .int .i64 0, .int .i64 0, .int .i64 1] 146)).alloc (.cells #[.int .i64 1, .int .i64 0, .int .i64 0, .int .i64 1] 146)) (w.heap.size + 1) 146 (fourV 1 0 0 1) := by
    have := RowAt.made (w.alloc (.cells #[.int .i64 1, .int .i64 0, .int .i64 0, .int .i64 1] 146)) 146 (fourV 1 0 0 1)
    rwa [World.size_alloc] at this
  have hz : ((w.alloc (.cells #[.int .i64 1, .int .i64 0, .int .i64 0, .int .i64 1] 146)).alloc (.cells #[.int .i64 1, .int .i64 0, .int .i64 0, .int .i64 1] 146)).heap.size = w.heap.size + 1 + 1 := by simp
  generalize ((w.alloc (.cells #[.int .i64 1, .int .i64 0, .int .i64 0, .int .i64 1] 146)).alloc (.cells #[.int .i64 1, .int .i64 0, .int .i64 0, .int .i64 1] 146)) = W0 at *
  have RA := Lib.hid rA
  have RB := Lib.hid rB
  have hz1 : w.heap.size + 1 + 1 ≤ W0.heap.size := by omega
  clear rA rB hz
  go_loopw [6, 14] (fun s6 s14 wr => ∃ k : Nat, s14 = .int .i64 k ∧ k ≤ n ∧ Hid (Vecs wr (w.heap.size + 1 + 1) s6 (raysN d k)) ∧ Hid (∀ i, i < k → okN d i = true) ∧ Hid (RowAt wr (w.heap.size + 1) 146 (fourV (rayN d k).1 (rayN d k).2 (rayN d (k + 1)).1 (rayN d (k + 1)).2)) ∧ Hid (RowAt wr w.heap.size 146 (fourV 1 0 0 1)) ∧ Below w.heap.size w wr ∧ w.heap.size + 1 + 1 ≤ wr.heap.size) (fun _ s14 _ => n - (intOf s14).toNat)
  case atStart => exact ⟨0, rfl, Nat.zero_le _, Vecs.nil _ _, fun i hi => absurd hi (Nat.not_lt_zero _), RB, RA, hA, hz1⟩
  case round =>
    obtain ⟨k, rfl, hk, HV, HOk, HRB, HRA, hB, hzr⟩ := hrel
    clear RA RB hA hz1
    have i1 : (0 : Int) ≤ (k : Int) := by omega
    by_cases hlt : k < n
    · have i2 : (k : Int) < (n : Int) := by omega
      have HVk := Lib.hid (HRay.out k HOk.out k (by omega))
      have HVk1 := Lib.hid (HRay.out k HOk.out (k + 1) (by omega))
      have hq := Nat.mod_lt (k + 1) (show 0 < n by omega)
      have c1 : wr.cell? ⟨bb, off + (k + 1) % n, none⟩ = some (.int .i64 (gz d ((k + 1) % n))) := HCs.out wr hB _ hq
      have HNa := Lib.hid (HNum.out ((k + 1) % n) hq)
      have HNk := Lib.hid (HNx.out k)
      rw [← HN.out] at HNk
      have t2 := behindD k n
      generalize (k + 1) % n = q at *
      obtain ⟨d0, d1, d2, d3⟩ := HRB.out.four
      have f0 := HRB.out.free
      have HSk := Lib.hid (HSn.out k)
      have hrl : (raysN d k).length = k := HRl.out k
      have hown := HV.out
      unfold Vecs VRow at hown
      rw [hrl] at hown
      have H4 := Lib.hid (fun A B C => next_any (rayN d k).1 (rayN d k).2 (rayN d (k + 1)).1 (rayN d (k + 1)).2 A B HVk.out HVk1.out C)
      have H5 := Lib.hid (fun A B C D w' => pairCheck_any A B C D w')
      have hsz : Tryd.prog.info? 43 = some i0 := hi
      obtain ⟨⟨x1, y1⟩, hX1⟩ : ∃ p, p = rayN d k := ⟨_, rfl⟩
      obtain ⟨⟨x2, y2⟩, hX2⟩ : ∃ p, p = rayN d (k + 1) := ⟨_, rfl⟩
      obtain ⟨⟨x3, y3⟩, hX3⟩ : ∃ p, p = rayN d (k + 2) := ⟨_, rfl⟩
      have HX1 := Lib.hid hX1
      have HX2 := Lib.hid hX2
      have HX3 := Lib.hid hX3
      rw [← hX1, ← hX2] at H4 HNk
      rw [← hX3] at HNk
      rw [← hX1] at d0 d1 HVk HSk
      rw [← hX2] at d2 d3 HVk1
      rw [← hX1, ← hX2] at HRB
      obtain ⟨a, hal⟩ : ∃ a, a = gz d q := ⟨_, rfl⟩
      rw [← hal] at c1 HNa HNk
      have HN3 : Hid (x3 = x2 * -a - x1 ∧ y3 = y2 * -a - y1) := by
        have e := HNk.out
        exact ⟨congrArg Prod.fst e, congrArg Prod.snd e⟩
      dsimp only at d0 d1 d2 d3 HVk HVk1 HRB H4 HSk
      have q1 : IntKind.i64.wrap ((k : Int) + 1) = (k : Int) + 1 := by rw [IntKind.wrap_i64]; omega
      have n0 : ¬ n = 0 := by omega
      have n1 : 0 < n := by omega
      have j1 : ¬ (n : Int) = 0 := by omega
      have j2 : ((n : Int) == 0) = false := by simpa using j1
      have i5 : (0 : Int) ≤ (q : Int) := by omega
      have i6 : (q : Int) < (n : Int) := by omega
      have HRv := Lib.hid hrl
      clear HNk hX1 hX2 hX3 hal hrl
      go_wp2_with (at_builtin; refine wpList_append_own_at _ rfl _ _ 23 rfl (w.heap.size + 1 + 1) 43 i0 (.agg #[.int .i64 (0), .int .i64 (0)]) 2 16 Tryd.underlying23 hi hz0 hz1 hz2 rfl (by decide) _ _ _ rfl (hown.alloc _) ⟨wr.heap.size, 0, none⟩ 1 1 [.int .i64 x1, .int .i64 y1] rfl rfl ?c1 ?c2 ?c3 ?c4 ?c5 ?_)
      case c1 =>
        intro j u hj
        match j, hj with
        | 0, hj => simp at hj; subst hj; simp [Addr.add]
        | 1, hj => simp at hj; subst hj; simp [Addr.add]
      case c2 => intro u hu; simp at hu; rcases hu with rfl | rfl <;> rfl
      case c3 => unfold maxLen; omega
      case c4 => omega
      case c5 => simp; omega
      intro v' w3 hown' hgrow _ _
      have hB3 : Below w.heap.size w w3 := (hB.alloc hB.size _).grown hgrow (by simp; omega) (fun k hk => by have := (hown.lt k hk).1; omega)
      have HV3 := Lib.hid (Vecs.snoc (l := raysN d k) HRv.out.symm hown')
      rw [← HSk.out] at HV3
      have HRB3 := Lib.hid ((HRB.out.more _).grown hgrow (fun e => by have := (hown.lt _ e.symm).1; omega))
      have HRA3 := Lib.hid ((HRA.out.more _).grown hgrow (fun e => by have := (hown.lt _ e.symm).1; omega))
      have hz3 : w.heap.size + 1 + 1 ≤ w3.heap.size := by have := hgrow.size; simp only [World.size_alloc] at this; omega
      have c3 : w3.cell? ⟨bb, off + q, none⟩ = some (.int .i64 a) := by
        have h1 := (hB.cell (p := ⟨bb, off + q, none⟩) hbb)
        have h2 := (hB3.cell (p := ⟨bb, off + q, none⟩) hbb)
        rw [h2, ← h1]; exact c1
      obtain ⟨d0', d1', d2', d3'⟩ := HRB3.out.four
      have f0' := HRB3.out.free
      clear hown' hgrow hown HV HRB HRA d0 d1 d2 d3 c1 hB hzr f0
      have hb3 := HRB3.out.here
      go_wp2
      refine wp_region_any (by kernel_rfl) ?_
      try (change wpAny _ _ _ _ _ _ _ (World.drew _))
      refine wpAny_take (i := 1) (v := ?_) rfl (by kernel_rfl) (by kernel_rfl) (by kernel_rfl) (fun _ _ _ h => h) (Or.inl ⟨by rfl, ?_⟩) ?_
      rotate_left
      focus (intro w0; go_simp; try with_reducible rfl)
      refine wpAny_take (i := 2) (v := ?_) rfl (by kernel_rfl) (by kernel_rfl) (by kernel_rfl) (fun _ _ _ h => h) (Or.inl ⟨by rfl, ?_⟩) ?_
      rotate_left
      focus (intro w0; go_simp; try with_reducible rfl)
      refine wpAny_take (i := 3) (v := ?_) rfl (by kernel_rfl) (by kernel_rfl) (by kernel_rfl) (fun _ _ _ h => h) (Or.inl ⟨by rfl, ?_⟩) ?_
      rotate_left
      focus (intro w0; go_simp; try with_reducible rfl)
      refine wpAny_take (i := 4) (v := ?_) rfl (by kernel_rfl) (by kernel_rfl) (by kernel_rfl) (fun _ _ _ h => h) (Or.inl ⟨by rfl, ?_⟩) ?_
      rotate_left
      focus (intro w0; go_simp; try with_reducible rfl)
      refine wpAny_take (i := 5) (v := ?_) rfl (by kernel_rfl) (by kernel_rfl) (by kernel_rfl) (fun _ _ _ h => h) (Or.inl ⟨by rfl, ?_⟩) ?_
      rotate_left
      focus (intro w0; go_simp; try with_reducible rfl)
      refine wpAny_take (i := 6) (v := ?_) rfl (by kernel_rfl) (by kernel_rfl) (by kernel_rfl) (fun _ _ _ h => h) (Or.inl ⟨by rfl, ?_⟩) ?_
      rotate_left
      focus (intro w0; go_simp; try with_reducible rfl)
      refine wpAny_take (i := 7) (v := ?_) rfl (by kernel_rfl) (by kernel_rfl) (by kernel_rfl) (fun _ _ _ h => h) (Or.inl ⟨by rfl, ?_⟩) ?_
      rotate_left
      focus (intro w0; go_simp; try with_reducible rfl)
      refine wpAny_ready (rs := [0, 8]) (by kernel_rfl) (by simp) (AllReady.cons rfl (fun K hK => ?_) (AllReady.cons rfl (fun K hK => ?_) (AllReady.nil)))
      focus
        go_simp
        refine hK _ _ ?_
        clear hK K
        refine wpAny_ready (rs := [8]) (by kernel_rfl) (by simp) (AllReady.cons rfl (fun K hK => ?_) (AllReady.nil))
        go_simp
        refine hK _ _ ?_
        clear hK K
        refine wpAny_ready (rs := [9]) (by kernel_rfl) (by simp) (AllReady.cons rfl (fun K hK => ?_) (AllReady.nil))
        go_simp
        (refine Calls.mono (H4.out _ _ HNa.out) ?_; rintro e w4 ⟨rfl, hb4⟩; replace hb4 := undrew hb4)
        refine hK _ _ ?_
        clear hK K
        refine wpAny_seq 10 rfl (by kernel_rfl) ?_
        simp only [List.drop_succ_cons, List.drop_zero]
      rotate_left 1
      focus
        go_simp
        refine hK _ _ ?_
        clear hK K
        refine wpAny_ready (rs := [0]) (by kernel_rfl) (by simp) (AllReady.cons rfl (fun K hK => ?_) (AllReady.nil))
        go_simp
        refine hK _ _ ?_
        clear hK K
        refine wpAny_ready (rs := [9]) (by kernel_rfl) (by simp) (AllReady.cons rfl (fun K hK => ?_) (AllReady.nil))
        go_simp
        (refine Calls.mono (H4.out _ _ HNa.out) ?_; rintro e w4 ⟨rfl, hb4⟩; replace hb4 := undrew hb4)
        refine hK _ _ ?_
        clear hK K
        refine wpAny_seq 10 rfl (by kernel_rfl) ?_
        simp only [List.drop_succ_cons, List.drop_zero]
      all_goals
        have hB4 := belowTo hB3 hb4
        have HRB4 := Lib.hid (HRB3.out.below hb4)
        have HRA4 := Lib.hid (HRA3.out.below hb4)
        have HV4 := Lib.hid (HV3.out.below hb4)
        have hz4 := Nat.le_trans hz3 hb4.size
        have g0 := HRB4.out.free
        obtain ⟨e0, e1, e2, e3⟩ := HRB4.out.four
        rw [← HN3.out.1, ← HN3.out.2]
        have hz4' : w.heap.size + 1 < w4.heap.size := by omega
        go_wp2_with fail
        have R5 := HRB4.out.put4 x2 y2 x3 y3
        have A5 : RowAt ((((w4.setCell ⟨w.heap.size + 1, 0, none⟩ (.int .i64 x2)).setCell ⟨w.heap.size + 1, 1, none⟩ (.int .i64 y2)).setCell ⟨w.heap.size + 1, 2, none⟩ (.int .i64 x3)).setCell ⟨w.heap.size + 1, 3, none⟩ (.int .i64 y3)) w.heap.size 146 (fourV 1 0 0 1) := (((HRA4.out.beside (k := w.heap.size + 1) (by omega) 0 _).beside (k := w.heap.size + 1) (by omega) 1 _).beside (k := w.heap.size + 1) (by omega) 2 _).beside (k := w.heap.size + 1) (by omega) 3 _
        have V5 := vecs_low4 HV4.out (show w.heap.size + 1 < w.heap.size + 1 + 1 by omega) (.int .i64 x2) (.int .i64 y2) (.int .i64 x3) (.int .i64 y3)
        have B5 : Below w.heap.size w ((((w4.setCell ⟨w.heap.size + 1, 0, none⟩ (.int .i64 x2)).setCell ⟨w.heap.size + 1, 1, none⟩ (.int .i64 y2)).setCell ⟨w.heap.size + 1, 2, none⟩ (.int .i64 x3)).setCell ⟨w.heap.size + 1, 3, none⟩ (.int .i64 y3)) := (((hB4.setCell (p := ⟨w.heap.size + 1, 0, none⟩) (by simp) _).setCell (p := ⟨w.heap.size + 1, 1, none⟩) (by simp) _).setCell (p := ⟨w.heap.size + 1, 2, none⟩) (by simp) _).setCell (p := ⟨w.heap.size + 1, 3, none⟩) (by simp) _
        have Z5 : w.heap.size + 1 + 1 ≤ ((((w4.setCell ⟨w.heap.size + 1, 0, none⟩ (.int .i64 x2)).setCell ⟨w.heap.size + 1, 1, none⟩ (.int .i64 y2)).setCell ⟨w.heap.size + 1, 2, none⟩ (.int .i64 x3)).setCell ⟨w.heap.size + 1, 3, none⟩ (.int .i64 y3)).heap.size := by simpa using hz4
        clear g0 e0 e1 e2 e3 HRB4 HRA4 HV4 hB4 hz4 hz4' hb4
        generalize ((((w4.setCell ⟨w.heap.size + 1, 0, none⟩ (.int .i64 x2)).setCell ⟨w.heap.size + 1, 1, none⟩ (.int .i64 y2)).setCell ⟨w.heap.size + 1, 2, none⟩ (.int .i64 x3)).setCell ⟨w.heap.size + 1, 3, none⟩ (.int .i64 y3)) = W5 at *
        refine Calls.mono (H5.out x2 y2 x3 y3 _) ?_
        rintro e w6 ⟨he, hb6⟩
        have HR6 := Lib.hid (R5.below hb6)
        have HA6 := Lib.hid (A5.below hb6)
        have HV6 := Lib.hid (V5.below hb6)
        have B6 := belowTo B5 hb6
        have Z6 := Nat.le_trans Z5 hb6.size
        have hok : okN d k = twoOk x2 y2 x3 y3 := by
          have e2 : vecB x2 y2 = true := HVk1.out
          unfold okN twoOk
          rw [← HX3.out, e2]
          rfl
        clear R5 A5 V5 B5 Z5 hb6
        cases hc : twoOk x2 y2 x3 y3
        · have HF := Lib.hid (HBad.out k (by have := HN.out; omega) (hok.trans hc))
          rw [hc] at he
          obtain ⟨s, rfl⟩ : IsNone e := he
          clear hok hc
          go_wp2_with fail
          refine Calls.mono (none_hit s _ (HG.out.below B6)) ?_
          rintro e w7 ⟨rfl, hb7⟩
          have B7 := belowTo B6 hb7
          clear hb7
          go_wp2
          go_returns
          exact ⟨.slice none 0 0, by rw [HF.out]; rfl, by rw [HF.out]; exact Vecs.nil _ _, B7⟩
        · have HOk2 : Hid (∀ i, i < k + 1 → okN d i = true) := fun i hi => by
            by_cases e : i = k
            · subst e; exact hok.trans hc
            · exact HOk.out i (by omega)
          rw [hc] at he
          obtain rfl : e = .returned .nilIface := he
          clear hok hc
          go_wp2_with fail
          refine Calls.mono (none_nil _) ?_
          rintro e w7 ⟨rfl, hb7⟩
          have B7 := belowTo B6 hb7
          have HR7 : Hid (RowAt w7 (w.heap.size + 1) 146 (fourV (rayN d (k + 1)).1 (rayN d (k + 1)).2 (rayN d (k + 1 + 1)).1 (rayN d (k + 1 + 1)).2)) := by
            show RowAt _ _ _ _
            rw [← HX2.out, show rayN d (k + 1 + 1) = rayN d (k + 2) from rfl, ← HX3.out]
            exact HR6.out.below hb7
          have HA7 := Lib.hid (HA6.out.below hb7)
          have HV7 := Lib.hid (HV6.out.below hb7)
          have Z7 := Nat.le_trans Z6 hb7.size
          clear hb7 HR6 HA6 HV6 B6 Z6 HX1 HX2 HX3 HN3 HNa H4 H5 d0' d1' d2' d3' f0' hb3 HRB3 HRA3 HV3 hB3 hz3 c3
          go_wp2
          go_roundw
          case rel => exact ⟨k + 1, by go_num, by omega, HV7, HOk2, HR7, HA7, B7, Z7⟩
          case measure => simp [intOf]; omega
    · obtain rfl : k = n := by omega
      have i2 : ¬ (k : Int) < (k : Int) := by omega
      have HI := Lib.hid (HGood.out (fun j hj => HOk.out j (by have := HN.out; omega)))
      obtain ⟨d0, d1, d2, d3⟩ := HRB.out.four
      obtain ⟨e0, e1, e2, e3⟩ := HRA.out.four
      have HCl2 := HCl.out
      rw [← HN.out] at HCl2
      have hpk : pairZ d k = (rayN d k, rayN d (k + 1)) := Prod.ext (pair_fst d k) (pair_snd d k)
      rw [hpk] at HCl2
      have HE := fun w' => HEq.out (rayN d k).1 (rayN d k).2 (rayN d (k + 1)).1 (rayN d (k + 1)).2 w'
      have HCl3 := Lib.hid HCl2
      have HVl : Hid (Vecs wr (w.heap.size + 1 + 1) u6 (gV (inN d) (raysN d d.length))) := by
        show Vecs _ _ _ _
        rw [HI.out, ← HN.out]
        exact HV.out
      have hm : k ≤ 20 := by omega
      have hsl : ∃ a' c', u6 = .slice a' (raysN d k).length c' := by
        obtain ⟨a', c', h1, _⟩ := (HV.out.reads (by rw [HRl.out]; omega))
        exact ⟨a', c', h1⟩
      obtain ⟨a', c', rfl⟩ := hsl
      have HCl3 := Lib.hid HCl2
      have HII : Hid ((inN d && closeN d) = closeN d) := by show _ = _; rw [HI.out]; rfl
      obtain ⟨K, hK⟩ : ∃ K, K = decide (((((rayN d k).1, (rayN d k).2), ((rayN d (k + 1)).1, (rayN d (k + 1)).2)) : V2 × V2) = ((1, 0), (0, 1))) := ⟨_, rfl⟩
      have HKC : Hid ((inN d && closeN d) = K) := by show _ = _; rw [HII.out, HCl3.out, hK]
      have HE2 : ∀ w', (binOp .eql 146 (.agg #[.int .i64 ((rayN d k).1), .int .i64 ((rayN d k).2), .int .i64 ((rayN d (k + 1)).1), .int .i64 ((rayN d (k + 1)).2)]) (.agg #[.int .i64 (1), .int .i64 (0), .int .i64 (0), .int .i64 (1)])).run Tryd.prog w' = .ok (.bool K) w' := fun w' => by rw [hK]; exact HE w'
      have hl : (raysN d k).length = k := HRl.out k
      clear HCl2 hpk hK HE HV HOk HRB HRA
      rw [hl]
      rw [hl] at HVl
      clear hl
      generalize (rayN d k).1 = x1 at *
      generalize (rayN d k).2 = y1 at *
      generalize (rayN d (k + 1)).1 = x2 at *
      generalize (rayN d (k + 1)).2 = y2 at *
      go_wp2_with fail
      go_quiet (fail)
      go_wp2
      go_returns
      exact ⟨.slice a' k c', by rw [HKC.out]; rfl, (HVl.out.below (below_drewN (Below.refl _ _) _)).lower (by omega), below_drewN hB _⟩
end Go.Proofs.YtohojjoediibhaaDoor
