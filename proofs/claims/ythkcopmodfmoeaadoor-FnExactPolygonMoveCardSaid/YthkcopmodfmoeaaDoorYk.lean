/- polygon.changed: by a number, by a vector, by a matrix. -/
import Derived.Test.YthkcopmodfmoeaaDoorYj
namespace Go.Proofs.YthkcopmodfmoeaaDoor
open Go.RowKit

theorem range_map (F : V2 → V2) (l : List V2) : (List.range l.length).map (fun i => F (cyc l i)) = l.map F := by
  apply List.ext_getElem?
  intro j
  by_cases hj : j < l.length
  · rw [List.getElem?_map, List.getElem?_range hj, List.getElem?_map, cyc_get hj]
    rfl
  · rw [List.getElem?_eq_none (by simp; omega), List.getElem?_eq_none (by simp; omega)]
set_option maxHeartbeats 4000000 in
theorem changedT (v : Value) (l : List V2) (q : Nat) (F : V2 → V2) (w : World) (hg : EtOk w) (h : ReadsVecs w v l) (h0 : 0 < l.length) (hm : l.length ≤ 1000) (hk : ∀ i, big 100 (cyc l i).1 (cyc l i).2)
    (HF : ∀ W x y, Below w.heap.size w W → big 100 x y → Calls Tryd.prog 49 #[.agg #[.int .i64 (x), .int .i64 (y)], .pointer (some ⟨q, 0, none⟩)] W fun e w' => e = .returned (.agg #[.int .i64 ((F (x, y)).1), .int .i64 ((F (x, y)).2)]) ∧ Below W.heap.size W w') (hbig : ∀ x ∈ l.map F, big 400000 x.1 x.2) :
    Calls Tryd.prog 48 #[v, .func (.func 49) #[] #[.pointer (some ⟨q, 0, none⟩)]] w (GivesVecsR w (gV (polyB (hullD (l.map F))) (hullD (l.map F))) (polyB (hullD (l.map F)))) := by
  obtain ⟨i0, hi, hz0, hz1, hz2⟩ := info_parts infoVec
  obtain ⟨bv, ov, vc, rfl, _, _, hbv, hvs⟩ := h.open h0
  have HVS := Lib.hid hvs
  have HK := Lib.hid hk
  have HFn := Lib.hid HF
  have HHu := Lib.hid (fun v' b' w' (hb : Below w.heap.size w w') (hI : Vecs w' b' v' (l.map F)) => hullOf_any v' (l.map F) w' (hg.below hb) (hI.reads (by rw [List.length_map]; omega)) (by rw [List.length_map]; omega) hbig)
  have HX : Hid (∀ k, (List.range (k + 1)).map (fun i => F (cyc l i)) = (List.range k).map (fun i => F (cyc l i)) ++ [F (cyc l k)]) := fun k => by simp [List.range_succ]
  have HZ : Hid ((List.range l.length).map (fun i => F (cyc l i)) = l.map F) := by
    show _ = _
    exact range_map F l
  unfold GivesVecsR at HHu ⊢
  generalize gV (polyB (hullD (l.map F))) (hullD (l.map F)) = L at *
  generalize polyB (hullD (l.map F)) = K at *
  clear h hvs hk HF hbig hg
  go_enter Tryd.func48, Tryd.ntmps48
  go_wp2
  go_loopw [6, 11] (fun s6 s11 wr => ∃ k : Nat, k ≤ l.length ∧ s11 = .int .i64 k ∧ Hid (Vecs wr w.heap.size s6 ((List.range k).map (fun i => F (cyc l i)))) ∧ Below w.heap.size w wr) (fun _ s11 _ => l.length - (intOf s11).toNat)
  case atStart => exact ⟨0, Nat.zero_le _, rfl, Vecs.nil _ _, Below.refl _ _⟩
  case round =>
    obtain ⟨k, hk, rfl, HI, hB⟩ := hrel
    have i1 : (0 : Int) ≤ (k : Int) := by omega
    by_cases hlt : k < l.length
    · have i2 : (k : Int) < (l.length : Int) := by omega
      obtain ⟨c0, c1⟩ := HVS.out wr hB k hlt
      have k0 := HK.out k
      have HXk := Lib.hid (HX.out k)
      have hkl : ((List.range k).map (fun i => F (cyc l i))).length = k := by simp
      generalize hV : cyc l k = V at *
      clear hV
      obtain ⟨x, y⟩ := V
      dsimp only at c0 c1 k0
      have HM := Lib.hid (fun w' hb => HFn.out w' x y hb k0)
      generalize F (x, y) = U at *
      obtain ⟨X, Y⟩ := U
      have hs := hB.size
      have hA2 : Below wr.heap.size wr (wr.alloc (.cells #[.int .i64 x, .int .i64 y] 38)) := by go_grown
      have HI2 := Lib.hid (HI.out.below hA2)
      have HB2 := Lib.hid (hB.trans (hA2.mono hs))
      clear hA2 HI HVS HK HX HFn HHu HZ k0
      go_wp2_with fail
      refine Calls.mono (HM.out _ HB2.out) ?_
      rintro e w2 ⟨rfl, hb2⟩
      have hB3 := belowTo HB2.out hb2
      have hown := HI2.out.below hb2
      unfold Vecs VRow at hown
      rw [hkl] at hown
      have hbs := hB3.size
      dsimp only
      clear hb2 HB2 HI2 hB
      go_wp2_with (at_builtin; refine wpList_append_own_at _ rfl _ _ 24 rfl w.heap.size 38 i0 (.agg #[.int .i64 (0), .int .i64 (0)]) 2 16 Tryd.underlying24 hi hz0 hz1 hz2 rfl (by decide) _ _ _ rfl (hown.alloc _) ⟨_, 0, none⟩ 1 1 [.int .i64 X, .int .i64 Y] rfl rfl ?c1 ?c2 ?c3 ?c4 ?c5 ?_)
      case c1 =>
        intro j u hj
        match j, hj with
        | 0, hj => simp at hj; subst hj; simp [Addr.add]
        | 1, hj => simp at hj; subst hj; simp [Addr.add]
      case c2 => intro u hu; simp at hu; rcases hu with rfl | rfl <;> rfl
      case c3 => unfold maxLen; omega
      case c4 => omega
      case c5 => simp; omega
      intro v' w4 hown' hgrow _ _
      have hB5 := (hB3.alloc hbs _).grown hgrow (by simp; omega) (fun k hk => (hown.lt k hk).1)
      have HVv := Lib.hid (Vecs.snoc (l := (List.range k).map (fun i => F (cyc l i))) hkl.symm hown')
      rw [← HXk.out] at HVv
      clear hown' hgrow hown hB3 hkl hbs
      go_wp2
      go_roundw
      case rel => exact ⟨k + 1, by omega, by go_num, HVv, hB5⟩
      case measure => simp [intOf]; omega
    · obtain rfl : k = l.length := by omega
      have i2 : ¬ ((l.length : Nat) : Int) < (l.length : Int) := by omega
      have hI := HI.out
      rw [HZ.out] at hI
      have HH2 := Lib.hid (HHu.out _ _ wr hB hI)
      have hs := hB.size
      clear hI HI HHu HFn HX HZ HVS HK
      go_wp2_with fail
      refine Calls.mono HH2.out ?_
      rintro e w3 ⟨v3, rfl, I3, hb3⟩
      have HB := Lib.hid (belowTo hB hb3)
      have HI3 := Lib.hid (I3.lower hs)
      clear hb3 I3 hB
      go_wp2
      go_returns
      exact ⟨_, rfl, HI3.out, HB.out⟩
set_option maxHeartbeats 4000000 in
theorem changedS (v : Value) (l : List V2) (p r : Int) (F : V2 → V2) (w : World) (hg : EtOk w) (h : ReadsVecs w v l) (h0 : 0 < l.length) (hm : l.length ≤ 1000) (hk : ∀ i, big 100 (cyc l i).1 (cyc l i).2)
    (HF : ∀ W x y, Below w.heap.size w W → big 100 x y → Calls Tryd.prog 52 #[.agg #[.int .i64 (p), .int .i64 (r)], .agg #[.int .i64 (x), .int .i64 (y)]] W fun e w' => e = .returned (.agg #[.int .i64 ((F (x, y)).1), .int .i64 ((F (x, y)).2)]) ∧ Below W.heap.size W w') (hbig : ∀ x ∈ l.map F, big 400000 x.1 x.2) :
    Calls Tryd.prog 48 #[v, .func (.func 52) #[.agg #[.int .i64 (p), .int .i64 (r)]] #[]] w (GivesVecsR w (gV (polyB (hullD (l.map F))) (hullD (l.map F))) (polyB (hullD (l.map F)))) := by
  obtain ⟨i0, hi, hz0, hz1, hz2⟩ := info_parts infoVec
  obtain ⟨bv, ov, vc, rfl, _, _, hbv, hvs⟩ := h.open h0
  have HVS := Lib.hid hvs
  have HK := Lib.hid hk
  have HFn := Lib.hid HF
  have HHu := Lib.hid (fun v' b' w' (hb : Below w.heap.size w w') (hI : Vecs w' b' v' (l.map F)) => hullOf_any v' (l.map F) w' (hg.below hb) (hI.reads (by rw [List.length_map]; omega)) (by rw [List.length_map]; omega) hbig)
  have HX : Hid (∀ k, (List.range (k + 1)).map (fun i => F (cyc l i)) = (List.range k).map (fun i => F (cyc l i)) ++ [F (cyc l k)]) := fun k => by simp [List.range_succ]
  have HZ : Hid ((List.range l.length).map (fun i => F (cyc l i)) = l.map F) := by
    show _ = _
    exact range_map F l
  unfold GivesVecsR at HHu ⊢
  generalize gV (polyB (hullD (l.map F))) (hullD (l.map F)) = L at *
  generalize polyB (hullD (l.map F)) = K at *
  clear h hvs hk HF hbig hg
  go_enter Tryd.func48, Tryd.ntmps48
  go_wp2
  go_loopw [6, 11] (fun s6 s11 wr => ∃ k : Nat, k ≤ l.length ∧ s11 = .int .i64 k ∧ Hid (Vecs wr w.heap.size s6 ((List.range k).map (fun i => F (cyc l i)))) ∧ Below w.heap.size w wr) (fun _ s11 _ => l.length - (intOf s11).toNat)
  case atStart => exact ⟨0, Nat.zero_le _, rfl, Vecs.nil _ _, Below.refl _ _⟩
  case round =>
    obtain ⟨k, hk, rfl, HI, hB⟩ := hrel
    have i1 : (0 : Int) ≤ (k : Int) := by omega
    by_cases hlt : k < l.length
    · have i2 : (k : Int) < (l.length : Int) := by omega
      obtain ⟨c0, c1⟩ := HVS.out wr hB k hlt
      have k0 := HK.out k
      have HXk := Lib.hid (HX.out k)
      have hkl : ((List.range k).map (fun i => F (cyc l i))).length = k := by simp
      generalize hV : cyc l k = V at *
      clear hV
      obtain ⟨x, y⟩ := V
      dsimp only at c0 c1 k0
      have HM := Lib.hid (fun w' hb => HFn.out w' x y hb k0)
      generalize F (x, y) = U at *
      obtain ⟨X, Y⟩ := U
      have hs := hB.size
      have hA2 : Below wr.heap.size wr (wr.alloc (.cells #[.int .i64 x, .int .i64 y] 38)) := by go_grown
      have HI2 := Lib.hid (HI.out.below hA2)
      have HB2 := Lib.hid (hB.trans (hA2.mono hs))
      clear hA2 HI HVS HK HX HFn HHu HZ k0
      go_wp2_with fail
      refine Calls.mono (HM.out _ HB2.out) ?_
      rintro e w2 ⟨rfl, hb2⟩
      have hB3 := belowTo HB2.out hb2
      have hown := HI2.out.below hb2
      unfold Vecs VRow at hown
      rw [hkl] at hown
      have hbs := hB3.size
      dsimp only
      clear hb2 HB2 HI2 hB
      go_wp2_with (at_builtin; refine wpList_append_own_at _ rfl _ _ 24 rfl w.heap.size 38 i0 (.agg #[.int .i64 (0), .int .i64 (0)]) 2 16 Tryd.underlying24 hi hz0 hz1 hz2 rfl (by decide) _ _ _ rfl (hown.alloc _) ⟨_, 0, none⟩ 1 1 [.int .i64 X, .int .i64 Y] rfl rfl ?c1 ?c2 ?c3 ?c4 ?c5 ?_)
      case c1 =>
        intro j u hj
        match j, hj with
        | 0, hj => simp at hj; subst hj; simp [Addr.add]
        | 1, hj => simp at hj; subst hj; simp [Addr.add]
      case c2 => intro u hu; simp at hu; rcases hu with rfl | rfl <;> rfl
      case c3 => unfold maxLen; omega
      case c4 => omega
      case c5 => simp; omega
      intro v' w4 hown' hgrow _ _
      have hB5 := (hB3.alloc hbs _).grown hgrow (by simp; omega) (fun k hk => (hown.lt k hk).1)
      have HVv := Lib.hid (Vecs.snoc (l := (List.range k).map (fun i => F (cyc l i))) hkl.symm hown')
      rw [← HXk.out] at HVv
      clear hown' hgrow hown hB3 hkl hbs
      go_wp2
      go_roundw
      case rel => exact ⟨k + 1, by omega, by go_num, HVv, hB5⟩
      case measure => simp [intOf]; omega
    · obtain rfl : k = l.length := by omega
      have i2 : ¬ ((l.length : Nat) : Int) < (l.length : Int) := by omega
      have hI := HI.out
      rw [HZ.out] at hI
      have HH2 := Lib.hid (HHu.out _ _ wr hB hI)
      have hs := hB.size
      clear hI HI HHu HFn HX HZ HVS HK
      go_wp2_with fail
      refine Calls.mono HH2.out ?_
      rintro e w3 ⟨v3, rfl, I3, hb3⟩
      have HB := Lib.hid (belowTo hB hb3)
      have HI3 := Lib.hid (I3.lower hs)
      clear hb3 I3 hB
      go_wp2
      go_returns
      exact ⟨_, rfl, HI3.out, HB.out⟩
set_option maxHeartbeats 4000000 in
theorem changedM (v : Value) (l : List V2) (p q r s : Int) (F : V2 → V2) (w : World) (hg : EtOk w) (h : ReadsVecs w v l) (h0 : 0 < l.length) (hm : l.length ≤ 1000) (hk : ∀ i, big 100 (cyc l i).1 (cyc l i).2)
    (HF : ∀ W x y, Below w.heap.size w W → big 100 x y → Calls Tryd.prog 55 #[.agg #[.int .i64 (p), .int .i64 (q), .int .i64 (r), .int .i64 (s)], .agg #[.int .i64 (x), .int .i64 (y)]] W fun e w' => e = .returned (.agg #[.int .i64 ((F (x, y)).1), .int .i64 ((F (x, y)).2)]) ∧ Below W.heap.size W w') (hbig : ∀ x ∈ l.map F, big 400000 x.1 x.2) :
    Calls Tryd.prog 48 #[v, .func (.func 55) #[.agg #[.int .i64 (p), .int .i64 (q), .int .i64 (r), .int .i64 (s)]] #[]] w (GivesVecsR w (gV (polyB (hullD (l.map F))) (hullD (l.map F))) (polyB (hullD (l.map F)))) := by
  obtain ⟨i0, hi, hz0, hz1, hz2⟩ := info_parts infoVec
  obtain ⟨bv, ov, vc, rfl, _, _, hbv, hvs⟩ := h.open h0
  have HVS := Lib.hid hvs
  have HK := Lib.hid hk
  have HFn := Lib.hid HF
  have HHu := Lib.hid (fun v' b' w' (hb : Below w.heap.size w w') (hI : Vecs w' b' v' (l.map F)) => hullOf_any v' (l.map F) w' (hg.below hb) (hI.reads (by rw [List.length_map]; omega)) (by rw [List.length_map]; omega) hbig)
  have HX : Hid (∀ k, (List.range (k + 1)).map (fun i => F (cyc l i)) = (List.range k).map (fun i => F (cyc l i)) ++ [F (cyc l k)]) := fun k => by simp [List.range_succ]
  have HZ : Hid ((List.range l.length).map (fun i => F (cyc l i)) = l.map F) := by
    show _ = _
    exact range_map F l
  unfold GivesVecsR at HHu ⊢
  generalize gV (polyB (hullD (l.map F))) (hullD (l.map F)) = L at *
  generalize polyB (hullD (l.map F)) = K at *
  clear h hvs hk HF hbig hg
  go_enter Tryd.func48, Tryd.ntmps48
  go_wp2
  go_loopw [6, 11] (fun s6 s11 wr => ∃ k : Nat, k ≤ l.length ∧ s11 = .int .i64 k ∧ Hid (Vecs wr w.heap.size s6 ((List.range k).map (fun i => F (cyc l i)))) ∧ Below w.heap.size w wr) (fun _ s11 _ => l.length - (intOf s11).toNat)
  case atStart => exact ⟨0, Nat.zero_le _, rfl, Vecs.nil _ _, Below.refl _ _⟩
  case round =>
    obtain ⟨k, hk, rfl, HI, hB⟩ := hrel
    have i1 : (0 : Int) ≤ (k : Int) := by omega
    by_cases hlt : k < l.length
    · have i2 : (k : Int) < (l.length : Int) := by omega
      obtain ⟨c0, c1⟩ := HVS.out wr hB k hlt
      have k0 := HK.out k
      have HXk := Lib.hid (HX.out k)
      have hkl : ((List.range k).map (fun i => F (cyc l i))).length = k := by simp
      generalize hV : cyc l k = V at *
      clear hV
      obtain ⟨x, y⟩ := V
      dsimp only at c0 c1 k0
      have HM := Lib.hid (fun w' hb => HFn.out w' x y hb k0)
      generalize F (x, y) = U at *
      obtain ⟨X, Y⟩ := U
      have hs := hB.size
      have hA2 : Below wr.heap.size wr (wr.alloc (.cells #[.int .i64 x, .int .i64 y] 38)) := by go_grown
      have HI2 := Lib.hid (HI.out.below hA2)
      have HB2 := Lib.hid (hB.trans (hA2.mono hs))
      clear hA2 HI HVS HK HX HFn HHu HZ k0
      go_wp2_with fail
      refine Calls.mono (HM.out _ HB2.out) ?_
      rintro e w2 ⟨rfl, hb2⟩
      have hB3 := belowTo HB2.out hb2
      have hown := HI2.out.below hb2
      unfold Vecs VRow at hown
      rw [hkl] at hown
      have hbs := hB3.size
      dsimp only
      clear hb2 HB2 HI2 hB
      go_wp2_with (at_builtin; refine wpList_append_own_at _ rfl _ _ 24 rfl w.heap.size 38 i0 (.agg #[.int .i64 (0), .int .i64 (0)]) 2 16 Tryd.underlying24 hi hz0 hz1 hz2 rfl (by decide) _ _ _ rfl (hown.alloc _) ⟨_, 0, none⟩ 1 1 [.int .i64 X, .int .i64 Y] rfl rfl ?c1 ?c2 ?c3 ?c4 ?c5 ?_)
      case c1 =>
        intro j u hj
        match j, hj with
        | 0, hj => simp at hj; subst hj; simp [Addr.add]
        | 1, hj => simp at hj; subst hj; simp [Addr.add]
      case c2 => intro u hu; simp at hu; rcases hu with rfl | rfl <;> rfl
      case c3 => unfold maxLen; omega
      case c4 => omega
      case c5 => simp; omega
      intro v' w4 hown' hgrow _ _
      have hB5 := (hB3.alloc hbs _).grown hgrow (by simp; omega) (fun k hk => (hown.lt k hk).1)
      have HVv := Lib.hid (Vecs.snoc (l := (List.range k).map (fun i => F (cyc l i))) hkl.symm hown')
      rw [← HXk.out] at HVv
      clear hown' hgrow hown hB3 hkl hbs
      go_wp2
      go_roundw
      case rel => exact ⟨k + 1, by omega, by go_num, HVv, hB5⟩
      case measure => simp [intOf]; omega
    · obtain rfl : k = l.length := by omega
      have i2 : ¬ ((l.length : Nat) : Int) < (l.length : Int) := by omega
      have hI := HI.out
      rw [HZ.out] at hI
      have HH2 := Lib.hid (HHu.out _ _ wr hB hI)
      have hs := hB.size
      clear hI HI HHu HFn HX HZ HVS HK
      go_wp2_with fail
      refine Calls.mono HH2.out ?_
      rintro e w3 ⟨v3, rfl, I3, hb3⟩
      have HB := Lib.hid (belowTo hB hb3)
      have HI3 := Lib.hid (I3.lower hs)
      clear hb3 I3 hB
      go_wp2
      go_returns
      exact ⟨_, rfl, HI3.out, HB.out⟩
end Go.Proofs.YthkcopmodfmoeaaDoor
