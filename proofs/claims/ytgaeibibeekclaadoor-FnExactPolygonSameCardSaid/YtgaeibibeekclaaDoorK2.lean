import Derived.Test.YtgaeibibeekclaaDoorYj
import Derived.Test.YtgaeibibeekclaaDoorYh
/- polygon.changed: by a number, by a vector, by a matrix. -/
namespace Go.Proofs.YtgaeibibeekclaaDoor
open Go.RowKit

theorem range_map (F : V2 → V2) (l : List V2) : (List.range l.length).map (fun i => F (cyc l i)) = l.map F := by
  apply List.ext_getElem?
  intro j
  by_cases hj : j < l.length
  · rw [List.getElem?_map, List.getElem?_range hj, List.getElem?_map, cyc_get hj]
    rfl
  · rw [List.getElem?_eq_none (by simp; omega), List.getElem?_eq_none (by simp; omega)]
set_option maxHeartbeats 4000000 in
theorem changedT (v : Value) (l : List V2) (q : Nat) (F : V2 → V2) (w : World) (hg : EtOk w) (h : ReadsVecs w v l) (h0 : 0 < l.length) (hm : l.length ≤ 1000) (hk : ∀ i, big 100 (cyc l i).1 (cyc l i).2)
    (HF : ∀ W x y, Below w.heap.size w W → big 100 x y → Calls Tryd.prog 44 #[.agg #[.int .i64 (x), .int .i64 (y)], .pointer (some ⟨q, 0, none⟩)] W fun e w' => e = .returned (.agg #[.int .i64 ((F (x, y)).1), .int .i64 ((F (x, y)).2)]) ∧ Below W.heap.size W w') (hbig : ∀ x ∈ l.map F, big 400000 x.1 x.2) :
    Calls Tryd.prog 43 #[v, .func (.func 44) #[] #[.pointer (some ⟨q, 0, none⟩)]] w (GivesVecsR w (gV (polyB (hullD (l.map F))) (hullD (l.map F))) (polyB (hullD (l.map F)))) := by
  obtain ⟨i0, hi, hz0, hz1, hz2⟩ := info_parts infoVec
  obtain ⟨bv, ov, vc, rfl, _, _, hbv, hvs⟩ := h.open h0
  have HVS := Lib.hid hvs
  have HK := Lib.hid hk
  have HFn := Lib.hid HF
  have HHu := Lib.hid (fun v' b' w' (hb : Below w.heap.size w w') (hI : Vecs w' b' v' (l.map F)) => hullOf_any v' (l.map F) w' (hg.below hb) (hI.reads (by rw [List.length_map]; omega)) (by rw [List.length_map]; omega) hbig)
  have HX : Hid (∀ k, (List.range (k + 1)).map (fun i => F (cyc l i)) = (List.range k).map (fun i => F (cyc l i)) ++ [F (cyc l k)]) := fun k => by simp [List.range_succ]
  have HZ : Hid ((List.range l.length).map (fun i => F (cyc l i)) = l.map F) := by
    show _ = _
    exact range_map F l
  unfold GivesVecsR at HHu ⊢
  generalize gV (polyB (hullD (l.map F))) (hullD (l.map F)) = L at *
  generalize polyB (hullD (l.map F)) = K at *
  clear h hvs hk HF hbig hg
  go_enter Tryd.func43, Tryd.ntmps43
  go_wp2
  go_loopw [6, 11] (fun s6 s11 wr => ∃ k : Nat, k ≤ l.length ∧ s11 = .int .i64 k ∧ Hid (Vecs wr w.heap.size s6 ((List.range k).map (fun i => F (cyc l i)))) ∧ Below w.heap.size w wr) (fun _ s11 _ => l.length - (intOf s11).toNat)
  case atStart => exact ⟨0, Nat.zero_le _, rfl, Vecs.nil _ _, Below.refl _ _⟩
  case round =>
    obtain ⟨k, hk, rfl, HI, hB⟩ := hrel
    have i1 : (0 : Int) ≤ (k : Int) := by omega
    by_cases hlt : k < l.length
    · have i2 : (k : Int) < (l.length : Int) := by omega
      obtain ⟨c0, c1⟩ := HVS.out wr hB k hlt
      have k0 := HK.out k
      have HXk := Lib.hid (HX.out k)
      have hkl : ((List.range k).map (fun i => F (cyc l i))).length = k := by simp
      generalize hV : cyc l k = V at *
      clear hV
      obtain ⟨x, y⟩ := V
      dsimp only at c0 c1 k0
      have HM := Lib.hid (fun w' hb => HFn.out w' x y hb k0)
      generalize F (x, y) = U at *
      obtain ⟨X, Y⟩ := U
      have hs := hB.size
      have hA2 : Below wr.heap.size wr (wr.alloc (.cells #[.int .i64 x, .int .i64 y] 31)) := by go_grown
      have HI2 := Lib.hid (HI.out.below hA2)
      have HB2 := Lib.hid (hB.trans (hA2.mono hs))
      clear hA2 HI HVS HK HX HFn HHu HZ k0
      go_wp2_with fail
      refine Calls.mono (HM.out _ HB2.out) ?_
      rintro e w2 ⟨rfl, hb2⟩
      have hB3 := belowTo HB2.out hb2
      have hown := HI2.out.below hb2
      unfold Vecs VRow at hown
      rw [hkl] at hown
      have hbs := hB3.size
      dsimp only
      clear hb2 HB2 HI2 hB
      go_wp2_with (at_builtin; refine wpList_append_own_at _ rfl _ _ 23 rfl w.heap.size 31 i0 (.agg #[.int .i64 (0), .int .i64 (0)]) 2 16 Tryd.underlying23 hi hz0 hz1 hz2 rfl (by decide) _ _ _ rfl (hown.alloc _) ⟨_, 0, none⟩ 1 1 [.int .i64 X, .int .i64 Y] rfl rfl ?c1 ?c2 ?c3 ?c4 ?c5 ?_)
      case c1 =>
        intro j u hj
        match j, hj with
        | 0, hj => simp at hj; subst hj; simp [Addr.add]
        | 1, hj => simp at hj; subst hj; simp [Addr.add]
      case c2 => intro u hu; simp at hu; rcases hu with rfl | rfl <;> rfl
      case c3 => unfold maxLen; omega
      case c4 => omega
      case c5 => simp; omega
      intro v' w4 hown' hgrow _ _
      have hB5 := (hB3.alloc hbs _).grown hgrow (by simp; omega) (fun k hk => (hown.lt k hk).1)
      have HVv := Lib.hid (Vecs.snoc (l := (List.range k).map (fun i => F (cyc l i))) hkl.symm hown')
      rw [← HXk.out] at HVv
      clear hown' hgrow hown hB3 hkl hbs
      go_wp2
      go_roundw
      case rel => exact ⟨k + 1, by omega, by go_num, HVv, hB5⟩
      case measure => simp [intOf]; omega
    · obtain rfl : k = l.length := by omega
      have i2 : ¬ ((l.length : Nat) : Int) < (l.length : Int) := by omega
      have hI := HI.out
      rw [HZ.out] at hI
      have HH2 := Lib.hid (HHu.out _ _ wr hB hI)
      have hs := hB.size
      clear hI HI HHu HFn HX HZ HVS HK
      go_wp2_with fail
      refine Calls.mono HH2.out ?_
      rintro e w3 ⟨v3, rfl, I3, hb3⟩
      have HB := Lib.hid (belowTo hB hb3)
      have HI3 := Lib.hid (I3.lower hs)
      clear hb3 I3 hB
      go_wp2
      go_returns
      exact ⟨_, rfl, HI3.out, HB.out⟩
set_option maxHeartbeats 4000000 in
theorem changedS (v : Value) (l : List V2) (p r : Int) (F : V2 → V2) (w : World) (hg : EtOk w) (h : ReadsVecs w v l) (h0 : 0 < l.length) (hm : l.length ≤ 1000) (hk : ∀ i, big 100 (cyc l i).1 (cyc l i).2)
    (HF : ∀ W x y, Below w.heap.size w W → big 100 x y → Calls Tryd.prog 64 #[.agg #[.int .i64 (p), .int .i64 (r)], .agg #[.int .i64 (x), .int .i64 (y)]] W fun e w' => e = .returned (.agg #[.int .i64 ((F (x, y)).1), .int .i64 ((F (x, y)).2)]) ∧ Below W.heap.size W w') (hbig : ∀ x ∈ l.map F, big 400000 x.1 x.2) :
    Calls Tryd.prog 43 #[v, .func (.func 64) #[.agg #[.int .i64 (p), .int .i64 (r)]] #[]] w (GivesVecsR w (gV (polyB (hullD (l.map F))) (hullD (l.map F))) (polyB (hullD (l.map F)))) := by
  obtain ⟨i0, hi, hz0, hz1, hz2⟩ := info_parts infoVec
  obtain ⟨bv, ov, vc, rfl, _, _, hbv, hvs⟩ := h.open h0
  have HVS := Lib.hid hvs
  have HK := Lib.hid hk
  have HFn := Lib.hid HF
  have HHu := Lib.hid (fun v' b' w' (hb : Below w.heap.size w w') (hI : Vecs w' b' v' (l.map F)) => hullOf_any v' (l.map F) w' (hg.below hb) (hI.reads (by rw [List.length_map]; omega)) (by rw [List.length_map]; omega) hbig)
  have HX : Hid (∀ k, (List.range (k + 1)).map (fun i => F (cyc l i)) = (List.range k).map (fun i => F (cyc l i)) ++ [F (cyc l k)]) := fun k => by simp [List.range_succ]
  have HZ : Hid ((List.range l.length).map (fun i => F (cyc l i)) = l.map F) := by
    show _ = _
    exact range_map F l
  unfold GivesVecsR at HHu ⊢
  generalize gV (polyB (hullD (l.map F))) (hullD (l.map F)) = L at *
  generalize polyB (hullD (l.map F)) = K at *
  clear h hvs hk HF hbig hg
  go_enter Tryd.func43, Tryd.ntmps43
  go_wp2
  go_loopw [6, 11] (fun s6 s11 wr => ∃ k : Nat, k ≤ l.length ∧ s11 = .int .i64 k ∧ Hid (Vecs wr w.heap.size s6 ((List.range k).map (fun i => F (cyc l i)))) ∧ Below w.heap.size w wr) (fun _ s11 _ => l.length - (intOf s11).toNat)
  case atStart => exact ⟨0, Nat.zero_le _, rfl, Vecs.nil _ _, Below.refl _ _⟩
  case round =>
    obtain ⟨k, hk, rfl, HI, hB⟩ := hrel
    have i1 : (0 : Int) ≤ (k : Int) := by omega
    by_cases hlt : k < l.length
    · have i2 : (k : Int) < (l.length : Int) := by omega
      obtain ⟨c0, c1⟩ := HVS.out wr hB k hlt
      have k0 := HK.out k
      have HXk := Lib.hid (HX.out k)
      have hkl : ((List.range k).map (fun i => F (cyc l i))).length = k := by simp
      generalize hV : cyc l k = V at *
      clear hV
      obtain ⟨x, y⟩ := V
      dsimp only at c0 c1 k0
      have HM := Lib.hid (fun w' hb => HFn.out w' x y hb k0)
      generalize F (x, y) = U at *
      obtain ⟨X, Y⟩ := U
      have hs := hB.size
      have hA2 : Below wr.heap.size wr (wr.alloc (.cells #[.int .i64 x, .int .i64 y] 31)) := by go_grown
      have HI2 := Lib.hid (HI.out.below hA2)
      have HB2 := Lib.hid (hB.trans (hA2.mono hs))
      clear hA2 HI HVS HK HX HFn HHu HZ k0
      go_wp2_with fail
      refine Calls.mono (HM.out _ HB2.out) ?_
      rintro e w2 ⟨rfl, hb2⟩
      have hB3 := belowTo HB2.out hb2
      have hown := HI2.out.below hb2
      unfold Vecs VRow at hown
      rw [hkl] at hown
      have hbs := hB3.size
      dsimp only
      clear hb2 HB2 HI2 hB
      go_wp2_with (at_builtin; refine wpList_append_own_at _ rfl _ _ 23 rfl w.heap.size 31 i0 (.agg #[.int .i64 (0), .int .i64 (0)]) 2 16 Tryd.underlying23 hi hz0 hz1 hz2 rfl (by decide) _ _ _ rfl (hown.alloc _) ⟨_, 0, none⟩ 1 1 [.int .i64 X, .int .i64 Y] rfl rfl ?c1 ?c2 ?c3 ?c4 ?c5 ?_)
      case c1 =>
        intro j u hj
        match j, hj with
        | 0, hj => simp at hj; subst hj; simp [Addr.add]
        | 1, hj => simp at hj; subst hj; simp [Addr.add]
      case c2 => intro u hu; simp at hu; rcases hu with rfl | rfl <;> rfl
      case c3 => unfold maxLen; omega
      case c4 => omega
      case c5 => simp; omega
      intro v' w4 hown' hgrow _ _
      have hB5 := (hB3.alloc hbs _).grown hgrow (by simp; omega) (fun k hk => (hown.lt k hk).1)
      have HVv := Lib.hid (Vecs.snoc (l := (List.range k).map (fun i => F (cyc l i))) hkl.symm hown')
      rw [← HXk.out] at HVv
      clear hown' hgrow hown hB3 hkl hbs
      go_wp2
      go_roundw
      case rel => exact ⟨k + 1, by omega, by go_num, HVv, hB5⟩
      case measure => simp [intOf]; omega
    · obtain rfl : k = l.length := by omega
      have i2 : ¬ ((l.length : Nat) : Int) < (l.length : Int) := by omega
      have hI := HI.out
      rw [HZ.out] at hI
      have HH2 := Lib.hid (HHu.out _ _ wr hB hI)
      have hs := hB.size
      clear hI HI HHu HFn HX HZ HVS HK
      go_wp2_with fail
      refine Calls.mono HH2.out ?_
      rintro e w3 ⟨v3, rfl, I3, hb3⟩
      have HB := Lib.hid (belowTo hB hb3)
      have HI3 := Lib.hid (I3.lower hs)
      clear hb3 I3 hB
      go_wp2
      go_returns
      exact ⟨_, rfl, HI3.out, HB.out⟩
set_option maxHeartbeats 4000000 in
theorem changedM (v : Value) (l : List V2) (p q r s : Int) (F : V2 → V2) (w : World) (hg : EtOk w) (h : ReadsVecs w v l) (h0 : 0 < l.length) (hm : l.length ≤ 1000) (hk : ∀ i, big 100 (cyc l i).1 (cyc l i).2)
    (HF : ∀ W x y, Below w.heap.size w W → big 100 x y → Calls Tryd.prog 60 #[.agg #[.int .i64 (p), .int .i64 (q), .int .i64 (r), .int .i64 (s)], .agg #[.int .i64 (x), .int .i64 (y)]] W fun e w' => e = .returned (.agg #[.int .i64 ((F (x, y)).1), .int .i64 ((F (x, y)).2)]) ∧ Below W.heap.size W w') (hbig : ∀ x ∈ l.map F, big 400000 x.1 x.2) :
    Calls Tryd.prog 43 #[v, .func (.func 60) #[.agg #[.int .i64 (p), .int .i64 (q), .int .i64 (r), .int .i64 (s)]] #[]] w (GivesVecsR w (gV (polyB (hullD (l.map F))) (hullD (l.map F))) (polyB (hullD (l.map F)))) := by
  obtain ⟨i0, hi, hz0, hz1, hz2⟩ := info_parts infoVec
  obtain ⟨bv, ov, vc, rfl, _, _, hbv, hvs⟩ := h.open h0
  have HVS := Lib.hid hvs
  have HK := Lib.hid hk
  have HFn := Lib.hid HF
  have HHu := Lib.hid (fun v' b' w' (hb : Below w.heap.size w w') (hI : Vecs w' b' v' (l.map F)) => hullOf_any v' (l.map F) w' (hg.below hb) (hI.reads (by rw [List.length_map]; omega)) (by rw [List.length_map]; omega) hbig)
  have HX : Hid (∀ k, (List.range (k + 1)).map (fun i => F (cyc l i)) = (List.range k).map (fun i => F (cyc l i)) ++ [F (cyc l k)]) := fun k => by simp [List.range_succ]
  have HZ : Hid ((List.range l.length).map (fun i => F (cyc l i)) = l.map F) := by
    show _ = _
    exact range_map F l
  unfold GivesVecsR at HHu ⊢
  generalize gV (polyB (hullD (l.map F))) (hullD (l.map F)) = L at *
  generalize polyB (hullD (l.map F)) = K at *
  clear h hvs hk HF hbig hg
  go_enter Tryd.func43, Tryd.ntmps43
  go_wp2
  go_loopw [6, 11] (fun s6 s11 wr => ∃ k : Nat, k ≤ l.length ∧ s11 = .int .i64 k ∧ Hid (Vecs wr w.heap.size s6 ((List.range k).map (fun i => F (cyc l i)))) ∧ Below w.heap.size w wr) (fun _ s11 _ => l.length - (intOf s11).toNat)
  case atStart => exact ⟨0, Nat.zero_le _, rfl, Vecs.nil _ _, Below.refl _ _⟩
  case round =>
    obtain ⟨k, hk, rfl, HI, hB⟩ := hrel
    have i1 : (0 : Int) ≤ (k : Int) := by omega
    by_cases hlt : k < l.length
    · have i2 : (k : Int) < (l.length : Int) := by omega
      obtain ⟨c0, c1⟩ := HVS.out wr hB k hlt
      have k0 := HK.out k
      have HXk := Lib.hid (HX.out k)
      have hkl : ((List.range k).map (fun i => F (cyc l i))).length = k := by simp
      generalize hV : cyc l k = V at *
      clear hV
      obtain ⟨x, y⟩ := V
      dsimp only at c0 c1 k0
      have HM := Lib.hid (fun w' hb => HFn.out w' x y hb k0)
      generalize F (x, y) = U at *
      obtain ⟨X, Y⟩ := U
      have hs := hB.size
      have hA2 : Below wr.heap.size wr (wr.alloc (.cells #[.int .i64 x, .int .i64 y] 31)) := by go_grown
      have HI2 := Lib.hid (HI.out.below hA2)
      have HB2 := Lib.hid (hB.trans (hA2.mono hs))
      clear hA2 HI HVS HK HX HFn HHu HZ k0
      go_wp2_with fail
      refine Calls.mono (HM.out _ HB2.out) ?_
      rintro e w2 ⟨rfl, hb2⟩
      have hB3 := belowTo HB2.out hb2
      have hown := HI2.out.below hb2
      unfold Vecs VRow at hown
      rw [hkl] at hown
      have hbs := hB3.size
      dsimp only
      clear hb2 HB2 HI2 hB
      go_wp2_with (at_builtin; refine wpList_append_own_at _ rfl _ _ 23 rfl w.heap.size 31 i0 (.agg #[.int .i64 (0), .int .i64 (0)]) 2 16 Tryd.underlying23 hi hz0 hz1 hz2 rfl (by decide) _ _ _ rfl (hown.alloc _) ⟨_, 0, none⟩ 1 1 [.int .i64 X, .int .i64 Y] rfl rfl ?c1 ?c2 ?c3 ?c4 ?c5 ?_)
      case c1 =>
        intro j u hj
        match j, hj with
        | 0, hj => simp at hj; subst hj; simp [Addr.add]
        | 1, hj => simp at hj; subst hj; simp [Addr.add]
      case c2 => intro u hu; simp at hu; rcases hu with rfl | rfl <;> rfl
      case c3 => unfold maxLen; omega
      case c4 => omega
      case c5 => simp; omega
      intro v' w4 hown' hgrow _ _
      have hB5 := (hB3.alloc hbs _).grown hgrow (by simp; omega) (fun k hk => (hown.lt k hk).1)
      have HVv := Lib.hid (Vecs.snoc (l := (List.range k).map (fun i => F (cyc l i))) hkl.symm hown')
      rw [← HXk.out] at HVv
      clear hown' hgrow hown hB3 hkl hbs
      go_wp2
      go_roundw
      case rel => exact ⟨k + 1, by omega, by go_num, HVv, hB5⟩
      case measure => simp [intOf]; omega
    · obtain rfl : k = l.length := by omega
      have i2 : ¬ ((l.length : Nat) : Int) < (l.length : Int) := by omega
      have hI := HI.out
      rw [HZ.out] at hI
      have HH2 := Lib.hid (HHu.out _ _ wr hB hI)
      have hs := hB.size
      clear hI HI HHu HFn HX HZ HVS HK
      go_wp2_with fail
      refine Calls.mono HH2.out ?_
      rintro e w3 ⟨v3, rfl, I3, hb3⟩
      have HB := Lib.hid (belowTo hB hb3)
      have HI3 := Lib.hid (I3.lower hs)
      clear hb3 I3 hB
      go_wp2
      go_returns
      exact ⟨_, rfl, HI3.out, HB.out⟩
end Go.Proofs.YtgaeibibeekclaaDoor

/- Polygons that are multiplied, shifted: the mathematics. -/
namespace Go.Proofs.YtgaeibibeekclaaDoor
open Go.RowKit

/-- the hull of corners that bend all round is they, from the least one on -/
theorem hull_round {l : List V2} (hc : ConvS l.length (cyc l)) : hullD l = tidyP l := by
  have h3 := hc.three
  have hK : leastAt l (l.length - 1) < l.length := Nat.lt_of_le_of_lt (leastAt_le _ _) (by omega)
  unfold hullD tidyP
  rw [hull_conv (hc.rot (leastAt l (l.length - 1))) (sortD_asc l) (fun q => ?_) (fun q hq => ?_)]
  · exact range_cyc (by omega)
  · rw [sortD_mem]
    constructor
    · intro hq
      rw [← rot_mem (K := leastAt l (l.length - 1))] at hq
      obtain ⟨j, hj, rfl⟩ := List.mem_iff_getElem.1 hq
      have e : (rot (leastAt l (l.length - 1)) l)[j] = cyc (rot (leastAt l (l.length - 1)) l) j := by rw [cyc_lt hj, List.getElem?_eq_getElem hj]; rfl
      rw [e, cyc_rot (by omega)]
      rw [rot_len] at hj
      exact ⟨j, hj, rfl⟩
    · rintro ⟨j, _, rfl⟩
      exact cyc_mem (by omega) _
  · rw [sortD_mem] at hq
    rw [Nat.add_zero]
    obtain ⟨j, hj, rfl⟩ := List.mem_iff_getElem.1 hq
    have e : l[j] = cyc l j := by rw [cyc_lt hj, List.getElem?_eq_getElem hj]; rfl
    rw [e]
    exact leastAt_min l _ j (by omega)
theorem conv_map {l : List V2} (h : ConvS l.length (cyc l)) (F : V2 → V2) (c : Int) (hc : 0 < c) (hF : ∀ a b d, dtV (subV (F b) (F a)) (subV (F d) (F a)) = c * dtV (subV b a) (subV d a)) : ConvS (l.map F).length (cyc (l.map F)) := by
  have h3 := h.three
  have e : cyc (l.map F) = fun i => F (cyc l i) := funext fun i => cyc_map F (by omega) i
  rw [List.length_map, e]
  refine ⟨h3, fun i => ?_, fun i t h2 hn => ?_⟩
  · show F (cyc l (i + l.length)) = _
    rw [h.per]
  · have := h.inner i t h2 hn
    unfold farZ at this ⊢
    dsimp only
    rw [hF]
    exact Int.mul_pos hc this
theorem hull_map {l : List V2} (h : ConvS l.length (cyc l)) (F : V2 → V2) (c : Int) (hc : 0 < c) (hF : ∀ a b d, dtV (subV (F b) (F a)) (subV (F d) (F a)) = c * dtV (subV b a) (subV d a)) :
    hullD (l.map F) = tidyP (l.map F) ∧ polyB (hullD (l.map F)) = polyB (l.map F) := by
  have e := hull_round (conv_map h F c hc hF)
  exact ⟨e, by rw [e, tidyP_poly]⟩
def timesF (n : Int) (a : V2) : V2 := (n * a.1, n * a.2)
def shiftF (s : V2) (a : V2) : V2 := (a.1 + s.1, a.2 + s.2)
theorem times_turn (n : Int) (a b d : V2) : dtV (subV (timesF n b) (timesF n a)) (subV (timesF n d) (timesF n a)) = n * n * dtV (subV b a) (subV d a) := by
  unfold dtV subV timesF
  grind
theorem shift_turn (s a b d : V2) : dtV (subV (shiftF s b) (shiftF s a)) (subV (shiftF s d) (shiftF s a)) = 1 * dtV (subV b a) (subV d a) := by
  unfold dtV subV shiftF
  grind
theorem hull_times {l : List V2} (h : polyB l = true) {n : Int} (hn : 1 ≤ n) : hullD (l.map (timesF n)) = tidyP (l.map (timesF n)) ∧ polyB (hullD (l.map (timesF n))) = polyB (l.map (timesF n)) :=
  hull_map (poly_conv h) _ _ (Int.mul_pos (by omega) (by omega)) (times_turn n)
theorem hull_shift {l : List V2} (h : polyB l = true) (s : V2) : hullD (l.map (shiftF s)) = tidyP (l.map (shiftF s)) ∧ polyB (hullD (l.map (shiftF s))) = polyB (l.map (shiftF s)) :=
  hull_map (poly_conv h) _ 1 (by omega) (shift_turn s)
theorem times_big {l : List V2} (h : polyB l = true) {n : Int} (hn : 1 ≤ n) (hm : n ≤ 20) : ∀ x ∈ l.map (timesF n), big 400000 x.1 x.2 := by
  intro x hx
  obtain ⟨y, hy, rfl⟩ := List.mem_map.1 hx
  obtain ⟨j, hj, rfl⟩ := List.mem_iff_getElem.1 hy
  have e : l[j] = cyc l j := by rw [cyc_lt hj, List.getElem?_eq_getElem hj]; rfl
  rw [e]
  obtain ⟨⟨h1, h2⟩, h3, h4⟩ := poly_small h j
  generalize (cyc l j) = z at *
  have b : ∀ u : Int, -100 ≤ u → u ≤ 100 → -2000 ≤ n * u ∧ n * u ≤ 2000 := fun u k1 k2 => by
    have q1 := Int.mul_nonneg (show 0 ≤ n by omega) (show 0 ≤ u + 100 by omega)
    have q2 := Int.mul_nonneg (show 0 ≤ n by omega) (show 0 ≤ 100 - u by omega)
    rw [Int.mul_add] at q1
    rw [Int.mul_sub] at q2
    omega
  have q1 := b _ h1 h2
  have q2 := b _ h3 h4
  unfold big timesF
  dsimp only
  omega
theorem shift_big {l : List V2} (h : polyB l = true) {s : V2} (hs : vecB s.1 s.2 = true) : ∀ x ∈ l.map (shiftF s), big 400000 x.1 x.2 := by
  intro x hx
  obtain ⟨y, hy, rfl⟩ := List.mem_map.1 hx
  obtain ⟨j, hj, rfl⟩ := List.mem_iff_getElem.1 hy
  have e : l[j] = cyc l j := by rw [cyc_lt hj, List.getElem?_eq_getElem hj]; rfl
  rw [e]
  have h1 := poly_small h j
  have h2 : (-1000 ≤ s.1 ∧ s.1 ≤ 1000) ∧ -1000 ≤ s.2 ∧ s.2 ≤ 1000 := by
    unfold vecB szB at hs
    simp at hs
    omega
  generalize (cyc l j) = z at *
  unfold big shiftF
  dsimp only
  omega
end Go.Proofs.YtgaeibibeekclaaDoor

/- PolygonTimes: both sides. -/
namespace Go.Proofs.YtgaeibibeekclaaDoor
open Go.RowKit

theorem small_mul {n u : Int} (h1 : 1 ≤ n) (h2 : n ≤ 20) (k : -100 ≤ u ∧ u ≤ 100) : -2000 ≤ n * u ∧ n * u ≤ 2000 := by
  have q1 := Int.mul_nonneg (show 0 ≤ n by omega) (show 0 ≤ u + 100 by omega)
  have q2 := Int.mul_nonneg (show 0 ≤ n by omega) (show 0 ≤ 100 - u by omega)
  rw [Int.mul_add] at q1
  rw [Int.mul_sub] at q2
  omega
set_option maxHeartbeats 1000000 in
theorem vtimes_any (x y n : Int) (w : World) (h : big 100 x y) (h1 : 1 ≤ n) (h2 : n ≤ 20) :
    Calls Tryd.prog 45 #[.agg #[.int .i64 (x), .int .i64 (y)], .int .i64 n] w fun e w' => e = .returned (.agg #[.int .i64 (n * x), .int .i64 (n * y)]) ∧ Below w.heap.size w w' := by
  have b1 := small_mul h1 h2 h.1
  have b2 := small_mul h1 h2 h.2
  rw [Int.mul_comm] at b1 b2
  have q1 : IntKind.i64.wrap (x * n) = x * n := by rw [IntKind.wrap_i64]; omega
  have q2 : IntKind.i64.wrap (y * n) = y * n := by rw [IntKind.wrap_i64]; omega
  have e1 : n * x = x * n := Int.mul_comm _ _
  have e2 : n * y = y * n := Int.mul_comm _ _
  rw [e1, e2]
  clear e1 e2 b1 b2 h
  go_enter Tryd.func45, Tryd.ntmps45
  go_wp2
  go_returns
  exact ⟨rfl, by go_grown⟩
set_option maxHeartbeats 2000000 in
theorem ptimes1_any (x y n : Int) (q : Nat) (w : World) (c0 : w.cell? ⟨q, 0, none⟩ = some (.int .i64 n)) (h : big 100 x y) (h1 : 1 ≤ n) (h2 : n ≤ 20) :
    Calls Tryd.prog 44 #[.agg #[.int .i64 (x), .int .i64 (y)], .pointer (some ⟨q, 0, none⟩)] w fun e w' => e = .returned (.agg #[.int .i64 (n * x), .int .i64 (n * y)]) ∧ Below w.heap.size w w' := by
  have HT := Lib.hid (fun w' => vtimes_any x y n w' h h1 h2)
  have hq := cell_lt c0
  generalize n * x = X at *
  generalize n * y = Y at *
  clear h h1 h2
  go_enter Tryd.func44, Tryd.ntmps44
  go_wp2_with fail
  refine Calls.mono (HT.out _) ?_
  rintro e w1 ⟨rfl, hb1⟩
  have t0 : w1.cell? ⟨w.heap.size + 1, 0, none⟩ = some (.int .i64 0) := (hb1.cell (p := ⟨w.heap.size + 1, 0, none⟩) (by simp)).trans (by simp)
  have t1 : w1.cell? ⟨w.heap.size + 1, 1, none⟩ = some (.int .i64 0) := (hb1.cell (p := ⟨w.heap.size + 1, 1, none⟩) (by simp)).trans (by simp)
  have t2 : w1.frozen? ⟨w.heap.size + 1, 0, none⟩ = false := (hb1.frozen (p := ⟨w.heap.size + 1, 0, none⟩) (by simp)).trans (by simp)
  have t3 : w1.frozen? ⟨w.heap.size + 1, 1, none⟩ = false := (hb1.frozen (p := ⟨w.heap.size + 1, 1, none⟩) (by simp)).trans (by simp)
  have hB := belowTo (a := w) (by go_grown) hb1
  clear hb1
  go_wp2
  have r0 : ((w1.setCell ⟨w.heap.size + 1, 0, none⟩ (.int .i64 X)).setCell ⟨w.heap.size + 1, 1, none⟩ (.int .i64 Y)).cell? ⟨w.heap.size + 1, 0, none⟩ = some (.int .i64 X) := by
    rw [World.cell?_setCell_other _ _ _ _ (by simp)]
    exact World.cell?_setCell_same _ _ _ t0
  have r1 : ((w1.setCell ⟨w.heap.size + 1, 0, none⟩ (.int .i64 X)).setCell ⟨w.heap.size + 1, 1, none⟩ (.int .i64 Y)).cell? ⟨w.heap.size + 1, 1, none⟩ = some (.int .i64 Y) := by
    refine World.cell?_setCell_same _ _ _ (u := .int .i64 0) ?_
    rw [World.cell?_setCell_other _ _ _ _ (by simp)]
    exact t1
  have hF : Below w.heap.size w ((w1.setCell ⟨w.heap.size + 1, 0, none⟩ (.int .i64 X)).setCell ⟨w.heap.size + 1, 1, none⟩ (.int .i64 Y)) := (hB.setCell (p := ⟨w.heap.size + 1, 0, none⟩) (by simp) _).setCell (p := ⟨w.heap.size + 1, 1, none⟩) (by simp) _
  generalize ((w1.setCell ⟨w.heap.size + 1, 0, none⟩ (.int .i64 X)).setCell ⟨w.heap.size + 1, 1, none⟩ (.int .i64 Y)) = W9 at *
  refine bodyPost_ret (by simp [results, Tryd.results44, go_sem, *]; try rfl) rfl ?_
  exact ⟨rfl, hF⟩
def TimesB (l : List V2) (n : Int) : Bool := polyB l && (decide (1 ≤ n) && decide (n ≤ 20))
def TimesL (l : List V2) (n : Int) : List V2 := gV (TimesB l n && polyB (l.map (timesF n))) (tidyP (l.map (timesF n)))
theorem times_no {l : List V2} {n : Int} (h : TimesB l n = false) : gV (TimesB l n && polyB (l.map (timesF n))) (tidyP (l.map (timesF n))) = [] := by rw [h]; rfl
set_option maxHeartbeats 4000000 in
theorem polygonTimes_any (v : Value) (l : List V2) (n : Int) (w : World) (hl : ReadsVecs w v l) (hg : EtOk w) :
    Calls Tryd.prog 15 #[v, .int .i64 n] w (GivesVecsR w (TimesL l n) (TimesB l n && polyB (l.map (timesF n)))) := by
  have HC := Lib.hid (fun w' (hb : Below w.heap.size w w') => polyCheck_any v l w' (hl.below hb))
  have HCh := Lib.hid (fun w' (hb : Below w.heap.size w w') (c0 : w'.cell? ⟨w.heap.size, 0, none⟩ = some (.int .i64 n)) (hK : polyB l = true) (h1 : 1 ≤ n) (h2 : n ≤ 20) =>
    changedT v l w.heap.size (timesF n) w' (hg.below hb) (hl.below hb) (by have := poly_len hK; omega) (by have := poly_len hK; omega) (fun i => poly_small hK i)
      (fun W x y hW hxy => ptimes1_any x y n w.heap.size W ((hW.cell (p := ⟨w.heap.size, 0, none⟩) (cell_lt c0)).trans c0) hxy h1 h2) (times_big hK h1 h2))
  have HM := Lib.hid (fun (hK : polyB l = true) (h1 : 1 ≤ n) => hull_times hK h1)
  obtain ⟨a, c, rfl, _⟩ := hl
  unfold GivesVecsR TimesL
  have HT : Hid (TimesB l n = (polyB l && (decide (1 ≤ n) && decide (n ≤ 20)))) := rfl
  generalize hTB : TimesB l n = TB at *
  clear hTB
  generalize l.map (timesF n) = L at *
  generalize hKK : polyB l = K at *
  clear hKK
  cases K
  · have hTB : TB = false := by rw [HT.out]; rfl
    subst hTB
    clear HCh HM HT
    go_enter Tryd.func15, Tryd.ntmps15
    go_wp2_with fail
    refine Calls.mono (HC.out _ (by go_grown)) ?_
    rintro e w1 ⟨he, hb1⟩
    rcases polyEnd_of he with ⟨h, _⟩ | ⟨_, s, rfl⟩
    · cases h
    clear he
    have hB1 := belowTo (a := w) (by go_grown) hb1
    clear hb1
    go_wp2_with fail
    refine Calls.mono (none_hit s _ (hg.below hB1)) ?_
    rintro e w2 ⟨rfl, hb2⟩
    have hB2 := belowTo hB1 hb2
    clear hB1 hb2
    go_wp2
    go_returns
    exact ⟨_, rfl, VecsR.nil _ _, hB2⟩
  · by_cases hn : 1 ≤ n ∧ n ≤ 20
    · obtain ⟨h1, h2⟩ := hn
      have hTB : TB = true := by rw [HT.out]; simp [h1, h2]
      subst hTB
      obtain ⟨m1, m2⟩ := HM.out rfl h1
      have HC2 := Lib.hid (fun w' hb c0 => HCh.out w' hb c0 rfl h1 h2)
      rw [m2, m1] at HC2
      unfold GivesVecsR at HC2
      clear HM HCh HT m1 m2
      rw [Bool.true_and]
      generalize gV (polyB L) (tidyP L) = R at *
      generalize polyB L = P at *
      have i1 : ¬ n < 1 := by omega
      have i2 : ¬ 20 < n := by omega
      go_enter Tryd.func15, Tryd.ntmps15
      go_wp2_with fail
      refine Calls.mono (HC.out _ (by go_grown)) ?_
      rintro e w1 ⟨he, hb1⟩
      rcases polyEnd_of he with ⟨_, rfl⟩ | ⟨h, _⟩
      rotate_left
      · cases h
      clear he
      have c1 : w1.cell? ⟨w.heap.size, 0, none⟩ = some (.int .i64 n) := (hb1.cell (p := ⟨w.heap.size, 0, none⟩) (by simp)).trans (by simp)
      have hB1 := belowTo (a := w) (by go_grown) hb1
      clear hb1
      go_wp2_with fail
      refine Calls.mono (none_nil _) ?_
      rintro e w2 ⟨rfl, hb2⟩
      have c2 : w2.cell? ⟨w.heap.size, 0, none⟩ = some (.int .i64 n) := (hb2.cell (p := ⟨w.heap.size, 0, none⟩) (cell_lt c1)).trans c1
      have hB2 := belowTo hB1 hb2
      have hs := hB2.size
      clear hB1 hb2 c1
      go_wp2_with fail
      refine Calls.mono (HC2.out _ hB2 c2) ?_
      rintro e w3 ⟨v3, rfl, I3, hb3⟩
      have HB := Lib.hid (belowTo hB2 hb3)
      have HI3 := Lib.hid (I3.lower hs)
      clear hb3 I3
      go_wp2
      go_returns
      exact ⟨_, rfl, HI3.out, HB.out⟩
    · have hTB : TB = false := by rw [HT.out]; simp; omega
      subst hTB
      clear HCh HM HT
      by_cases h1 : n < 1
      · go_enter Tryd.func15, Tryd.ntmps15
        go_wp2_with fail
        refine Calls.mono (HC.out _ (by go_grown)) ?_
        rintro e w1 ⟨he, hb1⟩
        rcases polyEnd_of he with ⟨_, rfl⟩ | ⟨h, _⟩
        rotate_left
        · cases h
        clear he
        have c1 : w1.cell? ⟨w.heap.size, 0, none⟩ = some (.int .i64 n) := (hb1.cell (p := ⟨w.heap.size, 0, none⟩) (by simp)).trans (by simp)
        have hB1 := belowTo (a := w) (by go_grown) hb1
        clear hb1
        go_wp2_with fail
        refine Calls.mono (none_nil _) ?_
        rintro e w2 ⟨rfl, hb2⟩
        have c2 : w2.cell? ⟨w.heap.size, 0, none⟩ = some (.int .i64 n) := (hb2.cell (p := ⟨w.heap.size, 0, none⟩) (cell_lt c1)).trans c1
        have hB2 := belowTo hB1 hb2
        clear hB1 hb2 c1
        go_wp2
        go_returns
        exact ⟨_, rfl, VecsR.nil _ _, hB2⟩
      · have h2 : 20 < n := by omega
        go_enter Tryd.func15, Tryd.ntmps15
        go_wp2_with fail
        refine Calls.mono (HC.out _ (by go_grown)) ?_
        rintro e w1 ⟨he, hb1⟩
        rcases polyEnd_of he with ⟨_, rfl⟩ | ⟨h, _⟩
        rotate_left
        · cases h
        clear he
        have c1 : w1.cell? ⟨w.heap.size, 0, none⟩ = some (.int .i64 n) := (hb1.cell (p := ⟨w.heap.size, 0, none⟩) (by simp)).trans (by simp)
        have hB1 := belowTo (a := w) (by go_grown) hb1
        clear hb1
        go_wp2_with fail
        refine Calls.mono (none_nil _) ?_
        rintro e w2 ⟨rfl, hb2⟩
        have c2 : w2.cell? ⟨w.heap.size, 0, none⟩ = some (.int .i64 n) := (hb2.cell (p := ⟨w.heap.size, 0, none⟩) (cell_lt c1)).trans c1
        have hB2 := belowTo hB1 hb2
        clear hB1 hb2 c1
        go_wp2
        go_returns
        exact ⟨_, rfl, VecsR.nil _ _, hB2⟩
end Go.Proofs.YtgaeibibeekclaaDoor
