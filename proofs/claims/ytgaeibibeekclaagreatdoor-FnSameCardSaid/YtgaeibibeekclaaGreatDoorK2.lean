import Derived.Test.YtgaeibibeekclaaGreatDoorL3
/- polygon.changed: by a number, by a vector, by a matrix. -/
namespace Go.Proofs.YtgaeibibeekclaaGreatDoor
open Go.RowKit

theorem range_map (F : V2 → V2) (l : List V2) : (List.range l.length).map (fun i => F (cyc l i)) = l.map F := by
  apply List.ext_getElem?
  intro j
  by_cases hj : j < l.length
  · rw [List.getElem?_map, List.getElem?_range hj, List.getElem?_map, cyc_get hj]
    rfl
  · rw [List.getElem?_eq_none (by simp; omega), List.getElem?_eq_none (by simp; omega)]
set_option maxHeartbeats 4000000 in
theorem changedS (v : Value) (l : List V2) (p r : Int) (F : V2 → V2) (w : World) (hg : EtOk w) (h : ReadsVecs w v l) (h0 : 0 < l.length) (hm : l.length ≤ 1000) (hk : ∀ i, big 100 (cyc l i).1 (cyc l i).2)
    (HF : ∀ W x y, Below w.heap.size w W → big 100 x y → Calls Tryz.prog 30 #[.agg #[.int .i64 (p), .int .i64 (r)], .agg #[.int .i64 (x), .int .i64 (y)]] W fun e w' => e = .returned (.agg #[.int .i64 ((F (x, y)).1), .int .i64 ((F (x, y)).2)]) ∧ Below W.heap.size W w') (hbig : ∀ x ∈ l.map F, big 400000 x.1 x.2) :
    Calls Tryz.prog 29 #[v, .func (.func 30) #[.agg #[.int .i64 (p), .int .i64 (r)]] #[]] w (GivesVecsR w (gV (polyB (hullD (l.map F))) (hullD (l.map F))) (polyB (hullD (l.map F)))) := by
  obtain ⟨i0, hi, hz0, hz1, hz2⟩ := info_parts infoVec
  obtain ⟨bv, ov, vc, rfl, _, _, hbv, hvs⟩ := h.open h0
  have HVS := Lib.hid hvs
  have HK := Lib.hid hk
  have HFn := Lib.hid HF
  have HHu := Lib.hid (fun v' b' w' (hb : Below w.heap.size w w') (hI : Vecs w' b' v' (l.map F)) => hullOf_any v' (l.map F) w' (hg.below hb) (hI.reads (by rw [List.length_map]; omega)) (by rw [List.length_map]; omega) hbig)
  have HX : Hid (∀ k, (List.range (k + 1)).map (fun i => F (cyc l i)) = (List.range k).map (fun i => F (cyc l i)) ++ [F (cyc l k)]) := fun k => by simp [List.range_succ]
  have HZ : Hid ((List.range l.length).map (fun i => F (cyc l i)) = l.map F) := by
    show _ = _
    exact range_map F l
  unfold GivesVecsR at HHu ⊢
  generalize gV (polyB (hullD (l.map F))) (hullD (l.map F)) = L at *
  generalize polyB (hullD (l.map F)) = K at *
  clear h hvs hk HF hbig hg
  go_enter Tryz.func29, Tryz.ntmps29
  go_wp2
  go_loopw [6, 11] (fun s6 s11 wr => ∃ k : Nat, k ≤ l.length ∧ s11 = .int .i64 k ∧ Hid (Vecs wr w.heap.size s6 ((List.range k).map (fun i => F (cyc l i)))) ∧ Below w.heap.size w wr) (fun _ s11 _ => l.length - (intOf s11).toNat)
  case atStart => exact ⟨0, Nat.zero_le _, rfl, Vecs.nil _ _, Below.refl _ _⟩
  case round =>
    obtain ⟨k, hk, rfl, HI, hB⟩ := hrel
    have i1 : (0 : Int) ≤ (k : Int) := by omega
    by_cases hlt : k < l.length
    · have i2 : (k : Int) < (l.length : Int) := by omega
      obtain ⟨c0, c1⟩ := HVS.out wr hB k hlt
      have k0 := HK.out k
      have HXk := Lib.hid (HX.out k)
      have hkl : ((List.range k).map (fun i => F (cyc l i))).length = k := by simp
      generalize hV : cyc l k = V at *
      clear hV
      obtain ⟨x, y⟩ := V
      dsimp only at c0 c1 k0
      have HM := Lib.hid (fun w' hb => HFn.out w' x y hb k0)
      generalize F (x, y) = U at *
      obtain ⟨X, Y⟩ := U
      have hs := hB.size
      have hA2 : Below wr.heap.size wr (wr.alloc (.cells #[.int .i64 x, .int .i64 y] 25)) := by go_grown
      have HI2 := Lib.hid (HI.out.below hA2)
      have HB2 := Lib.hid (hB.trans (hA2.mono hs))
      clear hA2 HI HVS HK HX HFn HHu HZ k0
      go_wp2_with fail
      refine Calls.mono (HM.out _ HB2.out) ?_
      rintro e w2 ⟨rfl, hb2⟩
      have hB3 := belowTo HB2.out hb2
      have hown := HI2.out.below hb2
      unfold Vecs VRow at hown
      rw [hkl] at hown
      have hbs := hB3.size
      dsimp only
      clear hb2 HB2 HI2 hB
      go_wp2_with (at_builtin; refine wpList_append_own_at _ rfl _ _ 23 rfl w.heap.size 25 i0 (.agg #[.int .i64 (0), .int .i64 (0)]) 2 16 Tryz.underlying23 hi hz0 hz1 hz2 rfl (by decide) _ _ _ rfl (hown.alloc _) ⟨_, 0, none⟩ 1 1 [.int .i64 X, .int .i64 Y] rfl rfl ?c1 ?c2 ?c3 ?c4 ?c5 ?_)
      case c1 =>
        intro j u hj
        match j, hj with
        | 0, hj => simp at hj; subst hj; simp [Addr.add]
        | 1, hj => simp at hj; subst hj; simp [Addr.add]
      case c2 => intro u hu; simp at hu; rcases hu with rfl | rfl <;> rfl
      case c3 => unfold maxLen; omega
      case c4 => omega
      case c5 => simp; omega
      intro v' w4 hown' hgrow _ _
      have hB5 := (hB3.alloc hbs _).grown hgrow (by simp; omega) (fun k hk => (hown.lt k hk).1)
      have HVv := Lib.hid (Vecs.snoc (l := (List.range k).map (fun i => F (cyc l i))) hkl.symm hown')
      rw [← HXk.out] at HVv
      clear hown' hgrow hown hB3 hkl hbs
      go_wp2
      go_roundw
      case rel => exact ⟨k + 1, by omega, by go_num, HVv, hB5⟩
      case measure => simp [intOf]; omega
    · obtain rfl : k = l.length := by omega
      have i2 : ¬ ((l.length : Nat) : Int) < (l.length : Int) := by omega
      have hI := HI.out
      rw [HZ.out] at hI
      have HH2 := Lib.hid (HHu.out _ _ wr hB hI)
      have hs := hB.size
      clear hI HI HHu HFn HX HZ HVS HK
      go_wp2_with fail
      refine Calls.mono HH2.out ?_
      rintro e w3 ⟨v3, rfl, I3, hb3⟩
      have HB := Lib.hid (belowTo hB hb3)
      have HI3 := Lib.hid (I3.lower hs)
      clear hb3 I3 hB
      go_wp2
      go_returns
      exact ⟨_, rfl, HI3.out, HB.out⟩
set_option maxHeartbeats 4000000 in
theorem changedM (v : Value) (l : List V2) (p q r s : Int) (F : V2 → V2) (w : World) (hg : EtOk w) (h : ReadsVecs w v l) (h0 : 0 < l.length) (hm : l.length ≤ 1000) (hk : ∀ i, big 100 (cyc l i).1 (cyc l i).2)
    (HF : ∀ W x y, Below w.heap.size w W → big 100 x y → Calls Tryz.prog 37 #[.agg #[.int .i64 (p), .int .i64 (q), .int .i64 (r), .int .i64 (s)], .agg #[.int .i64 (x), .int .i64 (y)]] W fun e w' => e = .returned (.agg #[.int .i64 ((F (x, y)).1), .int .i64 ((F (x, y)).2)]) ∧ Below W.heap.size W w') (hbig : ∀ x ∈ l.map F, big 400000 x.1 x.2) :
    Calls Tryz.prog 29 #[v, .func (.func 37) #[.agg #[.int .i64 (p), .int .i64 (q), .int .i64 (r), .int .i64 (s)]] #[]] w (GivesVecsR w (gV (polyB (hullD (l.map F))) (hullD (l.map F))) (polyB (hullD (l.map F)))) := by
  obtain ⟨i0, hi, hz0, hz1, hz2⟩ := info_parts infoVec
  obtain ⟨bv, ov, vc, rfl, _, _, hbv, hvs⟩ := h.open h0
  have HVS := Lib.hid hvs
  have HK := Lib.hid hk
  have HFn := Lib.hid HF
  have HHu := Lib.hid (fun v' b' w' (hb : Below w.heap.size w w') (hI : Vecs w' b' v' (l.map F)) => hullOf_any v' (l.map F) w' (hg.below hb) (hI.reads (by rw [List.length_map]; omega)) (by rw [List.length_map]; omega) hbig)
  have HX : Hid (∀ k, (List.range (k + 1)).map (fun i => F (cyc l i)) = (List.range k).map (fun i => F (cyc l i)) ++ [F (cyc l k)]) := fun k => by simp [List.range_succ]
  have HZ : Hid ((List.range l.length).map (fun i => F (cyc l i)) = l.map F) := by
    show _ = _
    exact range_map F l
  unfold GivesVecsR at HHu ⊢
  generalize gV (polyB (hullD (l.map F))) (hullD (l.map F)) = L at *
  generalize polyB (hullD (l.map F)) = K at *
  clear h hvs hk HF hbig hg
  go_enter Tryz.func29, Tryz.ntmps29
  go_wp2
  go_loopw [6, 11] (fun s6 s11 wr => ∃ k : Nat, k ≤ l.length ∧ s11 = .int .i64 k ∧ Hid (Vecs wr w.heap.size s6 ((List.range k).map (fun i => F (cyc l i)))) ∧ Below w.heap.size w wr) (fun _ s11 _ => l.length - (intOf s11).toNat)
  case atStart => exact ⟨0, Nat.zero_le _, rfl, Vecs.nil _ _, Below.refl _ _⟩
  case round =>
    obtain ⟨k, hk, rfl, HI, hB⟩ := hrel
    have i1 : (0 : Int) ≤ (k : Int) := by omega
    by_cases hlt : k < l.length
    · have i2 : (k : Int) < (l.length : Int) := by omega
      obtain ⟨c0, c1⟩ := HVS.out wr hB k hlt
      have k0 := HK.out k
      have HXk := Lib.hid (HX.out k)
      have hkl : ((List.range k).map (fun i => F (cyc l i))).length = k := by simp
      generalize hV : cyc l k = V at *
      clear hV
      obtain ⟨x, y⟩ := V
      dsimp only at c0 c1 k0
      have HM := Lib.hid (fun w' hb => HFn.out w' x y hb k0)
      generalize F (x, y) = U at *
      obtain ⟨X, Y⟩ := U
      have hs := hB.size
      have hA2 : Below wr.heap.size wr (wr.alloc (.cells #[.int .i64 x, .int .i64 y] 25)) := by go_grown
      have HI2 := Lib.hid (HI.out.below hA2)
      have HB2 := Lib.hid (hB.trans (hA2.mono hs))
      clear hA2 HI HVS HK HX HFn HHu HZ k0
      go_wp2_with fail
      refine Calls.mono (HM.out _ HB2.out) ?_
      rintro e w2 ⟨rfl, hb2⟩
      have hB3 := belowTo HB2.out hb2
      have hown := HI2.out.below hb2
      unfold Vecs VRow at hown
      rw [hkl] at hown
      have hbs := hB3.size
      dsimp only
      clear hb2 HB2 HI2 hB
      go_wp2_with (at_builtin; refine wpList_append_own_at _ rfl _ _ 23 rfl w.heap.size 25 i0 (.agg #[.int .i64 (0), .int .i64 (0)]) 2 16 Tryz.underlying23 hi hz0 hz1 hz2 rfl (by decide) _ _ _ rfl (hown.alloc _) ⟨_, 0, none⟩ 1 1 [.int .i64 X, .int .i64 Y] rfl rfl ?c1 ?c2 ?c3 ?c4 ?c5 ?_)
      case c1 =>
        intro j u hj
        match j, hj with
        | 0, hj => simp at hj; subst hj; simp [Addr.add]
        | 1, hj => simp at hj; subst hj; simp [Addr.add]
      case c2 => intro u hu; simp at hu; rcases hu with rfl | rfl <;> rfl
      case c3 => unfold maxLen; omega
      case c4 => omega
      case c5 => simp; omega
      intro v' w4 hown' hgrow _ _
      have hB5 := (hB3.alloc hbs _).grown hgrow (by simp; omega) (fun k hk => (hown.lt k hk).1)
      have HVv := Lib.hid (Vecs.snoc (l := (List.range k).map (fun i => F (cyc l i))) hkl.symm hown')
      rw [← HXk.out] at HVv
      clear hown' hgrow hown hB3 hkl hbs
      go_wp2
      go_roundw
      case rel => exact ⟨k + 1, by omega, by go_num, HVv, hB5⟩
      case measure => simp [intOf]; omega
    · obtain rfl : k = l.length := by omega
      have i2 : ¬ ((l.length : Nat) : Int) < (l.length : Int) := by omega
      have hI := HI.out
      rw [HZ.out] at hI
      have HH2 := Lib.hid (HHu.out _ _ wr hB hI)
      have hs := hB.size
      clear hI HI HHu HFn HX HZ HVS HK
      go_wp2_with fail
      refine Calls.mono HH2.out ?_
      rintro e w3 ⟨v3, rfl, I3, hb3⟩
      have HB := Lib.hid (belowTo hB hb3)
      have HI3 := Lib.hid (I3.lower hs)
      clear hb3 I3 hB
      go_wp2
      go_returns
      exact ⟨_, rfl, HI3.out, HB.out⟩
end Go.Proofs.YtgaeibibeekclaaGreatDoor

/- Polygons that are multiplied, shifted: the mathematics. -/
namespace Go.Proofs.YtgaeibibeekclaaGreatDoor
open Go.RowKit

/-- the hull of corners that bend all round is they, from the least one on -/
theorem hull_round {l : List V2} (hc : ConvS l.length (cyc l)) : hullD l = tidyP l := by
  have h3 := hc.three
  have hK : leastAt l (l.length - 1) < l.length := Nat.lt_of_le_of_lt (leastAt_le _ _) (by omega)
  unfold hullD tidyP
  rw [hull_conv (hc.rot (leastAt l (l.length - 1))) (sortD_asc l) (fun q => ?_) (fun q hq => ?_)]
  · exact range_cyc (by omega)
  · rw [sortD_mem]
    constructor
    · intro hq
      rw [← rot_mem (K := leastAt l (l.length - 1))] at hq
      obtain ⟨j, hj, rfl⟩ := List.mem_iff_getElem.1 hq
      have e : (rot (leastAt l (l.length - 1)) l)[j] = cyc (rot (leastAt l (l.length - 1)) l) j := by rw [cyc_lt hj, List.getElem?_eq_getElem hj]; rfl
      rw [e, cyc_rot (by omega)]
      rw [rot_len] at hj
      exact ⟨j, hj, rfl⟩
    · rintro ⟨j, _, rfl⟩
      exact cyc_mem (by omega) _
  · rw [sortD_mem] at hq
    rw [Nat.add_zero]
    obtain ⟨j, hj, rfl⟩ := List.mem_iff_getElem.1 hq
    have e : l[j] = cyc l j := by rw [cyc_lt hj, List.getElem?_eq_getElem hj]; rfl
    rw [e]
    exact leastAt_min l _ j (by omega)
theorem conv_map {l : List V2} (h : ConvS l.length (cyc l)) (F : V2 → V2) (c : Int) (hc : 0 < c) (hF : ∀ a b d, dtV (subV (F b) (F a)) (subV (F d) (F a)) = c * dtV (subV b a) (subV d a)) : ConvS (l.map F).length (cyc (l.map F)) := by
  have h3 := h.three
  have e : cyc (l.map F) = fun i => F (cyc l i) := funext fun i => cyc_map F (by omega) i
  rw [List.length_map, e]
  refine ⟨h3, fun i => ?_, fun i t h2 hn => ?_⟩
  · show F (cyc l (i + l.length)) = _
    rw [h.per]
  · have := h.inner i t h2 hn
    unfold farZ at this ⊢
    dsimp only
    rw [hF]
    exact Int.mul_pos hc this
theorem hull_map {l : List V2} (h : ConvS l.length (cyc l)) (F : V2 → V2) (c : Int) (hc : 0 < c) (hF : ∀ a b d, dtV (subV (F b) (F a)) (subV (F d) (F a)) = c * dtV (subV b a) (subV d a)) :
    hullD (l.map F) = tidyP (l.map F) ∧ polyB (hullD (l.map F)) = polyB (l.map F) := by
  have e := hull_round (conv_map h F c hc hF)
  exact ⟨e, by rw [e, tidyP_poly]⟩
def timesF (n : Int) (a : V2) : V2 := (n * a.1, n * a.2)
def shiftF (s : V2) (a : V2) : V2 := (a.1 + s.1, a.2 + s.2)
theorem times_turn (n : Int) (a b d : V2) : dtV (subV (timesF n b) (timesF n a)) (subV (timesF n d) (timesF n a)) = n * n * dtV (subV b a) (subV d a) := by
  unfold dtV subV timesF
  grind
theorem shift_turn (s a b d : V2) : dtV (subV (shiftF s b) (shiftF s a)) (subV (shiftF s d) (shiftF s a)) = 1 * dtV (subV b a) (subV d a) := by
  unfold dtV subV shiftF
  grind
theorem hull_times {l : List V2} (h : polyB l = true) {n : Int} (hn : 1 ≤ n) : hullD (l.map (timesF n)) = tidyP (l.map (timesF n)) ∧ polyB (hullD (l.map (timesF n))) = polyB (l.map (timesF n)) :=
  hull_map (poly_conv h) _ _ (Int.mul_pos (by omega) (by omega)) (times_turn n)
theorem hull_shift {l : List V2} (h : polyB l = true) (s : V2) : hullD (l.map (shiftF s)) = tidyP (l.map (shiftF s)) ∧ polyB (hullD (l.map (shiftF s))) = polyB (l.map (shiftF s)) :=
  hull_map (poly_conv h) _ 1 (by omega) (shift_turn s)
theorem times_big {l : List V2} (h : polyB l = true) {n : Int} (hn : 1 ≤ n) (hm : n ≤ 20) : ∀ x ∈ l.map (timesF n), big 400000 x.1 x.2 := by
  intro x hx
  obtain ⟨y, hy, rfl⟩ := List.mem_map.1 hx
  obtain ⟨j, hj, rfl⟩ := List.mem_iff_getElem.1 hy
  have e : l[j] = cyc l j := by rw [cyc_lt hj, List.getElem?_eq_getElem hj]; rfl
  rw [e]
  obtain ⟨⟨h1, h2⟩, h3, h4⟩ := poly_small h j
  generalize (cyc l j) = z at *
  have b : ∀ u : Int, -100 ≤ u → u ≤ 100 → -2000 ≤ n * u ∧ n * u ≤ 2000 := fun u k1 k2 => by
    have q1 := Int.mul_nonneg (show 0 ≤ n by omega) (show 0 ≤ u + 100 by omega)
    have q2 := Int.mul_nonneg (show 0 ≤ n by omega) (show 0 ≤ 100 - u by omega)
    rw [Int.mul_add] at q1
    rw [Int.mul_sub] at q2
    omega
  have q1 := b _ h1 h2
  have q2 := b _ h3 h4
  unfold big timesF
  dsimp only
  omega
theorem shift_big {l : List V2} (h : polyB l = true) {s : V2} (hs : vecB s.1 s.2 = true) : ∀ x ∈ l.map (shiftF s), big 400000 x.1 x.2 := by
  intro x hx
  obtain ⟨y, hy, rfl⟩ := List.mem_map.1 hx
  obtain ⟨j, hj, rfl⟩ := List.mem_iff_getElem.1 hy
  have e : l[j] = cyc l j := by rw [cyc_lt hj, List.getElem?_eq_getElem hj]; rfl
  rw [e]
  have h1 := poly_small h j
  have h2 : (-1000 ≤ s.1 ∧ s.1 ≤ 1000) ∧ -1000 ≤ s.2 ∧ s.2 ≤ 1000 := by
    unfold vecB szB at hs
    simp at hs
    omega
  generalize (cyc l j) = z at *
  unfold big shiftF
  dsimp only
  omega
end Go.Proofs.YtgaeibibeekclaaGreatDoor

/- PolygonTimes: both sides. -/
namespace Go.Proofs.YtgaeibibeekclaaGreatDoor
open Go.RowKit

theorem small_mul {n u : Int} (h1 : 1 ≤ n) (h2 : n ≤ 20) (k : -100 ≤ u ∧ u ≤ 100) : -2000 ≤ n * u ∧ n * u ≤ 2000 := by
  have q1 := Int.mul_nonneg (show 0 ≤ n by omega) (show 0 ≤ u + 100 by omega)
  have q2 := Int.mul_nonneg (show 0 ≤ n by omega) (show 0 ≤ 100 - u by omega)
  rw [Int.mul_add] at q1
  rw [Int.mul_sub] at q2
  omega
set_option maxHeartbeats 1000000 in
theorem vtimes_any (x y n : Int) (w : World) (h : big 100 x y) (h1 : 1 ≤ n) (h2 : n ≤ 20) :
    Calls Tryz.prog 101 #[.agg #[.int .i64 (x), .int .i64 (y)], .int .i64 n] w fun e w' => e = .returned (.agg #[.int .i64 (n * x), .int .i64 (n * y)]) ∧ Below w.heap.size w w' := by
  have b1 := small_mul h1 h2 h.1
  have b2 := small_mul h1 h2 h.2
  rw [Int.mul_comm] at b1 b2
  have q1 : IntKind.i64.wrap (x * n) = x * n := by rw [IntKind.wrap_i64]; omega
  have q2 : IntKind.i64.wrap (y * n) = y * n := by rw [IntKind.wrap_i64]; omega
  have e1 : n * x = x * n := Int.mul_comm _ _
  have e2 : n * y = y * n := Int.mul_comm _ _
  rw [e1, e2]
  clear e1 e2 b1 b2 h
  go_enter Tryz.func101, Tryz.ntmps101
  go_wp2
  go_returns
  exact ⟨rfl, by go_grown⟩
def TimesB (l : List V2) (n : Int) : Bool := polyB l && (decide (1 ≤ n) && decide (n ≤ 20))
def TimesL (l : List V2) (n : Int) : List V2 := gV (TimesB l n && polyB (l.map (timesF n))) (tidyP (l.map (timesF n)))
theorem times_no {l : List V2} {n : Int} (h : TimesB l n = false) : gV (TimesB l n && polyB (l.map (timesF n))) (tidyP (l.map (timesF n))) = [] := by rw [h]; rfl
end Go.Proofs.YtgaeibibeekclaaGreatDoor
