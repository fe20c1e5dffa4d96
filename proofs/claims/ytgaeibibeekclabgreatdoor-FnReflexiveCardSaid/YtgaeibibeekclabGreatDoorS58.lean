import Derived.Test.YtgaeibibeekclabGreatDoorProg
import Derived.Test.YtgaeibibeekclabGreatDoorS01
import Derived.Test.YtgaeibibeekclabGreatDoorS03
import Derived.Test.YtgaeibibeekclabGreatDoorS04
import Derived.Test.YtgaeibibeekclabGreatDoorS06
import Derived.Test.YtgaeibibeekclabGreatDoorS07
import Derived.Test.YtgaeibibeekclabGreatDoorS08
import Derived.Test.YtgaeibibeekclabGreatDoorS13
import Derived.Test.YtgaeibibeekclabGreatDoorS14
import Derived.Test.YtgaeibibeekclabGreatDoorS15
import Derived.Test.YtgaeibibeekclabGreatDoorS19
import Derived.Test.YtgaeibibeekclabGreatDoorS43
import Derived.Test.YtgaeibibeekclabGreatDoorS44
import Derived.Test.YtgaeibibeekclabGreatDoorS52
import Derived.WalkKit
import Derived.LaidEql
import Derived.Stop.Asserts
import Derived.RowKitTokens
import Derived.Handy
import Derived.WalkSpells
import Derived.WalkLawsBesides
import Derived.Deep.QuietTactic
import Derived.BigQuiet
import Derived.Lib.Hide
import Derived.Deep.RegionHeld3
import Derived.Deep.DeepCutAuto
import Derived.Deep.AppendLies
import Derived.Laws.OwnMore
import Derived.Laws.MakeOwn
import Derived.OwnWalk
import Derived.Maps.AppendAt
import Derived.RangeFuncBox
import Derived.RegionTactic
import Derived.ChangeAlike
import Derived.RangeFuncNested
import Derived.StillTail
import Derived.OrdersIn
import Derived.AtR
import Derived.RangeFuncBound
import Derived.RangeFuncCalls
import Derived.RangeFuncLeaves
import Derived.Shelf.Abstract
import Derived.OwnWalkIn
import Derived.TacticsInMore
import Derived.LoopNIn
import Derived.LoopIn
import Derived.LaidEqlPtr
import Derived.BigRegion
import Derived.Shelf.SlSortCmp.WholeK
import Derived.Laws.StructEq
import Derived.Laws.IdiomCopy
import Derived.Shelf.SlGeneric
import Derived.Shelf.SlSortCmp.NoneTotal
import Derived.Shelf.SlicesE.Clone
import Derived.Shelf.SlicesQ.Reverse
import Derived.Ground.SlsfProg
import Derived.Ground.SlgnProg
import Derived.Deep.RegionLaw
import Derived.ArgAppend
namespace Go.Proofs.YtgaeibibeekclabGreatDoor
open Go.RowKit
theorem range_map (F : V2 → V2) (l : List V2) : (List.range l.length).map (fun i => F (cyc l i)) = l.map F := by
  apply List.ext_getElem?
  intro j
  by_cases hj : j < l.length
  · rw [List.getElem?_map, List.getElem?_range hj, List.getElem?_map, cyc_get hj]
    rfl
  · rw [List.getElem?_eq_none (by simp; omega), List.getElem?_eq_none (by simp; omega)]
set_option maxHeartbeats 4000000 in
theorem changedS (v : Value) (l : List V2) (p r : Int) (F : V2 → V2) (w : World) (hg : EtOk w) (h : ReadsVecs w v l) (h0 : 0 < l.length) (hm : l.length ≤ 1000) (hk : ∀ i, big 100 (cyc l i).1 (cyc l i).2)
    (HF : ∀ W x y, Below w.heap.size w W → big 100 x y → Calls Tryz.prog 88 #[.agg #[.int .i64 (p), .int .i64 (r)], .agg #[.int .i64 (x), .int .i64 (y)]] W fun e w' => e = .returned (.agg #[.int .i64 ((F (x, y)).1), .int .i64 ((F (x, y)).2)]) ∧ Below W.heap.size W w') (hbig : ∀ x ∈ l.map F, big 400000 x.1 x.2) :
    Calls Tryz.prog 42 #[v, .func (.func 88) #[.agg #[.int .i64 (p), .int .i64 (r)]] #[]] w (GivesVecsR w (gV (polyB (hullD (l.map F))) (hullD (l.map F))) (polyB (hullD (l.map F)))) := by
  obtain ⟨i0, hi, hz0, hz1, hz2⟩ := info_parts infoVec
  obtain ⟨bv, ov, vc, rfl, _, _, hbv, hvs⟩ := h.open h0
  have HVS := Lib.hid hvs
  have HK := Lib.hid hk
  have HFn := Lib.hid HF
  have HHu := Lib.hid (fun v' b' w' (hb : Below w.heap.size w w') (hI : Vecs w' b' v' (l.map F)) => hullOf_any v' (l.map F) w' (hg.below hb) (hI.reads (by rw [List.length_map]; omega)) (by rw [List.length_map]; omega) hbig)
  have HX : Hid (∀ k, (List.range (k + 1)).map (fun i => F (cyc l i)) = (List.range k).map (fun i => F (cyc l i)) ++ [F (cyc l k)]) := fun k => by simp [List.range_succ]
  have HZ : Hid ((List.range l.length).map (fun i => F (cyc l i)) = l.map F) := by
    show _ = _
    exact range_map F l
  unfold GivesVecsR at HHu ⊢
  generalize gV (polyB (hullD (l.map F))) (hullD (l.map F)) = L at *
  generalize polyB (hullD (l.map F)) = K at *
  clear h hvs hk HF hbig hg
  go_enter Tryz.func42, Tryz.ntmps42
  go_wp2
  go_loopw [6, 11] (fun s6 s11 wr => ∃ k : Nat, k ≤ l.length ∧ s11 = .int .i64 k ∧ Hid (Vecs wr w.heap.size s6 ((List.range k).map (fun i => F (cyc l i)))) ∧ Below w.heap.size w wr) (fun _ s11 _ => l.length - (intOf s11).toNat)
  case atStart => exact ⟨0, Nat.zero_le _, rfl, Vecs.nil _ _, Below.refl _ _⟩
  case round =>
    obtain ⟨k, hk, rfl, HI, hB⟩ := hrel
    have i1 : (0 : Int) ≤ (k : Int) := by omega
    by_cases hlt : k < l.length
    · have i2 : (k : Int) < (l.length : Int) := by omega
      obtain ⟨c0, c1⟩ := HVS.out wr hB k hlt
      have k0 := HK.out k
      have HXk := Lib.hid (HX.out k)
      have hkl : ((List.range k).map (fun i => F (cyc l i))).length = k := by simp
      generalize hV : cyc l k = V at *
      clear hV
      obtain ⟨x, y⟩ := V
      dsimp only at c0 c1 k0
      have HM := Lib.hid (fun w' hb => HFn.out w' x y hb k0)
      generalize F (x, y) = U at *
      obtain ⟨X, Y⟩ := U
      have hs := hB.size
      have hA2 : Below wr.heap.size wr (wr.alloc (.cells #[.int .i64 x, .int .i64 y] 55)) := by go_grown
      have HI2 := Lib.hid (HI.out.below hA2)
      have HB2 := Lib.hid (hB.trans (hA2.mono hs))
      clear hA2 HI HVS HK HX HFn HHu HZ k0
      go_wp2_with fail
      refine Calls.mono (HM.out _ HB2.out) ?_
      rintro e w2 ⟨rfl, hb2⟩
      have hB3 := belowTo HB2.out hb2
      have hown := HI2.out.below hb2
      unfold Vecs VRow at hown
      rw [hkl] at hown
      have hbs := hB3.size
      dsimp only
      clear hb2 HB2 HI2 hB
      go_wp2_with (at_builtin; refine wpList_append_own_at _ rfl _ _ 23 rfl w.heap.size 55 i0 (.agg #[.int .i64 (0), .int .i64 (0)]) 2 16 Tryz.underlying23 hi hz0 hz1 hz2 rfl (by decide) _ _ _ rfl (hown.alloc _) ⟨_, 0, none⟩ 1 1 [.int .i64 X, .int .i64 Y] rfl rfl ?c1 ?c2 ?c3 ?c4 ?c5 ?_)
      case c1 =>
        intro j u hj
        match j, hj with
        | 0, hj => simp at hj; subst hj; simp [Addr.add]
        | 1, hj => simp at hj; subst hj; simp [Addr.add]
      case c2 => intro u hu; simp at hu; rcases hu with rfl | rfl <;> rfl
      case c3 => unfold maxLen; omega
      case c4 => omega
      case c5 => simp; omega
      intro v' w4 hown' hgrow _ _
      have hB5 := (hB3.alloc hbs _).grown hgrow (by simp; omega) (fun k hk => (hown.lt k hk).1)
      have HVv := Lib.hid (Vecs.snoc (l := (List.range k).map (fun i => F (cyc l i))) hkl.symm hown')
      rw [← HXk.out] at HVv
      clear hown' hgrow hown hB3 hkl hbs
      go_wp2
      go_roundw
      case rel => exact ⟨k + 1, by omega, by go_num, HVv, hB5⟩
      case measure => simp [intOf]; omega
    · obtain rfl : k = l.length := by omega
      have i2 : ¬ ((l.length : Nat) : Int) < (l.length : Int) := by omega
      have hI := HI.out
      rw [HZ.out] at hI
      have HH2 := Lib.hid (HHu.out _ _ wr hB hI)
      have hs := hB.size
      clear hI HI HHu HFn HX HZ HVS HK
      go_wp2_with fail
      refine Calls.mono HH2.out ?_
      rintro e w3 ⟨v3, rfl, I3, hb3⟩
      have HB := Lib.hid (belowTo hB hb3)
      have HI3 := Lib.hid (I3.lower hs)
      clear hb3 I3 hB
      go_wp2
      go_returns
      exact ⟨_, rfl, HI3.out, HB.out⟩
set_option maxHeartbeats 4000000 in
theorem changedM (v : Value) (l : List V2) (p q r s : Int) (F : V2 → V2) (w : World) (hg : EtOk w) (h : ReadsVecs w v l) (h0 : 0 < l.length) (hm : l.length ≤ 1000) (hk : ∀ i, big 100 (cyc l i).1 (cyc l i).2)
    (HF : ∀ W x y, Below w.heap.size w W → big 100 x y → Calls Tryz.prog 43 #[.agg #[.int .i64 (p), .int .i64 (q), .int .i64 (r), .int .i64 (s)], .agg #[.int .i64 (x), .int .i64 (y)]] W fun e w' => e = .returned (.agg #[.int .i64 ((F (x, y)).1), .int .i64 ((F (x, y)).2)]) ∧ Below W.heap.size W w') (hbig : ∀ x ∈ l.map F, big 400000 x.1 x.2) :
    Calls Tryz.prog 42 #[v, .func (.func 43) #[.agg #[.int .i64 (p), .int .i64 (q), .int .i64 (r), .int .i64 (s)]] #[]] w (GivesVecsR w (gV (polyB (hullD (l.map F))) (hullD (l.map F))) (polyB (hullD (l.map F)))) := by
  obtain ⟨i0, hi, hz0, hz1, hz2⟩ := info_parts infoVec
  obtain ⟨bv, ov, vc, rfl, _, _, hbv, hvs⟩ := h.open h0
  have HVS := Lib.hid hvs
  have HK := Lib.hid hk
  have HFn := Lib.hid HF
  have HHu := Lib.hid (fun v' b' w' (hb : Below w.heap.size w w') (hI : Vecs w' b' v' (l.map F)) => hullOf_any v' (l.map F) w' (hg.below hb) (hI.reads (by rw [List.length_map]; omega)) (by rw [List.length_map]; omega) hbig)
  have HX : Hid (∀ k, (List.range (k + 1)).map (fun i => F (cyc l i)) = (List.range k).map (fun i => F (cyc l i)) ++ [F (cyc l k)]) := fun k => by simp [List.range_succ]
  have HZ : Hid ((List.range l.length).map (fun i => F (cyc l i)) = l.map F) := by
    show _ = _
    exact range_map F l
  unfold GivesVecsR at HHu ⊢
  generalize gV (polyB (hullD (l.map F))) (hullD (l.map F)) = L at *
  generalize polyB (hullD (l.map F)) = K at *
  clear h hvs hk HF hbig hg
  go_enter Tryz.func42, Tryz.ntmps42
  go_wp2
  go_loopw [6, 11] (fun s6 s11 wr => ∃ k : Nat, k ≤ l.length ∧ s11 = .int .i64 k ∧ Hid (Vecs wr w.heap.size s6 ((List.range k).map (fun i => F (cyc l i)))) ∧ Below w.heap.size w wr) (fun _ s11 _ => l.length - (intOf s11).toNat)
  case atStart => exact ⟨0, Nat.zero_le _, rfl, Vecs.nil _ _, Below.refl _ _⟩
  case round =>
    obtain ⟨k, hk, rfl, HI, hB⟩ := hrel
    have i1 : (0 : Int) ≤ (k : Int) := by omega
    by_cases hlt : k < l.length
    · have i2 : (k : Int) < (l.length : Int) := by omega
      obtain ⟨c0, c1⟩ := HVS.out wr hB k hlt
      have k0 := HK.out k
      have HXk := Lib.hid (HX.out k)
      have hkl : ((List.range k).map (fun i => F (cyc l i))).length = k := by simp
      generalize hV : cyc l k = V at *
      clear hV
      obtain ⟨x, y⟩ := V
      dsimp only at c0 c1 k0
      have HM := Lib.hid (fun w' hb => HFn.out w' x y hb k0)
      generalize F (x, y) = U at *
      obtain ⟨X, Y⟩ := U
      have hs := hB.size
      have hA2 : Below wr.heap.size wr (wr.alloc (.cells #[.int .i64 x, .int .i64 y] 55)) := by go_grown
      have HI2 := Lib.hid (HI.out.below hA2)
      have HB2 := Lib.hid (hB.trans (hA2.mono hs))
      clear hA2 HI HVS HK HX HFn HHu HZ k0
      go_wp2_with fail
      refine Calls.mono (HM.out _ HB2.out) ?_
      rintro e w2 ⟨rfl, hb2⟩
      have hB3 := belowTo HB2.out hb2
      have hown := HI2.out.below hb2
      unfold Vecs VRow at hown
      rw [hkl] at hown
      have hbs := hB3.size
      dsimp only
      clear hb2 HB2 HI2 hB
      go_wp2_with (at_builtin; refine wpList_append_own_at _ rfl _ _ 23 rfl w.heap.size 55 i0 (.agg #[.int .i64 (0), .int .i64 (0)]) 2 16 Tryz.underlying23 hi hz0 hz1 hz2 rfl (by decide) _ _ _ rfl (hown.alloc _) ⟨_, 0, none⟩ 1 1 [.int .i64 X, .int .i64 Y] rfl rfl ?c1 ?c2 ?c3 ?c4 ?c5 ?_)
      case c1 =>
        intro j u hj
        match j, hj with
        | 0, hj => simp at hj; subst hj; simp [Addr.add]
        | 1, hj => simp at hj; subst hj; simp [Addr.add]
      case c2 => intro u hu; simp at hu; rcases hu with rfl | rfl <;> rfl
      case c3 => unfold maxLen; omega
      case c4 => omega
      case c5 => simp; omega
      intro v' w4 hown' hgrow _ _
      have hB5 := (hB3.alloc hbs _).grown hgrow (by simp; omega) (fun k hk => (hown.lt k hk).1)
      have HVv := Lib.hid (Vecs.snoc (l := (List.range k).map (fun i => F (cyc l i))) hkl.symm hown')
      rw [← HXk.out] at HVv
      clear hown' hgrow hown hB3 hkl hbs
      go_wp2
      go_roundw
      case rel => exact ⟨k + 1, by omega, by go_num, HVv, hB5⟩
      case measure => simp [intOf]; omega
    · obtain rfl : k = l.length := by omega
      have i2 : ¬ ((l.length : Nat) : Int) < (l.length : Int) := by omega
      have hI := HI.out
      rw [HZ.out] at hI
      have HH2 := Lib.hid (HHu.out _ _ wr hB hI)
      have hs := hB.size
      clear hI HI HHu HFn HX HZ HVS HK
      go_wp2_with fail
      refine Calls.mono HH2.out ?_
      rintro e w3 ⟨v3, rfl, I3, hb3⟩
      have HB := Lib.hid (belowTo hB hb3)
      have HI3 := Lib.hid (I3.lower hs)
      clear hb3 I3 hB
      go_wp2
      go_returns
      exact ⟨_, rfl, HI3.out, HB.out⟩
end Go.Proofs.YtgaeibibeekclabGreatDoor
namespace Go.Proofs.YtgaeibibeekclabGreatDoor
open Go.RowKit
/-- the hull of corners that bend all round is they, from the least one on -/
theorem hull_round {l : List V2} (hc : ConvS l.length (cyc l)) : hullD l = tidyP l := by
  have h3 := hc.three
  have hK : leastAt l (l.length - 1) < l.length := Nat.lt_of_le_of_lt (leastAt_le _ _) (by omega)
  unfold hullD tidyP
  rw [hull_conv (hc.rot (leastAt l (l.length - 1))) (sortD_asc l) (fun q => ?_) (fun q hq => ?_)]
  · exact range_cyc (by omega)
  · rw [sortD_mem]
    constructor
    · intro hq
      rw [← rot_mem (K := leastAt l (l.length - 1))] at hq
      obtain ⟨j, hj, rfl⟩ := List.mem_iff_getElem.1 hq
      have e : (rot (leastAt l (l.length - 1)) l)[j] = cyc (rot (leastAt l (l.length - 1)) l) j := by rw [cyc_lt hj, List.getElem?_eq_getElem hj]; rfl
      rw [e, cyc_rot (by omega)]
      rw [rot_len] at hj
      exact ⟨j, hj, rfl⟩
    · rintro ⟨j, _, rfl⟩
      exact cyc_mem (by omega) _
  · rw [sortD_mem] at hq
    rw [Nat.add_zero]
    obtain ⟨j, hj, rfl⟩ := List.mem_iff_getElem.1 hq
    have e : l[j] = cyc l j := by rw [cyc_lt hj, List.getElem?_eq_getElem hj]; rfl
    rw [e]
    exact leastAt_min l _ j (by omega)
theorem conv_map {l : List V2} (h : ConvS l.length (cyc l)) (F : V2 → V2) (c : Int) (hc : 0 < c) (hF : ∀ a b d, dtV (subV (F b) (F a)) (subV (F d) (F a)) = c * dtV (subV b a) (subV d a)) : ConvS (l.map F).length (cyc (l.map F)) := by
  have h3 := h.three
  have e : cyc (l.map F) = fun i => F (cyc l i) := funext fun i => cyc_map F (by omega) i
  rw [List.length_map, e]
  refine ⟨h3, fun i => ?_, fun i t h2 hn => ?_⟩
  · show F (cyc l (i + l.length)) = _
    rw [h.per]
  · have := h.inner i t h2 hn
    unfold farZ at this ⊢
    dsimp only
    rw [hF]
    exact Int.mul_pos hc this
theorem hull_map {l : List V2} (h : ConvS l.length (cyc l)) (F : V2 → V2) (c : Int) (hc : 0 < c) (hF : ∀ a b d, dtV (subV (F b) (F a)) (subV (F d) (F a)) = c * dtV (subV b a) (subV d a)) :
    hullD (l.map F) = tidyP (l.map F) ∧ polyB (hullD (l.map F)) = polyB (l.map F) := by
  have e := hull_round (conv_map h F c hc hF)
  exact ⟨e, by rw [e, tidyP_poly]⟩
end Go.Proofs.YtgaeibibeekclabGreatDoor
namespace Go.Proofs.YtgaeibibeekclabGreatDoor
open Go.RowKit
theorem hullD_same {l m : List V2} (h : ∀ q, q ∈ l ↔ q ∈ m) : hullD l = hullD m := by
  unfold hullD
  rw [asc_ext (sortD_asc l) (sortD_asc m) (fun q => by rw [sortD_mem, sortD_mem, h])]
theorem cyc_rev {l : List V2} (h0 : 0 < l.length) (i t : Nat) (ht : t ≤ l.length) : cyc l.reverse (i + t) = cyc l (l.length - 1 - i % l.length + l.length - t) := by
  have hr : l.reverse.length = l.length := by simp
  have ha := Nat.mod_lt i h0
  have h1 : cyc l.reverse (i + t) = cyc l.reverse ((i % l.length + t) % l.length) := by
    refine cyc_congr _ ?_
    rw [hr, Nat.mod_mod, Nat.mod_add_mod]
  have h2 : ∀ a, a < l.length → cyc l.reverse a = cyc l (l.length - 1 - a) := fun a ha => by
    rw [cyc_lt (by rw [hr]; exact ha), cyc_lt (by omega), List.getElem?_reverse ha]
  rw [h1]
  by_cases c : i % l.length + t < l.length
  · rw [Nat.mod_eq_of_lt c, h2 _ c]
    refine cyc_congr _ ?_
    rw [show l.length - 1 - i % l.length + l.length - t = (l.length - 1 - (i % l.length + t)) + l.length by omega, Nat.add_mod_right]
  · by_cases c2 : i % l.length + t < l.length + l.length
    · have e : (i % l.length + t) % l.length = i % l.length + t - l.length := by
        rw [Nat.mod_eq_sub_mod (by omega), Nat.mod_eq_of_lt (by omega)]
      rw [e, h2 _ (by omega)]
      congr 1
      omega
    · omega
/-- corners that are turned over, in the opposite order -/
theorem conv_over {l : List V2} (h : ConvS l.length (cyc l)) (F : V2 → V2) (hF : ∀ a b d, dtV (subV (F b) (F a)) (subV (F d) (F a)) = -1 * dtV (subV b a) (subV d a)) : ConvS (l.map F).reverse.length (cyc (l.map F).reverse) := by
  have h3 := h.three
  have hl : (l.map F).length = l.length := List.length_map ..
  have hr : (l.map F).reverse.length = l.length := by simp
  have e : ∀ i t, t ≤ l.length → cyc (l.map F).reverse (i + t) = F (cyc l (l.length - 1 - i % l.length + l.length - t)) := fun i t ht => by
    rw [cyc_rev (by omega) i t (by omega), hl, cyc_map F (by omega)]
  rw [hr]
  refine ⟨h3, fun i => ?_, fun i t h2 hn => ?_⟩
  · have := cyc_add (l.map F).reverse i
    rwa [hr] at this
  · unfold farZ
    have e0 := e i 0 (by omega)
    rw [Nat.add_zero, Nat.sub_zero] at e0
    rw [e i 1 (by omega), e0, e i t (by omega), hF]
    have hj : i % l.length < l.length := Nat.mod_lt _ (by omega)
    generalize hjj : l.length - 1 - i % l.length = j at *
    have q := h.inner (j + l.length - 1) (l.length + 1 - t) (by omega) (by omega)
    unfold farZ at q
    rw [show j + l.length - 1 + 1 = j + l.length by omega, show j + l.length - 1 + (l.length + 1 - t) = (j + l.length - t) + l.length by omega, h.per (j + l.length - t)] at q
    generalize cyc l (j + l.length) = A at *
    generalize cyc l (j + l.length - 1) = B at *
    generalize cyc l (j + l.length - t) = C at *
    have e2 : -1 * dtV (subV B A) (subV C A) = dtV (subV A B) (subV C B) := by unfold dtV subV; grind
    rw [e2]
    exact q
def moveF (a b c d : Int) (u : V2) : V2 := (moveX a b u.1 u.2, moveX c d u.1 u.2)
theorem move_turn (a b c d : Int) (u v z : V2) : dtV (subV (moveF a b c d v) (moveF a b c d u)) (subV (moveF a b c d z) (moveF a b c d u)) = detM a b c d * dtV (subV v u) (subV z u) := by
  unfold dtV subV moveF moveX detM
  grind
/-- the corners, moved, in the order of a polygon -/
def moveL (a b c d : Int) (l : List V2) : List V2 := if 0 < detM a b c d then l.map (moveF a b c d) else (l.map (moveF a b c d)).reverse
theorem hull_move {l : List V2} (h : polyB l = true) {a b c d : Int} (hm : matB a b c d = true) :
    hullD (l.map (moveF a b c d)) = tidyP (moveL a b c d l) ∧ polyB (hullD (l.map (moveF a b c d))) = polyB (moveL a b c d l) := by
  have hd := (mat_in hm).2
  have hc := poly_conv h
  unfold moveL
  by_cases h1 : detM a b c d = 1
  · rw [if_pos (by omega)]
    exact hull_map hc _ 1 (by omega) (fun u v z => by rw [move_turn, h1])
  · have h2 : detM a b c d = -1 := by simpa [detOk, h1] using hd
    rw [if_neg (by omega)]
    have e := hull_round (conv_over hc (moveF a b c d) (fun u v z => by rw [move_turn, h2]))
    rw [hullD_same (m := (l.map (moveF a b c d)).reverse) (fun q => by simp), e, tidyP_poly]
    exact ⟨rfl, rfl⟩
theorem move_big {l : List V2} (h : polyB l = true) {a b c d : Int} (hm : matB a b c d = true) : ∀ x ∈ l.map (moveF a b c d), big 400000 x.1 x.2 := by
  intro x hx
  obtain ⟨y, hy, rfl⟩ := List.mem_map.1 hx
  obtain ⟨j, hj, rfl⟩ := List.mem_iff_getElem.1 hy
  have e : l[j] = cyc l j := by rw [cyc_lt hj, List.getElem?_eq_getElem hj]; rfl
  rw [e]
  obtain ⟨⟨h1, h2⟩, h3, h4⟩ := poly_small h j
  obtain ⟨⟨ka, kb, kc, kd⟩, _⟩ := mat_in hm
  generalize cyc l j = z at *
  have bd : ∀ m u : Int, szB m = true → -100 ≤ u → u ≤ 100 → -100000 ≤ m * u ∧ m * u ≤ 100000 := fun m u hm k1 k2 => by
    obtain ⟨m1, m2⟩ := szB_true hm
    have q1 := Int.mul_nonneg (show 0 ≤ m + 1000 by omega) (show 0 ≤ u + 100 by omega)
    have q2 := Int.mul_nonneg (show 0 ≤ 1000 - m by omega) (show 0 ≤ 100 - u by omega)
    have q3 := Int.mul_nonneg (show 0 ≤ m + 1000 by omega) (show 0 ≤ 100 - u by omega)
    have q4 := Int.mul_nonneg (show 0 ≤ 1000 - m by omega) (show 0 ≤ u + 100 by omega)
    rw [Int.add_mul, Int.mul_add, Int.mul_add] at q1
    rw [Int.sub_mul, Int.mul_sub, Int.mul_sub] at q2
    rw [Int.add_mul, Int.mul_sub, Int.mul_sub] at q3
    rw [Int.sub_mul, Int.mul_add, Int.mul_add] at q4
    omega
  have a1 := bd _ _ ka h1 h2
  have a2 := bd _ _ kb h3 h4
  have a3 := bd _ _ kc h1 h2
  have a4 := bd _ _ kd h3 h4
  unfold big moveF moveX
  dsimp only
  omega
end Go.Proofs.YtgaeibibeekclabGreatDoor
namespace Go.Proofs.YtgaeibibeekclabGreatDoor
open Go.RowKit
set_option maxHeartbeats 4000000 in
theorem checkAll_pm (v : Value) (l : List V2) (a b c d : Int) (B : Nat) (w : World) (h : ReadsVecs w v l)
    (c0 : w.cell? ⟨B, 0, none⟩ = some (.iface 44 v)) (c1 : w.cell? ⟨B, 1, none⟩ = some (.iface 31 (.agg #[.int .i64 (a), .int .i64 (b), .int .i64 (c), .int .i64 (d)]))) (hB : B < w.heap.size) :
    Calls Tryz.prog 41 #[.slice (some ⟨B, 0, none⟩) 2 2] w fun e w' => PolyEnd (polyB l && matB a b c d) e ∧ Below w.heap.size w w' := by
  have HC := Lib.hid (fun w' hb => polyCheck_any v l w' (h.below (w := w) hb))
  clear h
  generalize polyB l = K at *
  go_enter Tryz.func41, Tryz.ntmps41
  go_wp2
  refine wp_loop_rounds 3 ?_
  rw [rounds_succ]
  go_wp2_with fail
  refine Calls.mono (HC.out _ (by go_grown)) ?_
  rintro e w1 ⟨he, hb1⟩
  replace hb1 : Below w.heap.size w w1 := belowTo (by go_grown) hb1
  have c1' : w1.cell? ⟨B, 1, none⟩ = some (.iface 31 (.agg #[.int .i64 (a), .int .i64 (b), .int .i64 (c), .int .i64 (d)])) := (hb1.cell (p := ⟨B, 1, none⟩) hB).trans c1
  rcases polyEnd_of he with ⟨rfl, rfl⟩ | ⟨rfl, s, rfl⟩
  · clear he c0 c1 HC
    cases h2 : matB a b c d
    · go_wp2_with fail
      rw [rounds_succ]
      go_wp2_with fail
      go_call (matCheck_out a b c d _ h2) as e w2 ⟨rfl, hb2⟩
      clear c1'
      go_wp2
      go_returns
      exact ⟨polyEnd_err (by rw [h2]; rfl) ⟨_, rfl⟩, belowTo hb1 hb2⟩
    · go_wp2_with fail
      rw [rounds_succ]
      go_wp2_with fail
      go_call (matCheck_in a b c d _ h2) as e w2 ⟨rfl, hb2⟩
      clear c1'
      go_wp2_with fail
      rw [rounds_succ]
      go_wp2
      go_returns
      exact ⟨polyEnd_ok (by rw [h2]; rfl) rfl, belowTo hb1 hb2⟩
  · clear he c0 c1 HC c1'
    go_wp2
    go_returns
    exact ⟨polyEnd_err rfl ⟨_, rfl⟩, hb1⟩
theorem sz_of {a : Int} (h : -1000 ≤ a ∧ a ≤ 1000) : szB a = true := by simp [szB]; omega
def MoveB (l : List V2) (a b c d : Int) : Bool := polyB l && matB a b c d
def MoveL (l : List V2) (a b c d : Int) : List V2 := gV (MoveB l a b c d && polyB (moveL a b c d l)) (tidyP (moveL a b c d l))
set_option maxHeartbeats 4000000 in
theorem polygonMove_any (v : Value) (l : List V2) (p q r s : Int) (w : World) (hl : ReadsVecs w v l) (hg : EtOk w) :
    Calls Tryz.prog 12 #[v, .agg #[.int .i64 (p), .int .i64 (q), .int .i64 (r), .int .i64 (s)]] w (GivesVecsR w (MoveL l p q r s) (MoveB l p q r s && polyB (moveL p q r s l))) := by
  have HC := Lib.hid (fun B w' (hb : Below w.heap.size w w') c0 c1 hB => checkAll_pm v l p q r s B w' (hl.below hb) c0 c1 hB)
  have HCh := Lib.hid (fun w' (hb : Below w.heap.size w w') (hK : polyB l = true) (hv : matB p q r s = true) =>
    changedM v l p q r s (moveF p q r s) w' (hg.below hb) (hl.below hb) (by have := poly_len hK; omega) (by have := poly_len hK; omega) (fun i => poly_small hK i)
      (fun W x y _ hxy => by
        obtain ⟨⟨k1, k2, k3, k4⟩, _⟩ := mat_in hv
        exact move_any p q r s x y W k1 k2 k3 k4 (sz_of (by unfold big at hxy; omega)) (sz_of (by unfold big at hxy; omega))) (move_big hK hv))
  have HM := Lib.hid (fun (hK : polyB l = true) (hv : matB p q r s = true) => hull_move hK hv)
  have HT : Hid (MoveB l p q r s = (polyB l && matB p q r s)) := rfl
  obtain ⟨a, c, rfl, _⟩ := hl
  unfold GivesVecsR MoveL
  generalize hTB : MoveB l p q r s = TB at *
  clear hTB
  generalize l.map (moveF p q r s) = L at *
  generalize moveL p q r s l = L2 at *
  cases hk : (polyB l && matB p q r s)
  · have hTB : TB = false := by rw [HT.out, hk]
    subst hTB
    rw [hk] at HC
    clear hk HCh HM HT
    go_enter Tryz.func12, Tryz.ntmps12
    go_wp2_with fail
    refine Calls.mono (HC.out _ _ (by go_grown) (by go_cell) (by go_cell) (by go_size)) ?_
    rintro e w1 ⟨he, hb1⟩
    obtain ⟨s, rfl⟩ : IsNone e := he
    have hb : Below w.heap.size w w1 := belowTo (by go_grown) hb1
    clear hb1
    go_wp2_with fail
    refine Calls.mono (none_hit s _ (hg.below hb)) ?_
    rintro e w2 ⟨rfl, hb2⟩
    replace hb := belowTo hb hb2
    clear hb2
    go_wp2
    go_returns
    exact ⟨_, rfl, VecsR.nil _ _, hb⟩
  · have hTB : TB = true := by rw [HT.out, hk]
    subst hTB
    have hk2 : polyB l = true ∧ matB p q r s = true := by simpa using hk
    rw [hk] at HC
    obtain ⟨m1, m2⟩ := HM.out hk2.1 hk2.2
    have HC2 := Lib.hid (fun w' hb => HCh.out w' hb hk2.1 hk2.2)
    rw [m2, m1] at HC2
    unfold GivesVecsR at HC2
    clear HM HCh HT m1 m2 hk hk2
    rw [Bool.true_and]
    generalize gV (polyB L2) (tidyP L2) = R at *
    generalize polyB L2 = P at *
    go_enter Tryz.func12, Tryz.ntmps12
    go_wp2_with fail
    refine Calls.mono (HC.out _ _ (by go_grown) (by go_cell) (by go_cell) (by go_size)) ?_
    rintro e w1 ⟨he, hb1⟩
    obtain rfl : e = .returned .nilIface := he
    have hb : Below w.heap.size w w1 := belowTo (by go_grown) hb1
    have c0 : w1.cell? ⟨w.heap.size, 0, none⟩ = some (.int .i64 p) := (hb1.cell (p := ⟨w.heap.size, 0, none⟩) (by simp; omega)).trans (by first | (go_cell; done) | (go_simp; done) | (simp; done))
    have c1 : w1.cell? ⟨w.heap.size, 1, none⟩ = some (.int .i64 q) := (hb1.cell (p := ⟨w.heap.size, 1, none⟩) (by simp; omega)).trans (by first | (go_cell; done) | (go_simp; done) | (simp; done))
    have c2 : w1.cell? ⟨w.heap.size, 2, none⟩ = some (.int .i64 r) := (hb1.cell (p := ⟨w.heap.size, 2, none⟩) (by simp; omega)).trans (by first | (go_cell; done) | (go_simp; done) | (simp; done))
    have c3 : w1.cell? ⟨w.heap.size, 3, none⟩ = some (.int .i64 s) := (hb1.cell (p := ⟨w.heap.size, 3, none⟩) (by simp; omega)).trans (by first | (go_cell; done) | (go_simp; done) | (simp; done))
    clear hb1
    go_wp2_with fail
    refine Calls.mono (none_nil _) ?_
    rintro e w2 ⟨rfl, hb2⟩
    replace c1 := (hb2.cell (p := ⟨w.heap.size, 1, none⟩) (cell_lt c0)).trans c1
    replace c2 := (hb2.cell (p := ⟨w.heap.size, 2, none⟩) (cell_lt c0)).trans c2
    replace c3 := (hb2.cell (p := ⟨w.heap.size, 3, none⟩) (cell_lt c0)).trans c3
    replace c0 := (hb2.cell (p := ⟨w.heap.size, 0, none⟩) (cell_lt c0)).trans c0
    replace hb := belowTo hb hb2
    have hs := hb.size
    clear hb2
    go_wp2_with fail
    refine Calls.mono (HC2.out _ hb) ?_
    rintro e w3 ⟨v3, rfl, I3, hb3⟩
    have HB := Lib.hid (belowTo hb hb3)
    have HI3 := Lib.hid (I3.lower hs)
    clear hb3 I3
    go_wp2
    go_returns
    exact ⟨_, rfl, HI3.out, HB.out⟩
end Go.Proofs.YtgaeibibeekclabGreatDoor
namespace Go.Proofs.YtgaeibibeekclabGreatDoor
open Go.RowKit
theorem moveL_len (a b c d : Int) (l : List V2) : (moveL a b c d l).length = l.length := by unfold moveL; split <;> simp
end Go.Proofs.YtgaeibibeekclabGreatDoor
