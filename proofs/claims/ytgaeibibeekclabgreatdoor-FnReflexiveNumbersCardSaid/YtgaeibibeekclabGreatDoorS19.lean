import Derived.Test.YtgaeibibeekclabGreatDoorProg
import Derived.Test.YtgaeibibeekclabGreatDoorS01
import Derived.Test.YtgaeibibeekclabGreatDoorS03
import Derived.Test.YtgaeibibeekclabGreatDoorS04
import Derived.Test.YtgaeibibeekclabGreatDoorS06
import Derived.Test.YtgaeibibeekclabGreatDoorS07
import Derived.Test.YtgaeibibeekclabGreatDoorS08
import Derived.Test.YtgaeibibeekclabGreatDoorS13
import Derived.Test.YtgaeibibeekclabGreatDoorS14
import Derived.Test.YtgaeibibeekclabGreatDoorS15
import Derived.Test.YtgaeibibeekclabGreatDoorS17
import Derived.Test.YtgaeibibeekclabGreatDoorS18
import Derived.WalkKit
import Derived.LaidEql
import Derived.Stop.Asserts
import Derived.RowKitTokens
import Derived.Handy
import Derived.WalkSpells
import Derived.WalkLawsBesides
import Derived.Deep.QuietTactic
import Derived.BigQuiet
import Derived.Lib.Hide
import Derived.Deep.RegionHeld3
import Derived.Deep.DeepCutAuto
import Derived.Deep.AppendLies
import Derived.Laws.OwnMore
import Derived.Laws.MakeOwn
import Derived.OwnWalk
import Derived.Maps.AppendAt
import Derived.RangeFuncBox
import Derived.RegionTactic
import Derived.ChangeAlike
import Derived.RangeFuncNested
import Derived.StillTail
import Derived.OrdersIn
import Derived.AtR
import Derived.RangeFuncBound
import Derived.RangeFuncCalls
import Derived.RangeFuncLeaves
import Derived.Shelf.Abstract
import Derived.OwnWalkIn
import Derived.TacticsInMore
import Derived.LoopNIn
import Derived.LoopIn
import Derived.LaidEqlPtr
import Derived.BigRegion
import Derived.Shelf.SlSortCmp.WholeK
import Derived.Laws.StructEq
import Derived.Laws.IdiomCopy
import Derived.Shelf.SlGeneric
import Derived.Shelf.SlSortCmp.NoneTotal
import Derived.Shelf.SlicesE.Clone
import Derived.Shelf.SlicesQ.Reverse
import Derived.Ground.SlsfProg
import Derived.Ground.SlgnProg
import Derived.Deep.RegionLaw
import Derived.ArgAppend
namespace Go.Proofs.YtgaeibibeekclabGreatDoor
open Go.RowKit
/-- the hull of some vectors -/
def hullD (l : List V2) : List V2 := hullZ (sortD l)
theorem hull_small {c : V2} : hullZ [c] = [] := rfl
theorem hull_short {l : List V2} (h : l.length ≤ 2) : polyB l = false := by
  cases k : polyB l
  · rfl
  · have := (prng_in (poly_in k).1).1
    omega
theorem hull_perm {S l : List V2} (hP : S.Perm l) (hW : Wk S) : polyB (hullZ S) = polyB (hullD l) ∧ (polyB (hullD l) = true → hullZ S = hullD l) := by
  have e : sortD S = sortD l := asc_ext (sortD_asc S) (sortD_asc l) (fun q => by rw [sortD_mem, sortD_mem]; exact hP.mem_iff)
  unfold hullD
  rw [← e]
  rcases hull_wk hW with h | ⟨⟨c, h1⟩, h2⟩
  · rw [h]
    exact ⟨rfl, fun _ => rfl⟩
  · have h3 : polyB (hullZ (sortD S)) = false := by rw [h1, hull_small]; exact hull_short (by simp)
    rw [h3, hull_short h2]
    exact ⟨rfl, fun h => by cases h⟩
set_option maxHeartbeats 8000000 in
theorem madePoly_any (v : Value) (l : List V2) (w : World) (hg : EtOk w) (h : ReadsVecs w v l) :
    Calls Tryz.prog 79 #[v] w fun e w' => e = .returned (.tuple #[if polyB l then v else .slice none 0 0, .bool (polyB l)]) ∧ Below w.heap.size w w' := by
  have HC := Lib.hid (fun w' (hb : Below w.heap.size w w') => polyCheck_any v l w' (h.below hb))
  obtain ⟨a, c, rfl, _⟩ := h
  generalize polyB l = K at *
  go_enter Tryz.func79, Tryz.ntmps79
  go_wp2_with fail
  refine Calls.mono (HC.out _ (by go_grown)) ?_
  rintro e w1 ⟨he, hb1⟩
  rcases polyEnd_of he with ⟨rfl, rfl⟩ | ⟨rfl, s, rfl⟩
  · clear he
    have hB : Below w.heap.size w w1 := belowTo (by go_grown) hb1
    clear hb1
    go_wp2_with fail
    refine Calls.mono (none_nil _) ?_
    rintro e w2 ⟨rfl, hb2⟩
    have hB2 := belowTo hB hb2
    clear hb2
    go_wp2
    go_returns
    exact ⟨rfl, hB2⟩
  · clear he
    have hB : Below w.heap.size w w1 := belowTo (by go_grown) hb1
    have HN := Lib.hid (none_hit s w1 (hg.below hB))
    clear hb1
    go_wp2_with fail
    refine Calls.mono HN.out ?_
    rintro e w2 ⟨rfl, hb2⟩
    have hB2 := belowTo hB hb2
    clear hb2
    go_wp2
    go_returns
    exact ⟨rfl, hB2⟩
set_option maxHeartbeats 8000000 in
theorem hullOf_any (v : Value) (l : List V2) (w : World) (hg : EtOk w) (h : ReadsVecs w v l) (hm : l.length ≤ 1000) (hbig : ∀ x ∈ l, big 400000 x.1 x.2) :
    Calls Tryz.prog 46 #[v] w (GivesVecsR w (gV (polyB (hullD l)) (hullD l)) (polyB (hullD l))) := by
  have HH := Lib.hid (hull_any v l w h hm hbig)
  have hl1 := h
  obtain ⟨a, c, rfl, _⟩ := hl1
  have HPm := Lib.hid (fun S (hP : S.Perm l) (hW : Wk S) => hull_perm hP hW)
  have HLn : Hid (∀ S, S.Perm l → (hullZ S).length ≤ 2000) := fun S hP => by
    have h1 := half_len S
    have h2 := half_len S.reverse
    have h3 := hP.length_eq
    have h4 : S.reverse.length = S.length := by simp
    show ((halfH S).tail.reverse ++ (halfH S.reverse).tail.reverse).length ≤ _
    rw [List.length_append]
    omega
  have HMd := Lib.hid (fun v' b' l' w' (hb : Below w.heap.size w w') (hI : VecsR w' b' v' l') (h : l'.length ≤ 2000) => madePoly_any v' l' w' (hg.below hb) (hI.reads (by omega)))
  clear h hm hbig
  generalize hullD l = H at *
  generalize hK : polyB H = K at *
  unfold GivesVecsR
  clear hg
  go_enter Tryz.func46, Tryz.ntmps46
  go_wp2_with fail
  refine Calls.mono HH.out ?_
  rintro e w1 ⟨S, v1, hP, hW, rfl, hI, hb1⟩
  obtain ⟨k1, k2⟩ := HPm.out S hP hW
  have HM2 := Lib.hid (HMd.out v1 _ _ w1 hb1 hI (HLn.out S hP))
  rw [k1] at HM2
  have HF : Hid (∀ w2, Below w1.heap.size w1 w2 → VecsR w2 w.heap.size (if K then v1 else .slice none 0 0) (gV K H)) := fun w2 hb => by
    cases K
    · exact VecsR.nil _ _
    · rw [k2 rfl] at hI
      exact hI.below hb
  have hb1' := hb1
  clear hI k1 k2 hP hW HMd HLn HPm HH hK
  go_wp2_with fail
  refine Calls.mono HM2.out ?_
  rintro e w2 ⟨rfl, hb2⟩
  have HF2 := Lib.hid (HF.out w2 hb2)
  have hB := belowTo hb1' hb2
  clear HF hb2 hb1
  generalize (if K = true then v1 else .slice none 0 0) = v2 at *
  go_wp2
  go_returns
  exact ⟨v2, rfl, HF2.out, hB⟩
end Go.Proofs.YtgaeibibeekclabGreatDoor
namespace Go.Proofs.YtgaeibibeekclabGreatDoor
open Go.RowKit
theorem way_rot {l : List V2} {K : Nat} (hK : K ≤ l.length) (i : Nat) : wayZ (rot K l) i = wayZ l (K + i) := by
  unfold wayZ
  rw [cyc_rot hK, cyc_rot hK, Nat.add_assoc]
theorem way_per (l : List V2) (i : Nat) : wayZ l (i + l.length) = wayZ l i := by
  unfold wayZ
  rw [cyc_add, show i + l.length + 1 = i + 1 + l.length by omega, cyc_add]
/-- polygons may begin with any corner -/
theorem poly_rot {l : List V2} {K : Nat} (hK : K ≤ l.length) : polyB (rot K l) = polyB l := by
  by_cases h0 : l.length = 0
  · have : l = [] := List.eq_nil_of_length_eq_zero h0
    subst this
    simp [rot]
  · have hn : 0 < l.length := by omega
    have hr : 0 < (rot K l).length := by rw [rot_len]; exact hn
    have e1 : prng (rot K l) = prng l := by unfold prng; rw [rot_len]
    have e2 : allK (rot K l) = allK l := by
      unfold allK
      rw [rot_len]
      have : (fun i => cnrV (cyc (rot K l) i)) = fun i => (fun j => cnrV (cyc l j)) (K + i) := funext fun i => by rw [cyc_rot hK]
      rw [this]
      exact all_rot (f := fun j => cnrV (cyc l j)) hn (fun i => by show cnrV (cyc l (i + l.length)) = _; rw [cyc_add]) K
    have e3 : allB (rot K l) = allB l := by
      unfold allB
      rw [rot_len]
      have : bendB (rot K l) = fun i => bendB l (K + i) := funext fun i => by
        unfold bendB
        rw [way_rot hK, way_rot hK, Nat.add_assoc]
      rw [this]
      exact all_rot hn (fun i => by unfold bendB; rw [way_per, show i + l.length + 1 = i + 1 + l.length by omega, way_per]) K
    have e4 : oneBack (waysL (rot K l)) = oneBack (waysL l) := by
      unfold oneBack
      rw [waysL_len, waysL_len, rot_len]
      have : bkB (waysL (rot K l)) = fun i => bkB (waysL l) (K + i) := funext fun i => by
        unfold bkB
        rw [cyc_ways hr, cyc_ways hr, cyc_ways hn, cyc_ways hn, way_rot hK, way_rot hK, Nat.add_assoc]
      rw [this, cnt_rot (fun i => by unfold bkB; rw [cyc_ways hn, cyc_ways hn, cyc_ways hn, cyc_ways hn, way_per, show i + l.length + 1 = i + 1 + l.length by omega, way_per]) K]
    unfold polyB
    rw [e1, e2, e3, e4]
/-- where the least one of the first vectors stands -/
def leastAt (l : List V2) : Nat → Nat
  | 0 => 0
  | i + 1 => if lessB (cyc l (i + 1)) (cyc l (leastAt l i)) = true then i + 1 else leastAt l i
theorem leastAt_le (l : List V2) : ∀ i, leastAt l i ≤ i
  | 0 => Nat.le_refl _
  | i + 1 => by
    have := leastAt_le l i
    unfold leastAt
    split <;> omega
theorem leastAt_min (l : List V2) : ∀ i j, j ≤ i → cyc l (leastAt l i) = cyc l j ∨ lexV (subV (cyc l j) (cyc l (leastAt l i)))
  | 0, j, h => by
    have : j = 0 := by omega
    subst this
    exact .inl rfl
  | i + 1, j, h => by
    have ih := leastAt_min l i
    unfold leastAt
    split
    · rename_i hl
      have h1 := less_lex.1 hl
      by_cases c : j = i + 1
      · subst c
        exact .inl rfl
      · rcases ih j (by omega) with e | e
        · rw [← e]
          exact .inr h1
        · exact .inr (lex_add h1 e)
    · rename_i hl
      by_cases c : j = i + 1
      · subst c
        have : lessB (cyc l (i + 1)) (cyc l (leastAt l i)) = false := by simpa using hl
        rcases less_not this with e | e
        · exact .inl e.symm
        · exact .inr e
      · exact ih j (by omega)
def tidyP (l : List V2) : List V2 := rot (leastAt l (l.length - 1)) l
theorem tidyP_len (l : List V2) : (tidyP l).length = l.length := rot_len _ _
theorem tidyP_poly (l : List V2) : polyB (tidyP l) = polyB l := poly_rot (Nat.le_trans (leastAt_le _ _) (by omega))
theorem range_cyc {l : List V2} {K : Nat} (hK : K ≤ l.length) : (List.range l.length).map (fun i => cyc l (K + i)) = rot K l := by
  apply List.ext_getElem?
  intro j
  by_cases hj : j < l.length
  · rw [List.getElem?_map, List.getElem?_range hj, cyc_get (l := rot K l) (by rw [rot_len]; exact hj), cyc_rot hK]
    rfl
  · rw [List.getElem?_eq_none (by simp; omega), List.getElem?_eq_none (by rw [rot_len]; omega)]
end Go.Proofs.YtgaeibibeekclabGreatDoor
namespace Go.Proofs.YtgaeibibeekclabGreatDoor
open Go.RowKit
set_option maxHeartbeats 2000000 in
theorem l6gLess_any (x1 y1 x2 y2 : Int) (w : World) :
    Calls Tryz.prog 113 #[.agg #[.int .i64 (x1), .int .i64 (y1)], .agg #[.int .i64 (x2), .int .i64 (y2)]] w fun e w' => e = .returned (.bool (lessB (x1, y1) (x2, y2))) ∧ Below w.heap.size w w' := by
  have HZ : Hid (lessB (x1, y1) (x2, y2) = (decide (x1 < x2) || (decide (x1 = x2) && decide (y1 < y2)))) := rfl
  generalize lessB (x1, y1) (x2, y2) = Z at *
  by_cases h1 : x1 < x2
  · go_enter Tryz.func113, Tryz.ntmps113
    go_wp2
    go_returns
    exact ⟨by rw [HZ.out]; simp [h1], by go_grown⟩
  · by_cases h2 : x1 = x2
    · subst h2
      by_cases h3 : y1 < y2
      · go_enter Tryz.func113, Tryz.ntmps113
        go_wp2
        go_returns
        exact ⟨by rw [HZ.out]; simp [h3], by go_grown⟩
      · go_enter Tryz.func113, Tryz.ntmps113
        go_wp2
        go_returns
        exact ⟨by rw [HZ.out]; simp [h3], by go_grown⟩
    · go_enter Tryz.func113, Tryz.ntmps113
      go_wp2
      go_returns
      exact ⟨by rw [HZ.out]; simp [h1, h2], by go_grown⟩
set_option maxHeartbeats 8000000 in
theorem l6gTidy_any (v : Value) (l : List V2) (w : World) (hl : ReadsVecs w v l) (h0 : 0 < l.length) (hm : l.length ≤ 1000) :
    Calls Tryz.prog 77 #[v] w (GivesVecs w (tidyP l)) := by
  obtain ⟨i0, hi, hz0, hz1, hz2⟩ := info_parts infoVec
  obtain ⟨bb, off, c, rfl, hc, hmm, hbb, hcs⟩ := hl.open h0
  have HCl := Lib.hid hcs
  have HLs := Lib.hid (fun k => leastAt_le l k)
  have HSt : Hid (∀ k, leastAt l (k + 1) = if lessB (cyc l (k + 1)) (cyc l (leastAt l k)) = true then k + 1 else leastAt l k) := fun k => rfl
  have HTd : Hid (tidyP l = ([] ++ (l.drop (leastAt l (l.length - 1))).take (l.length - leastAt l (l.length - 1))) ++ (l.drop 0).take (leastAt l (l.length - 1))) := by
    show _ = _
    rw [List.take_of_length_le (l := l.drop _) (by simp)]
    rfl
  have HL0 : Hid (leastAt l 0 = 0) := rfl
  obtain ⟨n, hn⟩ : ∃ n, n = l.length := ⟨_, rfl⟩
  have HL := Lib.hid hn
  rw [← hn] at hc hmm h0 hm HTd ⊢
  clear hn hcs hl
  generalize hTT : tidyP l = T at *
  clear hTT
  generalize hLA : leastAt l = LA at *
  clear hLA
  go_enter Tryz.func77, Tryz.ntmps77
  go_wp2
  go_loopw [3, 4] (fun s3 s4 wr => ∃ k : Nat, k + 1 ≤ n ∧ s3 = .int .i64 (LA k) ∧ s4 = .int .i64 ((k : Int) + 1) ∧ Below w.heap.size w wr) (fun _ s4 _ => n - (intOf s4).toNat)
  case atStart => exact ⟨0, by omega, by rw [HL0.out]; rfl, rfl, Below.refl _ _⟩
  case round =>
    obtain ⟨k, hk, rfl, rfl, hB⟩ := hrel
    have hle := HLs.out k
    have i1 : (0 : Int) ≤ (k : Int) + 1 := by omega
    have i2 : ((k : Int) + 1).toNat = k + 1 := by omega
    have i3 : (0 : Int) ≤ (LA k : Int) := by omega
    by_cases hlt : k + 1 < n
    · have j1 : (k : Int) + 1 < (n : Int) := by omega
      have j2 : (LA k : Int) < (n : Int) := by omega
      have j3 : IntKind.i64.wrap ((k : Int) + 1 + 1) = (k : Int) + 1 + 1 := by rw [IntKind.wrap_i64]; omega
      obtain ⟨d0, d1⟩ := HCl.out wr hB (k + 1) (by rw [← HL.out]; omega)
      obtain ⟨d2, d3⟩ := HCl.out wr hB (LA k) (by rw [← HL.out]; omega)
      have HS := HSt.out k
      generalize cyc l (k + 1) = V at *
      generalize cyc l (LA k) = U at *
      generalize hA : LA k = A at *
      obtain ⟨x1, y1⟩ := V
      obtain ⟨x2, y2⟩ := U
      dsimp only at d0 d1 d2 d3
      have HLs1 := Lib.hid (fun w' => l6gLess_any x1 y1 x2 y2 w')
      generalize lessB (x1, y1) (x2, y2) = K at *
      have HS := Lib.hid HS
      have q1 := cell_lt d0
      clear hA
      go_wp2
      refine wp_region_any (by kernel_rfl) ?_
      try (change wpAny _ _ _ _ _ _ _ (World.drew _))
      refine wpAny_of_held (S := fun w' => Below (wr.heap.size) wr w') _ _ _ _ ?_
      have hSw : Below (wr.heap.size) wr (World.drew wr) := by go_grown
      generalize World.drew wr = wd at hSw ⊢
      refine wpAnyH_take (i := 0) (v := ?_) rfl (by kernel_rfl) (by kernel_rfl) (by kernel_rfl) (fun _ _ _ h => h) (Or.inl ⟨by rfl, ?_⟩) hSw ?_
      rotate_left
      focus (intro w0 hS0; clear hS0; go_simp; try with_reducible rfl)
      refine wpAnyH_take (i := 1) (v := ?_) rfl (by kernel_rfl) (by kernel_rfl) (by kernel_rfl) (fun _ _ _ h => h) (Or.inl ⟨by rfl, ?_⟩) hSw ?_
      rotate_left
      focus (intro w0 hS0; clear hS0; go_simp; try with_reducible rfl)
      refine wpAnyH_take (i := 2) (v := ?_) rfl (by kernel_rfl) (by kernel_rfl) (by kernel_rfl) (fun _ _ _ h => h) (Or.inl ⟨by rfl, ?_⟩) hSw ?_
      rotate_left
      focus (intro w0 hS0; clear hS0; go_simp; try with_reducible rfl)
      refine wpAnyH_take (i := 3) (v := ?_) rfl (by kernel_rfl) (by kernel_rfl) (by kernel_rfl) (fun _ _ _ h => h) (Or.inl ⟨by rfl, ?_⟩) hSw ?_
      rotate_left
      focus (intro w0 hS0; have c0 := (hS0.cell (p := ⟨bb, off + (k + 1) * 2, none⟩) q1).trans d0; have c1 := (hS0.cell (p := ⟨bb, off + (k + 1) * 2 + 1, none⟩) q1).trans d1; have c2 := (hS0.cell (p := ⟨bb, off + A * 2, none⟩) q1).trans d2; have c3 := (hS0.cell (p := ⟨bb, off + A * 2 + 1, none⟩) q1).trans d3; clear hS0; go_simp; try with_reducible rfl)
      refine wpAnyH_take (i := 4) (v := ?_) rfl (by kernel_rfl) (by kernel_rfl) (by kernel_rfl) (fun _ _ _ h => h) (Or.inl ⟨by rfl, ?_⟩) hSw ?_
      rotate_left
      focus (intro w0 hS0; clear hS0; go_simp; try with_reducible rfl)
      refine wpAnyH_take (i := 5) (v := ?_) rfl (by kernel_rfl) (by kernel_rfl) (by kernel_rfl) (fun _ _ _ h => h) (Or.inl ⟨by rfl, ?_⟩) hSw ?_
      rotate_left
      focus (intro w0 hS0; clear hS0; go_simp; try with_reducible rfl)
      refine wpAnyH_take (i := 6) (v := ?_) rfl (by kernel_rfl) (by kernel_rfl) (by kernel_rfl) (fun _ _ _ h => h) (Or.inl ⟨by rfl, ?_⟩) hSw ?_
      rotate_left
      focus (intro w0 hS0; clear hS0; go_simp; try with_reducible rfl)
      refine wpAnyH_take (i := 7) (v := ?_) rfl (by kernel_rfl) (by kernel_rfl) (by kernel_rfl) (fun _ _ _ h => h) (Or.inl ⟨by rfl, ?_⟩) hSw ?_
      rotate_left
      focus (intro w0 hS0; have c0 := (hS0.cell (p := ⟨bb, off + (k + 1) * 2, none⟩) q1).trans d0; have c1 := (hS0.cell (p := ⟨bb, off + (k + 1) * 2 + 1, none⟩) q1).trans d1; have c2 := (hS0.cell (p := ⟨bb, off + A * 2, none⟩) q1).trans d2; have c3 := (hS0.cell (p := ⟨bb, off + A * 2 + 1, none⟩) q1).trans d3; clear hS0; go_simp; try with_reducible rfl)
      refine wpAnyH_ready (rs := [8]) (by kernel_rfl) (by simp) (AllReadyH.cons rfl (fun K hK => ?_) (AllReadyH.nil))
      go_simp
      (refine Calls.mono (HLs1.out _) ?_; rintro e w4 ⟨rfl, hbX⟩; replace hSw := belowTo hSw hbX; refine hK.out _ _ hSw (fun _ => ?_); clear hK K hbX)
      refine wpAnyH_done (by kernel_rfl) ?_ _
      have hB4 := belowTo hB hSw
      clear hSw d0 d1 d2 d3
      cases K
      · go_wp2
        go_roundw
        case rel => exact ⟨k + 1, by omega, by rw [HS.out]; rfl, by go_num, hB4⟩
        case measure => simp [intOf]; omega
      · go_wp2
        go_roundw
        case rel => exact ⟨k + 1, by omega, by rw [HS.out]; go_num, by go_num, hB4⟩
        case measure => simp [intOf]; omega
    · have hkn : k = n - 1 := by omega
      subst hkn
      have j1 : ¬ ((n - 1 : Nat) : Int) + 1 < (n : Int) := by omega
      generalize LA (n - 1) = A at *
      have j4 : A < n := by omega
      have j5 : (A : Int) ≤ (n : Int) := by omega
      have j6 : ¬ c = A := by omega
      have j7 : A ≤ n := by omega
      have j8 : (A : Int) ≤ (c : Int) := by omega
      have HT1 : Hid (A + (n - A) ≤ l.length) := by have := HL.out; show _ ≤ _; omega
      have HT2 : Hid (0 + A ≤ l.length) := by have := HL.out; show _ ≤ _; omega
      have HOw : Hid (Vecs (wr.drew.alloc (.cells #[] 55)) w.heap.size (.slice (some ⟨wr.heap.size, 0, none⟩) 0 0) []) := (Vecs.empty wr.drew).lower hB.size
      have hBd : Below w.heap.size w (wr.drew.alloc (.cells #[] 55)) := hB.drew.alloc hB.size _
      have HBd := Lib.hid hBd
      have HBz : Hid (w.heap.size ≤ (wr.drew.alloc (.cells #[] 55)).heap.size) := hBd.size
      clear hBd HLs HSt
      go_wp2
      refine wp_region_any (by kernel_rfl) ?_
      try (change wpAny _ _ _ _ _ _ _ (World.drew _))
      refine wpAny_take (i := 1) (v := ?_) rfl (by kernel_rfl) (by kernel_rfl) (by kernel_rfl) (fun _ _ _ h => h) (Or.inl ⟨by rfl, ?_⟩) ?_
      rotate_left
      focus (intro w0; go_simp; try with_reducible rfl)
      refine wpAny_take (i := 2) (v := ?_) rfl (by kernel_rfl) (by kernel_rfl) (by kernel_rfl) (fun _ _ _ h => h) (Or.inl ⟨by rfl, ?_⟩) ?_
      rotate_left
      focus (intro w0; go_simp; try with_reducible rfl)
      refine wpAny_take (i := 3) (v := ?_) rfl (by kernel_rfl) (by kernel_rfl) (by kernel_rfl) (fun _ _ _ h => h) (Or.inl ⟨by rfl, ?_⟩) ?_
      rotate_left
      focus (intro w0; go_simp; try with_reducible rfl)
      refine wpAny_take (i := 5) (v := ?_) rfl (by kernel_rfl) (by kernel_rfl) (by kernel_rfl) (fun _ _ _ h => h) (Or.inl ⟨by rfl, ?_⟩) ?_
      rotate_left
      focus (intro w0; go_simp; try with_reducible rfl)
      refine wpAny_take (i := 6) (v := ?_) rfl (by kernel_rfl) (by kernel_rfl) (by kernel_rfl) (fun _ _ _ h => h) (Or.inl ⟨by rfl, ?_⟩) ?_
      rotate_left
      focus (intro w0; go_simp; try with_reducible rfl)
      refine wpAny_take (i := 7) (v := ?_) rfl (by kernel_rfl) (by kernel_rfl) (by kernel_rfl) (fun _ _ _ h => h) (Or.inl ⟨by rfl, ?_⟩) ?_
      rotate_left
      focus (intro w0; go_simp; try with_reducible rfl)
      refine wpAny_ready (rs := [0]) (by kernel_rfl) (by simp) (AllReady.cons rfl (fun K hK => ?_) (AllReady.nil))
      go_simp
      refine hK _ _ ?_
      clear hK K
      refine wpAny_ready (rs := [4]) (by kernel_rfl) (by simp) (AllReady.cons rfl (fun K hK => ?_) (AllReady.nil))
      (refine step_list (by rintro ⟨_, _, h⟩; obtain ⟨_, hv, _⟩ := h; cases hv) (by kernel_rfl) ?_; refine wpList_append_own_at _ rfl _ _ 23 rfl w.heap.size 55 i0 (.agg #[.int .i64 (0), .int .i64 (0)]) 2 16 Tryz.underlying23 hi hz0 hz1 hz2 rfl (by decide) _ _ _ rfl HOw.out _ _ _ _ rfl (piece_len HT1.out) (piece_cells (HCl.out _ HBd.out) HT1.out) (piece_one _) (by unfold maxLen; simp; omega) (by simp; omega) HBz.out ?_; intro v2 w2 hown2 hgrow2 _ _; have HB2 := Lib.hid (HBd.out.grown hgrow2 HBz.out (fun q hq => (World.ownsRow.lt HOw.out q hq).1)); have HO2 := Lib.hid (Vecs.join (l := []) hown2 (by have := HL.out; simp <;> omega)); clear hown2 hgrow2)
      refine hK _ _ ?_
      clear hK K
      refine wpAny_ready (rs := [8]) (by kernel_rfl) (by simp) (AllReady.cons rfl (fun K hK => ?_) (AllReady.nil))
      (refine step_list (by rintro ⟨_, _, h⟩; obtain ⟨_, hv, _⟩ := h; cases hv) (by kernel_rfl) ?_; refine wpList_append_own_at _ rfl _ _ 23 rfl w.heap.size 55 i0 (.agg #[.int .i64 (0), .int .i64 (0)]) 2 16 Tryz.underlying23 hi hz0 hz1 hz2 rfl (by decide) _ _ _ rfl HO2.out _ _ _ _ rfl (piece_len HT2.out) (piece_cells (HCl.out _ HB2.out) HT2.out) (piece_one _) (by unfold maxLen; simp; omega) (by simp; omega) HB2.out.size ?_; intro v3 w3 hown3 hgrow3 _ _; have HB3 := Lib.hid (HB2.out.grown hgrow3 HB2.out.size (fun q hq => (World.ownsRow.lt HO2.out q hq).1)); have HO3 := Lib.hid (Vecs.join hown3 (by have := HL.out; simp <;> omega)); clear hown3 hgrow3)
      refine hK _ _ ?_
      clear hK K
      refine wpAny_seq 9 rfl (by kernel_rfl) ?_
      simp only [List.drop_succ_cons, List.drop_zero]
      all_goals go_wp2
      all_goals go_returns
      all_goals exact ⟨_, rfl, by rw [HTd.out]; exact HO3.out, HB3.out⟩
end Go.Proofs.YtgaeibibeekclabGreatDoor
namespace Go.Proofs.YtgaeibibeekclabGreatDoor
open Go.RowKit
def TidyS (l : List V2) (w : World) : Ending → World → Prop := GivesVecsOk w (gV (polyB l) (tidyP l)) (polyB l)
set_option maxHeartbeats 4000000 in
theorem l6gDone_any (v : Value) (l : List V2) (w : World) (hl : ReadsVecs w v l) :
    Calls Tryz.prog 44 #[v] w (TidyS l w) := by
  unfold TidyS
  have HI := Lib.hid (specPolygonIn_any v l w hl)
  have HT := Lib.hid (fun w' (hb : Below w.heap.size w w') (h : polyB l = true) => l6gTidy_any v l w' (hl.below hb) (by have := poly_len h; omega) (by have := poly_len h; omega))
  have hE := Lib.hid (fun w' => Vecs.empty w')
  obtain ⟨a, c, rfl, _⟩ := hl
  generalize tidyP l = T at *
  cases hb : polyB l
  · rw [hb] at HI
    clear hb HT
    go_enter Tryz.func44, Tryz.ntmps44
    go_wp2_with fail
    refine Calls.mono HI.out ?_
    rintro e w1 ⟨rfl, hb1⟩
    have hs1 := hb1.size
    have HE := Lib.hid ((hE.out w1).lower hs1)
    go_wp2
    go_returns
    exact ⟨_, rfl, HE.out, by go_grown⟩
  · rw [hb] at HI
    have HT2 := Lib.hid (fun w' hq => HT.out w' hq hb)
    clear hb HT
    go_enter Tryz.func44, Tryz.ntmps44
    go_wp2_with fail
    refine Calls.mono HI.out ?_
    rintro e w1 ⟨rfl, hb1⟩
    have hs1 := hb1.size
    go_wp2_with fail
    refine Calls.mono (HT2.out _ hb1) ?_
    rintro e w2 ⟨v2, rfl, I2, hb2⟩
    have HB := Lib.hid (belowTo hb1 hb2)
    have HI2 := Lib.hid (I2.lower hs1)
    clear hb2 I2
    go_wp2
    go_returns
    exact ⟨_, rfl, HI2.out, HB.out⟩
end Go.Proofs.YtgaeibibeekclabGreatDoor
