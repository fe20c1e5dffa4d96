/- Reflexive polygons: duals, twelve, the fan, the numbers: the program. -/
import Derived.Test.YtkcnpbgbgdgkpaaGreatDoorBk
import Derived.Test.YtkcnpbgbgdgkpaaGreatDoorZh
import Derived.Test.YtkcnpbgbgdgkpaaGreatDoorZi
import Derived.Test.YtkcnpbgbgdgkpaaGreatDoorWo
namespace Go.Proofs.YtkcnpbgbgdgkpaaGreatDoor
open Go.RowKit

theorem nrm_big {l : List V2} (h : polyB l = true) : ∀ x ∈ nrmL l, big 400000 x.1 x.2 := by
  intro x hx
  unfold nrmL at hx
  obtain ⟨i, _, rfl⟩ := List.mem_map.1 hx
  have hv := way_vec h i
  obtain ⟨b1, b2⟩ := szs hv
  have q1 := tdiv_bd (m := gcdZ (wayZ l i).1 (wayZ l i).2) b1
  have q2 := tdiv_bd (m := gcdZ (wayZ l i).1 (wayZ l i).2) b2
  unfold big nrmZ primW
  dsimp only
  omega
theorem dual_gives {l : List V2} (hr : reflB l = true) : gV (polyB (hullD (nrmL l))) (hullD (nrmL l)) = dulL l ∧ polyB (hullD (nrmL l)) = dulB l := by
  unfold dulL dulB
  rw [dual_hull hr, tidyP_poly, hr]
  exact ⟨rfl, rfl⟩
set_option maxHeartbeats 8000000 in
theorem dualOf1_any (b : Nat) (v : Value) (l : List V2) (w : World) (hc : w.cell? ⟨b, 0, none⟩ = some (.iface 44 v)) (h : ReadsVecs w v l) (hr : reflB l = true) (hg : EtOk w) :
    Calls Tryz.prog 89 #[.pointer (some ⟨b, 0, none⟩)] w (GivesVecsR w (dulL l) (dulB l)) := by
  have hp := (refl_in hr).1
  have HN := Lib.hid (normals_any v l w h hp)
  have HH := Lib.hid (fun v' b' w' (hI : Vecs w' b' v' (nrmL l)) (hb : Below w.heap.size w w') => hullOf_any v' (nrmL l) w' (hg.below hb) (hI.reads (by rw [nrm_len]; have := poly_len hp; omega)) (by rw [nrm_len]; have := poly_len hp; omega) (nrm_big hp))
  rw [(dual_gives hr).1, (dual_gives hr).2] at HH
  obtain ⟨a, c, rfl, _⟩ := h
  generalize dulL l = D at *
  generalize dulB l = K at *
  generalize nrmL l = N at *
  clear hr hp
  go_enter Tryz.func89, Tryz.ntmps89
  go_wp2_with fail
  refine Calls.mono HN.out ?_
  rintro e w1 ⟨v1, rfl, I1, hb1⟩
  have HH1 := Lib.hid (HH.out v1 _ w1 I1 hb1)
  clear I1 HH HN
  go_wp2_with fail
  refine Calls.mono HH1.out ?_
  rintro e w2 ⟨v2, rfl, I2, hb2⟩
  have HI2 := Lib.hid (I2.lower hb1.size)
  have hb := belowTo hb1 hb2
  clear hb2 I2 HH1
  go_wp2
  go_returns
  exact ⟨_, rfl, HI2.out, hb⟩
set_option maxHeartbeats 8000000 in
theorem reflexiveDual_any (v : Value) (l : List V2) (w : World) (h : ReadsVecs w v l) (hg : EtOk w) :
    Calls Tryz.prog 10 #[v] w (GivesVecsR w (dulL l) (dulB l)) := by
  have HC := Lib.hid (reflexiveOf_any v l w h hg)
  have HD := Lib.hid (fun b w' (hc : w'.cell? ⟨b, 0, none⟩ = some (.iface 44 v)) (hb : Below w.heap.size w w') hr => dualOf1_any b v l w' hc (h.below hb) hr (hg.below hb))
  obtain ⟨a, c, rfl, _⟩ := h
  have HZ : Hid (reflB l = false → dulL l = [] ∧ dulB l = false) := fun h => by unfold dulL dulB; rw [h]; exact ⟨rfl, rfl⟩
  generalize dulL l = D at *
  generalize dulB l = B at *
  generalize reflB l = R at *
  go_enter Tryz.func10, Tryz.ntmps10
  go_wp2_with fail
  refine Calls.mono HC.out ?_
  rintro e w1 ⟨⟨rfl, s, rfl⟩ | ⟨rfl, b, _, hbl, hc, rfl⟩, hb1⟩
  · have hs1 := hb1.size
    obtain ⟨rfl, rfl⟩ := HZ.out rfl
    clear HC HD HZ
    go_wp2_with fail
    refine Calls.mono (none_hit s _ (hg.below (by go_grown))) ?_
    rintro e w2 ⟨rfl, hb2⟩
    have hB : Below w.heap.size w w2 := belowTo (by go_grown) hb2
    clear hb2
    go_wp2
    go_returns
    exact ⟨_, rfl, VecsR.nil _ _, hB⟩
  · have hs1 := hb1.size
    clear HC HZ
    go_wp2_with fail
    refine Calls.mono (none_nil _) ?_
    rintro e w2 ⟨rfl, hb2⟩
    have hB : Below w.heap.size w w2 := belowTo (by go_grown) hb2
    have hc2 : w2.cell? ⟨b, 0, none⟩ = some (.iface 44 (.slice a l.length c)) := (hb2.cell (p := ⟨b, 0, none⟩) (by simp; omega)).trans ((World.cell?_alloc_lt _ _ ⟨b, _, none⟩ (by simp; exact hbl)).trans hc)
    have q0 : w2.cell? ⟨w1.heap.size, 0, none⟩ = some (.slice a l.length c) := (hb2.cell (p := ⟨w1.heap.size, 0, none⟩) (by first | assumption | (go_size; done) | (simp; omega) | (simp only [World.size_alloc]; omega))).trans (by first | assumption | (go_cell; done) | (go_simp; done) | simp [*]); have qf0 : w2.frozen? ⟨w1.heap.size, 0, none⟩ = false := (hb2.frozen (p := ⟨w1.heap.size, 0, none⟩) (by first | assumption | (go_size; done) | (simp; omega) | (simp only [World.size_alloc]; omega))).trans (by first | assumption | (go_cell; done) | (go_simp; done) | simp [*]); have q1 : w2.cell? ⟨w1.heap.size, 1, none⟩ = some (.func (.func 89) #[] #[.pointer (some ⟨b, 0, none⟩)]) := (hb2.cell (p := ⟨w1.heap.size, 1, none⟩) (by first | assumption | (go_size; done) | (simp; omega) | (simp only [World.size_alloc]; omega))).trans (by first | assumption | (go_cell; done) | (go_simp; done) | simp [*]); have qf1 : w2.frozen? ⟨w1.heap.size, 1, none⟩ = false := (hb2.frozen (p := ⟨w1.heap.size, 1, none⟩) (by first | assumption | (go_size; done) | (simp; omega) | (simp only [World.size_alloc]; omega))).trans (by first | assumption | (go_cell; done) | (go_simp; done) | simp [*])
    have HD2 := Lib.hid (HD.out b w2 hc2 hB (by simp))
    clear hb2 HD
    go_wp2_with fail
    refine Calls.mono HD2.out ?_
    rintro e w3 ⟨v3, rfl, I3, hb3⟩
    have HI3 := Lib.hid (I3.lower hB.size)
    have hb := belowTo hB hb3
    clear hb3 I3 HD2
    go_wp2
    go_returns
    exact ⟨_, rfl, HI3.out, hb⟩
theorem dulL_poly {l : List V2} (hd : dulB l = true) : polyB (dulL l) = true := by
  unfold dulL
  rw [hd]
  show polyB (tidyP (nrmL l)) = true
  rw [tidyP_poly]
  unfold dulB at hd
  rw [Bool.and_eq_true] at hd
  exact hd.2
set_option maxHeartbeats 8000000 in
theorem reflexiveTwelve_any (v : Value) (l : List V2) (w : World) (h : ReadsVecs w v l) (hg : EtOk w) :
    Calls Tryz.prog 15 #[v] w fun e w' => e = .returned (.tuple #[.int .i64 (gate (dulB l) (edgeZ l l.length)), .int .i64 (gate (dulB l) (edgeZ (dulL l) (dulL l).length)), .bool (dulB l)]) ∧ Below w.heap.size w w' := by
  have HC := Lib.hid (reflexiveOf_any v l w h hg)
  have HD := Lib.hid (fun b w' (hc : w'.cell? ⟨b, 0, none⟩ = some (.iface 44 v)) (hb : Below w.heap.size w w') hr => dualOf1_any b v l w' hc (h.below hb) hr (hg.below hb))
  have HE := Lib.hid (fun w' (hb : Below w.heap.size w w') (hr : reflB l = true) => edge_any v l w' (h.below hb) (refl_in hr).1)
  have HF := Lib.hid (fun v' b' w' (hI : VecsR w' b' v' (dulL l)) (hd : dulB l = true) => edge_any v' (dulL l) w' (hI.reads (dul_len l)) (dulL_poly hd))
  obtain ⟨a, c, rfl, _⟩ := h
  have HZ : Hid (reflB l = false → dulB l = false) := fun h => by unfold dulB; rw [h]; rfl
  generalize edgeZ l l.length = x at *
  generalize edgeZ (dulL l) (dulL l).length = y at *
  generalize dulL l = D at *
  generalize hB : dulB l = B at *
  clear hB
  generalize reflB l = R at *
  go_enter Tryz.func15, Tryz.ntmps15
  go_wp2_with fail
  refine Calls.mono HC.out ?_
  rintro e w1 ⟨⟨rfl, s, rfl⟩ | ⟨rfl, b, _, hbl, hc, rfl⟩, hb1⟩
  · have hs1 := hb1.size
    obtain rfl := HZ.out rfl
    clear HC HD HZ HE HF
    go_wp2_with fail
    refine Calls.mono (none_hit s _ (hg.below (by go_grown))) ?_
    rintro e w2 ⟨rfl, hb2⟩
    have hB : Below w.heap.size w w2 := belowTo (by go_grown) hb2
    clear hb2
    go_wp2
    go_returns
    exact ⟨rfl, hB⟩
  · have hs1 := hb1.size
    clear HC HZ
    go_wp2_with fail
    refine Calls.mono (none_nil _) ?_
    rintro e w2 ⟨rfl, hb2⟩
    have hB : Below w.heap.size w w2 := belowTo (by go_grown) hb2
    have hc2 : w2.cell? ⟨b, 0, none⟩ = some (.iface 44 (.slice a l.length c)) := (hb2.cell (p := ⟨b, 0, none⟩) (by simp; omega)).trans ((World.cell?_alloc_lt _ _ ⟨b, _, none⟩ (by simp; exact hbl)).trans hc)
    have q0 : w2.cell? ⟨w1.heap.size, 0, none⟩ = some (.slice a l.length c) := (hb2.cell (p := ⟨w1.heap.size, 0, none⟩) (by first | assumption | (go_size; done) | (simp; omega) | (simp only [World.size_alloc]; omega))).trans (by first | assumption | (go_cell; done) | (go_simp; done) | simp [*]); have qf0 : w2.frozen? ⟨w1.heap.size, 0, none⟩ = false := (hb2.frozen (p := ⟨w1.heap.size, 0, none⟩) (by first | assumption | (go_size; done) | (simp; omega) | (simp only [World.size_alloc]; omega))).trans (by first | assumption | (go_cell; done) | (go_simp; done) | simp [*]); have q1 : w2.cell? ⟨w1.heap.size, 1, none⟩ = some (.func (.func 89) #[] #[.pointer (some ⟨b, 0, none⟩)]) := (hb2.cell (p := ⟨w1.heap.size, 1, none⟩) (by first | assumption | (go_size; done) | (simp; omega) | (simp only [World.size_alloc]; omega))).trans (by first | assumption | (go_cell; done) | (go_simp; done) | simp [*]); have qf1 : w2.frozen? ⟨w1.heap.size, 1, none⟩ = false := (hb2.frozen (p := ⟨w1.heap.size, 1, none⟩) (by first | assumption | (go_size; done) | (simp; omega) | (simp only [World.size_alloc]; omega))).trans (by first | assumption | (go_cell; done) | (go_simp; done) | simp [*])
    have hs2 : w1.heap.size < w2.heap.size := Nat.lt_of_lt_of_le (by simp) hb2.size
    have HD2 := Lib.hid (HD.out b w2 hc2 hB (by simp))
    clear hb2 HD
    go_wp2_with fail
    refine Calls.mono HD2.out ?_
    rintro e w3 ⟨v3, rfl, I3, hb3⟩
    have hb := belowTo hB hb3
    cases B
    · clear I3 HD2 HE HF hb3
      go_wp2
      go_returns
      exact ⟨rfl, hb⟩
    · have HF3 := Lib.hid (fun w4 (hb4 : Below w3.heap.size w3 w4) => HF.out v3 _ w4 (I3.below hb4) (by simp))
      have z0 : w3.cell? ⟨w1.heap.size, 0, none⟩ = some (.slice a l.length c) := (hb3.cell (p := ⟨w1.heap.size, 0, none⟩) hs2).trans q0
      clear I3 HD2 HF hb3 q0 q1 qf0 qf1
      go_wp2_with fail
      refine Calls.mono (HE.out _ hb (by simp)) ?_
      rintro e w4 ⟨rfl, hb4⟩
      have HF4 := Lib.hid (HF3.out _ hb4)
      replace hb := belowTo hb hb4
      clear hb4 HF3 HE z0
      go_wp2_with fail
      refine Calls.mono HF4.out ?_
      rintro e w5 ⟨rfl, hb5⟩
      replace hb := belowTo hb hb5
      clear hb5 HF4
      go_wp2
      go_returns
      exact ⟨rfl, hb⟩
/-- the fan of the edge vectors, and whether it is one; its numbers -/
def fanRB (l : List V2) : Bool := reflB l && fanB (edgL l)
def fanRL (l : List V2) : List V2 := gV (fanRB l) (tidyL (edgL l))
def numRB (l : List V2) : Bool := fanRB l && smoothB (fanRL l)
def numRL (l : List V2) : List Int := gV (numRB l) (numsZ (fanRL l))
theorem fanRL_len (l : List V2) : (fanRL l).length ≤ 576460752303423488 := gV_len (fun h => by
  unfold fanRB at h
  rw [Bool.and_eq_true] at h
  have := fan_len h.2
  rw [tidyL_len]
  omega)
theorem numRL_len (l : List V2) : (numRL l).length ≤ 1152921504606846976 := gV_len (fun h => by
  unfold numRB at h
  rw [Bool.and_eq_true] at h
  have := fan_len (smooth_in h.2).1
  rw [nums_len]
  omega)
set_option maxHeartbeats 8000000 in
theorem reflexiveFan_any (v : Value) (l : List V2) (w : World) (h : ReadsVecs w v l) (hg : EtOk w) :
    Calls Tryz.prog 17 #[v] w (GivesVecsOk w (fanRL l) (fanRB l)) := by
  have HC := Lib.hid (reflexiveOf_any v l w h hg)
  have HE := Lib.hid (fun w' (hb : Below w.heap.size w w') (hr : reflB l = true) => edgeVectors_any v l w' (h.below hb) hr)
  have HT := Lib.hid (fun v' b' w' (hI : Vecs w' b' v' (edgL l)) (hb : Below w.heap.size w w') (hr : reflB l = true) => fanTidy_any v' (edgL l) w' (hI.reads (by have := edg_len hr; omega)) (hg.below hb))
  obtain ⟨a, c, rfl, _⟩ := h
  have HZ : Hid (reflB l = false → fanRL l = [] ∧ fanRB l = false) := fun h => by unfold fanRL fanRB; rw [h]; exact ⟨rfl, rfl⟩
  have HY : Hid (reflB l = true → fanRL l = gV (fanB (edgL l)) (tidyL (edgL l)) ∧ fanRB l = fanB (edgL l)) := fun h => by unfold fanRL fanRB; rw [h]; exact ⟨rfl, rfl⟩
  generalize fanRL l = D at *
  generalize fanRB l = B at *
  generalize hR : reflB l = R at *
  clear hR
  go_enter Tryz.func17, Tryz.ntmps17
  go_wp2_with fail
  refine Calls.mono HC.out ?_
  rintro e w1 ⟨⟨rfl, s, rfl⟩ | ⟨rfl, b, _, hbl, hc, rfl⟩, hb1⟩
  · have hs1 := hb1.size
    obtain ⟨rfl, rfl⟩ := HZ.out rfl
    clear HC HE HT HZ HY
    go_wp2_with fail
    refine Calls.mono (none_hit s _ (hg.below (by go_grown))) ?_
    rintro e w2 ⟨rfl, hb2⟩
    have hB : Below w.heap.size w w2 := belowTo (by go_grown) hb2
    clear hb2
    go_wp2
    go_returns
    exact ⟨_, rfl, Vecs.nil _ _, hB⟩
  · have hs1 := hb1.size
    obtain ⟨rfl, rfl⟩ := HY.out rfl
    clear HC HZ hc hbl HY
    go_wp2_with fail
    refine Calls.mono (none_nil _) ?_
    rintro e w2 ⟨rfl, hb2⟩
    have hB : Below w.heap.size w w2 := belowTo (by go_grown) hb2
    have q0 : w2.cell? ⟨w1.heap.size, 0, none⟩ = some (.slice a l.length c) := (hb2.cell (p := ⟨w1.heap.size, 0, none⟩) (by first | assumption | (go_size; done) | (simp; omega) | (simp only [World.size_alloc]; omega))).trans (by first | assumption | (go_cell; done) | (go_simp; done) | simp [*]); have qf0 : w2.frozen? ⟨w1.heap.size, 0, none⟩ = false := (hb2.frozen (p := ⟨w1.heap.size, 0, none⟩) (by first | assumption | (go_size; done) | (simp; omega) | (simp only [World.size_alloc]; omega))).trans (by first | assumption | (go_cell; done) | (go_simp; done) | simp [*]); have q1 : w2.cell? ⟨w1.heap.size, 1, none⟩ = some (.func (.func 89) #[] #[.pointer (some ⟨b, 0, none⟩)]) := (hb2.cell (p := ⟨w1.heap.size, 1, none⟩) (by first | assumption | (go_size; done) | (simp; omega) | (simp only [World.size_alloc]; omega))).trans (by first | assumption | (go_cell; done) | (go_simp; done) | simp [*]); have qf1 : w2.frozen? ⟨w1.heap.size, 1, none⟩ = false := (hb2.frozen (p := ⟨w1.heap.size, 1, none⟩) (by first | assumption | (go_size; done) | (simp; omega) | (simp only [World.size_alloc]; omega))).trans (by first | assumption | (go_cell; done) | (go_simp; done) | simp [*])
    have HE2 := Lib.hid (HE.out w2 hB (by simp))
    clear hb2 HE
    go_wp2_with fail
    refine Calls.mono HE2.out ?_
    rintro e w3 ⟨v3, rfl, I3, hb3⟩
    have HT3 := Lib.hid (HT.out v3 _ w3 I3 (belowTo hB hb3) (by simp))
    have hb := belowTo hB hb3
    clear hb3 I3 HE2 HT q0 q1 qf0 qf1
    go_wp2_with fail
    refine Calls.mono HT3.out ?_
    rintro e w4 ⟨v4, rfl, I4, hb4⟩
    have HI4 := Lib.hid (I4.lower hb.size)
    replace hb := belowTo hb hb4
    clear hb4 I4 HT3
    go_wp2
    go_returns
    exact ⟨_, rfl, HI4.out, hb⟩
set_option maxHeartbeats 8000000 in
theorem reflexiveNumbers_any (v : Value) (l : List V2) (w : World) (h : ReadsVecs w v l) (hg : EtOk w) :
    Calls Tryz.prog 19 #[v] w (GivesIntsOk w (numRL l) (numRB l)) := by
  have HC := Lib.hid (reflexiveFan_any v l w h hg)
  have HN := Lib.hid (fun v' b' w' (hI : Vecs w' b' v' (fanRL l)) (hb : Below w.heap.size w w') => fanNumbers_any v' (fanRL l) w' (hI.reads (fanRL_len l)) (hg.below hb))
  obtain ⟨a, c, rfl, _⟩ := h
  unfold numRL numRB
  generalize fanRL l = D at *
  cases hB : fanRB l
  · rw [hB] at HC
    clear hB HN
    go_enter Tryz.func19, Tryz.ntmps19
    go_wp2_with fail
    refine Calls.mono HC.out ?_
    rintro e w1 ⟨v1, rfl, I1, hb1⟩
    clear I1
    go_wp2
    go_returns
    exact ⟨_, rfl, Ints.nil _ _, hb1⟩
  · rw [hB] at HC
    clear hB
    rw [Bool.true_and]
    generalize smoothB D = S at *
    generalize gV S (numsZ D) = M at *
    go_enter Tryz.func19, Tryz.ntmps19
    go_wp2_with fail
    refine Calls.mono HC.out ?_
    rintro e w1 ⟨v1, rfl, I1, hb1⟩
    have HN1 := Lib.hid (HN.out v1 _ w1 I1 hb1)
    clear I1 HN
    go_wp2_with fail
    refine Calls.mono HN1.out ?_
    rintro e w2 ⟨v2, rfl, I2, hb2⟩
    have HI2 := Lib.hid (I2.lower hb1.size)
    have hb := belowTo hb1 hb2
    clear hb2 I2 HN1
    go_wp2
    go_returns
    exact ⟨_, rfl, HI2.out, hb⟩
end Go.Proofs.YtkcnpbgbgdgkpaaGreatDoor
