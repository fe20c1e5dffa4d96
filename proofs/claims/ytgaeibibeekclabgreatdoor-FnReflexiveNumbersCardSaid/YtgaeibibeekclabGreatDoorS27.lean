import Derived.Test.YtgaeibibeekclabGreatDoorS25
import Derived.Test.YtgaeibibeekclabGreatDoorS26
namespace Go.Proofs.YtgaeibibeekclabGreatDoor
open Go.RowKit
theorem nrm_big {l : List V2} (h : polyB l = true) : ∀ x ∈ nrmL l, big 400000 x.1 x.2 := by
  intro x hx
  unfold nrmL at hx
  obtain ⟨i, _, rfl⟩ := List.mem_map.1 hx
  have hv := way_vec h i
  obtain ⟨b1, b2⟩ := szs hv
  have q1 := tdiv_bd (m := gcdZ (wayZ l i).1 (wayZ l i).2) b1
  have q2 := tdiv_bd (m := gcdZ (wayZ l i).1 (wayZ l i).2) b2
  unfold big nrmZ primW
  dsimp only
  omega
theorem dual_gives {l : List V2} (hr : reflB l = true) : gV (polyB (hullD (nrmL l))) (hullD (nrmL l)) = dulL l ∧ polyB (hullD (nrmL l)) = dulB l := by
  unfold dulL dulB
  rw [dual_hull hr, tidyP_poly, hr]
  exact ⟨rfl, rfl⟩
set_option maxHeartbeats 8000000 in
theorem dualOf1_any (b : Nat) (v : Value) (l : List V2) (w : World) (hc : w.cell? ⟨b, 0, none⟩ = some (.iface 44 v)) (h : ReadsVecs w v l) (hr : reflB l = true) (hg : EtOk w) :
    Calls Tryz.prog 134 #[.pointer (some ⟨b, 0, none⟩)] w (GivesVecsR w (dulL l) (dulB l)) := by
  have hp := (refl_in hr).1
  have HN := Lib.hid (normals_any v l w h hp)
  have HH := Lib.hid (fun v' b' w' (hI : Vecs w' b' v' (nrmL l)) (hb : Below w.heap.size w w') => hullOf_any v' (nrmL l) w' (hg.below hb) (hI.reads (by rw [nrm_len]; have := poly_len hp; omega)) (by rw [nrm_len]; have := poly_len hp; omega) (nrm_big hp))
  rw [(dual_gives hr).1, (dual_gives hr).2] at HH
  obtain ⟨a, c, rfl, _⟩ := h
  generalize dulL l = D at *
  generalize dulB l = K at *
  generalize nrmL l = N at *
  clear hr hp
  go_enter Tryz.func134, Tryz.ntmps134
  go_wp2_with fail
  refine Calls.mono HN.out ?_
  rintro e w1 ⟨v1, rfl, I1, hb1⟩
  have HH1 := Lib.hid (HH.out v1 _ w1 I1 hb1)
  clear I1 HH HN
  go_wp2_with fail
  refine Calls.mono HH1.out ?_
  rintro e w2 ⟨v2, rfl, I2, hb2⟩
  have HI2 := Lib.hid (I2.lower hb1.size)
  have hb := belowTo hb1 hb2
  clear hb2 I2 HH1
  go_wp2
  go_returns
  exact ⟨_, rfl, HI2.out, hb⟩
set_option maxHeartbeats 8000000 in
theorem reflexiveDual_any (v : Value) (l : List V2) (w : World) (h : ReadsVecs w v l) (hg : EtOk w) :
    Calls Tryz.prog 14 #[v] w (GivesVecsR w (dulL l) (dulB l)) := by
  have HC := Lib.hid (reflexiveOf_any v l w h hg)
  have HD := Lib.hid (fun b w' (hc : w'.cell? ⟨b, 0, none⟩ = some (.iface 44 v)) (hb : Below w.heap.size w w') hr => dualOf1_any b v l w' hc (h.below hb) hr (hg.below hb))
  obtain ⟨a, c, rfl, _⟩ := h
  have HZ : Hid (reflB l = false → dulL l = [] ∧ dulB l = false) := fun h => by unfold dulL dulB; rw [h]; exact ⟨rfl, rfl⟩
  generalize dulL l = D at *
  generalize dulB l = B at *
  generalize reflB l = R at *
  go_enter Tryz.func14, Tryz.ntmps14
  go_wp2_with fail
  refine Calls.mono HC.out ?_
  rintro e w1 ⟨⟨rfl, s, rfl⟩ | ⟨rfl, b, _, hbl, hc, rfl⟩, hb1⟩
  · have hs1 := hb1.size
    obtain ⟨rfl, rfl⟩ := HZ.out rfl
    clear HC HD HZ
    go_wp2_with fail
    refine Calls.mono (none_hit s _ (hg.below (by go_grown))) ?_
    rintro e w2 ⟨rfl, hb2⟩
    have hB : Below w.heap.size w w2 := belowTo (by go_grown) hb2
    clear hb2
    go_wp2
    go_returns
    exact ⟨_, rfl, VecsR.nil _ _, hB⟩
  · have hs1 := hb1.size
    clear HC HZ
    go_wp2_with fail
    refine Calls.mono (none_nil _) ?_
    rintro e w2 ⟨rfl, hb2⟩
    have hB : Below w.heap.size w w2 := belowTo (by go_grown) hb2
    have hc2 : w2.cell? ⟨b, 0, none⟩ = some (.iface 44 (.slice a l.length c)) := (hb2.cell (p := ⟨b, 0, none⟩) (by simp; omega)).trans ((World.cell?_alloc_lt _ _ ⟨b, _, none⟩ (by simp; exact hbl)).trans hc)
    have q0 : w2.cell? ⟨w1.heap.size, 0, none⟩ = some (.slice a l.length c) := (hb2.cell (p := ⟨w1.heap.size, 0, none⟩) (by first | assumption | (go_size; done) | (simp; omega) | (simp only [World.size_alloc]; omega))).trans (by first | assumption | (go_cell; done) | (go_simp; done) | simp [*]); have qf0 : w2.frozen? ⟨w1.heap.size, 0, none⟩ = false := (hb2.frozen (p := ⟨w1.heap.size, 0, none⟩) (by first | assumption | (go_size; done) | (simp; omega) | (simp only [World.size_alloc]; omega))).trans (by first | assumption | (go_cell; done) | (go_simp; done) | simp [*]); have q1 : w2.cell? ⟨w1.heap.size, 1, none⟩ = some (.func (.func 134) #[] #[.pointer (some ⟨b, 0, none⟩)]) := (hb2.cell (p := ⟨w1.heap.size, 1, none⟩) (by first | assumption | (go_size; done) | (simp; omega) | (simp only [World.size_alloc]; omega))).trans (by first | assumption | (go_cell; done) | (go_simp; done) | simp [*]); have qf1 : w2.frozen? ⟨w1.heap.size, 1, none⟩ = false := (hb2.frozen (p := ⟨w1.heap.size, 1, none⟩) (by first | assumption | (go_size; done) | (simp; omega) | (simp only [World.size_alloc]; omega))).trans (by first | assumption | (go_cell; done) | (go_simp; done) | simp [*])
    have HD2 := Lib.hid (HD.out b w2 hc2 hB (by simp))
    clear hb2 HD
    go_wp2_with fail
    refine Calls.mono HD2.out ?_
    rintro e w3 ⟨v3, rfl, I3, hb3⟩
    have HI3 := Lib.hid (I3.lower hB.size)
    have hb := belowTo hB hb3
    clear hb3 I3 HD2
    go_wp2
    go_returns
    exact ⟨_, rfl, HI3.out, hb⟩
end Go.Proofs.YtgaeibibeekclabGreatDoor
