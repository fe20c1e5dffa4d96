/- Tables: the products of a ray with all rays, in a map. -/
import Derived.Test.YtohojjoediibhaaDoorEl
import Derived.Test.YtohojjoediibhaaDoorBm
import Derived.Test.YtohojjoediibhaaDoorB9
namespace Go.Proofs.YtohojjoediibhaaDoor
open Go.RowKit Go.Maps

theorem by_trans {a b c : World} {row : Option Nat} (h : a.grownBy b row) (k : b.grownBy c row) : a.grownBy c row :=
  ⟨k.os.trans h.os, k.tape.trans h.tape, k.output.trans h.output, Nat.le_trans h.size k.size, fun i hi hne => (k.block i (Nat.lt_of_lt_of_le hi h.size) hne).trans (h.block i hi hne)⟩
theorem by_drew {a b : World} {row : Option Nat} (h : a.grownBy b row) : a.grownBy b.drew row := ⟨h.os, h.tape, h.output, h.size, h.block⟩
theorem by_below {a b c : World} {row : Option Nat} (h : a.grownBy b row) (k : Below b.heap.size b c) : a.grownBy c row := by_trans h (grown_of_below k row)
theorem Ring.grown {w w' : World} {ns : List Node} {m : Nat} (h : Ring w ns) (hg : w.grownBy w' (some m)) (hne : ∀ i, (cyc ns i).1 ≠ m) : Ring w' ns :=
  ⟨h.pos, h.two, fun i => (h.link i).same (hg.block _ (h.lt i) (fun e => hne i (by injection e)))⟩
theorem Ring.drewn {w : World} {ns : List Node} (h : Ring w ns) : Ring w.drew ns := ⟨h.pos, h.two, fun i => h.link i⟩
theorem OwnMap.grown {w w' : World} {b k n : Nat} {D : MapV} (h : OwnMap w b n D) (hg : w.grownBy w' (some k)) (hne : b ≠ k) : OwnMap w' b n D := h.kept hg (fun e => hne (by injection e))
theorem OwnMap.below {w w' : World} {b n : Nat} {D : MapV} (h : OwnMap w b n D) (hb : Below w.heap.size w w') : OwnMap w' b n D := h.kept (row := none) (grown_of_below hb none) (by simp)
theorem OwnMap.drewn {w : World} {b n : Nat} {D : MapV} (h : OwnMap w b n D) : OwnMap w.drew b n D := h
/-- what is told of a ray -/
def toldM (l : List V2) (x : Nat) : MapV := (((DataW.map []).put (keyV (cyc l (x + l.length - 1))) (numV 1)).put (keyV (cyc l (x + 1))) (numV 1)).put (keyV (cyc l x)) (numV (numZ l x))
theorem wf_vec {x y : Int} (h : vecB x y = true) : (Lit.int .i64 x).wf = true ∧ (Lit.int .i64 y).wf = true := by
  have s := szs h
  exact ⟨wf_i64 (by omega), wf_i64 (by omega)⟩
set_option maxHeartbeats 4000000 in
theorem tell_any (m c : Nat) (D : MapV) (ns : List Node) (x : Nat) (w : World) (hR : Ring w ns) (hne : ∀ i, (cyc ns i).1 ≠ m) (hv : allVec (rays ns)) (hown : OwnMap w m c D) :
    Calls Tryd.prog 167 #[.pointer (some ⟨(cyc ns x).1, 0, none⟩), .map (some m)] w fun e w' => (∃ v, e = .returned v) ∧ OwnMap w' m 3 (toldM (rays ns) x) ∧ w.grownBy w' (some m) := by
  obtain ⟨w1, hclear, hown1, hg1⟩ := map_clear hown
  have hR1 := hR.grown hg1 hne
  have hp := hR.pos
  have HNe := Lib.hid hne
  have r0 := hv (x + ns.length - 1)
  have r1 := hv (x + 1)
  have r2 := hv x
  rw [rays_cyc hp] at r0 r1 r2
  have k0 := keyOf_vec (wf_vec r0).1 (wf_vec r0).2
  have k1 := keyOf_vec (wf_vec r1).1 (wf_vec r1).2
  have k2 := keyOf_vec (wf_vec r2).1 (wf_vec r2).2
  have hnb := num_bdE hv x
  have HZ : Hid ((Lit.int .i64 (numZ (rays ns) x)).wf = true) := wf_i64 (by omega)
  have HT : Hid (toldM (rays ns) x = (((DataW.map []).put (keyV (cyc ns (x + ns.length - 1)).2) (numV 1)).put (keyV (cyc ns (x + 1)).2) (numV 1)).put (keyV (cyc ns x).2) (numV (numZ (rays ns) x))) := by
    show _ = _
    unfold toldM
    rw [rays_len, rays_cyc hp, rays_cyc hp, rays_cyc hp]
  have HN := Lib.hid (fun w' (h : Ring w' ns) => number_any ns x w' h hv)
  have hL := hR1.link x
  have hA := hR1.link (x + ns.length - 1)
  have hB := hR1.link (x + 1)
  have c2 := hL.c2
  have c3 := hL.c3
  have d0 := hA.c0
  have d1 := hA.c1
  have e0 := hB.c0
  have e1 := hB.c1
  rw [HT.out]
  have K0 := Lib.hid k0
  have K1 := Lib.hid k1
  have K2 := Lib.hid k2
  have HR1 := Lib.hid hR1
  have HO1 := Lib.hid hown1
  have HG1 := Lib.hid hg1
  clear hR hne hv hown hR1 r0 r1 r2 k0 k1 k2 HT hL hA hB hown1 hg1
  generalize numZ (rays ns) x = z at *
  go_enter Tryd.func167, Tryd.ntmps167
  go_wp2_with (at_mapUpdate; refine wpList_mapUpdate_own _ rfl _ _ _ 148 rfl 43 3 keyLaw Tryd.underlying148 (plainElem Tryd.prog 3) m 0 _ rfl HO1.out (by unfold maxLen; omega) _ _ _ rfl rfl K0.out (numV 1) [] (plainElem_int Tryd.underlying3 (by decide)) ?_)
  intro w2 hown2 hg2
  have HR2 := Lib.hid (HR1.out.grown hg2 HNe.out)
  have HO2 := Lib.hid hown2
  have HG2 := Lib.hid (by_trans HG1.out hg2)
  have c2' := (HR2.out.link x).c3
  have e0' := (HR2.out.link (x + 1)).c0
  have e1' := (HR2.out.link (x + 1)).c1
  clear hown2 hg2 c2 c3 d0 d1 e0 e1 HR1 HO1 HG1
  go_wp2_with (at_mapUpdate; refine wpList_mapUpdate_own _ rfl _ _ _ 148 rfl 43 3 keyLaw Tryd.underlying148 (plainElem Tryd.prog 3) m 1 _ rfl HO2.out (by unfold maxLen; omega) _ _ _ rfl rfl K1.out (numV 1) [] (plainElem_int Tryd.underlying3 (by decide)) ?_)
  intro w3 hown3 hg3
  have HR3 := Lib.hid (HR2.out.grown hg3 HNe.out)
  have HO3 := Lib.hid hown3
  have HG3 := Lib.hid (by_trans HG2.out hg3)
  have f0 := (HR3.out.link x).c0
  have f1 := (HR3.out.link x).c1
  have fl := (HR3.out.link x).lt
  have HN3 := Lib.hid (HN.out w3.drew HR3.out.drewn)
  clear hown3 hg3 c2' e0' e1' HR2 HO2 HG2 HN
  go_wp2
  refine wp_region_any (by kernel_rfl) ?_
  try (change wpAny _ _ _ _ _ _ _ (World.drew _))
  refine wpAny_take (i := 0) (v := ?_) rfl (by kernel_rfl) (by kernel_rfl) (by kernel_rfl) (fun _ _ _ h => h) (Or.inl ⟨by rfl, ?_⟩) ?_
  rotate_left
  focus (intro w0; go_simp; try with_reducible rfl)
  refine wpAny_take (i := 1) (v := ?_) rfl (by kernel_rfl) (by kernel_rfl) (by kernel_rfl) (fun _ _ _ h => h) (Or.inl ⟨by rfl, ?_⟩) ?_
  rotate_left
  focus (intro w0; go_simp; try with_reducible rfl)
  refine wpAny_take (i := 2) (v := ?_) rfl (by kernel_rfl) (by kernel_rfl) (by kernel_rfl) (fun _ _ _ h => h) (Or.inl ⟨by rfl, ?_⟩) ?_
  rotate_left
  focus (intro w0; go_simp; try with_reducible rfl)
  refine wpAny_take (i := 3) (v := ?_) rfl (by kernel_rfl) (by kernel_rfl) (by kernel_rfl) (fun _ _ _ h => h) (Or.inl ⟨by rfl, ?_⟩) ?_
  rotate_left
  focus (intro w0; go_simp; try with_reducible rfl)
  refine wpAny_take (i := 5) (v := ?_) rfl (by kernel_rfl) (by kernel_rfl) (by kernel_rfl) (fun _ _ _ h => h) (Or.inl ⟨by rfl, ?_⟩) ?_
  rotate_left
  focus (intro w0; go_simp; try with_reducible rfl)
  refine wpAny_ready (rs := [4, 6]) (by kernel_rfl) (by simp) (AllReady.cons rfl (fun K hK => ?_) (AllReady.cons rfl (fun K hK => ?_) (AllReady.nil)))
  focus
    go_simp
    refine hK _ _ ?_
    clear hK K
    refine wpAny_ready (rs := [6]) (by kernel_rfl) (by simp) (AllReady.cons rfl (fun K hK => ?_) (AllReady.nil))
    go_simp
    (refine Calls.mono HN3.out ?_; rintro e w4 ⟨rfl, hb4⟩; replace hb4 := undrew hb4; have f0' := (hb4.cell (p := ⟨(cyc ns x).1, 0, none⟩) fl).trans f0; have f1' := (hb4.cell (p := ⟨(cyc ns x).1, 1, none⟩) fl).trans f1)
    refine hK _ _ ?_
    clear hK K
    refine wpAny_seq 7 rfl (by kernel_rfl) ?_
    simp only [List.drop_succ_cons, List.drop_zero]
  rotate_left 1
  focus
    go_simp
    (refine Calls.mono HN3.out ?_; rintro e w4 ⟨rfl, hb4⟩; replace hb4 := undrew hb4; have f0' := (hb4.cell (p := ⟨(cyc ns x).1, 0, none⟩) fl).trans f0; have f1' := (hb4.cell (p := ⟨(cyc ns x).1, 1, none⟩) fl).trans f1)
    refine hK _ _ ?_
    clear hK K
    refine wpAny_ready (rs := [4]) (by kernel_rfl) (by simp) (AllReady.cons rfl (fun K hK => ?_) (AllReady.nil))
    go_simp
    refine hK _ _ ?_
    clear hK K
    refine wpAny_seq 7 rfl (by kernel_rfl) ?_
    simp only [List.drop_succ_cons, List.drop_zero]
  all_goals
    have HO4 := Lib.hid (OwnMap.below HO3.out hb4)
    have HG4 := Lib.hid (by_below HG3.out hb4)
    clear hb4
    go_wp2_with (at_mapUpdate; refine wpList_mapUpdate_own _ rfl _ _ _ 148 rfl 43 3 keyLaw Tryd.underlying148 (plainElem Tryd.prog 3) m 2 _ rfl HO4.out (by unfold maxLen; omega) _ _ _ rfl rfl K2.out (numV z) [] (plainElem_int Tryd.underlying3 HZ.out) ?_)
    intro w5 hown5 hg5
    have HO5 := Lib.hid hown5
    have HG5 := Lib.hid (by_trans HG4.out hg5)
    clear hown5 hg5
    go_wp2
    go_returns
    exact ⟨⟨_, rfl⟩, HO5.out, HG5.out⟩

/-! the products that are told -/
theorem toldM_at {l : List V2} (hS : smoothB l = true) {i k : Nat} (hi : i + 2 < l.length) (hk : k + 2 < l.length) : (toldM l (i + 2)).atKey (keyV (cyc l (k + 2))) (numV 0) = numV (tabZ l i k) := by
  have hv := (smooth_all hS).1
  have h3 := smooth_len hS
  have ne : ∀ a b, a < l.length → b < l.length → a ≠ b → keyV (cyc l a) ≠ keyV (cyc l b) := fun a b ha hb hab e => ray_ne hS ha hb hab (keyV_inj (wf_vec (hv a)) (wf_vec (hv b)) e)
  have hm : ∀ D : MapV, ∀ p n, IsMap D → IsMap (D.put (keyV p) (numV n)) := fun D p n h => h.put _ _
  have m0 : IsMap (DataW.map [] : MapV) := ⟨_, rfl⟩
  have ea : cyc l (i + 2 + l.length - 1) = cyc l (i + 1) := by rw [show i + 2 + l.length - 1 = (i + 1) + l.length by omega, cyc_add]
  unfold toldM tabZ
  rw [ea]
  by_cases h : i = k
  · subst h
    rw [if_pos rfl, map_put_same (hm _ _ _ (hm _ _ _ m0))]
  · rw [if_neg h, map_put_other (ne _ _ hk hi (by omega))]
    by_cases h2 : i + 1 = k
    · rw [if_pos (.inl h2), show i + 2 + 1 = k + 2 by omega, map_put_same (hm _ _ _ m0)]
    · have eb : keyV (cyc l (k + 2)) ≠ keyV (cyc l (i + 2 + 1)) := by
        by_cases q : i + 2 + 1 = l.length
        · rw [show i + 2 + 1 = 0 + l.length by omega, cyc_add]
          exact ne _ _ hk (by omega) (by omega)
        · exact ne _ _ hk (by omega) (by omega)
      rw [map_put_other eb]
      by_cases h3 : k + 1 = i
      · rw [if_pos (.inr h3), show i + 1 = k + 2 by omega, map_put_same m0]
      · rw [if_neg (by omega), map_put_other (ne _ _ hk (by omega) (by omega)), map_nil]
end Go.Proofs.YtohojjoediibhaaDoor
