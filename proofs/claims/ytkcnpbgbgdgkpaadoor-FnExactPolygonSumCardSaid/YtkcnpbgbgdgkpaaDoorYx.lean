/- PolygonOf: both sides. -/
import Derived.Test.YtkcnpbgbgdgkpaaDoorYw
import Derived.Test.YtkcnpbgbgdgkpaaDoorBj
namespace Go.Proofs.YtkcnpbgbgdgkpaaDoor
open Go.RowKit

/-- the hull, and whether it is told -/
def OfB (l : List V2) : Bool := decide (l.length ≤ 60) && polyB (hullD l)
def OfL (l : List V2) : List V2 := gV (OfB l) (hullD l)
theorem ofL_len (l : List V2) : (OfL l).length ≤ 576460752303423488 := gV_len (fun h => by
  unfold OfB at h
  rw [Bool.and_eq_true] at h
  have := poly_len h.2
  omega)
theorem hull_two {l : List V2} (h : (sortD l).length ≤ 2) : (hullD l).length ≤ 2 := by
  unfold hullD
  generalize sortD l = S at *
  match S, h with
  | [], _ => exact Nat.zero_le _
  | [a], _ => exact Nat.zero_le _
  | [a, b], _ => exact Nat.le_refl _
theorem hull_three {l : List V2} (h : polyB (hullD l) = true) : 3 ≤ (sortD l).length := by
  rcases Nat.lt_or_ge (sortD l).length 3 with c | c
  · have := hull_two (l := l) (by omega)
    have := poly_len h
    omega
  · exact c
/-- the vectors of a hull that is a polygon are small -/
theorem hull_small_all {l : List V2} (h : polyB (hullD l) = true) : ∀ x ∈ l, cnrV x = true := by
  have h3 := hull_three h
  have hb := hull_bound (B := 100) (sortD_asc l) (by omega) (fun q hq => by
    obtain ⟨i, hi, rfl⟩ := List.mem_iff_getElem.1 hq
    have hi2 : i < (hullD l).length := hi
    have := poly_small h i
    rw [cyc_lt hi2] at this
    have e : ((hullD l)[i]?.getD default) = (hullZ (sortD l))[i] := by
      show ((hullZ (sortD l))[i]?.getD default) = _
      rw [List.getElem?_eq_getElem hi]
      rfl
    rw [e] at this
    exact this)
  intro x hx
  obtain ⟨a, b⟩ := hb x ((sortD_mem l x).2 hx)
  unfold cnrV cnrN
  simp
  omega
theorem leastAt_zero {l : List V2} (h : ∀ j, lessB (cyc l j) (cyc l 0) = false) : ∀ i, leastAt l i = 0 := by
  intro i
  induction i with
  | zero => rfl
  | succ i ih =>
    unfold leastAt
    rw [ih, h]
    rfl
/-- a hull begins with the least corner -/
theorem hull_tidy {l : List V2} (h : polyB (hullD l) = true) : tidyP (hullD l) = hullD l := by
  have h3 := hull_three h
  obtain ⟨a, ha⟩ : ∃ a, (sortD l).head? = some a := by
    cases k : sortD l
    · rw [k] at h3; simp at h3
    · exact ⟨_, rfl⟩
  obtain ⟨r, hr⟩ := hull_head (sortD_asc l) (by omega) ha
  have h0 : cyc (hullD l) 0 = a := by
    have hl := poly_len h
    rw [cyc_lt (by omega)]
    show ((hullZ (sortD l))[0]?.getD default) = a
    rw [hr]
    rfl
  have hmin : ∀ q ∈ sortD l, a = q ∨ lexV (subV q a) := by
    intro q hq
    cases k : sortD l with
    | nil => rw [k] at h3; simp at h3
    | cons b S =>
      rw [k] at ha hq
      simp at ha
      subst ha
      rcases List.mem_cons.1 hq with e | e
      · exact .inl e.symm
      · have hs := sortD_asc l
        rw [k] at hs
        unfold Asc at hs
        exact .inr ((List.pairwise_cons.1 hs).1 q e)
  unfold tidyP
  rw [leastAt_zero (fun j => by
    rw [h0]
    cases k : lessB (cyc (hullD l) j) a
    · rfl
    · exfalso
      have hp0 : 0 < (hullD l).length := by have := poly_len h; omega
      have hm : cyc (hullD l) j ∈ sortD l := hull_mem (sortD_asc l) _ (cyc_mem hp0 j)
      have h1 := less_lex.1 k
      rcases hmin _ hm with e | e
      · rw [← e] at h1
        unfold lexV subV at h1
        dsimp only at h1
        omega
      · exact lex_asym h1 e)]
  simp [rot]
theorem hullM_done (l : List V2) : polyB (hullM l) = polyB (hullD l) ∧ gV (polyB (hullM l)) (tidyP (hullM l)) = gV (polyB (hullD l)) (hullD l) := by
  unfold hullM
  split
  · rename_i h3
    have a : polyB (sortD l) = false := poly_short (.inl h3)
    have b : polyB (hullD l) = false := poly_short (.inl (by have := hull_two (l := l) (by omega); omega))
    rw [a, b]
    exact ⟨rfl, rfl⟩
  · refine ⟨rfl, ?_⟩
    cases h : polyB (hullD l)
    · rfl
    · rw [hull_tidy h]
/-- hull and done, in the model -/
theorem small5_of {l : List V2} (h : ∀ x ∈ l, cnrV x = true) : ∀ x ∈ l, small5 x := fun x hx => by
  have := cnr_in (h x hx)
  unfold small5
  omega
set_option maxHeartbeats 8000000 in
theorem polygonOf_any (v : Value) (l : List V2) (w : World) (hl : ReadsVecs w v l) (hg : EtOk w) :
    Calls Tryd.prog 12 #[v] w (GivesVecsR w (OfL l) (OfB l)) := by
  by_cases h60 : l.length ≤ 60
  · have HH := Lib.hid (fun w' (hb : Below w.heap.size w w') (hv : allV l = true) => hullOf_any v l w' (hg.below hb) (hl.below hb) (by omega) (fun x hx => by
      have := List.all_eq_true.1 hv x hx
      have := szs this
      unfold big
      omega))
    have hC : Calls Tryd.prog 31 #[v] w fun e w' => ((allV l = true ∧ e = .returned .nilIface) ∨ (allV l = false ∧ ∃ s, e = .returned (.iface 79 (.agg #[.string s])))) ∧ Below w.heap.size w w' := by
      by_cases h0 : l.length = 0
      · have hl0 : l = [] := List.eq_nil_of_length_eq_zero h0
        subst hl0
        obtain ⟨a, c, rfl, _⟩ := hl
        exact (cornCheck_nil a c w).mono (fun e w' h => ⟨.inl ⟨rfl, h.1⟩, h.2⟩)
      · refine (cornCheck_any v l w hl (by omega) (by omega)).mono (fun e w' h => ?_)
        obtain ⟨h1 | ⟨h1, h2⟩, h3⟩ := h
        · exact ⟨.inl h1, h3⟩
        · exact ⟨.inr ⟨h1, h2⟩, h3⟩
    have HC := Lib.hid hC
    have HZ : Hid (allV l = false → OfB l = false ∧ OfL l = []) := fun h => by
      have : OfB l = false := by
        cases k : OfB l
        · rfl
        · unfold OfB at k
          rw [Bool.and_eq_true] at k
          have hs := hull_small_all k.2
          have : allV l = true := by
            unfold allV
            rw [List.all_eq_true]
            intro x hx
            have := cnr_in (hs x hx)
            exact vec_of (by omega)
          rw [h] at this
          cases this
      unfold OfL
      rw [this]
      exact ⟨rfl, rfl⟩
    have HY : Hid (OfB l = polyB (hullD l) ∧ OfL l = gV (polyB (hullD l)) (hullD l)) := by
      have : OfB l = polyB (hullD l) := by unfold OfB; simp [h60]
      show _ ∧ _
      unfold OfL
      rw [this]
      exact ⟨rfl, rfl⟩
    have j1 : ¬ 60 < (l.length : Int) := by omega
    obtain ⟨a, c, rfl, _⟩ := hl
    generalize OfB l = B at *
    generalize OfL l = D at *
    generalize allV l = V at *
    generalize polyB (hullD l) = P at *
    generalize hullD l = H at *
    clear h60 hC
    go_enter Tryd.func12, Tryd.ntmps12
    go_wp2_with fail
    refine Calls.mono HC.out ?_
    rintro e w1 ⟨⟨rfl, rfl⟩ | ⟨rfl, s, rfl⟩, hb1⟩
    · obtain ⟨rfl, rfl⟩ := HY.out
      clear HC HZ HY
      go_wp2_with fail
      refine Calls.mono (none_nil _) ?_
      rintro e w2 ⟨rfl, hb2⟩
      have hb := belowTo hb1 hb2
      have HH2 := Lib.hid (HH.out w2 hb (by simp))
      clear hb1 hb2 HH
      go_wp2_with fail
      refine Calls.mono HH2.out ?_
      rintro e w3 ⟨v3, rfl, I3, hb3⟩
      have HI3 := Lib.hid (I3.lower hb.size)
      replace hb := belowTo hb hb3
      clear hb3 I3 HH2
      go_wp2
      go_returns
      exact ⟨_, rfl, HI3.out, hb⟩
    · obtain ⟨rfl, rfl⟩ := HZ.out rfl
      clear HC HZ HY HH
      go_wp2_with fail
      refine Calls.mono (none_hit s _ (hg.below hb1)) ?_
      rintro e w2 ⟨rfl, hb2⟩
      have hb := belowTo hb1 hb2
      clear hb1 hb2
      go_wp2
      go_returns
      exact ⟨_, rfl, VecsR.nil _ _, hb⟩
  · have hB : OfB l = false := by unfold OfB; simp; omega
    have j1 : 60 < (l.length : Int) := by omega
    obtain ⟨a, c, rfl, _⟩ := hl
    unfold OfL
    rw [hB]
    clear hB
    go_enter Tryd.func12, Tryd.ntmps12
    go_wp2
    go_returns
    exact ⟨_, rfl, VecsR.nil _ _, Below.refl _ _⟩
set_option maxHeartbeats 8000000 in
theorem specPolygonOf_any (v : Value) (l : List V2) (w : World) (hl : ReadsVecs w v l) :
    Calls Tryd.prog 10 #[v] w (GivesVecsOk w (OfL l) (OfB l)) := by
  have hE := Lib.hid (fun w' => Vecs.empty w')
  by_cases h60 : l.length ≤ 60
  · have HH := Lib.hid (fun w' (hb : Below w.heap.size w w') (hs : ∀ x ∈ l, cnrV x = true) => l6gHull_any v l w' (hl.below hb) (by omega) (small5_of hs))
    have HD := Lib.hid (fun v' b' w' (hI : Vecs w' b' v' (hullM l)) (hm : (hullM l).length ≤ 576460752303423488) => l6gDone_any v' (hullM l) w' (hI.reads hm))
    have hM : (hullM l).length ≤ 576460752303423488 := by
      have h1 := sortD_len l
      unfold hullM
      split
      · omega
      · have h1' := half_len (sortD l)
        have h2' := half_len (sortD l).reverse
        have h4 : (sortD l).reverse.length = (sortD l).length := by simp
        show ((halfH (sortD l)).tail.reverse ++ (halfH (sortD l).reverse).tail.reverse).length ≤ _
        rw [List.length_append]
        omega
    have HMl := Lib.hid hM
    unfold TidyS at HD
    rw [(hullM_done l).2, (hullM_done l).1] at HD
    have HY : OfB l = polyB (hullD l) ∧ OfL l = gV (polyB (hullD l)) (hullD l) := by
      have : OfB l = polyB (hullD l) := by unfold OfB; simp [h60]
      unfold OfL
      rw [this]
      exact ⟨rfl, rfl⟩
    have HZ : Hid (∀ k, k < l.length → cnrV (cyc l k) = false → polyB (hullD l) = false) := fun k hk h => by
      cases q : polyB (hullD l)
      · rfl
      · have := hull_small_all q _ (cyc_mem (by omega) k)
        rw [h] at this
        cases this
    have HG : Hid ((∀ k, k < l.length → cnrV (cyc l k) = true) → ∀ x ∈ l, cnrV x = true) := fun h x hx => by
      obtain ⟨i, hi, rfl⟩ := List.mem_iff_getElem.1 hx
      have := h i hi
      rwa [cyc_lt hi, List.getElem?_eq_getElem hi] at this
    rw [HY.1, HY.2]
    have j1 : ¬ 60 < (l.length : Int) := by omega
    have HS := Lib.hid (fun x y w' => l6gSmall_any x y w')
    obtain ⟨a, c, rfl, _, _, hcell⟩ := hl
    have HCl := Lib.hid hcell
    have HDz : Hid (polyB (hullD l) = false → gV (polyB (hullD l)) (hullD l) = []) := fun h => by rw [h]; rfl
    generalize gV (polyB (hullD l)) (hullD l) = D at *
    generalize polyB (hullD l) = P at *
    generalize hullM l = M at *
    clear hcell HY hM
    go_enter Tryd.func10, Tryd.ntmps10
    go_wp2
    go_loopw [4] (fun s wr => ∃ k : Nat, k ≤ l.length ∧ s = .int .i64 k ∧ Hid (∀ j, j < k → cnrV (cyc l j) = true) ∧ Below w.heap.size w wr) (fun s _ => l.length - (intOf s).toNat)
    case atStart => exact ⟨0, Nat.zero_le _, rfl, fun j hj => by omega, Below.refl _ _⟩
    case round =>
      obtain ⟨k, hk, rfl, HEx, hB⟩ := hrel
      have i1 : (0 : Int) ≤ (k : Int) := by omega
      by_cases hlt : k < l.length
      · have i2 : (k : Int) < (l.length : Int) := by omega
        obtain ⟨bb, off, rfl, hbb, hcs⟩ := HCl.out (by omega)
        have d0 := (hB.cell (p := ⟨bb, off + k * 2, none⟩) hbb).trans (hcs k hlt).1
        have d1 := (hB.cell (p := ⟨bb, off + k * 2 + 1, none⟩) hbb).trans (hcs k hlt).2
        have HZk := Lib.hid (fun h => HZ.out k hlt h)
        have HE2 : Hid (cnrV (cyc l k) = true → ∀ j, j < k + 1 → cnrV (cyc l j) = true) := fun h j h2 => by
          by_cases e : j = k
          · subst e; exact h
          · exact HEx.out j (by omega)
        generalize hV : cyc l k = V at d0 d1 HZk HE2
        clear hV
        obtain ⟨x, y⟩ := V
        dsimp only at d0 d1
        have HSk := Lib.hid (fun w' => HS.out x y w')
        generalize hz : cnrV (x, y) = z at HZk HE2 HSk
        clear hz
        have hs := hB.size
        clear HEx HZ HG HS HH HD hcs HCl
        go_wp2_with fail
        refine Calls.mono (HSk.out _) ?_
        rintro e w2 ⟨rfl, hb2⟩
        have hA : Below w.heap.size w w2 := hB.trans ((belowTo (a := wr) (by go_grown) hb2).mono hs)
        clear hb2 HSk
        cases z
        · obtain rfl := HZk.out rfl
          obtain rfl := HDz.out rfl
          have hs2 := hA.size
          have HE3 := Lib.hid ((hE.out w2).lower hs2)
          clear HE2 HZk
          go_wp2
          go_returns
          exact ⟨_, rfl, HE3.out, by go_grown⟩
        · have HE3 := Lib.hid (HE2.out rfl)
          clear HE2 HZk
          go_wp2
          go_roundw
          case rel => exact ⟨k + 1, by omega, by go_num, HE3.out, hA⟩
          case measure => simp [intOf]; omega
      · obtain rfl : k = l.length := by omega
        have i2 : ¬ ((l.length : Nat) : Int) < (l.length : Int) := by omega
        have HH2 := Lib.hid (HH.out wr hB (HG.out HEx.out))
        clear HEx HZ HG HS HH HCl HDz hE
        go_wp2_with fail
        refine Calls.mono HH2.out ?_
        rintro e w2 ⟨v2, rfl, I2, hb2⟩
        have HD2 := Lib.hid (HD.out v2 _ w2 I2 HMl.out)
        have hb := belowTo hB hb2
        clear hb2 I2 HD HH2
        go_wp2_with fail
        refine Calls.mono HD2.out ?_
        rintro e w3 ⟨v3, rfl, I3, hb3⟩
        have HI3 := Lib.hid (I3.lower hb.size)
        replace hb := belowTo hb hb3
        clear hb3 I3 HD2
        go_wp2
        go_returns
        exact ⟨_, rfl, HI3.out, hb⟩
  · have hB : OfB l = false := by unfold OfB; simp; omega
    have j1 : 60 < (l.length : Int) := by omega
    have HE := Lib.hid (hE.out w)
    obtain ⟨a, c, rfl, _⟩ := hl
    unfold OfL
    rw [hB]
    clear hB
    go_enter Tryd.func10, Tryd.ntmps10
    go_wp2
    go_returns
    exact ⟨_, rfl, HE.out, by go_grown⟩
end Go.Proofs.YtkcnpbgbgdgkpaaDoor
