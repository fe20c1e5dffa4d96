import Derived.Test.YtgaeibibeekclabGreatDoorS27
import Derived.Test.YtgaeibibeekclabGreatDoorS34
import Derived.Test.YtgaeibibeekclabGreatDoorS37
namespace Go.Proofs.YtgaeibibeekclabGreatDoor
open Go.RowKit
theorem ptC_cells (W : World) (X Y : Int) (t : TypeId) : ∀ j u, [Value.int .i64 X, Value.int .i64 Y][j]? = some u → (W.alloc (.cells #[.int .i64 X, .int .i64 Y] t)).cell? ((⟨W.heap.size, 0, none⟩ : Addr).add j) = some u := by
  intro j u hj
  match j, hj with
  | 0, hj => simp at hj; subst hj; simp [Addr.add]
  | 1, hj => simp at hj; subst hj; simp [Addr.add]
theorem ptC_one (X Y : Int) : ∀ u ∈ [Value.int .i64 X, Value.int .i64 Y], u.oneCell' = true := by
  intro u hu
  simp at hu
  rcases hu with rfl | rfl <;> rfl
/-- the edge vectors of the first corners -/
def edgK (l : List V2) (k : Nat) : List V2 := (List.range k).flatMap (blkL l)
theorem edgK_all (l : List V2) : edgK l l.length = edgL l := rfl
theorem edgK_zero (l : List V2) : edgK l 0 = [] := rfl
theorem edgK_succ (l : List V2) (k : Nat) : edgK l (k + 1) = edgK l k ++ (List.range (gN l k)).map (ptZ l k) := by
  unfold edgK
  rw [List.range_succ, List.flatMap_append]
  simp [blkL]
theorem pts_succ (l : List V2) (k x : Nat) : (List.range (x + 1)).map (ptZ l k) = (List.range x).map (ptZ l k) ++ [ptZ l k x] := by simp [List.range_succ]
theorem edgK_len {l : List V2} (h : reflB l = true) {k : Nat} (hk : k ≤ l.length) {x : Nat} (hx : k < l.length → x ≤ gN l k) (hx0 : ¬ k < l.length → x = 0) : (edgK l k ++ (List.range x).map (ptZ l k)).length ≤ 12 := by
  have e := edg_len h
  have hE : ∀ d, (edgK l (l.length - d)).length ≤ (edgL l).length := by
    intro d
    induction d with
    | zero => exact Nat.le_refl _
    | succ d ih =>
      by_cases c : l.length - d = 0
      · rw [show l.length - (d + 1) = l.length - d by omega]; exact ih
      · rw [show l.length - d = l.length - (d + 1) + 1 by omega, edgK_succ, List.length_append] at ih
        omega
  rw [List.length_append, List.length_map, List.length_range]
  by_cases c : k < l.length
  · have a := hE (l.length - (k + 1))
    rw [show l.length - (l.length - (k + 1)) = k + 1 by omega, edgK_succ, List.length_append, List.length_map, List.length_range] at a
    have := hx c
    omega
  · have a := hE (l.length - k)
    rw [show l.length - (l.length - k) = k by omega] at a
    have := hx0 c
    omega
theorem gN_le {l : List V2} (h : reflB l = true) (k : Nat) : gN l k ≤ 12 := by
  have hp := (refl_in h).1
  have h0 : 0 < l.length := by have := poly_len hp; omega
  have a := edgK_len h (k := k % l.length) (x := gN l (k % l.length)) (Nat.le_of_lt (Nat.mod_lt _ h0)) (fun _ => Nat.le_refl _) (fun c => absurd (Nat.mod_lt _ h0) c)
  rw [List.length_append, List.length_map, List.length_range] at a
  have e : gN l (k % l.length) = gN l k := by unfold gN; rw [wayZ_mod]
  omega
theorem own_ne {w : World} {b B n : Nat} {v : Value} {l : List V2} (h : Vecs w b v l) (hB : w.heap.size ≤ B) (_ : n = n) : v.ownBlock ≠ some B := by
  intro e
  have := (World.ownsRow.lt h B e).2
  omega
set_option maxRecDepth 100000 in
set_option maxHeartbeats 16000000 in
theorem edgeVectors_any (v : Value) (l : List V2) (w : World) (h : ReadsVecs w v l) (hr : reflB l = true) :
    Calls Tryz.prog 51 #[v] w (GivesVecs w (edgL l)) := by
  obtain ⟨i0, hi, hz0, hz1, hz2⟩ := info_parts infoVec
  have hp := (refl_in hr).1
  have h30 := poly_len hp
  have h0 : 0 < l.length := by omega
  have HWy := Lib.hid (fun w' (hb : Below w.heap.size w w') => ways_any v l w' (h.below hb) h0 (by omega) (fun i => by have := poly_small hp i; unfold big; omega))
  obtain ⟨bv, ov, vc, rfl, _, _, hbv, hvs⟩ := h.open h0
  have HVS := Lib.hid hvs
  have HWc := Lib.hid (fun i => cyc_ways h0 i)
  have HWv := Lib.hid (fun i => way_vec hp i)
  have HWn := Lib.hid (fun i => way_nz hp i)
  have HWl := Lib.hid (waysL_len l)
  have HMb := Lib.hid (fun i => poly_small hp i)
  have HPt := Lib.hid (fun i x (hx : x ≤ gN l i) => pt_small hr hx)
  have HGl := Lib.hid (fun k => gN_le hr k)
  have HGe : Hid (∀ k, (gN l k : Int) = gcdZ (wayZ l k).1 (wayZ l k).2) := fun k => by
    have := gcdZ_nonneg (wayZ l k).1 (wayZ l k).2
    unfold gN
    omega
  have HKl := Lib.hid (fun k x (hk : k < l.length) (hx : x ≤ gN l k) => edgK_len hr (Nat.le_of_lt hk) (fun _ => hx) (fun c => absurd hk c))
  have HX := Lib.hid (fun k x => pts_succ l k x)
  have HXK := Lib.hid (fun k => edgK_succ l k)
  have HPZ : Hid (∀ k (x : Nat), ptZ l k x = ((cyc l k).1 + (wayZ l k).1.tdiv (gcdZ (wayZ l k).1 (wayZ l k).2) * x, (cyc l k).2 + (wayZ l k).2.tdiv (gcdZ (wayZ l k).1 (wayZ l k).2) * x)) := fun _ _ => rfl
  have HZ := Lib.hid (edgK_all l)
  have HZ0 := Lib.hid (edgK_zero l)
  clear h hvs hp hr
  go_enter Tryz.func51, Tryz.ntmps51
  go_wp2_with fail
  refine Calls.mono (HWy.out _ (by go_grown)) ?_
  rintro e W1 ⟨v1, rfl, hI, hb1⟩
  have HB1 := Lib.hid (show Below w.heap.size w W1 from belowTo (by go_grown) hb1)
  obtain ⟨bw, ow, wc, rfl, _, _, hbw, hws⟩ := (hI.reads (by rw [waysL_len]; omega)).open (by rw [waysL_len]; exact h0)
  have HWS := Lib.hid hws
  clear hb1 hI hws HWy
  have hsW := HB1.out.size
  have hwl := HWl.out
  generalize hn : (waysL l).length = n at *
  subst hwl
  clear hn
  go_wp2
  go_loopw [3, 12] (fun s3 s wr => ∃ k : Nat, k ≤ l.length ∧ s = .int .i64 k ∧ Hid (Vecs wr W1.heap.size s3 (edgK l k)) ∧ Below W1.heap.size W1 wr) (fun _ s _ => l.length - (intOf s).toNat)
  case atStart => exact ⟨0, Nat.zero_le _, rfl, by rw [HZ0.out]; exact Vecs.nil _ _, Below.refl _ _⟩
  case round =>
    obtain ⟨k, hk, rfl, HI, hB⟩ := hrel
    have i1 : (0 : Int) ≤ (k : Int) := by omega
    by_cases hlt : k < l.length
    · have i2 : (k : Int) < (l.length : Int) := by omega
      obtain ⟨d0, d1⟩ := HWS.out wr hB k hlt
      rw [HWc.out k] at d0 d1
      have hv := HWv.out k
      have hnz := HWn.out k
      have HP := Lib.hid (fun w' => primitive_any _ _ w' hv hnz)
      have HCk := Lib.hid (fun w' hw => HVS.out w' hw k hlt)
      have HKk := Lib.hid (fun x hx => HKl.out k x hlt hx)
      have HXk := Lib.hid (fun x => HX.out k x)
      have HXKk := Lib.hid (HXK.out k)
      have HPk := Lib.hid (fun x => HPt.out k x)
      have HPZk := Lib.hid (fun x => HPZ.out k x)
      have hgl := HGl.out k
      have hge := HGe.out k
      have hmb := HMb.out k
      obtain ⟨b1, b2⟩ := szs hv
      have q1 := tdiv_bd (m := gcdZ (wayZ l k).1 (wayZ l k).2) b1
      have q2 := tdiv_bd (m := gcdZ (wayZ l k).1 (wayZ l k).2) b2
      generalize ptZ l k = PT at *
      generalize gN l k = G at *
      rw [← hge] at HP HPZk q1 q2
      generalize (wayZ l k).1.tdiv (G : Int) = sx at *
      generalize (wayZ l k).2.tdiv (G : Int) = sy at *
      clear hge
      generalize wayZ l k = U at *
      generalize cyc l k = V at *
      obtain ⟨u1, u2⟩ := U
      obtain ⟨p1, p2⟩ := V
      dsimp only at d0 d1 HP HCk HPZk hmb
      have hs := hB.size
      clear HWc HWv HWn HX HXK HPZ HWS HKl HPt HGl HGe HMb HVS b1 b2 hv hnz HZ0
      go_wp2_with fail
      refine Calls.mono (HP.out _) ?_
      rintro e w2 ⟨rfl, hb2⟩
      have hb3 : Below wr.heap.size wr w2 := belowTo (by go_grown) hb2
      have HI2 := Lib.hid (HI.out.below hb3)
      have hB2 := hB.trans (hb3.mono hs)
      clear hb2 hb3 HI d0 d1 HP
      have hs2 := hB2.size
      have HO2 := Lib.hid (fun B (hB : w2.heap.size ≤ B) => own_ne (n := 0) HI2.out hB rfl)
      go_wp2
      go_loopw [3, 23] (fun s3 s wi => ∃ x : Nat, x ≤ G ∧ s = .int .i64 x ∧ Hid (Vecs wi W1.heap.size s3 (edgK l k ++ (List.range x).map PT)) ∧ Hid (Value.ownBlock s3 ≠ some w2.heap.size) ∧ wi.cell? ⟨w2.heap.size, 0, none⟩ = some (.int .i64 sx) ∧ wi.cell? ⟨w2.heap.size, 1, none⟩ = some (.int .i64 sy) ∧ Below W1.heap.size W1 wi) (fun _ s _ => G - (intOf s).toNat)
      case atStart =>
        refine ⟨0, Nat.zero_le _, rfl, ?_, HO2.out _ (Nat.le_refl _), by simp, by simp, by go_grown⟩
        have := HI2.out.below (show Below w2.heap.size w2 (w2.alloc (.cells #[.int .i64 sx, .int .i64 sy] 55)) by go_grown)
        show Vecs _ _ _ (edgK l k ++ [])
        rw [List.append_nil]
        exact this
      case round =>
        obtain ⟨x, hx, rfl, HI3, HO3, s0, s1, hBi⟩ := hrel
        have j1 : (0 : Int) ≤ (x : Int) := by omega
        by_cases hxl : x < G
        · have j2 : (x : Int) < (G : Int) := by omega
          obtain ⟨c0, c1⟩ := HCk.out wr (HB1.out.trans (hBi.mono hsW))
          have hpt := HPk.out x hx
          have hkl := HKk.out x hx
          have hpz := HPZk.out x
          rw [hpz] at hpt
          dsimp only at hpt
          have HXx := Lib.hid (HXk.out x)
          rw [hpz] at HXx
          have HT := Lib.hid (fun w' => times_any sx sy (x : Int) w' (vec_of ⟨q1, q2⟩) (szB_mk (by omega) (by omega)))
          have HPl := Lib.hid (fun w' => plus_any p1 p2 (sx * x) (sy * x) w' (vec_of (by omega)) (vec_of (by omega)))
          obtain ⟨L, hL⟩ : ∃ L, L = edgK l k ++ (List.range x).map PT := ⟨_, rfl⟩
          have HLe := Lib.hid hL
          rw [← hL] at hkl HI3
          obtain ⟨N, hN⟩ : ∃ N, N = L.length := ⟨_, rfl⟩
          rw [← hN] at hkl
          generalize sx * (x : Int) = X at *
          generalize sy * (x : Int) = Y at *
          have hsi := hBi.size
          have t0 := cell_lt c0
          have t1 := cell_lt s0
          have HNe := Lib.hid hN
          clear hL hN hpz hpt
          have hb1 := Below.refl wr.heap.size wr
          go_wp2_with fail
          refine wp_region_any (by kernel_rfl) ?_
          try (change wpAny _ _ _ _ _ _ _ (World.drew _))
          refine wpAny_take (i := 0) (v := ?_) rfl (by kernel_rfl) (by kernel_rfl) (by kernel_rfl) (fun _ _ _ h => h) (Or.inl ⟨by rfl, ?_⟩) ?_
          rotate_left
          focus (intro w0; go_simp; try with_reducible rfl)
          refine wpAny_take (i := 1) (v := ?_) rfl (by kernel_rfl) (by kernel_rfl) (by kernel_rfl) (fun _ _ _ h => h) (Or.inl ⟨by rfl, ?_⟩) ?_
          rotate_left
          focus (intro w0; go_simp; try with_reducible rfl)
          refine wpAny_take (i := 2) (v := ?_) rfl (by kernel_rfl) (by kernel_rfl) (by kernel_rfl) (fun _ _ _ h => h) (Or.inl ⟨by rfl, ?_⟩) ?_
          rotate_left
          focus (intro w0; go_simp; try with_reducible rfl)
          refine wpAny_take (i := 3) (v := ?_) rfl (by kernel_rfl) (by kernel_rfl) (by kernel_rfl) (fun _ _ _ h => h) (Or.inl ⟨by rfl, ?_⟩) ?_
          rotate_left
          focus (intro w0; go_simp; try with_reducible rfl)
          refine wpAny_take (i := 6) (v := ?_) rfl (by kernel_rfl) (by kernel_rfl) (by kernel_rfl) (fun _ _ _ h => h) (Or.inl ⟨by rfl, ?_⟩) ?_
          rotate_left
          focus (intro w0; go_simp; try with_reducible rfl)
          refine wpAny_ready (rs := [4, 5]) (by kernel_rfl) (by simp) (AllReady.cons rfl (fun K hK => ?_) (AllReady.cons rfl (fun K hK => ?_) (AllReady.nil)))
          focus
            go_simp
            refine hK _ _ ?_
            clear hK K
            refine wpAny_ready (rs := [5]) (by kernel_rfl) (by simp) (AllReady.cons rfl (fun K hK => ?_) (AllReady.nil))
            go_simp
            refine hK _ _ ?_
            clear hK K
            refine wpAny_ready (rs := [7]) (by kernel_rfl) (by simp) (AllReady.cons rfl (fun K hK => ?_) (AllReady.nil))
            go_simp
            (refine Calls.mono (HT.out _) ?_; rintro e w5 ⟨rfl, hb1⟩; replace hb1 := undrew hb1; replace c1 := (hb1.cell (p := ⟨bv, ov + k * 2 + 1, none⟩) t0).trans c1; replace c0 := (hb1.cell (p := ⟨bv, ov + k * 2, none⟩) t0).trans c0)
            refine hK _ _ ?_
            clear hK K
            refine wpAny_ready (rs := [8]) (by kernel_rfl) (by simp) (AllReady.cons rfl (fun K hK => ?_) (AllReady.nil))
            go_simp
            (refine Calls.mono (HPl.out _) ?_; rintro e w6 ⟨rfl, hb6⟩)
            refine hK _ _ ?_
            clear hK K
            refine wpAny_ready (rs := [9]) (by kernel_rfl) (by simp) (AllReady.cons rfl (fun K hK => ?_) (AllReady.nil))
            go_simp
            refine hK _ _ ?_
            clear hK K
            refine wpAny_seq 10 rfl (by kernel_rfl) ?_
            simp only [List.drop_succ_cons, List.drop_zero]
          rotate_left 1
          focus
            go_simp
            refine hK _ _ ?_
            clear hK K
            refine wpAny_ready (rs := [4, 7]) (by kernel_rfl) (by simp) (AllReady.cons rfl (fun K hK => ?_) (AllReady.cons rfl (fun K hK => ?_) (AllReady.nil)))
            focus
              go_simp
              refine hK _ _ ?_
              clear hK K
              refine wpAny_ready (rs := [7]) (by kernel_rfl) (by simp) (AllReady.cons rfl (fun K hK => ?_) (AllReady.nil))
              go_simp
              (refine Calls.mono (HT.out _) ?_; rintro e w5 ⟨rfl, hb1⟩; replace hb1 := undrew hb1; replace c1 := (hb1.cell (p := ⟨bv, ov + k * 2 + 1, none⟩) t0).trans c1; replace c0 := (hb1.cell (p := ⟨bv, ov + k * 2, none⟩) t0).trans c0)
              refine hK _ _ ?_
              clear hK K
              refine wpAny_ready (rs := [8]) (by kernel_rfl) (by simp) (AllReady.cons rfl (fun K hK => ?_) (AllReady.nil))
              go_simp
              (refine Calls.mono (HPl.out _) ?_; rintro e w6 ⟨rfl, hb6⟩)
              refine hK _ _ ?_
              clear hK K
              refine wpAny_ready (rs := [9]) (by kernel_rfl) (by simp) (AllReady.cons rfl (fun K hK => ?_) (AllReady.nil))
              go_simp
              refine hK _ _ ?_
              clear hK K
              refine wpAny_seq 10 rfl (by kernel_rfl) ?_
              simp only [List.drop_succ_cons, List.drop_zero]
            rotate_left 1
            focus
              go_simp
              (refine Calls.mono (HT.out _) ?_; rintro e w5 ⟨rfl, hb1⟩; replace hb1 := undrew hb1; replace c1 := (hb1.cell (p := ⟨bv, ov + k * 2 + 1, none⟩) t0).trans c1; replace c0 := (hb1.cell (p := ⟨bv, ov + k * 2, none⟩) t0).trans c0)
              refine hK _ _ ?_
              clear hK K
              refine wpAny_ready (rs := [4]) (by kernel_rfl) (by simp) (AllReady.cons rfl (fun K hK => ?_) (AllReady.nil))
              go_simp
              refine hK _ _ ?_
              clear hK K
              refine wpAny_ready (rs := [8]) (by kernel_rfl) (by simp) (AllReady.cons rfl (fun K hK => ?_) (AllReady.nil))
              go_simp
              (refine Calls.mono (HPl.out _) ?_; rintro e w6 ⟨rfl, hb6⟩)
              refine hK _ _ ?_
              clear hK K
              refine wpAny_ready (rs := [9]) (by kernel_rfl) (by simp) (AllReady.cons rfl (fun K hK => ?_) (AllReady.nil))
              go_simp
              refine hK _ _ ?_
              clear hK K
              refine wpAny_seq 10 rfl (by kernel_rfl) ?_
              simp only [List.drop_succ_cons, List.drop_zero]
          all_goals
            have hb7 := belowTo hb1 hb6
            have hB7 := hBi.trans (hb7.mono hsi)
            have s0' := (hb7.cell (p := ⟨w2.heap.size, 0, none⟩) t1).trans s0
            have s1' := (hb7.cell (p := ⟨w2.heap.size, 1, none⟩) t1).trans s1
            have hown := HI3.out.below hb7
            unfold Vecs VRow at hown
            rw [← HNe.out] at hown
            have hbs := hB7.size
            have t2 := cell_lt s0'
            clear hb1 hb6 hb7 HI3 c0 c1
            go_wp2_with (at_builtin; refine wpList_append_own_at _ rfl _ _ 23 rfl W1.heap.size 55 i0 (.agg #[.int .i64 (0), .int .i64 (0)]) 2 16 Tryz.underlying23 hi hz0 hz1 hz2 rfl (by decide) _ _ _ rfl (hown.alloc _) ⟨_, 0, none⟩ 1 1 [.int .i64 (p1 + X), .int .i64 (p2 + Y)] rfl rfl (ptC_cells _ _ _ _) (ptC_one _ _) ?c3 ?c4 ?c5 ?_)
            case c3 => unfold maxLen; omega
            case c4 => omega
            case c5 => simp; omega
            intro v' w8 hown' hgrow _ hob
            have hB8 := (hB7.alloc hbs _).grown hgrow (by simp; omega) (fun k hk => (hown.lt k hk).1)
            have z0 : w8.cell? ⟨w2.heap.size, 0, none⟩ = some (.int .i64 sx) := (World.cell?_of_block (a := ⟨w2.heap.size, 0, none⟩) (hgrow.block _ (by simp; omega) (fun e => HO3.out e.symm))).trans ((World.cell?_alloc_lt _ _ ⟨_, _, none⟩ (by simp; omega)).trans s0')
            have z1 : w8.cell? ⟨w2.heap.size, 1, none⟩ = some (.int .i64 sy) := (World.cell?_of_block (a := ⟨w2.heap.size, 1, none⟩) (hgrow.block _ (by simp; omega) (fun e => HO3.out e.symm))).trans ((World.cell?_alloc_lt _ _ ⟨_, _, none⟩ (by simp; omega)).trans s1')
            have HO4 : Hid (Value.ownBlock v' ≠ some w2.heap.size) := by
              rcases hob with e | e
              · rw [e]; exact HO3.out
              · rw [e]; intro q; simp at q; omega
            have HVv := Lib.hid (Vecs.snoc (l := L) HNe.out hown')
            rw [HLe.out, List.append_assoc, ← HXx.out] at HVv
            clear hown' hgrow hown hB7 hbs s0' s1' s0 s1 hkl hob
            go_wp2
            go_roundw
            case rel => exact ⟨x + 1, by omega, by go_num, HVv, HO4, z0, z1, hB8⟩
            case measure => simp [intOf]; omega
        · obtain rfl : x = G := by omega
          have j2 : ¬ ((x : Nat) : Int) < (x : Int) := by omega
          rw [← HXKk.out] at HI3
          clear s0 s1 HO3 HCk HKk HXk HPk HPZk
          go_wp2
          go_roundw
          case rel => exact ⟨k + 1, by omega, by go_num, HI3, hBi⟩
          case measure => simp [intOf]; omega
    · obtain rfl : k = l.length := by omega
      have i2 : ¬ ((l.length : Nat) : Int) < (l.length : Int) := by omega
      have HI2 := Lib.hid (HI.out.lower hsW)
      rw [HZ.out] at HI2
      clear HI
      go_wp2
      go_returns
      exact ⟨_, rfl, HI2.out, HB1.out.trans (hB.mono hsW)⟩
end Go.Proofs.YtgaeibibeekclabGreatDoor
namespace Go.Proofs.YtgaeibibeekclabGreatDoor
open Go.RowKit
/-- the fan of the edge vectors, and whether it is one; its numbers -/
def fanRB (l : List V2) : Bool := reflB l && fanB (edgL l)
def fanRL (l : List V2) : List V2 := gV (fanRB l) (tidyL (edgL l))
set_option maxHeartbeats 8000000 in
theorem reflexiveFan_any (v : Value) (l : List V2) (w : World) (h : ReadsVecs w v l) (hg : EtOk w) :
    Calls Tryz.prog 23 #[v] w (GivesVecsOk w (fanRL l) (fanRB l)) := by
  have HC := Lib.hid (reflexiveOf_any v l w h hg)
  have HE := Lib.hid (fun w' (hb : Below w.heap.size w w') (hr : reflB l = true) => edgeVectors_any v l w' (h.below hb) hr)
  have HT := Lib.hid (fun v' b' w' (hI : Vecs w' b' v' (edgL l)) (hb : Below w.heap.size w w') (hr : reflB l = true) => fanTidy_any v' (edgL l) w' (hI.reads (by have := edg_len hr; omega)) (hg.below hb))
  obtain ⟨a, c, rfl, _⟩ := h
  have HZ : Hid (reflB l = false → fanRL l = [] ∧ fanRB l = false) := fun h => by unfold fanRL fanRB; rw [h]; exact ⟨rfl, rfl⟩
  have HY : Hid (reflB l = true → fanRL l = gV (fanB (edgL l)) (tidyL (edgL l)) ∧ fanRB l = fanB (edgL l)) := fun h => by unfold fanRL fanRB; rw [h]; exact ⟨rfl, rfl⟩
  generalize fanRL l = D at *
  generalize fanRB l = B at *
  generalize hR : reflB l = R at *
  clear hR
  go_enter Tryz.func23, Tryz.ntmps23
  go_wp2_with fail
  refine Calls.mono HC.out ?_
  rintro e w1 ⟨⟨rfl, s, rfl⟩ | ⟨rfl, b, _, hbl, hc, rfl⟩, hb1⟩
  · have hs1 := hb1.size
    obtain ⟨rfl, rfl⟩ := HZ.out rfl
    clear HC HE HT HZ HY
    go_wp2_with fail
    refine Calls.mono (none_hit s _ (hg.below (by go_grown))) ?_
    rintro e w2 ⟨rfl, hb2⟩
    have hB : Below w.heap.size w w2 := belowTo (by go_grown) hb2
    clear hb2
    go_wp2
    go_returns
    exact ⟨_, rfl, Vecs.nil _ _, hB⟩
  · have hs1 := hb1.size
    obtain ⟨rfl, rfl⟩ := HY.out rfl
    clear HC HZ hc hbl HY
    go_wp2_with fail
    refine Calls.mono (none_nil _) ?_
    rintro e w2 ⟨rfl, hb2⟩
    have hB : Below w.heap.size w w2 := belowTo (by go_grown) hb2
    have q0 : w2.cell? ⟨w1.heap.size, 0, none⟩ = some (.slice a l.length c) := (hb2.cell (p := ⟨w1.heap.size, 0, none⟩) (by first | assumption | (go_size; done) | (simp; omega) | (simp only [World.size_alloc]; omega))).trans (by first | assumption | (go_cell; done) | (go_simp; done) | simp [*]); have qf0 : w2.frozen? ⟨w1.heap.size, 0, none⟩ = false := (hb2.frozen (p := ⟨w1.heap.size, 0, none⟩) (by first | assumption | (go_size; done) | (simp; omega) | (simp only [World.size_alloc]; omega))).trans (by first | assumption | (go_cell; done) | (go_simp; done) | simp [*]); have q1 : w2.cell? ⟨w1.heap.size, 1, none⟩ = some (.func (.func 134) #[] #[.pointer (some ⟨b, 0, none⟩)]) := (hb2.cell (p := ⟨w1.heap.size, 1, none⟩) (by first | assumption | (go_size; done) | (simp; omega) | (simp only [World.size_alloc]; omega))).trans (by first | assumption | (go_cell; done) | (go_simp; done) | simp [*]); have qf1 : w2.frozen? ⟨w1.heap.size, 1, none⟩ = false := (hb2.frozen (p := ⟨w1.heap.size, 1, none⟩) (by first | assumption | (go_size; done) | (simp; omega) | (simp only [World.size_alloc]; omega))).trans (by first | assumption | (go_cell; done) | (go_simp; done) | simp [*])
    have HE2 := Lib.hid (HE.out w2 hB (by simp))
    clear hb2 HE
    go_wp2_with fail
    refine Calls.mono HE2.out ?_
    rintro e w3 ⟨v3, rfl, I3, hb3⟩
    have HT3 := Lib.hid (HT.out v3 _ w3 I3 (belowTo hB hb3) (by simp))
    have hb := belowTo hB hb3
    clear hb3 I3 HE2 HT q0 q1 qf0 qf1
    go_wp2_with fail
    refine Calls.mono HT3.out ?_
    rintro e w4 ⟨v4, rfl, I4, hb4⟩
    have HI4 := Lib.hid (I4.lower hb.size)
    replace hb := belowTo hb hb4
    clear hb4 I4 HT3
    go_wp2
    go_returns
    exact ⟨_, rfl, HI4.out, hb⟩
end Go.Proofs.YtgaeibibeekclabGreatDoor
