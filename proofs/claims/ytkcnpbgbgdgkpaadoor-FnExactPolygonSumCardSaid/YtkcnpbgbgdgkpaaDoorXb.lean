/- Sums of polygons: the model. -/
import Derived.Test.YtkcnpbgbgdgkpaaDoorYx
import Derived.Test.YtkcnpbgbgdgkpaaDoorXa
namespace Go.Proofs.YtkcnpbgbgdgkpaaDoor
open Go.RowKit

theorem sum_small5 {p q : List V2} (hp : polyB p = true) (hq : polyB q = true) : ∀ x ∈ smL p q, small5 x := fun x hx => by
  have := sum_small hp hq x hx
  unfold small5
  omega
theorem hullM_len (l : List V2) (h : l.length ≤ 1000) : (hullM l).length ≤ 576460752303423488 := by
  have h1 := sortD_len l
  unfold hullM
  split
  · omega
  · have h1' := half_len (sortD l)
    have h2' := half_len (sortD l).reverse
    have h4 : (sortD l).reverse.length = (sortD l).length := by simp
    show ((halfH (sortD l)).tail.reverse ++ (halfH (sortD l).reverse).tail.reverse).length ≤ _
    rw [List.length_append]
    omega
set_option maxRecDepth 100000 in
set_option maxHeartbeats 16000000 in
theorem l6gSum_any (v u : Value) (p q : List V2) (w : World) (hl : ReadsVecs w v p) (hl2 : ReadsVecs w u q) (hp : polyB p = true) (hq : polyB q = true) :
    Calls Tryd.prog 35 #[v, u] w (GivesVecs w (hullM (smL p q))) := by
  obtain ⟨i0, hi, hz0, hz1, hz2⟩ := info_parts infoVec
  have h30 := poly_len hp
  have h30' := poly_len hq
  have HH := Lib.hid (fun v' b' w' (hI : Vecs w' b' v' (smL p q)) => l6gHull_any v' (smL p q) w' (hI.reads (by have := smL_len h30.2 h30'.2; omega)) (smL_len h30.2 h30'.2) (sum_small5 hp hq))
  obtain ⟨bv, ov, vc, rfl, _, _, hbv, hvs⟩ := hl.open (by omega)
  obtain ⟨bu, ou, uc, rfl, _, _, hbu, hus⟩ := hl2.open (by omega)
  have HVS := Lib.hid hvs
  have HUS := Lib.hid hus
  have HMp := Lib.hid (fun a => poly_small hp a)
  have HMq := Lib.hid (fun a => poly_small hq a)
  have HLn := Lib.hid (fun i k (hi : i < p.length) (hk : k ≤ q.length) => sum_len h30.2 h30'.2 hi hk)
  have HX := Lib.hid (fun a k => adR_succ q a k)
  have HXK := Lib.hid (fun k => sumK_succ p q k)
  have HX0 := Lib.hid (fun a => adR_zero q a)
  have HZ0 := Lib.hid (sumK_zero p q)
  have HZ : Hid (sumK p q p.length = smL p q) := rfl
  have HEm := Lib.hid (Vecs.empty w)
  generalize hullM (smL p q) = H at *
  obtain ⟨m, hm⟩ : ∃ m, m = p.length := ⟨_, rfl⟩
  obtain ⟨n, hn⟩ : ∃ n, n = q.length := ⟨_, rfl⟩
  rw [← hm] at HLn HVS HZ h30 ⊢
  rw [← hn] at HLn HUS HXK h30' ⊢
  clear hl hl2 hp hq hvs hus hm hn
  go_enter Tryd.func35, Tryd.ntmps35
  go_wp2
  go_loopw [5, 6] (fun s6 s wr => ∃ i : Nat, i ≤ m ∧ s = .int .i64 i ∧ Hid (Vecs wr w.heap.size s6 (sumK p q i)) ∧ Below w.heap.size w wr) (fun _ s _ => m - (intOf s).toNat)
  case atStart => exact ⟨0, Nat.zero_le _, rfl, by rw [HZ0.out]; exact HEm.out, by go_grown⟩
  case round =>
    obtain ⟨i, hi', rfl, HI, hB⟩ := hrel
    have i1 : (0 : Int) ≤ (i : Int) := by omega
    by_cases hlt : i < m
    · have i2 : (i : Int) < (m : Int) := by omega
      have HCi := Lib.hid (fun w' hw => HVS.out w' hw i hlt)
      have HLi := Lib.hid (fun k hk => HLn.out i k hlt hk)
      have HXi := Lib.hid (fun k => HX.out (cyc p i) k)
      have HXKi := Lib.hid (HXK.out i)
      have HX0i := Lib.hid (HX0.out (cyc p i))
      have HMi := Lib.hid (HMp.out i)
      generalize hV : cyc p i = V at *
      clear hV
      obtain ⟨x1, y1⟩ := V
      dsimp only at HCi HMi
      clear HLn HX HXK HX0 HZ0 HVS HMp HEm
      go_wp2
      go_loopw [5, 7] (fun s6 s wi => ∃ k : Nat, k ≤ n ∧ s = .int .i64 k ∧ Hid (Vecs wi w.heap.size s6 (sumK p q i ++ adR q (x1, y1) k)) ∧ Below w.heap.size w wi) (fun _ s _ => n - (intOf s).toNat)
      case atStart => exact ⟨0, Nat.zero_le _, rfl, by rw [HX0i.out, List.append_nil]; exact HI.out, hB⟩
      case round =>
        clear HI hB
        obtain ⟨k, hk, rfl, HI, hB⟩ := hrel
        have j1 : (0 : Int) ≤ (k : Int) := by omega
        by_cases hkl : k < n
        · have j2 : (k : Int) < (n : Int) := by omega
          obtain ⟨c0, c1⟩ := HCi.out _ hB
          obtain ⟨d0, d1⟩ := HUS.out _ hB k hkl
          have hln := HLi.out k hk
          have m1 := HMi.out
          have m2 := HMq.out k
          have HXx := Lib.hid (HXi.out k)
          generalize hU : cyc q k = U at *
          clear hU
          obtain ⟨x2, y2⟩ := U
          dsimp only at d0 d1 m2
          have HAd : Hid (adV (x1, y1) (x2, y2) = (x1 + x2, y1 + y2)) := rfl
          rw [HAd.out] at HXx
          obtain ⟨X, hX⟩ : ∃ X, X = x1 + x2 := ⟨_, rfl⟩
          obtain ⟨Y, hY⟩ : ∃ Y, Y = y1 + y2 := ⟨_, rfl⟩
          have q1 : IntKind.i64.wrap (x1 + x2) = X := by rw [IntKind.wrap_i64, hX]; omega
          have q2 : IntKind.i64.wrap (y1 + y2) = Y := by rw [IntKind.wrap_i64, hY]; omega
          rw [← hX, ← hY] at HXx
          obtain ⟨L, hL⟩ : ∃ L, L = sumK p q i ++ adR q (x1, y1) k := ⟨_, rfl⟩
          have HLe := Lib.hid hL
          rw [← hL] at hln HI
          obtain ⟨N, hN⟩ : ∃ N, N = L.length := ⟨_, rfl⟩
          rw [← hN] at hln
          have HNe := Lib.hid hN
          have hown := HI.out
          unfold Vecs VRow at hown
          rw [← HNe.out] at hown
          have HOw := Lib.hid (World.ownsRow.drew hown)
          have hws := hB.size
          have HB := Lib.hid hB
          have hbv' := cell_lt c0
          have hbu' := cell_lt d0
          clear hL hN m1 m2 hX hY hown HI hB HCi HLi HXi HXKi HX0i HMi HMq HUS HAd HH HZ
          go_wp2
          refine wp_region_any (by kernel_rfl) ?_
          try (change wpAny _ _ _ _ _ _ _ (World.drew _))
          refine wpAny_of_held (S := fun w' => Below (w.heap.size) wr w') _ _ _ _ ?_
          have hSw : Below (w.heap.size) wr (World.drew wr) := by go_grown
          generalize hwd : World.drew wr = wd at hSw ⊢
          refine wpAnyH_take (i := 0) (v := ?_) rfl (by kernel_rfl) (by kernel_rfl) (by kernel_rfl) (fun _ _ _ h => h) (Or.inl ⟨by rfl, ?_⟩) hSw ?_
          rotate_left
          focus (intro w0 hS0; clear hS0; go_simp; try with_reducible rfl)
          refine wpAnyH_take (i := 1) (v := ?_) rfl (by kernel_rfl) (by kernel_rfl) (by kernel_rfl) (fun _ _ _ h => h) (Or.inl ⟨by rfl, ?_⟩) hSw ?_
          rotate_left
          focus (intro w0 hS0; clear hS0; go_simp; try with_reducible rfl)
          refine wpAnyH_take (i := 2) (v := ?_) rfl (by kernel_rfl) (by kernel_rfl) (by kernel_rfl) (fun _ _ _ h => h) (Or.inl ⟨by rfl, ?_⟩) hSw ?_
          rotate_left
          focus (intro w0 hS0; clear hS0; go_simp; try with_reducible rfl)
          refine wpAnyH_take (i := 3) (v := ?_) rfl (by kernel_rfl) (by kernel_rfl) (by kernel_rfl) (fun _ _ _ h => h) (Or.inl ⟨by rfl, ?_⟩) hSw ?_
          rotate_left
          focus (intro w0 hS0; clear hS0; go_simp; try with_reducible rfl)
          refine wpAnyH_take (i := 4) (v := ?_) rfl (by kernel_rfl) (by kernel_rfl) (by kernel_rfl) (fun _ _ _ h => h) (Or.inl ⟨by rfl, ?_⟩) hSw ?_
          rotate_left
          focus (intro w0 hS0; clear hS0; go_simp; try with_reducible rfl)
          refine wpAnyH_take (i := 5) (v := ?_) rfl (by kernel_rfl) (by kernel_rfl) (by kernel_rfl) (fun _ _ _ h => h) (Or.inl ⟨by rfl, ?_⟩) hSw ?_
          rotate_left
          focus (intro w0 hS0; have f0 := (hS0.cell (p := ⟨bv, ov + i * 2, none⟩) hbv).trans c0; have f1 := (hS0.cell (p := ⟨bv, ov + i * 2 + 1, none⟩) hbv).trans c1; have f2 := (hS0.cell (p := ⟨bu, ou + k * 2, none⟩) hbu).trans d0; have f3 := (hS0.cell (p := ⟨bu, ou + k * 2 + 1, none⟩) hbu).trans d1; clear hS0; go_simp; try with_reducible rfl)
          refine wpAnyH_take (i := 6) (v := ?_) rfl (by kernel_rfl) (by kernel_rfl) (by kernel_rfl) (fun _ _ _ h => h) (Or.inl ⟨by rfl, ?_⟩) hSw ?_
          rotate_left
          focus (intro w0 hS0; clear hS0; go_simp; try with_reducible rfl)
          refine wpAnyH_take (i := 7) (v := ?_) rfl (by kernel_rfl) (by kernel_rfl) (by kernel_rfl) (fun _ _ _ h => h) (Or.inl ⟨by rfl, ?_⟩) hSw ?_
          rotate_left
          focus (intro w0 hS0; clear hS0; go_simp; try with_reducible rfl)
          refine wpAnyH_take (i := 8) (v := ?_) rfl (by kernel_rfl) (by kernel_rfl) (by kernel_rfl) (fun _ _ _ h => h) (Or.inl ⟨by rfl, ?_⟩) hSw ?_
          rotate_left
          focus (intro w0 hS0; clear hS0; go_simp; try with_reducible rfl)
          refine wpAnyH_take (i := 9) (v := ?_) rfl (by kernel_rfl) (by kernel_rfl) (by kernel_rfl) (fun _ _ _ h => h) (Or.inl ⟨by rfl, ?_⟩) hSw ?_
          rotate_left
          focus (intro w0 hS0; clear hS0; go_simp; try with_reducible rfl)
          refine wpAnyH_take (i := 10) (v := ?_) rfl (by kernel_rfl) (by kernel_rfl) (by kernel_rfl) (fun _ _ _ h => h) (Or.inl ⟨by rfl, ?_⟩) hSw ?_
          rotate_left
          focus (intro w0 hS0; have f0 := (hS0.cell (p := ⟨bv, ov + i * 2, none⟩) hbv).trans c0; have f1 := (hS0.cell (p := ⟨bv, ov + i * 2 + 1, none⟩) hbv).trans c1; have f2 := (hS0.cell (p := ⟨bu, ou + k * 2, none⟩) hbu).trans d0; have f3 := (hS0.cell (p := ⟨bu, ou + k * 2 + 1, none⟩) hbu).trans d1; clear hS0; go_simp; try with_reducible rfl)
          refine wpAnyH_take (i := 11) (v := ?_) rfl (by kernel_rfl) (by kernel_rfl) (by kernel_rfl) (fun _ _ _ h => h) (Or.inl ⟨by rfl, ?_⟩) hSw ?_
          rotate_left
          focus (intro w0 hS0; clear hS0; go_simp; try with_reducible rfl)
          refine wpAnyH_take (i := 12) (v := ?_) rfl (by kernel_rfl) (by kernel_rfl) (by kernel_rfl) (fun _ _ _ h => h) (Or.inl ⟨by rfl, ?_⟩) hSw ?_
          rotate_left
          focus (intro w0 hS0; clear hS0; go_simp; try with_reducible rfl)
          refine wpAnyH_take (i := 13) (v := ?_) rfl (by kernel_rfl) (by kernel_rfl) (by kernel_rfl) (fun _ _ _ h => h) (Or.inl ⟨by rfl, ?_⟩) hSw ?_
          rotate_left
          focus (intro w0 hS0; clear hS0; go_simp; try with_reducible rfl)
          refine wpAnyH_take (i := 14) (v := ?_) rfl (by kernel_rfl) (by kernel_rfl) (by kernel_rfl) (fun _ _ _ h => h) (Or.inl ⟨by rfl, ?_⟩) hSw ?_
          rotate_left
          focus (intro w0 hS0; clear hS0; go_simp; try with_reducible rfl)
          refine wpAnyH_take (i := 15) (v := ?_) rfl (by kernel_rfl) (by kernel_rfl) (by kernel_rfl) (fun _ _ _ h => h) (Or.inl ⟨by rfl, ?_⟩) hSw ?_
          rotate_left
          focus (intro w0 hS0; clear hS0; go_simp; try with_reducible rfl)
          refine wpAnyH_take (i := 16) (v := ?_) rfl (by kernel_rfl) (by kernel_rfl) (by kernel_rfl) (fun _ _ _ h => h) (Or.inl ⟨by rfl, ?_⟩) hSw ?_
          rotate_left
          focus (intro w0 hS0; have f0 := (hS0.cell (p := ⟨bv, ov + i * 2, none⟩) hbv).trans c0; have f1 := (hS0.cell (p := ⟨bv, ov + i * 2 + 1, none⟩) hbv).trans c1; have f2 := (hS0.cell (p := ⟨bu, ou + k * 2, none⟩) hbu).trans d0; have f3 := (hS0.cell (p := ⟨bu, ou + k * 2 + 1, none⟩) hbu).trans d1; clear hS0; go_simp; try with_reducible rfl)
          refine wpAnyH_take (i := 17) (v := ?_) rfl (by kernel_rfl) (by kernel_rfl) (by kernel_rfl) (fun _ _ _ h => h) (Or.inl ⟨by rfl, ?_⟩) hSw ?_
          rotate_left
          focus (intro w0 hS0; clear hS0; go_simp; try with_reducible rfl)
          refine wpAnyH_take (i := 18) (v := ?_) rfl (by kernel_rfl) (by kernel_rfl) (by kernel_rfl) (fun _ _ _ h => h) (Or.inl ⟨by rfl, ?_⟩) hSw ?_
          rotate_left
          focus (intro w0 hS0; clear hS0; go_simp; try with_reducible rfl)
          refine wpAnyH_take (i := 19) (v := ?_) rfl (by kernel_rfl) (by kernel_rfl) (by kernel_rfl) (fun _ _ _ h => h) (Or.inl ⟨by rfl, ?_⟩) hSw ?_
          rotate_left
          focus (intro w0 hS0; clear hS0; go_simp; try with_reducible rfl)
          refine wpAnyH_take (i := 20) (v := ?_) rfl (by kernel_rfl) (by kernel_rfl) (by kernel_rfl) (fun _ _ _ h => h) (Or.inl ⟨by rfl, ?_⟩) hSw ?_
          rotate_left
          focus (intro w0 hS0; clear hS0; go_simp; try with_reducible rfl)
          refine wpAnyH_take (i := 21) (v := ?_) rfl (by kernel_rfl) (by kernel_rfl) (by kernel_rfl) (fun _ _ _ h => h) (Or.inl ⟨by rfl, ?_⟩) hSw ?_
          rotate_left
          focus (intro w0 hS0; have f0 := (hS0.cell (p := ⟨bv, ov + i * 2, none⟩) hbv).trans c0; have f1 := (hS0.cell (p := ⟨bv, ov + i * 2 + 1, none⟩) hbv).trans c1; have f2 := (hS0.cell (p := ⟨bu, ou + k * 2, none⟩) hbu).trans d0; have f3 := (hS0.cell (p := ⟨bu, ou + k * 2 + 1, none⟩) hbu).trans d1; clear hS0; go_simp; try with_reducible rfl)
          refine wpAnyH_take (i := 22) (v := ?_) rfl (by kernel_rfl) (by kernel_rfl) (by kernel_rfl) (fun _ _ _ h => h) (Or.inl ⟨by rfl, ?_⟩) hSw ?_
          rotate_left
          focus (intro w0 hS0; clear hS0; go_simp; try with_reducible rfl)
          refine wpAnyH_take (i := 23) (v := ?_) rfl (by kernel_rfl) (by kernel_rfl) (by kernel_rfl) (fun _ _ _ h => h) (Or.inl ⟨by rfl, ?_⟩) hSw ?_
          rotate_left
          focus (intro w0 hS0; clear hS0; go_simp; try with_reducible rfl)
          refine wpAnyH_ready (rs := [24]) (by kernel_rfl) (by simp) (AllReadyH.cons rfl (fun K hK => ?_) (AllReadyH.nil))
          go_simp
          (have hwz : w.heap.size ≤ wd.heap.size := (by rw [← hwd]; exact hws); have HOz := HOw; rw [hwd] at HOz; replace hSw := hSw.alloc hwz (.cells #[.int .i64 X, .int .i64 Y] 38); refine hK.out _ _ hSw (fun _ => ?_); clear hK K)
          refine wpAnyH_ready (rs := [25]) (by kernel_rfl) (by simp) (AllReadyH.cons rfl (fun K hK => ?_) (AllReadyH.nil))
          (refine step_list (by rintro ⟨_, _, h⟩; obtain ⟨_, hv, _⟩ := h; cases hv) (by kernel_rfl) ?_; refine wpList_append_own_at _ rfl _ _ 24 rfl w.heap.size 38 i0 (.agg #[.int .i64 (0), .int .i64 (0)]) 2 16 Tryd.underlying24 hi hz0 hz1 hz2 rfl (by decide) _ _ _ rfl (HOz.out.alloc _) ⟨_, 0, none⟩ 1 1 [.int .i64 X, .int .i64 Y] rfl rfl (sm_cells _ X Y _) (sm_one X Y) (by unfold maxLen; omega) (by omega) (by simp; omega) ?_; intro v' w4 hown' hgrow _ _; replace hSw := hSw.grown hgrow (by simp; omega) (fun k hk => (HOz.out.lt k hk).1); refine hK.out _ _ hSw (fun _ => ?_); clear hK K)
          refine wpAnyH_take (i := 26) (v := ?_) rfl (by kernel_rfl) (by kernel_rfl) (by kernel_rfl) (fun _ _ _ h => h) (Or.inl ⟨by rfl, ?_⟩) hSw ?_
          rotate_left
          focus (intro w0 hS0; clear hS0; go_simp; try with_reducible rfl)
          refine wpAnyH_done (by kernel_rfl) ?_ _
          have HB5 := Lib.hid (HB.out.trans hSw)
          have HVv := Lib.hid (Vecs.snoc (l := L) HNe.out hown')
          rw [HLe.out, List.append_assoc, ← HXx.out] at HVv
          clear hown' hgrow hSw c0 c1 d0 d1 hln
          go_wp2
          go_roundw
          case rel => exact ⟨k + 1, by omega, by go_num, HVv, HB5.out⟩
          case measure => simp [intOf]; omega
        · obtain rfl : k = n := by omega
          have j2 : ¬ ((k : Nat) : Int) < (k : Int) := by omega
          rw [← HXKi.out] at HI
          clear HLi HXi HXKi HX0i HCi HMi HMq
          go_wp2
          go_roundw
          case rel => exact ⟨i + 1, by omega, by go_num, HI, hB⟩
          case measure => simp [intOf]; omega
    · obtain rfl : i = m := by omega
      have i2 : ¬ ((i : Nat) : Int) < (i : Int) := by omega
      have hV := HI.out
      rw [HZ.out] at hV
      have HH2 := Lib.hid (HH.out _ _ wr hV)
      clear hV HI HH HLn HX HXK HX0 HZ0 HVS HUS HMp HMq HEm
      go_wp2_with fail
      refine Calls.mono HH2.out ?_
      rintro e w3 ⟨v3, rfl, I3, hb3⟩
      have HI3 := Lib.hid (I3.lower hB.size)
      have hb := belowTo hB hb3
      clear hb3 I3 HH2
      go_wp2
      go_returns
      exact ⟨_, rfl, HI3.out, hb⟩
set_option maxHeartbeats 4000000 in
theorem specPolygonSum_any (v u : Value) (p q : List V2) (w : World) (hl : ReadsVecs w v p) (hl2 : ReadsVecs w u q) :
    Calls Tryd.prog 16 #[v, u] w (GivesVecsOk w (SumL p q) (SumB p q)) := by
  have HC := Lib.hid (fun w' (hb : Below w.heap.size w w') => specPolygonIn_any v p w' (hl.below hb))
  have HC2 := Lib.hid (fun w' (hb : Below w.heap.size w w') => specPolygonIn_any u q w' (hl2.below hb))
  have HS := Lib.hid (fun w' (hb : Below w.heap.size w w') hp hq => l6gSum_any v u p q w' (hl.below hb) (hl2.below hb) hp hq)
  have HD := Lib.hid (fun v' b' w' (hI : Vecs w' b' v' (hullM (smL p q))) (hm : (hullM (smL p q)).length ≤ 576460752303423488) => l6gDone_any v' (hullM (smL p q)) w' (hI.reads hm))
  have HLn := Lib.hid (fun (hp : polyB p = true) (hq : polyB q = true) => hullM_len _ (smL_len (poly_len hp).2 (poly_len hq).2))
  have hE := Lib.hid (fun w' => Vecs.empty w')
  unfold TidyS at HD
  rw [(hullM_done (smL p q)).2, (hullM_done (smL p q)).1] at HD
  obtain ⟨a, c, rfl, _⟩ := hl
  obtain ⟨a2, c2, rfl, _⟩ := hl2
  unfold SumL SumB
  generalize hullM (smL p q) = M at *
  generalize polyB (hullD (smL p q)) = K at *
  generalize hullD (smL p q) = H at *
  cases hk : polyB p
  · rw [hk] at HC
    clear hk HC2 HS HD HLn
    go_enter Tryd.func16, Tryd.ntmps16
    go_wp2_with fail
    refine Calls.mono (HC.out _ (by go_grown)) ?_
    rintro e w1 ⟨rfl, hb1⟩
    have hb : Below w.heap.size w w1 := belowTo (by go_grown) hb1
    have hs := hb.size
    have HE := Lib.hid ((hE.out w1).lower hs)
    clear hb1
    go_wp2
    go_returns
    exact ⟨_, rfl, HE.out, by go_grown⟩
  · rw [hk] at HC
    cases hk2 : polyB q
    · rw [hk2] at HC2
      clear hk hk2 HS HD HLn
      go_enter Tryd.func16, Tryd.ntmps16
      go_wp2_with fail
      refine Calls.mono (HC.out _ (by go_grown)) ?_
      rintro e w1 ⟨rfl, hb1⟩
      have hb : Below w.heap.size w w1 := belowTo (by go_grown) hb1
      clear hb1
      go_wp2_with fail
      refine Calls.mono (HC2.out _ hb) ?_
      rintro e w2 ⟨rfl, hb2⟩
      replace hb := belowTo hb hb2
      have hs := hb.size
      have HE := Lib.hid ((hE.out w2).lower hs)
      clear hb2
      go_wp2
      go_returns
      exact ⟨_, rfl, HE.out, by go_grown⟩
    · rw [hk2] at HC2
      have HS2 := Lib.hid (fun w' hb => HS.out w' hb hk hk2)
      have HLn2 := Lib.hid (HLn.out hk hk2)
      clear hk hk2 HS HLn
      rw [Bool.true_and, Bool.true_and]
      generalize gV K H = L at *
      go_enter Tryd.func16, Tryd.ntmps16
      go_wp2_with fail
      refine Calls.mono (HC.out _ (by go_grown)) ?_
      rintro e w1 ⟨rfl, hb1⟩
      have hb : Below w.heap.size w w1 := belowTo (by go_grown) hb1
      clear hb1
      go_wp2_with fail
      refine Calls.mono (HC2.out _ hb) ?_
      rintro e w2 ⟨rfl, hb2⟩
      replace hb := belowTo hb hb2
      clear hb2
      go_wp2_with fail
      refine Calls.mono (HS2.out _ hb) ?_
      rintro e w3 ⟨v3, rfl, I3, hb3⟩
      have HD2 := Lib.hid (HD.out v3 _ w3 I3 HLn2.out)
      replace hb := belowTo hb hb3
      clear hb3 I3 HD HS2
      go_wp2_with fail
      refine Calls.mono HD2.out ?_
      rintro e w4 ⟨v4, rfl, I4, hb4⟩
      have HI4 := Lib.hid (I4.lower hb.size)
      replace hb := belowTo hb hb4
      clear hb4 I4 HD2
      go_wp2
      go_returns
      exact ⟨_, rfl, HI4.out, hb⟩
end Go.Proofs.YtkcnpbgbgdgkpaaDoor
