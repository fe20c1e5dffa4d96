/- Corners and area: the model. -/
import Derived.Test.YtcieihbknfeddabGreatDoorQw
import Derived.Test.YtcieihbknfeddabGreatDoorQu
import Derived.Test.YtcieihbknfeddabGreatDoorJk
import Derived.Test.YtcieihbknfeddabGreatDoorBa
import Derived.Deep.RegionHeld
namespace Go.Proofs.YtcieihbknfeddabGreatDoor
open Go.RowKit

theorem l3NextC_any (a : Option Addr) (n c k : Nat) (w : World) (hk : k < n) (hn : n ≤ 4611686018427387904) :
    Calls Tryz.prog 32 #[.slice a n c, .int .i64 k] w fun e w' => e = .returned (.int .i64 ((k + 1) % n : Nat)) ∧ Below w.heap.size w w' :=
  (l3Next_any a n c k w hk hn).mono (fun _ _ h => ⟨h.1, by rw [← h.2]; exact Below.refl _ _⟩)
theorem Vecs.empty0 (w : World) : Vecs (w.alloc (.cells #[] 42)) w.heap.size (.slice (some ⟨w.heap.size, 0, none⟩) 0 0) [] :=
  World.ownsRow_made w #[] 0 (Nat.le_refl _) (by simp [maxLen]) rfl
theorem cornDB_nef {l : List V2} {d : List Int} (h : nefDB l d = false) : cornDB l d = false := by unfold cornDB; rw [h]; rfl
set_option maxRecDepth 100000 in
set_option maxHeartbeats 32000000 in
theorem specSectionCorners_any (v : Value) (l : List V2) (u : Value) (d : List Int) (w : World) (hl : ReadsVecs w v l) (hd : ReadsInts w u d) :
    Calls Tryz.prog 16 #[v, u] w (GivesVecsOk w (gV (cornDB l d) (cornL l d)) (cornDB l d)) := by
  obtain ⟨i0, hi, hz0, hz1, hz2⟩ := info_parts infoVec
  have HE := Lib.hid (fun w' => Vecs.empty0 w')
  have HN := Lib.hid (fun w' (hb : Below w.heap.size w w') => specDivisorNef_any v l u d w' (hl.below hb) (hd.below hb))
  cases hk : nefDB l d
  · rw [cornDB_nef hk]
    rw [hk] at HN
    obtain ⟨va, vc, rfl, _⟩ := hl
    obtain ⟨a, c, rfl, _⟩ := hd.len
    clear hd hk
    have hE := (HE.out w)
    have HE1 := Lib.hid hE
    clear hE
    go_enter Tryz.func16, Tryz.ntmps16
    go_wp2_with fail
    refine Calls.mono (HN.out _ (by go_grown)) ?_
    rintro e w1 ⟨rfl, hb1⟩
    have hB : Below w.heap.size w w1 := belowTo (by go_grown) hb1
    have HV := Lib.hid (HE1.out.below hb1)
    clear hb1
    go_wp2
    go_returns
    exact ⟨_, rfl, HV.out, hB⟩
  · have hdv : divB l d = true := by
      unfold nefDB at hk
      rw [Bool.and_eq_true] at hk
      exact hk.1
    have hlen := div_len hdv
    have hal := (div_smooth hdv).1
    have hdl := (div_in hdv).2.1
    have hbd := div_bnd hdv
    have e0 : cornDB l d = allV (cornL l d) := by unfold cornDB; rw [hk]; rfl
    rw [e0]
    rw [hk] at HN
    have HC := Lib.hid (fun k w' (hb : Below w.heap.size w w') (h : k < l.length) => l3Cone_any v l k w' (hl.below hb) h)
    have HX := Lib.hid (fun (k : Nat) w' (x y : Int) (hx : -200 ≤ x ∧ x ≤ 200) (hy : -200 ≤ y ∧ y ≤ 200) => l4Vertex_any (cyc l k).1 (cyc l k).2 (cyc l (k + 1)).1 (cyc l (k + 1)).2 x y w' (hal k) (hal (k + 1)) hx hy)
    have HCn : Hid (∀ k x y, x = gz d k → y = gz d ((k + 1) % l.length) → (-x * (cyc l (k + 1)).2 - -y * (cyc l k).2, -y * (cyc l k).1 - -x * (cyc l (k + 1)).1) = cornZ l d k) := by
      rintro k x y rfl rfl
      unfold cornZ vecAt
      refine Prod.ext ?_ ?_
      · show -gz d k * (cyc l (k + 1)).2 - -gz d ((k + 1) % l.length) * (cyc l k).2 = -(gz d k * (cyc l (k + 1)).2 - gz d ((k + 1) % l.length) * (cyc l k).2)
        rw [Int.neg_mul, Int.neg_mul]
        omega
      · show -gz d ((k + 1) % l.length) * (cyc l k).1 - -gz d k * (cyc l (k + 1)).1 = -(gz d ((k + 1) % l.length) * (cyc l k).1 - gz d k * (cyc l (k + 1)).1)
        rw [Int.neg_mul, Int.neg_mul]
        omega
    have HVi := Lib.hid (fun x y w' => specVecIn_any x y w')
    have HM := Lib.hid (corn_snoc l d)
    have HBad := Lib.hid (fun k (hk : k < l.length) (h : vecB (cornZ l d k).1 (cornZ l d k).2 = false) => allV_bad (l := cornL l d) (k := k) (by rw [corn_len]; exact hk) (by rw [corn_cyc hk]; exact h))
    have HGood := Lib.hid (fun (h : ∀ k, k < l.length → vecB (cornZ l d k).1 (cornZ l d k).2 = true) => allV_good (l := cornL l d) (fun k hk => by rw [corn_len] at hk; rw [corn_cyc hk]; exact h k hk))
    have HZ : Hid (cornL l d = (List.range l.length).map (cornZ l d)) := rfl
    obtain ⟨va, vc, rfl, _⟩ := hl
    have HNx := Lib.hid (fun k w' (h : k < l.length) => l3NextC_any va l.length vc k w' h (by omega))
    obtain ⟨bb, off, c, rfl, _, hbb, hcs⟩ := hd.open (by omega)
    have HCS := Lib.hid hcs
    have HBB := Lib.hid hbb
    have HBd := Lib.hid hbd
    have hln : l.length ≤ 1000 := by omega
    have hl0 : 0 < l.length := by omega
    clear hd hk hcs hbb hbd hdv hal e0 hlen
    generalize allV (cornL l d) = K at *
    generalize cornZ l d = F at *
    generalize cornL l d = L at *
    rw [hdl] at *
    clear hdl
    generalize hn : l.length = n at *
    have hE := (HE.out w)
    have HE1 := Lib.hid hE
    clear hE hn
    go_enter Tryz.func16, Tryz.ntmps16
    go_wp2_with fail
    refine Calls.mono (HN.out _ (by go_grown)) ?_
    rintro e w1 ⟨rfl, hb1⟩
    have hB : Below w.heap.size w w1 := belowTo (by go_grown) hb1
    have HV := Lib.hid (HE1.out.below hb1)
    have hwz := hb1.size
    simp only [World.size_alloc] at hwz
    clear hb1
    go_wp2
    go_loopw [6, 7] (fun s6 s7 wr => ∃ k : Nat, k ≤ n ∧ s7 = .int .i64 k ∧ Hid (Vecs wr w.heap.size s6 ((List.range k).map F)) ∧ Hid (∀ j, j < k → vecB (F j).1 (F j).2 = true) ∧ Below w.heap.size w wr) (fun _ s7 _ => n - (intOf s7).toNat)
    case atStart => exact ⟨0, Nat.zero_le _, rfl, HV.out, fun j hj => by omega, hB⟩
    case round =>
      obtain ⟨k, hk, rfl, HI, HAll, hBw⟩ := hrel
      have i1 : (0 : Int) ≤ (k : Int) := by omega
      by_cases hlt : k < n
      · have i2 : (k : Int) < (n : Int) := by omega
        have hq : (k + 1) % n < n := Nat.mod_lt _ hl0
        have j3 : (0 : Int) ≤ (((k + 1) % n : Nat) : Int) := by omega
        have j4 : (((k + 1) % n : Nat) : Int) < (n : Int) := by omega
        have HCk := Lib.hid (fun w' (h : Below wr.heap.size wr w') => HC.out k w' (belowTo hBw h) hlt)
        have HNk := Lib.hid (fun w' => HNx.out k w' hlt)
        have d0 := HCS.out wr hBw k hlt
        have d1 := HCS.out wr hBw _ hq
        have dl := cell_lt d0
        have bx := HBd.out k
        have by0 := HBd.out ((k + 1) % n)
        have HCnk := Lib.hid (HCn.out k _ _ rfl rfl)
        have HMk := Lib.hid (HM.out k)
        have HXk := Lib.hid (fun w' => HX.out k w' (-gz d k) (-gz d ((k + 1) % n)) (by omega) (by omega))
        have HBk := Lib.hid (fun h => HBad.out k hlt h)
        have HAk : Hid (vecB (F k).1 (F k).2 = true → ∀ j, j < k + 1 → vecB (F j).1 (F j).2 = true) := fun h j hj => by
          by_cases e : j = k
          · subst e; exact h
          · exact HAll.out j (by omega)
        generalize gz d ((k + 1) % n) = y at *
        generalize gz d k = x at *
        generalize (k + 1) % n = q at *
        generalize cyc l k = U at *
        generalize cyc l (k + 1) = V at *
        obtain ⟨ax, ay⟩ := U
        obtain ⟨bx', by'⟩ := V
        dsimp only at HCk HXk HCnk
        generalize hX : -x * by' - -y * ay = X at HXk HCnk
        generalize hY : -y * ax - -x * bx' = Y at HXk HCnk
        have q1 : IntKind.i64.wrap (-x) = -x := by rw [IntKind.wrap_i64]; omega
        have q2 : IntKind.i64.wrap (-y) = -y := by rw [IntKind.wrap_i64]; omega
        generalize hfk : F k = Z at *
        have HZk := Lib.hid hfk
        have hCn := HCnk.out
        subst hCn
        clear hX hY hfk HCnk HX HCn HBad HNx HC HCS HBd bx by0
        clear hB HN HE1 HV
        go_wp2
        refine wp_region_any (by kernel_rfl) ?_
        try (change wpAny _ _ _ _ _ _ _ (World.drew _))
        refine wpAny_of_held (S := fun w' => Below (wr.heap.size) wr w') _ _ _ _ ?_
        have hSw : Below (wr.heap.size) wr (World.drew wr) := by go_grown
        generalize World.drew wr = wd at hSw ⊢
        refine wpAnyH_take (i := 0) (v := ?_) rfl (by kernel_rfl) (by kernel_rfl) (by kernel_rfl) (fun _ _ _ h => h) (Or.inl ⟨by rfl, ?_⟩) hSw ?_
        rotate_left
        focus (intro w0 hS0; clear hS0; go_simp; try with_reducible rfl)
        refine wpAnyH_take (i := 1) (v := ?_) rfl (by kernel_rfl) (by kernel_rfl) (by kernel_rfl) (fun _ _ _ h => h) (Or.inl ⟨by rfl, ?_⟩) hSw ?_
        rotate_left
        focus (intro w0 hS0; clear hS0; go_simp; try with_reducible rfl)
        refine wpAnyH_take (i := 3) (v := ?_) rfl (by kernel_rfl) (by kernel_rfl) (by kernel_rfl) (fun _ _ _ h => h) (Or.inl ⟨by rfl, ?_⟩) hSw ?_
        rotate_left
        focus (intro w0 hS0; clear hS0; go_simp; try with_reducible rfl)
        refine wpAnyH_take (i := 4) (v := ?_) rfl (by kernel_rfl) (by kernel_rfl) (by kernel_rfl) (fun _ _ _ h => h) (Or.inl ⟨by rfl, ?_⟩) hSw ?_
        rotate_left
        focus (intro w0 hS0; clear hS0; go_simp; try with_reducible rfl)
        refine wpAnyH_take (i := 5) (v := ?_) rfl (by kernel_rfl) (by kernel_rfl) (by kernel_rfl) (fun _ _ _ h => h) (Or.inl ⟨by rfl, ?_⟩) hSw ?_
        rotate_left
        focus (intro w0 hS0; clear hS0; go_simp; try with_reducible rfl)
        refine wpAnyH_take (i := 6) (v := ?_) rfl (by kernel_rfl) (by kernel_rfl) (by kernel_rfl) (fun _ _ _ h => h) (Or.inl ⟨by rfl, ?_⟩) hSw ?_
        rotate_left
        focus (intro w0 hS0; have c0 := (hS0.cell (p := ⟨bb, off + k, none⟩) dl).trans d0; have c1 := (hS0.cell (p := ⟨bb, off + q, none⟩) dl).trans d1; clear hS0; go_simp; try with_reducible rfl)
        refine wpAnyH_take (i := 7) (v := ?_) rfl (by kernel_rfl) (by kernel_rfl) (by kernel_rfl) (fun _ _ _ h => h) (Or.inl ⟨by rfl, ?_⟩) hSw ?_
        rotate_left
        focus (intro w0 hS0; clear hS0; go_simp; try with_reducible rfl)
        refine wpAnyH_take (i := 8) (v := ?_) rfl (by kernel_rfl) (by kernel_rfl) (by kernel_rfl) (fun _ _ _ h => h) (Or.inl ⟨by rfl, ?_⟩) hSw ?_
        rotate_left
        focus (intro w0 hS0; clear hS0; go_simp; try with_reducible rfl)
        refine wpAnyH_take (i := 9) (v := ?_) rfl (by kernel_rfl) (by kernel_rfl) (by kernel_rfl) (fun _ _ _ h => h) (Or.inl ⟨by rfl, ?_⟩) hSw ?_
        rotate_left
        focus (intro w0 hS0; clear hS0; go_simp; try with_reducible rfl)
        refine wpAnyH_take (i := 10) (v := ?_) rfl (by kernel_rfl) (by kernel_rfl) (by kernel_rfl) (fun _ _ _ h => h) (Or.inl ⟨by rfl, ?_⟩) hSw ?_
        rotate_left
        focus (intro w0 hS0; clear hS0; go_simp; try with_reducible rfl)
        refine wpAnyH_ready (rs := [2, 16]) (by kernel_rfl) (by simp) (AllReadyH.cons rfl (fun K hK => ?_) (AllReadyH.cons rfl (fun K hK => ?_) (AllReadyH.nil)))
        focus
          go_simp
          (refine Calls.mono (HCk.out _ hSw) ?_; rintro e w2 ⟨rfl, hbX⟩;  replace hSw := belowTo hSw hbX; refine hK.out _ _ hSw (fun _ => ?_); clear hK K hbX)
          refine wpAnyH_ready (rs := [11, 16]) (by kernel_rfl) (by simp) (AllReadyH.cons rfl (fun K hK => ?_) (AllReadyH.cons rfl (fun K hK => ?_) (AllReadyH.nil)))
          focus
            go_simp
            (refine Calls.mono (HNk.out _) ?_; rintro e w3 ⟨rfl, hbX⟩;  replace hSw := belowTo hSw hbX; refine hK.out _ _ hSw (fun _ => ?_); clear hK K hbX)
            refine wpAnyH_take (i := 12) (v := ?_) rfl (by kernel_rfl) (by kernel_rfl) (by kernel_rfl) (fun _ _ _ h => h) (Or.inl ⟨by rfl, ?_⟩) hSw ?_
            rotate_left
            focus (intro w0 hS0; clear hS0; go_simp; try with_reducible rfl)
            refine wpAnyH_take (i := 13) (v := ?_) rfl (by kernel_rfl) (by kernel_rfl) (by kernel_rfl) (fun _ _ _ h => h) (Or.inl ⟨by rfl, ?_⟩) hSw ?_
            rotate_left
            focus (intro w0 hS0; have c0 := (hS0.cell (p := ⟨bb, off + k, none⟩) dl).trans d0; have c1 := (hS0.cell (p := ⟨bb, off + q, none⟩) dl).trans d1; clear hS0; go_simp; try with_reducible rfl)
            refine wpAnyH_take (i := 14) (v := ?_) rfl (by kernel_rfl) (by kernel_rfl) (by kernel_rfl) (fun _ _ _ h => h) (Or.inl ⟨by rfl, ?_⟩) hSw ?_
            rotate_left
            focus (intro w0 hS0; clear hS0; go_simp; try with_reducible rfl)
            refine wpAnyH_ready (rs := [15, 16]) (by kernel_rfl) (by simp) (AllReadyH.cons rfl (fun K hK => ?_) (AllReadyH.cons rfl (fun K hK => ?_) (AllReadyH.nil)))
            focus
              go_simp
              (refine Calls.mono (HXk.out _) ?_; rintro e w4 ⟨rfl, hbX⟩;  replace hSw := belowTo hSw hbX; refine hK.out _ _ hSw (fun _ => ?_); clear hK K hbX)
              refine wpAnyH_ready (rs := [16]) (by kernel_rfl) (by simp) (AllReadyH.cons rfl (fun K hK => ?_) (AllReadyH.nil))
              go_simp
              (have hSa : Below wr.heap.size wr (w4.alloc (.cells #[.int .i64 0, .int .i64 0] 42)) := hSw.alloc hSw.size _; have y0 : (w4.alloc (.cells #[.int .i64 0, .int .i64 0] 42)).cell? ⟨w4.heap.size, 0, none⟩ = some (.int .i64 0) := (by simp); have y1 : (w4.alloc (.cells #[.int .i64 0, .int .i64 0] 42)).cell? ⟨w4.heap.size, 1, none⟩ = some (.int .i64 0) := (by simp); have yf : ∀ o, (w4.alloc (.cells #[.int .i64 0, .int .i64 0] 42)).frozen? ⟨w4.heap.size, o, none⟩ = false := (fun o => by simp); have ya := hSw.size; replace hSw := hSa; clear hSa; refine hK.out _ _ hSw (fun _ => ?_); clear hK K; generalize w4.alloc (.cells #[.int .i64 0, .int .i64 0] 42) = wa at *; generalize w4.heap.size = Ba at *)
              refine wpAnyH_ready (rs := [17]) (by kernel_rfl) (by simp) (AllReadyH.cons rfl (fun K hK => ?_) (AllReadyH.nil))
              go_simp
              (have z0 := yf 0; have z1 := yf 1; have g0 : ((wa.setCell ⟨Ba, 0, none⟩ (.int .i64 X)).setCell ⟨Ba, 1, none⟩ (.int .i64 Y)).cell? ⟨Ba, 0, none⟩ = some (.int .i64 X) := (by first | (go_cell; done) | (go_simp; done) | (simp; done)); have g1 : ((wa.setCell ⟨Ba, 0, none⟩ (.int .i64 X)).setCell ⟨Ba, 1, none⟩ (.int .i64 Y)).cell? ⟨Ba, 1, none⟩ = some (.int .i64 Y) := (by first | (go_cell; done) | (go_simp; done) | (simp; done)); have hS5 : Below wr.heap.size wr ((wa.setCell ⟨Ba, 0, none⟩ (.int .i64 X)).setCell ⟨Ba, 1, none⟩ (.int .i64 Y)) := (hSw.setCell (p := ⟨Ba, 0, none⟩) ya _).setCell (p := ⟨Ba, 1, none⟩) ya _; refine hK.out _ _ hS5 (fun _ => ?_); clear hK K hSw y0 y1 yf z0 z1; generalize ((wa.setCell ⟨Ba, 0, none⟩ (.int .i64 X)).setCell ⟨Ba, 1, none⟩ (.int .i64 Y)) = w5 at *)
              refine wpAnyH_done (by kernel_rfl) ?_ _
            rotate_left 1
            focus
              go_simp
              (have hSa : Below wr.heap.size wr (w3.alloc (.cells #[.int .i64 0, .int .i64 0] 42)) := hSw.alloc hSw.size _; have y0 : (w3.alloc (.cells #[.int .i64 0, .int .i64 0] 42)).cell? ⟨w3.heap.size, 0, none⟩ = some (.int .i64 0) := (by simp); have y1 : (w3.alloc (.cells #[.int .i64 0, .int .i64 0] 42)).cell? ⟨w3.heap.size, 1, none⟩ = some (.int .i64 0) := (by simp); have yf : ∀ o, (w3.alloc (.cells #[.int .i64 0, .int .i64 0] 42)).frozen? ⟨w3.heap.size, o, none⟩ = false := (fun o => by simp); have ya := hSw.size; replace hSw := hSa; clear hSa; refine hK.out _ _ hSw (fun _ => ?_); clear hK K; generalize w3.alloc (.cells #[.int .i64 0, .int .i64 0] 42) = wa at *; generalize w3.heap.size = Ba at *)
              refine wpAnyH_ready (rs := [15]) (by kernel_rfl) (by simp) (AllReadyH.cons rfl (fun K hK => ?_) (AllReadyH.nil))
              go_simp
              (refine Calls.mono (HXk.out _) ?_; rintro e w4 ⟨rfl, hbX⟩; replace y1 := (hbX.cell (p := ⟨Ba, 1, none⟩) (cell_lt y0)).trans y1; replace yf := (fun o => (hbX.frozen (p := ⟨Ba, o, none⟩) (cell_lt y0)).trans (yf o)); replace y0 := (hbX.cell (p := ⟨Ba, 0, none⟩) (cell_lt y0)).trans y0; replace hSw := belowTo hSw hbX; refine hK.out _ _ hSw (fun _ => ?_); clear hK K hbX)
              refine wpAnyH_ready (rs := [17]) (by kernel_rfl) (by simp) (AllReadyH.cons rfl (fun K hK => ?_) (AllReadyH.nil))
              go_simp
              (have z0 := yf 0; have z1 := yf 1; have g0 : ((w4.setCell ⟨Ba, 0, none⟩ (.int .i64 X)).setCell ⟨Ba, 1, none⟩ (.int .i64 Y)).cell? ⟨Ba, 0, none⟩ = some (.int .i64 X) := (by first | (go_cell; done) | (go_simp; done) | (simp; done)); have g1 : ((w4.setCell ⟨Ba, 0, none⟩ (.int .i64 X)).setCell ⟨Ba, 1, none⟩ (.int .i64 Y)).cell? ⟨Ba, 1, none⟩ = some (.int .i64 Y) := (by first | (go_cell; done) | (go_simp; done) | (simp; done)); have hS5 : Below wr.heap.size wr ((w4.setCell ⟨Ba, 0, none⟩ (.int .i64 X)).setCell ⟨Ba, 1, none⟩ (.int .i64 Y)) := (hSw.setCell (p := ⟨Ba, 0, none⟩) ya _).setCell (p := ⟨Ba, 1, none⟩) ya _; refine hK.out _ _ hS5 (fun _ => ?_); clear hK K hSw y0 y1 yf z0 z1; generalize ((w4.setCell ⟨Ba, 0, none⟩ (.int .i64 X)).setCell ⟨Ba, 1, none⟩ (.int .i64 Y)) = w5 at *)
              refine wpAnyH_done (by kernel_rfl) ?_ _
          rotate_left 2
          focus
            go_simp
            (have hSa : Below wr.heap.size wr (w2.alloc (.cells #[.int .i64 0, .int .i64 0] 42)) := hSw.alloc hSw.size _; have y0 : (w2.alloc (.cells #[.int .i64 0, .int .i64 0] 42)).cell? ⟨w2.heap.size, 0, none⟩ = some (.int .i64 0) := (by simp); have y1 : (w2.alloc (.cells #[.int .i64 0, .int .i64 0] 42)).cell? ⟨w2.heap.size, 1, none⟩ = some (.int .i64 0) := (by simp); have yf : ∀ o, (w2.alloc (.cells #[.int .i64 0, .int .i64 0] 42)).frozen? ⟨w2.heap.size, o, none⟩ = false := (fun o => by simp); have ya := hSw.size; replace hSw := hSa; clear hSa; refine hK.out _ _ hSw (fun _ => ?_); clear hK K; generalize w2.alloc (.cells #[.int .i64 0, .int .i64 0] 42) = wa at *; generalize w2.heap.size = Ba at *)
            refine wpAnyH_ready (rs := [11]) (by kernel_rfl) (by simp) (AllReadyH.cons rfl (fun K hK => ?_) (AllReadyH.nil))
            go_simp
            (refine Calls.mono (HNk.out _) ?_; rintro e w3 ⟨rfl, hbX⟩; replace y1 := (hbX.cell (p := ⟨Ba, 1, none⟩) (cell_lt y0)).trans y1; replace yf := (fun o => (hbX.frozen (p := ⟨Ba, o, none⟩) (cell_lt y0)).trans (yf o)); replace y0 := (hbX.cell (p := ⟨Ba, 0, none⟩) (cell_lt y0)).trans y0; replace hSw := belowTo hSw hbX; refine hK.out _ _ hSw (fun _ => ?_); clear hK K hbX)
            refine wpAnyH_take (i := 12) (v := ?_) rfl (by kernel_rfl) (by kernel_rfl) (by kernel_rfl) (fun _ _ _ h => h) (Or.inl ⟨by rfl, ?_⟩) hSw ?_
            rotate_left
            focus (intro w0 hS0; clear hS0; go_simp; try with_reducible rfl)
            refine wpAnyH_take (i := 13) (v := ?_) rfl (by kernel_rfl) (by kernel_rfl) (by kernel_rfl) (fun _ _ _ h => h) (Or.inl ⟨by rfl, ?_⟩) hSw ?_
            rotate_left
            focus (intro w0 hS0; have c0 := (hS0.cell (p := ⟨bb, off + k, none⟩) dl).trans d0; have c1 := (hS0.cell (p := ⟨bb, off + q, none⟩) dl).trans d1; clear hS0; go_simp; try with_reducible rfl)
            refine wpAnyH_take (i := 14) (v := ?_) rfl (by kernel_rfl) (by kernel_rfl) (by kernel_rfl) (fun _ _ _ h => h) (Or.inl ⟨by rfl, ?_⟩) hSw ?_
            rotate_left
            focus (intro w0 hS0; clear hS0; go_simp; try with_reducible rfl)
            refine wpAnyH_ready (rs := [15]) (by kernel_rfl) (by simp) (AllReadyH.cons rfl (fun K hK => ?_) (AllReadyH.nil))
            go_simp
            (refine Calls.mono (HXk.out _) ?_; rintro e w4 ⟨rfl, hbX⟩; replace y1 := (hbX.cell (p := ⟨Ba, 1, none⟩) (cell_lt y0)).trans y1; replace yf := (fun o => (hbX.frozen (p := ⟨Ba, o, none⟩) (cell_lt y0)).trans (yf o)); replace y0 := (hbX.cell (p := ⟨Ba, 0, none⟩) (cell_lt y0)).trans y0; replace hSw := belowTo hSw hbX; refine hK.out _ _ hSw (fun _ => ?_); clear hK K hbX)
            refine wpAnyH_ready (rs := [17]) (by kernel_rfl) (by simp) (AllReadyH.cons rfl (fun K hK => ?_) (AllReadyH.nil))
            go_simp
            (have z0 := yf 0; have z1 := yf 1; have g0 : ((w4.setCell ⟨Ba, 0, none⟩ (.int .i64 X)).setCell ⟨Ba, 1, none⟩ (.int .i64 Y)).cell? ⟨Ba, 0, none⟩ = some (.int .i64 X) := (by first | (go_cell; done) | (go_simp; done) | (simp; done)); have g1 : ((w4.setCell ⟨Ba, 0, none⟩ (.int .i64 X)).setCell ⟨Ba, 1, none⟩ (.int .i64 Y)).cell? ⟨Ba, 1, none⟩ = some (.int .i64 Y) := (by first | (go_cell; done) | (go_simp; done) | (simp; done)); have hS5 : Below wr.heap.size wr ((w4.setCell ⟨Ba, 0, none⟩ (.int .i64 X)).setCell ⟨Ba, 1, none⟩ (.int .i64 Y)) := (hSw.setCell (p := ⟨Ba, 0, none⟩) ya _).setCell (p := ⟨Ba, 1, none⟩) ya _; refine hK.out _ _ hS5 (fun _ => ?_); clear hK K hSw y0 y1 yf z0 z1; generalize ((w4.setCell ⟨Ba, 0, none⟩ (.int .i64 X)).setCell ⟨Ba, 1, none⟩ (.int .i64 Y)) = w5 at *)
            refine wpAnyH_done (by kernel_rfl) ?_ _
        rotate_left 3
        focus
          go_simp
          (have hSa : Below wr.heap.size wr (wd.alloc (.cells #[.int .i64 0, .int .i64 0] 42)) := hSw.alloc hSw.size _; have y0 : (wd.alloc (.cells #[.int .i64 0, .int .i64 0] 42)).cell? ⟨wd.heap.size, 0, none⟩ = some (.int .i64 0) := (by simp); have y1 : (wd.alloc (.cells #[.int .i64 0, .int .i64 0] 42)).cell? ⟨wd.heap.size, 1, none⟩ = some (.int .i64 0) := (by simp); have yf : ∀ o, (wd.alloc (.cells #[.int .i64 0, .int .i64 0] 42)).frozen? ⟨wd.heap.size, o, none⟩ = false := (fun o => by simp); have ya := hSw.size; replace hSw := hSa; clear hSa; refine hK.out _ _ hSw (fun _ => ?_); clear hK K; generalize wd.alloc (.cells #[.int .i64 0, .int .i64 0] 42) = wa at *; generalize wd.heap.size = Ba at *)
          refine wpAnyH_ready (rs := [2]) (by kernel_rfl) (by simp) (AllReadyH.cons rfl (fun K hK => ?_) (AllReadyH.nil))
          go_simp
          (refine Calls.mono (HCk.out _ hSw) ?_; rintro e w2 ⟨rfl, hbX⟩; replace y1 := (hbX.cell (p := ⟨Ba, 1, none⟩) (cell_lt y0)).trans y1; replace yf := (fun o => (hbX.frozen (p := ⟨Ba, o, none⟩) (cell_lt y0)).trans (yf o)); replace y0 := (hbX.cell (p := ⟨Ba, 0, none⟩) (cell_lt y0)).trans y0; replace hSw := belowTo hSw hbX; refine hK.out _ _ hSw (fun _ => ?_); clear hK K hbX)
          refine wpAnyH_ready (rs := [11]) (by kernel_rfl) (by simp) (AllReadyH.cons rfl (fun K hK => ?_) (AllReadyH.nil))
          go_simp
          (refine Calls.mono (HNk.out _) ?_; rintro e w3 ⟨rfl, hbX⟩; replace y1 := (hbX.cell (p := ⟨Ba, 1, none⟩) (cell_lt y0)).trans y1; replace yf := (fun o => (hbX.frozen (p := ⟨Ba, o, none⟩) (cell_lt y0)).trans (yf o)); replace y0 := (hbX.cell (p := ⟨Ba, 0, none⟩) (cell_lt y0)).trans y0; replace hSw := belowTo hSw hbX; refine hK.out _ _ hSw (fun _ => ?_); clear hK K hbX)
          refine wpAnyH_take (i := 12) (v := ?_) rfl (by kernel_rfl) (by kernel_rfl) (by kernel_rfl) (fun _ _ _ h => h) (Or.inl ⟨by rfl, ?_⟩) hSw ?_
          rotate_left
          focus (intro w0 hS0; clear hS0; go_simp; try with_reducible rfl)
          refine wpAnyH_take (i := 13) (v := ?_) rfl (by kernel_rfl) (by kernel_rfl) (by kernel_rfl) (fun _ _ _ h => h) (Or.inl ⟨by rfl, ?_⟩) hSw ?_
          rotate_left
          focus (intro w0 hS0; have c0 := (hS0.cell (p := ⟨bb, off + k, none⟩) dl).trans d0; have c1 := (hS0.cell (p := ⟨bb, off + q, none⟩) dl).trans d1; clear hS0; go_simp; try with_reducible rfl)
          refine wpAnyH_take (i := 14) (v := ?_) rfl (by kernel_rfl) (by kernel_rfl) (by kernel_rfl) (fun _ _ _ h => h) (Or.inl ⟨by rfl, ?_⟩) hSw ?_
          rotate_left
          focus (intro w0 hS0; clear hS0; go_simp; try with_reducible rfl)
          refine wpAnyH_ready (rs := [15]) (by kernel_rfl) (by simp) (AllReadyH.cons rfl (fun K hK => ?_) (AllReadyH.nil))
          go_simp
          (refine Calls.mono (HXk.out _) ?_; rintro e w4 ⟨rfl, hbX⟩; replace y1 := (hbX.cell (p := ⟨Ba, 1, none⟩) (cell_lt y0)).trans y1; replace yf := (fun o => (hbX.frozen (p := ⟨Ba, o, none⟩) (cell_lt y0)).trans (yf o)); replace y0 := (hbX.cell (p := ⟨Ba, 0, none⟩) (cell_lt y0)).trans y0; replace hSw := belowTo hSw hbX; refine hK.out _ _ hSw (fun _ => ?_); clear hK K hbX)
          refine wpAnyH_ready (rs := [17]) (by kernel_rfl) (by simp) (AllReadyH.cons rfl (fun K hK => ?_) (AllReadyH.nil))
          go_simp
          (have z0 := yf 0; have z1 := yf 1; have g0 : ((w4.setCell ⟨Ba, 0, none⟩ (.int .i64 X)).setCell ⟨Ba, 1, none⟩ (.int .i64 Y)).cell? ⟨Ba, 0, none⟩ = some (.int .i64 X) := (by first | (go_cell; done) | (go_simp; done) | (simp; done)); have g1 : ((w4.setCell ⟨Ba, 0, none⟩ (.int .i64 X)).setCell ⟨Ba, 1, none⟩ (.int .i64 Y)).cell? ⟨Ba, 1, none⟩ = some (.int .i64 Y) := (by first | (go_cell; done) | (go_simp; done) | (simp; done)); have hS5 : Below wr.heap.size wr ((w4.setCell ⟨Ba, 0, none⟩ (.int .i64 X)).setCell ⟨Ba, 1, none⟩ (.int .i64 Y)) := (hSw.setCell (p := ⟨Ba, 0, none⟩) ya _).setCell (p := ⟨Ba, 1, none⟩) ya _; refine hK.out _ _ hS5 (fun _ => ?_); clear hK K hSw y0 y1 yf z0 z1; generalize ((w4.setCell ⟨Ba, 0, none⟩ (.int .i64 X)).setCell ⟨Ba, 1, none⟩ (.int .i64 Y)) = w5 at *)
          refine wpAnyH_done (by kernel_rfl) ?_ _
        all_goals
          have hIv := HI.out.below hS5
          have hA5 := hBw.trans (Below.mono hS5 hBw.size)
          have gl := cell_lt g0
          cases hz : vecB X Y
          · have HF := Lib.hid (HBk.out hz)
            have HV2 := Lib.hid (fun w' => HVi.out X Y w')
            rw [hz] at HV2
            have HE2 := Lib.hid (fun w' => Vecs.empty0 w')
            clear hz HBk HAk HAll HI hIv HMk HGood HZ
            go_wp2_with fail
            refine Calls.mono (HV2.out _) ?_
            rintro e w6 ⟨rfl, hb6⟩
            have hA6 := belowTo hA5 hb6
            have HE3 := Lib.hid ((HE2.out w6).lower hA6.size)
            have hs6 := hA6.size
            clear hb6 g0 g1
            go_wp2
            go_returns
            rw [HF.out]
            exact ⟨_, rfl, HE3.out, by go_grown⟩
          · have HV2 := Lib.hid (fun w' => HVi.out X Y w')
            rw [hz] at HV2
            have HAk2 := Lib.hid (HAk.out hz)
            have hkl : ((List.range k).map F).length = k := by simp
            have HIv := Lib.hid hIv
            clear hz HBk HAk HAll HI hIv HGood HZ
            go_wp2_with fail
            refine Calls.mono (HV2.out _) ?_
            rintro e w6 ⟨rfl, hb6⟩
            have hB6 := belowTo hA5 hb6
            have hown := HIv.out.below hb6
            unfold Vecs VRow at hown
            rw [hkl] at hown
            have g0' := (hb6.cell (p := ⟨Ba, 0, none⟩) gl).trans g0
            have g1' := (hb6.cell (p := ⟨Ba, 1, none⟩) gl).trans g1
            have hbs := hB6.size
            clear hb6 g0 g1 HIv HV2
            go_wp2_with (at_builtin; refine wpList_append_own_at _ rfl _ _ 27 rfl w.heap.size 42 i0 (.agg #[.int .i64 (0), .int .i64 (0)]) 2 16 Tryz.underlying27 hi hz0 hz1 hz2 rfl (by decide) _ _ _ rfl (hown.alloc _) ⟨w6.heap.size, 0, none⟩ 1 1 [.int .i64 X, .int .i64 Y] rfl rfl ?c1 ?c2 ?c3 ?c4 ?c5 ?_)
            case c1 =>
              intro j u hj
              match j, hj with
              | 0, hj => simp at hj; subst hj; simp [Addr.add]
              | 1, hj => simp at hj; subst hj; simp [Addr.add]
            case c2 => intro u hu; simp at hu; rcases hu with rfl | rfl <;> rfl
            case c3 => unfold maxLen; omega
            case c4 => omega
            case c5 => simp; omega
            intro v' w7 hown' hgrow _ _
            have hB7 : Below w.heap.size w w7 := (hB6.alloc hbs _).grown hgrow (by simp; omega) (fun k hk => (hown.lt k hk).1)
            have HVk := Lib.hid (Vecs.snoc (l := (List.range k).map F) hkl.symm hown')
            rw [← HMk.out] at HVk
            clear hown' hgrow hown hB6
            go_wp2
            go_roundw
            case rel => exact ⟨k + 1, by omega, by go_num, HVk, HAk2, hB7⟩
            case measure => simp [intOf]; omega
      · obtain rfl : k = n := by omega
        have i2 : ¬ (k : Int) < (k : Int) := by omega
        have HF := Lib.hid (HGood.out (fun j hj => HAll.out j hj))
        have hI2 := HI.out
        rw [← HZ.out] at hI2
        have HI2 := Lib.hid hI2
        clear hI2
        go_wp2
        go_returns
        rw [HF.out]
        exact ⟨_, rfl, HI2.out, hBw⟩
theorem cornDB_in {l : List V2} {d : List Int} (h : cornDB l d = true) : divB l d = true ∧ allV (cornL l d) = true := by
  unfold cornDB nefDB at h
  simp only [Bool.and_eq_true] at h
  exact ⟨h.1.1, h.2⟩
set_option maxRecDepth 100000 in
set_option maxHeartbeats 16000000 in
theorem specSectionArea_any (v : Value) (l : List V2) (u : Value) (d : List Int) (w : World) (hl : ReadsVecs w v l) (hd : ReadsInts w u d) :
    Calls Tryz.prog 19 #[v, u] w fun e w' => e = .returned (.tuple #[.int .i64 (gate (cornDB l d) (areaZ (cornL l d))), .bool (cornDB l d)]) ∧ Below w.heap.size w w' := by
  have HO := Lib.hid (specSectionCorners_any v l u d w hl hd)
  obtain ⟨va, vc, rfl, _⟩ := hl
  obtain ⟨a, c, rfl, _⟩ := hd.len
  clear hd
  cases hk : cornDB l d
  · rw [hk] at HO
    have HO2 : Hid (Calls Tryz.prog 16 #[.slice va l.length vc, .slice a d.length c] w (GivesVecsOk w [] false)) := HO.out
    clear hk HO
    go_enter Tryz.func19, Tryz.ntmps19
    go_wp2_with fail
    refine Calls.mono HO2.out ?_
    rintro e w1 ⟨v1, rfl, hI, hb1⟩
    obtain ⟨n1, a1, c1, rfl⟩ : ∃ n1 a1 c1, v1 = .slice a1 n1 c1 := by
      rcases hI.reads (by simp) with ⟨a1, c1, rfl, _⟩
      exact ⟨_, a1, c1, rfl⟩
    have hn : n1 = 0 := by
      rcases hI.reads (by simp) with ⟨a1, c1, h, _⟩
      injection h
    subst hn
    clear hI
    go_wp2
    go_loop [8, 9] (fun s8 s9 => s8 = .int .i64 0 ∧ s9 = .int .i64 0) (fun _ _ => 0)
    case atStart => exact ⟨rfl, rfl⟩
    case round =>
      obtain ⟨rfl, rfl⟩ := hrel
      go_wp2
      go_returns
      exact ⟨rfl, hb1⟩
  · rw [hk] at HO
    have HO2 : Hid (Calls Tryz.prog 16 #[.slice va l.length vc, .slice a d.length c] w (GivesVecsOk w (cornL l d) true)) := HO.out
    have ha := (cornDB_in hk).2
    have h0 : 0 < (cornL l d).length := by rw [corn_len]; have := div_len (cornDB_in hk).1; omega
    have hm : (cornL l d).length ≤ 1000 := by rw [corn_len]; have := div_len (cornDB_in hk).1; omega
    have HA := Lib.hid (fun k hk => allV_at (l := cornL l d) ha (k := k) hk)
    have HD := Lib.hid (fun x1 y1 x2 y2 w' h1 h2 => l1Det_any x1 y1 x2 y2 w' h1 h2)
    have HT := Lib.hid (fun i => area_terms ha h0 i)
    have HBd := Lib.hid (fun k (hk : k ≤ 1000) => area_bnd ha h0 hk)
    have HSu : Hid (∀ k, sumZ (fun i => detV (cyc (cornL l d) i) (cyc (cornL l d) (i + 1))) (k + 1) = sumZ (fun i => detV (cyc (cornL l d) i) (cyc (cornL l d) (i + 1))) k + detV (cyc (cornL l d) k) (cyc (cornL l d) (k + 1))) := fun _ => rfl
    have H00 : Hid (sumZ (fun i => detV (cyc (cornL l d) i) (cyc (cornL l d) (i + 1))) 0 = 0) := rfl
    unfold areaZ
    clear HO hk ha
    generalize hQ : cornL l d = L at *
    clear hQ
    generalize sumZ (fun i => detV (cyc L i) (cyc L (i + 1))) = S at *
    go_enter Tryz.func19, Tryz.ntmps19
    go_wp2_with fail
    refine Calls.mono HO2.out ?_
    rintro e w1 ⟨v1, rfl, hI, hb1⟩
    have hR := hI.reads (by omega)
    obtain ⟨bv, ov, vc1, rfl, _, _, hbv, hvs⟩ := hR.open h0
    have HVS := Lib.hid hvs
    have hw1 := hb1.size
    clear hI hvs hR HO2
    go_wp2
    go_loopw [8, 9] (fun s8 s9 wr => ∃ k : Nat, k ≤ L.length ∧ s8 = .int .i64 (S k) ∧ s9 = .int .i64 k ∧ Below w1.heap.size w1 wr) (fun _ s9 _ => L.length - (intOf s9).toNat)
    case atStart => exact ⟨0, Nat.zero_le _, by rw [H00.out], rfl, Below.refl _ _⟩
    case round =>
      obtain ⟨k, hk, rfl, rfl, hB⟩ := hrel
      have i1 : (0 : Int) ≤ (k : Int) := by omega
      by_cases hlt : k < L.length
      · have i2 : (k : Int) < (L.length : Int) := by omega
        have hq : (k + 1) % L.length < L.length := Nat.mod_lt _ h0
        have j3 : (0 : Int) ≤ (((k + 1) % L.length : Nat) : Int) := by omega
        have j4 : (((k + 1) % L.length : Nat) : Int) < (L.length : Int) := by omega
        have j5 : ¬ (L.length : Int) = 0 := by omega
        have j6 : ((L.length : Int) == 0) = false := by simpa using j5
        have j7 : ¬ L.length = 0 := by omega
        have t2 := next_is k L.length
        obtain ⟨c0, c1⟩ := HVS.out wr hB k hlt
        obtain ⟨d0, d1⟩ := HVS.out wr hB _ hq
        rw [cyc_mod] at d0 d1
        have v0 := HA.out k hlt
        have v1 := HA.out _ hq
        rw [cyc_mod] at v1
        have b1 := HBd.out k (by omega)
        have b2 := HT.out k
        have HSk := Lib.hid (HSu.out k)
        unfold detV at HSk b2
        have HDk := Lib.hid (fun w' => HD.out _ _ _ _ w' v0 v1)
        have q0 : IntKind.i64.wrap ((k : Int) + 1) = (k : Int) + 1 := by rw [IntKind.wrap_i64]; omega
        generalize hz : detZ (cyc L k).1 (cyc L k).2 (cyc L (k + 1)).1 (cyc L (k + 1)).2 = z at HSk b2 HDk
        have q1 : IntKind.i64.wrap (S k + z) = S k + z := by rw [IntKind.wrap_i64]; omega
        generalize cyc L k = V at *
        generalize cyc L (k + 1) = U at *
        obtain ⟨x1, y1⟩ := V
        obtain ⟨x2, y2⟩ := U
        dsimp only at c0 c1 d0 d1 HDk
        generalize (k + 1) % L.length = q at *
        have hs := hB.size
        have t0 := cell_lt c0
        generalize wr = W3 at *
        clear hz v0 v1 HA HD HT HBd HSu H00 HVS b1 b2
        go_wp2
        go_region_held3 (fun w' => w'.cell? ⟨bv, ov + k * 2, none⟩ = some (.int .i64 (x1)) ∧ w'.cell? ⟨bv, ov + k * 2 + 1, none⟩ = some (.int .i64 (y1)) ∧ w'.cell? ⟨bv, ov + q * 2, none⟩ = some (.int .i64 (x2)) ∧ w'.cell? ⟨bv, ov + q * 2 + 1, none⟩ = some (.int .i64 (y2)) ∧ Below (W3.heap.size) W3 w') ((go_split_ands; refine ⟨by (first | (with_reducible assumption) | (go_keep; done) | (go_cell; done) | (go_simp; done) | (simp [*]; done)), by (first | (with_reducible assumption) | (go_keep; done) | (go_cell; done) | (go_simp; done) | (simp [*]; done)), by (first | (with_reducible assumption) | (go_keep; done) | (go_cell; done) | (go_simp; done) | (simp [*]; done)), by (first | (with_reducible assumption) | (go_keep; done) | (go_cell; done) | (go_simp; done) | (simp [*]; done)), by first | (with_reducible assumption) | (go_grown; done)⟩)) (first | (go_at_call 35; go_call (HDk.out _) as e w1 ⟨rfl, hb0⟩; go_split_ands; have q0 : w1.cell? ⟨bv, ov + k * 2, none⟩ = some (.int .i64 (x1)) := (hb0.cell (p := ⟨bv, ov + k * 2, none⟩) (by first | (with_reducible assumption) | (go_size; done) | (simp; omega))).trans (by first | (with_reducible assumption) | (go_keep; done) | (go_cell; done) | (go_simp; done) | (simp [*]; done)); have q1 : w1.cell? ⟨bv, ov + k * 2 + 1, none⟩ = some (.int .i64 (y1)) := (hb0.cell (p := ⟨bv, ov + k * 2 + 1, none⟩) (by first | (with_reducible assumption) | (go_size; done) | (simp; omega))).trans (by first | (with_reducible assumption) | (go_keep; done) | (go_cell; done) | (go_simp; done) | (simp [*]; done)); have q2 : w1.cell? ⟨bv, ov + q * 2, none⟩ = some (.int .i64 (x2)) := (hb0.cell (p := ⟨bv, ov + q * 2, none⟩) (by first | (with_reducible assumption) | (go_size; done) | (simp; omega))).trans (by first | (with_reducible assumption) | (go_keep; done) | (go_cell; done) | (go_simp; done) | (simp [*]; done)); have q3 : w1.cell? ⟨bv, ov + q * 2 + 1, none⟩ = some (.int .i64 (y2)) := (hb0.cell (p := ⟨bv, ov + q * 2 + 1, none⟩) (by first | (with_reducible assumption) | (go_size; done) | (simp; omega))).trans (by first | (with_reducible assumption) | (go_keep; done) | (go_cell; done) | (go_simp; done) | (simp [*]; done)); have hs0 : bv < w1.heap.size := Nat.lt_of_lt_of_le (by first | (with_reducible assumption) | (go_size; done) | (simp; omega)) hb0.size; have hT : Below (W3.heap.size) W3 w1 := Below.trans (by first | (with_reducible assumption) | (go_grown; done)) (hb0.mono (by first | (with_reducible assumption) | (go_size; done) | (simp; omega) | omega)); have hTs := hT.size; (try have hT2 : Below W3.heap.size W3 w1 := belowTo (by first | (with_reducible assumption) | (go_grown; done)) hb0); clear hb0))
        have hBk := hB.trans (hT.mono hs)
        go_wp2
        go_roundw
        case rel => exact ⟨k + 1, by omega, by rw [HSk.out], by go_num, hBk⟩
        case measure => simp [intOf]; omega
      · obtain rfl : k = L.length := by omega
        have i2 : ¬ ((L.length : Nat) : Int) < (L.length : Int) := by omega
        have hBk := hb1.trans (hB.mono hw1)
        go_wp2
        go_returns
        exact ⟨rfl, hBk⟩
end Go.Proofs.YtcieihbknfeddabGreatDoor
