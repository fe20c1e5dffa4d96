/- l6gHalf: one half of a hull: the model. -/
import Derived.Test.YtgaeibibeekclaaDoorYj
namespace Go.Proofs.YtgaeibibeekclaaDoor
open Go.RowKit

theorem Vecs.short {w : World} {b g n c : Nat} {l : List V2} {x : V2} (h : Vecs w b (.slice (some ⟨g, 0, none⟩) (n + 1) c) (l ++ [x])) (hn : n = l.length) : Vecs w b (.slice (some ⟨g, 0, none⟩) n c) l := by
  subst hn
  unfold Vecs VRow at *
  rw [List.length_append, flat_app] at h
  obtain ⟨h1, h2⟩ := h
  refine ⟨by have := flatV_len l; exact this, ?_⟩
  rcases h2 with ⟨h3, _⟩ | ⟨g', cap, cur, e, h3, h4, h5, h6, h7, h8⟩
  · simp at h3
  · obtain ⟨rfl, rfl⟩ : g = g' ∧ c = cap := by
      simp only [Value.slice.injEq, Option.some.injEq, Addr.mk.injEq] at e
      exact ⟨e.1.1, e.2.2⟩
    refine .inr ⟨g, c, cur, rfl, h3, h4, by simp at h5; omega, h6, h7, ?_⟩
    have e2 : intsV (flat l ++ flat [x]) = intsV (flat l) ++ intsV (flat [x]) := by simp [intsV]
    rw [e2] at h8
    have h9 := congrArg (List.take (l.length * 2)) h8
    rw [List.take_take, Nat.min_eq_left (by simp; omega), List.take_append_of_le_length (by rw [flatV_len]; exact Nat.le_refl _), List.take_of_length_le (l := intsV (flat l)) (by rw [flatV_len]; exact Nat.le_refl _)] at h9
    exact h9
theorem Vecs.rowC' {w : World} {b g n c : Nat} {l : List V2} (h : Vecs w b (.slice (some ⟨g, 0, none⟩) n c) l) : RowC w g (cyc l) l.length := by
  have hn : n = l.length := by
    rcases h.2 with ⟨_, h2⟩ | ⟨g', cap, cur, e, _⟩
    · simp_all
    · simp only [Value.slice.injEq] at e
      exact e.2.1
  rw [hn] at h
  exact h.rowC
def lenS : Value → Nat
  | .slice _ n _ => n
  | _ => 0
theorem pair_cells2 (W : World) (X Y : Int) (t : TypeId) : ∀ j u, [Value.int .i64 X, Value.int .i64 Y][j]? = some u → (W.alloc (.cells #[.int .i64 X, .int .i64 Y] t)).cell? ((⟨W.heap.size, 0, none⟩ : Addr).add j) = some u := by
  intro j u hj
  match j, hj with
  | 0, hj => simp at hj; subst hj; simp [Addr.add]
  | 1, hj => simp at hj; subst hj; simp [Addr.add]
theorem pair_one2 (X Y : Int) : ∀ u ∈ [Value.int .i64 X, Value.int .i64 Y], u.oneCell' = true := by
  intro u hu
  simp at hu
  rcases hu with rfl | rfl <;> rfl
def small5 (u : V2) : Prop := (-500 ≤ u.1 ∧ u.1 ≤ 500) ∧ -500 ≤ u.2 ∧ u.2 ≤ 500
set_option maxRecDepth 100000 in
set_option maxHeartbeats 8000000 in
theorem l6gHalf_any (v : Value) (l : List V2) (w : World) (hl : ReadsVecs w v l) (h0 : 0 < l.length) (hm : l.length ≤ 1000) (hv : ∀ x ∈ l, small5 x) :
    Calls Tryd.prog 80 #[v] w (GivesVecs w (halfH l).reverse) := by
  obtain ⟨i0, hi, hz0, hz1, hz2⟩ := info_parts infoVec
  obtain ⟨bb, off, c, rfl, _, _, hbb, hcs⟩ := hl.open h0
  have HCl := Lib.hid hcs
  have HSm : Hid (∀ x ∈ l, small5 x) := hv
  have HEm := Lib.hid (Vecs.empty w)
  have HDn : Hid ((l.take l.length).foldl pushH [] = halfH l) := by show _ = _; rw [List.take_of_length_le (Nat.le_refl _)]; rfl
  have HStp : Hid (∀ k, k < l.length → (l.take (k + 1)).foldl pushH [] = pushH ((l.take k).foldl pushH []) (cyc l k)) := fun k hk => by rw [take_cyc hk, List.foldl_append]; rfl
  have HMem : Hid (∀ k x, x ∈ (l.take k).foldl pushH [] → x ∈ l) := fun k x hx => by
    rcases fold_mem _ _ _ hx with h | h
    · cases h
    · exact List.mem_of_mem_take h
  have HLen : Hid (∀ k, ((l.take k).foldl pushH []).length ≤ k) := fun k => by
    have := fold_len (l.take k) []
    simp only [List.length_nil, List.length_take] at this
    show _ ≤ _
    omega
  clear hl hcs hv
  go_enter Tryd.func80, Tryd.ntmps80
  go_wp2
  go_loopw [3, 4] (fun s3 s4 wr => ∃ (k gg cc : Nat) (st : List V2), k ≤ l.length ∧ s3 = .slice (some ⟨gg, 0, none⟩) st.length cc ∧ s4 = .int .i64 k ∧ Hid (st = (l.take k).foldl pushH []) ∧ Hid (Vecs wr w.heap.size (.slice (some ⟨gg, 0, none⟩) st.length cc) st.reverse) ∧ Below w.heap.size w wr) (fun _ s4 _ => l.length - (intOf s4).toNat)
  case atStart => exact ⟨0, w.heap.size, 0, [], Nat.zero_le _, rfl, rfl, rfl, HEm.out, by go_grown⟩
  case round =>
    obtain ⟨k, gg, cc, st, hk, rfl, rfl, HS, HV, hB⟩ := hrel
    have i1 : (0 : Int) ≤ (k : Int) := by omega
    by_cases hlt : k < l.length
    · have i2 : (k : Int) < (l.length : Int) := by omega
      have hsk : st.length ≤ k := by rw [HS.out]; exact HLen.out k
      have HMb : Hid (∀ x ∈ st, small5 x) := fun x hx => HSm.out x (HMem.out k x (by rw [← HS.out]; exact hx))
      have HN1 := Lib.hid (HStp.out k hlt)
      rw [← HS.out] at HN1
      have hq := HSm.out _ (cyc_mem h0 k)
      have HB := Lib.hid hB
      have HCk := Lib.hid (fun W hW => HCl.out W hW k hlt)
      generalize cyc l k = z at *
      obtain ⟨x, y⟩ := z
      dsimp only at HCk
      clear HStp HMem HLen hB HEm
      go_upto_region 5 with fail
      go_wp2_with fail
      rename_i K hK
      have HK : Hid (∀ (wr' : World) (st' : List V2) (u6 u7 u8 u9 u10 u11 u12 u13 u14 u15 u16 u17 u18 u19 u20 u21 u22 u23 u24 u25 u26 u27 u28 u29 u30 u31 u32 u33 u34 u35 u36 u37 u38 u39 u40 u41 u42 u43 u44 u45 u46 u47 u48 u49 u50 u51 u52 u53 u54 : Value), Hid (pushH st (x, y) = (x, y) :: st') → Hid (Vecs wr' w.heap.size (.slice (some ⟨gg, 0, none⟩) st'.length cc) st'.reverse) → Below w.heap.size w wr' → st'.length ≤ 1000 →
          K { tmps := #[.slice (some ⟨bb, off, none⟩) l.length c, undef, .slice none 0 0, .slice (some ⟨gg, 0, none⟩) st'.length cc, .int .i64 (k : Int), .slice (some ⟨w.heap.size, 0, none⟩) 0 0, u6, u7, u8, u9, u10, u11, u12, u13, u14, u15, u16, u17, u18, u19, u20, u21, u22, u23, u24, u25, u26, u27, u28, u29, u30, u31, u32, u33, u34, u35, u36, u37, u38, u39, u40, u41, u42, u43, u44, u45, u46, u47, u48, u49, u50, u51, u52, u53, u54, undef], defers := [] } wr') := by
        intro wr' st' u6 u7 u8 u9 u10 u11 u12 u13 u14 u15 u16 u17 u18 u19 u20 u21 u22 u23 u24 u25 u26 u27 u28 u29 u30 u31 u32 u33 u34 u35 u36 u37 u38 u39 u40 u41 u42 u43 u44 u45 u46 u47 u48 u49 u50 u51 u52 u53 u54 HPu HVz hBz h1000
        refine hK _ _ ?_
        clear hK
        obtain ⟨d0, d1⟩ := HCk.out _ hBz
        obtain ⟨n, hn⟩ : ∃ n, n = st'.length := ⟨_, rfl⟩
        rw [← hn] at HVz h1000 ⊢
        have HLn : Hid (st'.length = n) := hn.symm
        have hLr : (st'.reverse).length = n := by rw [List.length_reverse, hn]
        clear hn
        obtain ⟨RV, hRV⟩ : ∃ RV, RV = st'.reverse := ⟨_, rfl⟩
        have HRV := Lib.hid hRV
        rw [← hRV] at HVz hLr
        clear hRV
        have hown := HVz.out
        unfold Vecs VRow at hown
        rw [hLr] at hown
        have hbs := hBz.size
        clear HVz HMb HV HB HSm HCk HCl HDn hsk hq
        go_wp2_with (at_builtin; refine wpList_append_own_at _ rfl _ _ 23 rfl w.heap.size 31 i0 (.agg #[.int .i64 (0), .int .i64 (0)]) 2 16 Tryd.underlying23 hi hz0 hz1 hz2 rfl (by decide) _ _ _ rfl (World.ownsRow.alloc hown _) ⟨_, 0, none⟩ 1 1 [.int .i64 x, .int .i64 y] rfl rfl ?c1 (pair_one2 x y) ?c3 ?c4 ?c5 ?_)
        case c1 => exact pair_cells2 _ x y _
        case c3 => unfold maxLen; omega
        case c4 => omega
        case c5 => first | omega | (simp; omega)
        intro v' wz hown' hgrow _ _
        have HB5 := Lib.hid ((hBz.alloc hbs _).grown hgrow (by simp; omega) (fun k hk => (hown.lt k hk).1))
        obtain ⟨g2, cap2, rfl, _, _⟩ := World.ownsRow.form hown' (by omega)
        have HVv := Lib.hid (Vecs.snoc (l := RV) hLr.symm hown')
        rw [HRV.out, ← List.reverse_cons] at HVv
        clear hown' hgrow hown h1000 d0 d1 hBz hbs
        go_wp2
        go_roundw
        case rel => exact ⟨k + 1, g2, cap2, (x, y) :: st', by omega, by rw [List.length_cons, HLn.out], by go_num, by show _ = _; rw [HN1.out, HPu.out], by rw [List.length_cons, HLn.out]; exact HVv.out, HB5.out⟩
        case measure => simp [intOf]; omega
      clear hK
      go_loopw [3] (fun s3 wi => ∃ (st' pre : List V2), s3 = .slice (some ⟨gg, 0, none⟩) st'.length cc ∧ Hid (st = pre ++ st' ∧ pushH st (x, y) = pushH st' (x, y)) ∧ Hid (Vecs wi w.heap.size (.slice (some ⟨gg, 0, none⟩) st'.length cc) st'.reverse) ∧ Below w.heap.size w wi) (fun s3 _ => lenS s3)
      case atStart => exact ⟨st, [], rfl, ⟨rfl, rfl⟩, HV.out, HB.out⟩
      case round =>
        obtain ⟨st', pre, rfl, HP, HV', hBi⟩ := hrel
        have hle : st'.length ≤ st.length := by rw [HP.out.1]; simp
        have HMb' : Hid (∀ u ∈ st', small5 u) := fun u hu => HMb.out u (by rw [HP.out.1]; exact List.mem_append_right _ hu)
        clear HV HMb
        obtain ⟨d0, d1⟩ := HCk.out _ hBi
        by_cases h2 : 1 < st'.length
        · obtain ⟨vb, va, r, rfl⟩ : ∃ vb va r, st' = vb :: va :: r := by
            match st', h2 with
            | [], q => simp at q
            | [_], q => simp at q
            | vb :: va :: r, _ => exact ⟨vb, va, r, rfl⟩
          have hR := HV'.out.rowC'
          have e2 := suf_two (st := vb :: va :: r) (pre := []) rfl
          obtain ⟨⟨a1, a2⟩, _⟩ := hR r.length (by simp)
          obtain ⟨⟨a3, a4⟩, _⟩ := hR (r.length + 1) (by simp)
          rw [e2.1] at a1 a2
          rw [e2.2] at a3 a4
          have sa := HMb'.out va (by simp)
          have sb := HMb'.out vb (by simp)
          have HPb := Lib.hid (push_bend vb va r (x, y))
          have HBb : Hid (bendV va vb (x, y) = decide (0 < detZ (vb.1 - va.1) (vb.2 - va.2) (x - vb.1) (y - vb.2))) := rfl
          have hln : (vb :: va :: r).length = r.length + 2 := rfl
          obtain ⟨ax, ay⟩ := va
          obtain ⟨bx, bY⟩ := vb
          dsimp only at a1 a2 a3 a4 HBb
          unfold small5 at sa sb hq
          dsimp only at sa sb hq
          have HW1 := Lib.hid (fun w' => l6gWay_any ax ay bx bY w' (by unfold big; omega) (by unfold big; omega))
          have HW2 := Lib.hid (fun w' => l6gWay_any bx bY x y w' (by unfold big; omega) (by unfold big; omega))
          have HDt := Lib.hid (fun w' => l1Det_any (bx - ax) (bY - ay) (x - bx) (y - bY) w' (vec_of (by omega)) (vec_of (by omega)))
          generalize detZ (bx - ax) (bY - ay) (x - bx) (y - bY) = D at *
          generalize bendV (ax, ay) (bx, bY) (x, y) = K at *
          rw [hln] at HV' h2 hle ⊢
          obtain ⟨n, hn⟩ : ∃ n, n = r.length + 2 := ⟨_, rfl⟩
          rw [← hn] at HV' h2 hle ⊢
          rw [show r.length = n - 2 by omega] at a1 a2
          rw [show r.length + 1 = n - 1 by omega] at a3 a4
          have t1 : (1 : Int) < (n : Int) := by omega
          have t2 : IntKind.i64.wrap ((n : Int) - 2) = (n : Int) - 2 := by rw [IntKind.wrap_i64]; omega
          have t3 : (0 : Int) ≤ (n : Int) - 2 := by omega
          have t7 : (2 : Int) ≤ (n : Int) := by omega
          have u7 : (1 : Int) ≤ (n : Int) := by omega
          have t4 : (n : Int) - 2 < (n : Int) := by omega
          have t5 : ((n : Int) - 2).toNat = n - 2 := by omega
          have t6 : n - 2 < n := by omega
          have u2 : IntKind.i64.wrap ((n : Int) - 1) = (n : Int) - 1 := by rw [IntKind.wrap_i64]; omega
          have u3 : (0 : Int) ≤ (n : Int) - 1 := by omega
          have u4 : (n : Int) - 1 < (n : Int) := by omega
          have u5 : ((n : Int) - 1).toNat = n - 1 := by omega
          have u6 : n - 1 < n := by omega
          have hgl := cell_lt a1
          have hbl := cell_lt d0
          have hV0 := HV'.out
          have HnR := Lib.hid hn
          have hcc : n ≤ cc := by
            rcases hV0.2 with ⟨h, _⟩ | ⟨g', cap, cur, e, _, _, h5, _⟩
            · simp at h
            · simp only [Value.slice.injEq] at e
              omega
          have hcI : (n : Int) - 1 ≤ (cc : Int) := by omega
          clear hln hR e2 hn hcc
          cases K
          · have hD : D ≤ 0 := by have := HBb.out; simp at this; omega
            have hVs : Vecs wr w.heap.size (.slice (some ⟨gg, 0, none⟩) (n - 1) cc) ((ax, ay) :: r).reverse := by
              have q := hV0
              rw [show n = n - 1 + 1 by omega, List.reverse_cons] at q
              exact Vecs.short q (by have := HnR.out; simp; omega)
            have HVs := Lib.hid hVs
            clear hV0 hVs HV'
            go_upto_region 5 with fail
            refine wp_region_any (by kernel_rfl) ?_
            try (change wpAny _ _ _ _ _ _ _ (World.drew _))
            refine wpAny_of_held (S := fun w' => Below (wr.heap.size) wr w') _ _ _ _ ?_
            have hSw : Below (wr.heap.size) wr (World.drew wr) := by go_grown
            generalize World.drew wr = wd at hSw ⊢
            refine wpAnyH_take (i := 0) (v := ?_) rfl (by kernel_rfl) (by kernel_rfl) (by kernel_rfl) (fun _ _ _ h => h) (Or.inl ⟨by rfl, ?_⟩) hSw ?_
            rotate_left
            focus (intro w0 hS0; clear hS0; go_simp; try with_reducible rfl)
            refine wpAnyH_take (i := 1) (v := ?_) rfl (by kernel_rfl) (by kernel_rfl) (by kernel_rfl) (fun _ _ _ h => h) (Or.inl ⟨by rfl, ?_⟩) hSw ?_
            rotate_left
            focus (intro w0 hS0; clear hS0; go_simp; try with_reducible rfl)
            refine wpAnyH_take (i := 2) (v := ?_) rfl (by kernel_rfl) (by kernel_rfl) (by kernel_rfl) (fun _ _ _ h => h) (Or.inl ⟨by rfl, ?_⟩) hSw ?_
            rotate_left
            focus (intro w0 hS0; clear hS0; go_simp; try with_reducible rfl)
            refine wpAnyH_take (i := 3) (v := ?_) rfl (by kernel_rfl) (by kernel_rfl) (by kernel_rfl) (fun _ _ _ h => h) (Or.inl ⟨by rfl, ?_⟩) hSw ?_
            rotate_left
            focus (intro w0 hS0; clear hS0; go_simp; try with_reducible rfl)
            refine wpAnyH_take (i := 4) (v := ?_) rfl (by kernel_rfl) (by kernel_rfl) (by kernel_rfl) (fun _ _ _ h => h) (Or.inl ⟨by kernel_rfl, ?_⟩) hSw ?_
            rotate_left
            focus (intro w0 hS0; clear hS0; go_simp; try with_reducible rfl)
            refine wpAnyH_take (i := 5) (v := ?_) rfl (by kernel_rfl) (by kernel_rfl) (by kernel_rfl) (fun _ _ _ h => h) (Or.inl ⟨by kernel_rfl, ?_⟩) hSw ?_
            rotate_left
            focus (intro w0 hS0; clear hS0; go_simp; try with_reducible rfl)
            refine wpAnyH_take (i := 6) (v := ?_) rfl (by kernel_rfl) (by kernel_rfl) (by kernel_rfl) (fun _ _ _ h => h) (Or.inl ⟨by kernel_rfl, ?_⟩) hSw ?_
            rotate_left
            focus (intro w0 hS0; clear hS0; go_simp; try with_reducible rfl)
            refine wpAnyH_take (i := 7) (v := ?_) rfl (by kernel_rfl) (by kernel_rfl) (by kernel_rfl) (fun _ _ _ h => h) (Or.inl ⟨by kernel_rfl, ?_⟩) hSw ?_
            rotate_left
            focus (intro w0 hS0; clear hS0; go_simp; try with_reducible rfl)
            refine wpAnyH_take (i := 8) (v := ?_) rfl (by kernel_rfl) (by kernel_rfl) (by kernel_rfl) (fun _ _ _ h => h) (Or.inl ⟨by kernel_rfl, ?_⟩) hSw ?_
            rotate_left
            focus (intro w0 hS0; clear hS0; go_simp; try with_reducible rfl)
            refine wpAnyH_take (i := 9) (v := ?_) rfl (by kernel_rfl) (by kernel_rfl) (by kernel_rfl) (fun _ _ _ h => h) (Or.inl ⟨by kernel_rfl, ?_⟩) hSw ?_
            rotate_left
            focus (intro w0 hS0; have c0 := (hS0.cell (p := ⟨gg, (n - 2) * 2, none⟩) hgl).trans a1; have c1 := (hS0.cell (p := ⟨gg, (n - 2) * 2 + 1, none⟩) hgl).trans a2; have c2 := (hS0.cell (p := ⟨gg, (n - 1) * 2, none⟩) hgl).trans a3; have c3 := (hS0.cell (p := ⟨gg, (n - 1) * 2 + 1, none⟩) hgl).trans a4; have c4 := (hS0.cell (p := ⟨bb, off + k * 2, none⟩) hbl).trans d0; have c5 := (hS0.cell (p := ⟨bb, off + k * 2 + 1, none⟩) hbl).trans d1; clear hS0; go_simp; try with_reducible rfl)
            refine wpAnyH_take (i := 10) (v := ?_) rfl (by kernel_rfl) (by kernel_rfl) (by kernel_rfl) (fun _ _ _ h => h) (Or.inl ⟨by kernel_rfl, ?_⟩) hSw ?_
            rotate_left
            focus (intro w0 hS0; clear hS0; go_simp; try with_reducible rfl)
            refine wpAnyH_take (i := 11) (v := ?_) rfl (by kernel_rfl) (by kernel_rfl) (by kernel_rfl) (fun _ _ _ h => h) (Or.inl ⟨by kernel_rfl, ?_⟩) hSw ?_
            rotate_left
            focus (intro w0 hS0; clear hS0; go_simp; try with_reducible rfl)
            refine wpAnyH_take (i := 12) (v := ?_) rfl (by kernel_rfl) (by kernel_rfl) (by kernel_rfl) (fun _ _ _ h => h) (Or.inl ⟨by kernel_rfl, ?_⟩) hSw ?_
            rotate_left
            focus (intro w0 hS0; clear hS0; go_simp; try with_reducible rfl)
            refine wpAnyH_take (i := 13) (v := ?_) rfl (by kernel_rfl) (by kernel_rfl) (by kernel_rfl) (fun _ _ _ h => h) (Or.inl ⟨by kernel_rfl, ?_⟩) hSw ?_
            rotate_left
            focus (intro w0 hS0; clear hS0; go_simp; try with_reducible rfl)
            refine wpAnyH_take (i := 14) (v := ?_) rfl (by kernel_rfl) (by kernel_rfl) (by kernel_rfl) (fun _ _ _ h => h) (Or.inl ⟨by kernel_rfl, ?_⟩) hSw ?_
            rotate_left
            focus (intro w0 hS0; clear hS0; go_simp; try with_reducible rfl)
            refine wpAnyH_take (i := 15) (v := ?_) rfl (by kernel_rfl) (by kernel_rfl) (by kernel_rfl) (fun _ _ _ h => h) (Or.inl ⟨by kernel_rfl, ?_⟩) hSw ?_
            rotate_left
            focus (intro w0 hS0; have c0 := (hS0.cell (p := ⟨gg, (n - 2) * 2, none⟩) hgl).trans a1; have c1 := (hS0.cell (p := ⟨gg, (n - 2) * 2 + 1, none⟩) hgl).trans a2; have c2 := (hS0.cell (p := ⟨gg, (n - 1) * 2, none⟩) hgl).trans a3; have c3 := (hS0.cell (p := ⟨gg, (n - 1) * 2 + 1, none⟩) hgl).trans a4; have c4 := (hS0.cell (p := ⟨bb, off + k * 2, none⟩) hbl).trans d0; have c5 := (hS0.cell (p := ⟨bb, off + k * 2 + 1, none⟩) hbl).trans d1; clear hS0; go_simp; try with_reducible rfl)
            refine wpAnyH_take (i := 17) (v := ?_) rfl (by kernel_rfl) (by kernel_rfl) (by kernel_rfl) (fun _ _ _ h => h) (Or.inl ⟨by kernel_rfl, ?_⟩) hSw ?_
            rotate_left
            focus (intro w0 hS0; clear hS0; go_simp; try with_reducible rfl)
            refine wpAnyH_take (i := 18) (v := ?_) rfl (by kernel_rfl) (by kernel_rfl) (by kernel_rfl) (fun _ _ _ h => h) (Or.inl ⟨by kernel_rfl, ?_⟩) hSw ?_
            rotate_left
            focus (intro w0 hS0; clear hS0; go_simp; try with_reducible rfl)
            refine wpAnyH_take (i := 19) (v := ?_) rfl (by kernel_rfl) (by kernel_rfl) (by kernel_rfl) (fun _ _ _ h => h) (Or.inl ⟨by kernel_rfl, ?_⟩) hSw ?_
            rotate_left
            focus (intro w0 hS0; clear hS0; go_simp; try with_reducible rfl)
            refine wpAnyH_take (i := 20) (v := ?_) rfl (by kernel_rfl) (by kernel_rfl) (by kernel_rfl) (fun _ _ _ h => h) (Or.inl ⟨by kernel_rfl, ?_⟩) hSw ?_
            rotate_left
            focus (intro w0 hS0; clear hS0; go_simp; try with_reducible rfl)
            refine wpAnyH_take (i := 21) (v := ?_) rfl (by kernel_rfl) (by kernel_rfl) (by kernel_rfl) (fun _ _ _ h => h) (Or.inl ⟨by kernel_rfl, ?_⟩) hSw ?_
            rotate_left
            focus (intro w0 hS0; clear hS0; go_simp; try with_reducible rfl)
            refine wpAnyH_take (i := 22) (v := ?_) rfl (by kernel_rfl) (by kernel_rfl) (by kernel_rfl) (fun _ _ _ h => h) (Or.inl ⟨by kernel_rfl, ?_⟩) hSw ?_
            rotate_left
            focus (intro w0 hS0; have c0 := (hS0.cell (p := ⟨gg, (n - 2) * 2, none⟩) hgl).trans a1; have c1 := (hS0.cell (p := ⟨gg, (n - 2) * 2 + 1, none⟩) hgl).trans a2; have c2 := (hS0.cell (p := ⟨gg, (n - 1) * 2, none⟩) hgl).trans a3; have c3 := (hS0.cell (p := ⟨gg, (n - 1) * 2 + 1, none⟩) hgl).trans a4; have c4 := (hS0.cell (p := ⟨bb, off + k * 2, none⟩) hbl).trans d0; have c5 := (hS0.cell (p := ⟨bb, off + k * 2 + 1, none⟩) hbl).trans d1; clear hS0; go_simp; try with_reducible rfl)
            refine wpAnyH_take (i := 23) (v := ?_) rfl (by kernel_rfl) (by kernel_rfl) (by kernel_rfl) (fun _ _ _ h => h) (Or.inl ⟨by kernel_rfl, ?_⟩) hSw ?_
            rotate_left
            focus (intro w0 hS0; clear hS0; go_simp; try with_reducible rfl)
            refine wpAnyH_take (i := 24) (v := ?_) rfl (by kernel_rfl) (by kernel_rfl) (by kernel_rfl) (fun _ _ _ h => h) (Or.inl ⟨by kernel_rfl, ?_⟩) hSw ?_
            rotate_left
            focus (intro w0 hS0; clear hS0; go_simp; try with_reducible rfl)
            refine wpAnyH_take (i := 25) (v := ?_) rfl (by kernel_rfl) (by kernel_rfl) (by kernel_rfl) (fun _ _ _ h => h) (Or.inl ⟨by kernel_rfl, ?_⟩) hSw ?_
            rotate_left
            focus (intro w0 hS0; clear hS0; go_simp; try with_reducible rfl)
            refine wpAnyH_take (i := 26) (v := ?_) rfl (by kernel_rfl) (by kernel_rfl) (by kernel_rfl) (fun _ _ _ h => h) (Or.inl ⟨by kernel_rfl, ?_⟩) hSw ?_
            rotate_left
            focus (intro w0 hS0; have c0 := (hS0.cell (p := ⟨gg, (n - 2) * 2, none⟩) hgl).trans a1; have c1 := (hS0.cell (p := ⟨gg, (n - 2) * 2 + 1, none⟩) hgl).trans a2; have c2 := (hS0.cell (p := ⟨gg, (n - 1) * 2, none⟩) hgl).trans a3; have c3 := (hS0.cell (p := ⟨gg, (n - 1) * 2 + 1, none⟩) hgl).trans a4; have c4 := (hS0.cell (p := ⟨bb, off + k * 2, none⟩) hbl).trans d0; have c5 := (hS0.cell (p := ⟨bb, off + k * 2 + 1, none⟩) hbl).trans d1; clear hS0; go_simp; try with_reducible rfl)
            refine wpAnyH_ready (rs := [16]) (by kernel_rfl) (by simp) (AllReadyH.cons rfl (fun K hK => ?_) (AllReadyH.nil))
            go_simp
            (refine Calls.mono (HW1.out _) ?_; rintro e w4 ⟨rfl, hbX⟩; replace hSw := belowTo hSw hbX; refine hK.out _ _ hSw (fun _ => ?_); clear hK K hbX)
            refine wpAnyH_ready (rs := [27]) (by kernel_rfl) (by simp) (AllReadyH.cons rfl (fun K hK => ?_) (AllReadyH.nil))
            go_simp
            (refine Calls.mono (HW2.out _) ?_; rintro e w5 ⟨rfl, hbX⟩; replace hSw := belowTo hSw hbX; refine hK.out _ _ hSw (fun _ => ?_); clear hK K hbX)
            refine wpAnyH_ready (rs := [28]) (by kernel_rfl) (by simp) (AllReadyH.cons rfl (fun K hK => ?_) (AllReadyH.nil))
            go_simp
            (refine Calls.mono (HDt.out _) ?_; rintro e w6 ⟨rfl, hbX⟩; replace hSw := belowTo hSw hbX; refine hK.out _ _ hSw (fun _ => ?_); clear hK K hbX)
            refine wpAnyH_take (i := 29) (v := ?_) rfl (by kernel_rfl) (by kernel_rfl) (by kernel_rfl) (fun _ _ _ h => h) (Or.inl ⟨by kernel_rfl, ?_⟩) hSw ?_
            rotate_left
            focus (intro w0 hS0; clear hS0; go_simp; try with_reducible rfl)
            refine wpAnyH_take (i := 30) (v := ?_) rfl (by kernel_rfl) (by kernel_rfl) (by kernel_rfl) (fun _ _ _ h => h) (Or.inl ⟨by rfl, ?_⟩) hSw ?_
            rotate_left
            focus (intro w0 hS0; clear hS0; go_simp; try with_reducible rfl)
            refine wpAnyH_done (by kernel_rfl) ?_ _
            have hB6 := belowTo hBi hSw
            have HV6 := Lib.hid (HVs.out.below hSw)
            clear hSw a1 a2 a3 a4 d0 d1 HVs
            go_wp2
            go_roundw
            case rel => exact ⟨(ax, ay) :: r, pre ++ [(bx, bY)], by have := HnR.out; simp; omega, ⟨by rw [HP.out.1]; simp, by rw [HP.out.2, HPb.out]; rfl⟩, by have := HnR.out; rw [show ((ax, ay) :: r).length = n - 1 by simp; omega]; exact HV6.out, hB6⟩
            case measure => simp [lenS]; omega
          · have hD : ¬ D ≤ 0 := by have := HBb.out; simp at this; omega
            go_upto_region 5 with fail
            refine wp_region_any (by kernel_rfl) ?_
            try (change wpAny _ _ _ _ _ _ _ (World.drew _))
            refine wpAny_of_held (S := fun w' => Below (wr.heap.size) wr w') _ _ _ _ ?_
            have hSw : Below (wr.heap.size) wr (World.drew wr) := by go_grown
            generalize World.drew wr = wd at hSw ⊢
            refine wpAnyH_take (i := 0) (v := ?_) rfl (by kernel_rfl) (by kernel_rfl) (by kernel_rfl) (fun _ _ _ h => h) (Or.inl ⟨by rfl, ?_⟩) hSw ?_
            rotate_left
            focus (intro w0 hS0; clear hS0; go_simp; try with_reducible rfl)
            refine wpAnyH_take (i := 1) (v := ?_) rfl (by kernel_rfl) (by kernel_rfl) (by kernel_rfl) (fun _ _ _ h => h) (Or.inl ⟨by rfl, ?_⟩) hSw ?_
            rotate_left
            focus (intro w0 hS0; clear hS0; go_simp; try with_reducible rfl)
            refine wpAnyH_take (i := 2) (v := ?_) rfl (by kernel_rfl) (by kernel_rfl) (by kernel_rfl) (fun _ _ _ h => h) (Or.inl ⟨by rfl, ?_⟩) hSw ?_
            rotate_left
            focus (intro w0 hS0; clear hS0; go_simp; try with_reducible rfl)
            refine wpAnyH_take (i := 3) (v := ?_) rfl (by kernel_rfl) (by kernel_rfl) (by kernel_rfl) (fun _ _ _ h => h) (Or.inl ⟨by rfl, ?_⟩) hSw ?_
            rotate_left
            focus (intro w0 hS0; clear hS0; go_simp; try with_reducible rfl)
            refine wpAnyH_take (i := 4) (v := ?_) rfl (by kernel_rfl) (by kernel_rfl) (by kernel_rfl) (fun _ _ _ h => h) (Or.inl ⟨by kernel_rfl, ?_⟩) hSw ?_
            rotate_left
            focus (intro w0 hS0; clear hS0; go_simp; try with_reducible rfl)
            refine wpAnyH_take (i := 5) (v := ?_) rfl (by kernel_rfl) (by kernel_rfl) (by kernel_rfl) (fun _ _ _ h => h) (Or.inl ⟨by kernel_rfl, ?_⟩) hSw ?_
            rotate_left
            focus (intro w0 hS0; clear hS0; go_simp; try with_reducible rfl)
            refine wpAnyH_take (i := 6) (v := ?_) rfl (by kernel_rfl) (by kernel_rfl) (by kernel_rfl) (fun _ _ _ h => h) (Or.inl ⟨by kernel_rfl, ?_⟩) hSw ?_
            rotate_left
            focus (intro w0 hS0; clear hS0; go_simp; try with_reducible rfl)
            refine wpAnyH_take (i := 7) (v := ?_) rfl (by kernel_rfl) (by kernel_rfl) (by kernel_rfl) (fun _ _ _ h => h) (Or.inl ⟨by kernel_rfl, ?_⟩) hSw ?_
            rotate_left
            focus (intro w0 hS0; clear hS0; go_simp; try with_reducible rfl)
            refine wpAnyH_take (i := 8) (v := ?_) rfl (by kernel_rfl) (by kernel_rfl) (by kernel_rfl) (fun _ _ _ h => h) (Or.inl ⟨by kernel_rfl, ?_⟩) hSw ?_
            rotate_left
            focus (intro w0 hS0; clear hS0; go_simp; try with_reducible rfl)
            refine wpAnyH_take (i := 9) (v := ?_) rfl (by kernel_rfl) (by kernel_rfl) (by kernel_rfl) (fun _ _ _ h => h) (Or.inl ⟨by kernel_rfl, ?_⟩) hSw ?_
            rotate_left
            focus (intro w0 hS0; have c0 := (hS0.cell (p := ⟨gg, (n - 2) * 2, none⟩) hgl).trans a1; have c1 := (hS0.cell (p := ⟨gg, (n - 2) * 2 + 1, none⟩) hgl).trans a2; have c2 := (hS0.cell (p := ⟨gg, (n - 1) * 2, none⟩) hgl).trans a3; have c3 := (hS0.cell (p := ⟨gg, (n - 1) * 2 + 1, none⟩) hgl).trans a4; have c4 := (hS0.cell (p := ⟨bb, off + k * 2, none⟩) hbl).trans d0; have c5 := (hS0.cell (p := ⟨bb, off + k * 2 + 1, none⟩) hbl).trans d1; clear hS0; go_simp; try with_reducible rfl)
            refine wpAnyH_take (i := 10) (v := ?_) rfl (by kernel_rfl) (by kernel_rfl) (by kernel_rfl) (fun _ _ _ h => h) (Or.inl ⟨by kernel_rfl, ?_⟩) hSw ?_
            rotate_left
            focus (intro w0 hS0; clear hS0; go_simp; try with_reducible rfl)
            refine wpAnyH_take (i := 11) (v := ?_) rfl (by kernel_rfl) (by kernel_rfl) (by kernel_rfl) (fun _ _ _ h => h) (Or.inl ⟨by kernel_rfl, ?_⟩) hSw ?_
            rotate_left
            focus (intro w0 hS0; clear hS0; go_simp; try with_reducible rfl)
            refine wpAnyH_take (i := 12) (v := ?_) rfl (by kernel_rfl) (by kernel_rfl) (by kernel_rfl) (fun _ _ _ h => h) (Or.inl ⟨by kernel_rfl, ?_⟩) hSw ?_
            rotate_left
            focus (intro w0 hS0; clear hS0; go_simp; try with_reducible rfl)
            refine wpAnyH_take (i := 13) (v := ?_) rfl (by kernel_rfl) (by kernel_rfl) (by kernel_rfl) (fun _ _ _ h => h) (Or.inl ⟨by kernel_rfl, ?_⟩) hSw ?_
            rotate_left
            focus (intro w0 hS0; clear hS0; go_simp; try with_reducible rfl)
            refine wpAnyH_take (i := 14) (v := ?_) rfl (by kernel_rfl) (by kernel_rfl) (by kernel_rfl) (fun _ _ _ h => h) (Or.inl ⟨by kernel_rfl, ?_⟩) hSw ?_
            rotate_left
            focus (intro w0 hS0; clear hS0; go_simp; try with_reducible rfl)
            refine wpAnyH_take (i := 15) (v := ?_) rfl (by kernel_rfl) (by kernel_rfl) (by kernel_rfl) (fun _ _ _ h => h) (Or.inl ⟨by kernel_rfl, ?_⟩) hSw ?_
            rotate_left
            focus (intro w0 hS0; have c0 := (hS0.cell (p := ⟨gg, (n - 2) * 2, none⟩) hgl).trans a1; have c1 := (hS0.cell (p := ⟨gg, (n - 2) * 2 + 1, none⟩) hgl).trans a2; have c2 := (hS0.cell (p := ⟨gg, (n - 1) * 2, none⟩) hgl).trans a3; have c3 := (hS0.cell (p := ⟨gg, (n - 1) * 2 + 1, none⟩) hgl).trans a4; have c4 := (hS0.cell (p := ⟨bb, off + k * 2, none⟩) hbl).trans d0; have c5 := (hS0.cell (p := ⟨bb, off + k * 2 + 1, none⟩) hbl).trans d1; clear hS0; go_simp; try with_reducible rfl)
            refine wpAnyH_take (i := 17) (v := ?_) rfl (by kernel_rfl) (by kernel_rfl) (by kernel_rfl) (fun _ _ _ h => h) (Or.inl ⟨by kernel_rfl, ?_⟩) hSw ?_
            rotate_left
            focus (intro w0 hS0; clear hS0; go_simp; try with_reducible rfl)
            refine wpAnyH_take (i := 18) (v := ?_) rfl (by kernel_rfl) (by kernel_rfl) (by kernel_rfl) (fun _ _ _ h => h) (Or.inl ⟨by kernel_rfl, ?_⟩) hSw ?_
            rotate_left
            focus (intro w0 hS0; clear hS0; go_simp; try with_reducible rfl)
            refine wpAnyH_take (i := 19) (v := ?_) rfl (by kernel_rfl) (by kernel_rfl) (by kernel_rfl) (fun _ _ _ h => h) (Or.inl ⟨by kernel_rfl, ?_⟩) hSw ?_
            rotate_left
            focus (intro w0 hS0; clear hS0; go_simp; try with_reducible rfl)
            refine wpAnyH_take (i := 20) (v := ?_) rfl (by kernel_rfl) (by kernel_rfl) (by kernel_rfl) (fun _ _ _ h => h) (Or.inl ⟨by kernel_rfl, ?_⟩) hSw ?_
            rotate_left
            focus (intro w0 hS0; clear hS0; go_simp; try with_reducible rfl)
            refine wpAnyH_take (i := 21) (v := ?_) rfl (by kernel_rfl) (by kernel_rfl) (by kernel_rfl) (fun _ _ _ h => h) (Or.inl ⟨by kernel_rfl, ?_⟩) hSw ?_
            rotate_left
            focus (intro w0 hS0; clear hS0; go_simp; try with_reducible rfl)
            refine wpAnyH_take (i := 22) (v := ?_) rfl (by kernel_rfl) (by kernel_rfl) (by kernel_rfl) (fun _ _ _ h => h) (Or.inl ⟨by kernel_rfl, ?_⟩) hSw ?_
            rotate_left
            focus (intro w0 hS0; have c0 := (hS0.cell (p := ⟨gg, (n - 2) * 2, none⟩) hgl).trans a1; have c1 := (hS0.cell (p := ⟨gg, (n - 2) * 2 + 1, none⟩) hgl).trans a2; have c2 := (hS0.cell (p := ⟨gg, (n - 1) * 2, none⟩) hgl).trans a3; have c3 := (hS0.cell (p := ⟨gg, (n - 1) * 2 + 1, none⟩) hgl).trans a4; have c4 := (hS0.cell (p := ⟨bb, off + k * 2, none⟩) hbl).trans d0; have c5 := (hS0.cell (p := ⟨bb, off + k * 2 + 1, none⟩) hbl).trans d1; clear hS0; go_simp; try with_reducible rfl)
            refine wpAnyH_take (i := 23) (v := ?_) rfl (by kernel_rfl) (by kernel_rfl) (by kernel_rfl) (fun _ _ _ h => h) (Or.inl ⟨by kernel_rfl, ?_⟩) hSw ?_
            rotate_left
            focus (intro w0 hS0; clear hS0; go_simp; try with_reducible rfl)
            refine wpAnyH_take (i := 24) (v := ?_) rfl (by kernel_rfl) (by kernel_rfl) (by kernel_rfl) (fun _ _ _ h => h) (Or.inl ⟨by kernel_rfl, ?_⟩) hSw ?_
            rotate_left
            focus (intro w0 hS0; clear hS0; go_simp; try with_reducible rfl)
            refine wpAnyH_take (i := 25) (v := ?_) rfl (by kernel_rfl) (by kernel_rfl) (by kernel_rfl) (fun _ _ _ h => h) (Or.inl ⟨by kernel_rfl, ?_⟩) hSw ?_
            rotate_left
            focus (intro w0 hS0; clear hS0; go_simp; try with_reducible rfl)
            refine wpAnyH_take (i := 26) (v := ?_) rfl (by kernel_rfl) (by kernel_rfl) (by kernel_rfl) (fun _ _ _ h => h) (Or.inl ⟨by kernel_rfl, ?_⟩) hSw ?_
            rotate_left
            focus (intro w0 hS0; have c0 := (hS0.cell (p := ⟨gg, (n - 2) * 2, none⟩) hgl).trans a1; have c1 := (hS0.cell (p := ⟨gg, (n - 2) * 2 + 1, none⟩) hgl).trans a2; have c2 := (hS0.cell (p := ⟨gg, (n - 1) * 2, none⟩) hgl).trans a3; have c3 := (hS0.cell (p := ⟨gg, (n - 1) * 2 + 1, none⟩) hgl).trans a4; have c4 := (hS0.cell (p := ⟨bb, off + k * 2, none⟩) hbl).trans d0; have c5 := (hS0.cell (p := ⟨bb, off + k * 2 + 1, none⟩) hbl).trans d1; clear hS0; go_simp; try with_reducible rfl)
            refine wpAnyH_ready (rs := [16]) (by kernel_rfl) (by simp) (AllReadyH.cons rfl (fun K hK => ?_) (AllReadyH.nil))
            go_simp
            (refine Calls.mono (HW1.out _) ?_; rintro e w4 ⟨rfl, hbX⟩; replace hSw := belowTo hSw hbX; refine hK.out _ _ hSw (fun _ => ?_); clear hK K hbX)
            refine wpAnyH_ready (rs := [27]) (by kernel_rfl) (by simp) (AllReadyH.cons rfl (fun K hK => ?_) (AllReadyH.nil))
            go_simp
            (refine Calls.mono (HW2.out _) ?_; rintro e w5 ⟨rfl, hbX⟩; replace hSw := belowTo hSw hbX; refine hK.out _ _ hSw (fun _ => ?_); clear hK K hbX)
            refine wpAnyH_ready (rs := [28]) (by kernel_rfl) (by simp) (AllReadyH.cons rfl (fun K hK => ?_) (AllReadyH.nil))
            go_simp
            (refine Calls.mono (HDt.out _) ?_; rintro e w6 ⟨rfl, hbX⟩; replace hSw := belowTo hSw hbX; refine hK.out _ _ hSw (fun _ => ?_); clear hK K hbX)
            refine wpAnyH_take (i := 29) (v := ?_) rfl (by kernel_rfl) (by kernel_rfl) (by kernel_rfl) (fun _ _ _ h => h) (Or.inl ⟨by kernel_rfl, ?_⟩) hSw ?_
            rotate_left
            focus (intro w0 hS0; clear hS0; go_simp; try with_reducible rfl)
            refine wpAnyH_take (i := 30) (v := ?_) rfl (by kernel_rfl) (by kernel_rfl) (by kernel_rfl) (fun _ _ _ h => h) (Or.inl ⟨by rfl, ?_⟩) hSw ?_
            rotate_left
            focus (intro w0 hS0; clear hS0; go_simp; try with_reducible rfl)
            refine wpAnyH_done (by kernel_rfl) ?_ _
            have hBz := belowTo hBi hSw
            have HVz := Lib.hid ((show Vecs wr w.heap.size (.slice (some ⟨gg, 0, none⟩) n cc) ((bx, bY) :: (ax, ay) :: r).reverse from hV0).below hSw)
            have HLn : Hid (((bx, bY) :: (ax, ay) :: r).length = n) := by have := HnR.out; show _ = _; simp; omega
            have HPu : Hid (pushH st (x, y) = (x, y) :: (bx, bY) :: (ax, ay) :: r) := by show _ = _; rw [HP.out.2, HPb.out, if_pos rfl]
            have HLe : Hid (n ≤ 1000) := by show _ ≤ _; omega
            rw [← HLn.out] at HVz
            have HKz := Lib.hid (fun u6 u7 u8 u9 u10 u11 u12 u13 u14 u15 u16 u17 u18 u19 u20 u21 u22 u23 u24 u25 u26 u27 u28 u29 u30 u31 u32 u33 u34 u35 u36 u37 u38 u39 u40 u41 u42 u43 u44 u45 u46 u47 u48 u49 u50 u51 u52 u53 u54 => HK.out _ ((bx, bY) :: (ax, ay) :: r) u6 u7 u8 u9 u10 u11 u12 u13 u14 u15 u16 u17 u18 u19 u20 u21 u22 u23 u24 u25 u26 u27 u28 u29 u30 u31 u32 u33 u34 u35 u36 u37 u38 u39 u40 u41 u42 u43 u44 u45 u46 u47 u48 u49 u50 u51 u52 u53 u54 HPu HVz hBz (by rw [HLn.out]; exact HLe.out))
            rw [HLn.out] at HKz
            clear hSw a1 a2 a3 a4 d0 d1 hV0 HV' HPb HP HK HCk HVz HBb HMb' hle h2 hgl hbl hcI HnR HLn HPu HLe
            go_wp2
            exact HKz.out _ _ _ _ _ _ _ _ _ _ _ _ _ _ _ _ _ _ _ _ _ _ _ _ _ _ _ _ _ _ _ _ _ _ _ _ _ _ _ _ _ _ _ _ _ _ _ _ _
        · have t1 : ¬ (1 : Int) < (st'.length : Int) := by omega
          have HPu : Hid (pushH st (x, y) = (x, y) :: st') := by show _ = _; rw [HP.out.2]; exact push_one h2 _
          have HLe : Hid (st'.length ≤ 1000) := by show _ ≤ _; omega
          have HKz := Lib.hid (fun (wz : World) u6 u7 u8 u9 u10 u11 u12 u13 u14 u15 u16 u17 u18 u19 u20 u21 u22 u23 u24 u25 u26 u27 u28 u29 u30 u31 u32 u33 u34 u35 u36 u37 u38 u39 u40 u41 u42 u43 u44 u45 u46 u47 u48 u49 u50 u51 u52 u53 u54 (hV : Hid (Vecs wz w.heap.size (.slice (some ⟨gg, 0, none⟩) st'.length cc) st'.reverse)) (hB : Below w.heap.size w wz) => HK.out wz st' u6 u7 u8 u9 u10 u11 u12 u13 u14 u15 u16 u17 u18 u19 u20 u21 u22 u23 u24 u25 u26 u27 u28 u29 u30 u31 u32 u33 u34 u35 u36 u37 u38 u39 u40 u41 u42 u43 u44 u45 u46 u47 u48 u49 u50 u51 u52 u53 u54 HPu hV hB HLe.out)
          obtain ⟨n, hn⟩ : ∃ n, n = st'.length := ⟨_, rfl⟩
          rw [← hn] at HV' t1 HKz ⊢
          have HBi := Lib.hid hBi
          have HQ : Hid (Vecs (World.drew wr) w.heap.size (.slice (some ⟨gg, 0, none⟩) n cc) st'.reverse) := HV'.out
          clear hn hBi HV' d0 d1 h2 hle HPu HP HK HCk HMb' HLe
          go_upto_region 5 with fail
          refine wp_region_any (by kernel_rfl) ?_
          try (change wpAny _ _ _ _ _ _ _ (World.drew _))
          refine wpAny_take (i := 0) (v := ?_) rfl (by kernel_rfl) (by kernel_rfl) (by kernel_rfl) (fun _ _ _ h => h) (Or.inl ⟨by rfl, ?_⟩) ?_
          rotate_left
          focus (intro w0; go_simp; try with_reducible rfl)
          refine wpAny_take (i := 1) (v := ?_) rfl (by kernel_rfl) (by kernel_rfl) (by kernel_rfl) (fun _ _ _ h => h) (Or.inl ⟨by rfl, ?_⟩) ?_
          rotate_left
          focus (intro w0; go_simp; try with_reducible rfl)
          refine wpAny_take (i := 2) (v := ?_) rfl (by kernel_rfl) (by kernel_rfl) (by kernel_rfl) (fun _ _ _ h => h) (Or.inl ⟨by rfl, ?_⟩) ?_
          rotate_left
          focus (intro w0; go_simp; try with_reducible rfl)
          refine wpAny_take (i := 3) (v := ?_) rfl (by kernel_rfl) (by kernel_rfl) (by kernel_rfl) (fun _ _ _ h => h) (Or.inl ⟨by rfl, ?_⟩) ?_
          rotate_left
          focus (intro w0; go_simp; try with_reducible rfl)
          refine wpAny_take (i := 4) (v := undef) rfl (by kernel_rfl) (by kernel_rfl) (by kernel_rfl) (fun _ _ _ h => h) (Or.inr ⟨by kernel_rfl, rfl⟩) ?_
          refine wpAny_take (i := 5) (v := undef) rfl (by kernel_rfl) (by kernel_rfl) (by kernel_rfl) (fun _ _ _ h => h) (Or.inr ⟨by kernel_rfl, rfl⟩) ?_
          refine wpAny_take (i := 6) (v := undef) rfl (by kernel_rfl) (by kernel_rfl) (by kernel_rfl) (fun _ _ _ h => h) (Or.inr ⟨by kernel_rfl, rfl⟩) ?_
          refine wpAny_take (i := 7) (v := undef) rfl (by kernel_rfl) (by kernel_rfl) (by kernel_rfl) (fun _ _ _ h => h) (Or.inr ⟨by kernel_rfl, rfl⟩) ?_
          refine wpAny_take (i := 8) (v := undef) rfl (by kernel_rfl) (by kernel_rfl) (by kernel_rfl) (fun _ _ _ h => h) (Or.inr ⟨by kernel_rfl, rfl⟩) ?_
          refine wpAny_take (i := 9) (v := undef) rfl (by kernel_rfl) (by kernel_rfl) (by kernel_rfl) (fun _ _ _ h => h) (Or.inr ⟨by kernel_rfl, rfl⟩) ?_
          refine wpAny_take (i := 10) (v := undef) rfl (by kernel_rfl) (by kernel_rfl) (by kernel_rfl) (fun _ _ _ h => h) (Or.inr ⟨by kernel_rfl, rfl⟩) ?_
          refine wpAny_take (i := 11) (v := undef) rfl (by kernel_rfl) (by kernel_rfl) (by kernel_rfl) (fun _ _ _ h => h) (Or.inr ⟨by kernel_rfl, rfl⟩) ?_
          refine wpAny_take (i := 12) (v := undef) rfl (by kernel_rfl) (by kernel_rfl) (by kernel_rfl) (fun _ _ _ h => h) (Or.inr ⟨by kernel_rfl, rfl⟩) ?_
          refine wpAny_take (i := 13) (v := undef) rfl (by kernel_rfl) (by kernel_rfl) (by kernel_rfl) (fun _ _ _ h => h) (Or.inr ⟨by kernel_rfl, rfl⟩) ?_
          refine wpAny_take (i := 14) (v := undef) rfl (by kernel_rfl) (by kernel_rfl) (by kernel_rfl) (fun _ _ _ h => h) (Or.inr ⟨by kernel_rfl, rfl⟩) ?_
          refine wpAny_take (i := 15) (v := undef) rfl (by kernel_rfl) (by kernel_rfl) (by kernel_rfl) (fun _ _ _ h => h) (Or.inr ⟨by kernel_rfl, rfl⟩) ?_
          refine wpAny_take (i := 16) (v := undef) rfl (by kernel_rfl) (by kernel_rfl) (by kernel_rfl) (fun _ _ _ h => h) (Or.inr ⟨by kernel_rfl, rfl⟩) ?_
          refine wpAny_take (i := 17) (v := undef) rfl (by kernel_rfl) (by kernel_rfl) (by kernel_rfl) (fun _ _ _ h => h) (Or.inr ⟨by kernel_rfl, rfl⟩) ?_
          refine wpAny_take (i := 18) (v := undef) rfl (by kernel_rfl) (by kernel_rfl) (by kernel_rfl) (fun _ _ _ h => h) (Or.inr ⟨by kernel_rfl, rfl⟩) ?_
          refine wpAny_take (i := 19) (v := undef) rfl (by kernel_rfl) (by kernel_rfl) (by kernel_rfl) (fun _ _ _ h => h) (Or.inr ⟨by kernel_rfl, rfl⟩) ?_
          refine wpAny_take (i := 20) (v := undef) rfl (by kernel_rfl) (by kernel_rfl) (by kernel_rfl) (fun _ _ _ h => h) (Or.inr ⟨by kernel_rfl, rfl⟩) ?_
          refine wpAny_take (i := 21) (v := undef) rfl (by kernel_rfl) (by kernel_rfl) (by kernel_rfl) (fun _ _ _ h => h) (Or.inr ⟨by kernel_rfl, rfl⟩) ?_
          refine wpAny_take (i := 22) (v := undef) rfl (by kernel_rfl) (by kernel_rfl) (by kernel_rfl) (fun _ _ _ h => h) (Or.inr ⟨by kernel_rfl, rfl⟩) ?_
          refine wpAny_take (i := 23) (v := undef) rfl (by kernel_rfl) (by kernel_rfl) (by kernel_rfl) (fun _ _ _ h => h) (Or.inr ⟨by kernel_rfl, rfl⟩) ?_
          refine wpAny_take (i := 24) (v := undef) rfl (by kernel_rfl) (by kernel_rfl) (by kernel_rfl) (fun _ _ _ h => h) (Or.inr ⟨by kernel_rfl, rfl⟩) ?_
          refine wpAny_take (i := 25) (v := undef) rfl (by kernel_rfl) (by kernel_rfl) (by kernel_rfl) (fun _ _ _ h => h) (Or.inr ⟨by kernel_rfl, rfl⟩) ?_
          refine wpAny_take (i := 26) (v := undef) rfl (by kernel_rfl) (by kernel_rfl) (by kernel_rfl) (fun _ _ _ h => h) (Or.inr ⟨by kernel_rfl, rfl⟩) ?_
          refine wpAny_take (i := 27) (v := undef) rfl (by kernel_rfl) (by kernel_rfl) (by kernel_rfl) (fun _ _ _ h => h) (Or.inr ⟨by kernel_rfl, rfl⟩) ?_
          refine wpAny_take (i := 28) (v := undef) rfl (by kernel_rfl) (by kernel_rfl) (by kernel_rfl) (fun _ _ _ h => h) (Or.inr ⟨by kernel_rfl, rfl⟩) ?_
          refine wpAny_seq 29 rfl (by kernel_rfl) ?_
          simp only [List.drop_succ_cons, List.drop_zero]
          go_wp2
          exact HKz.out _ _ _ _ _ _ _ _ _ _ _ _ _ _ _ _ _ _ _ _ _ _ _ _ _ _ _ _ _ _ _ _ _ _ _ _ _ _ _ _ _ _ _ _ _ _ _ _ _ _ HQ HBi.out.drew
    · obtain rfl : k = l.length := by omega
      have i2 : ¬ ((l.length : Nat) : Int) < (l.length : Int) := by omega
      have hI := HV.out
      rw [HS.out, HDn.out] at hI
      have HI := Lib.hid hI
      have HSe : Hid (st = halfH l) := by show _ = _; rw [HS.out]; exact HDn.out
      clear hI HV
      go_wp2
      go_returns
      exact ⟨_, rfl, by rw [HSe.out]; exact HI.out, hB⟩
end Go.Proofs.YtgaeibibeekclaaDoor
