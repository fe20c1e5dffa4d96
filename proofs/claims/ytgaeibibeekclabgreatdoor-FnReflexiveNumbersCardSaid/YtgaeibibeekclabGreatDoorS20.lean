import Derived.Test.YtgaeibibeekclabGreatDoorProg
import Derived.Test.YtgaeibibeekclabGreatDoorS01
import Derived.Test.YtgaeibibeekclabGreatDoorS03
import Derived.Test.YtgaeibibeekclabGreatDoorS04
import Derived.Test.YtgaeibibeekclabGreatDoorS06
import Derived.Test.YtgaeibibeekclabGreatDoorS07
import Derived.Test.YtgaeibibeekclabGreatDoorS08
import Derived.Test.YtgaeibibeekclabGreatDoorS10
import Derived.Test.YtgaeibibeekclabGreatDoorS13
import Derived.Test.YtgaeibibeekclabGreatDoorS14
import Derived.Test.YtgaeibibeekclabGreatDoorS15
import Derived.Test.YtgaeibibeekclabGreatDoorS17
import Derived.Test.YtgaeibibeekclabGreatDoorS18
import Derived.Test.YtgaeibibeekclabGreatDoorS19
import Derived.WalkKit
import Derived.LaidEql
import Derived.Stop.Asserts
import Derived.RowKitTokens
import Derived.Handy
import Derived.WalkSpells
import Derived.WalkLawsBesides
import Derived.Deep.QuietTactic
import Derived.BigQuiet
import Derived.Lib.Hide
import Derived.Deep.RegionHeld3
import Derived.Deep.DeepCutAuto
import Derived.Deep.AppendLies
import Derived.Laws.OwnMore
import Derived.Laws.MakeOwn
import Derived.OwnWalk
import Derived.Maps.AppendAt
import Derived.RangeFuncBox
import Derived.RegionTactic
import Derived.ChangeAlike
import Derived.RangeFuncNested
import Derived.StillTail
import Derived.OrdersIn
import Derived.AtR
import Derived.RangeFuncBound
import Derived.RangeFuncCalls
import Derived.RangeFuncLeaves
import Derived.Shelf.Abstract
import Derived.OwnWalkIn
import Derived.TacticsInMore
import Derived.LoopNIn
import Derived.LoopIn
import Derived.LaidEqlPtr
import Derived.BigRegion
import Derived.Shelf.SlSortCmp.WholeK
import Derived.Laws.StructEq
import Derived.Laws.IdiomCopy
import Derived.Shelf.SlGeneric
import Derived.Shelf.SlSortCmp.NoneTotal
import Derived.Shelf.SlicesE.Clone
import Derived.Shelf.SlicesQ.Reverse
import Derived.Ground.SlsfProg
import Derived.Ground.SlgnProg
import Derived.Deep.RegionLaw
import Derived.ArgAppend
namespace Go.Proofs.YtgaeibibeekclabGreatDoor
open Go.RowKit
theorem Vecs.short {w : World} {b g n c : Nat} {l : List V2} {x : V2} (h : Vecs w b (.slice (some ⟨g, 0, none⟩) (n + 1) c) (l ++ [x])) (hn : n = l.length) : Vecs w b (.slice (some ⟨g, 0, none⟩) n c) l := by
  subst hn
  unfold Vecs VRow at *
  rw [List.length_append, flat_app] at h
  obtain ⟨h1, h2⟩ := h
  refine ⟨by have := flatV_len l; exact this, ?_⟩
  rcases h2 with ⟨h3, _⟩ | ⟨g', cap, cur, e, h3, h4, h5, h6, h7, h8⟩
  · simp at h3
  · obtain ⟨rfl, rfl⟩ : g = g' ∧ c = cap := by
      simp only [Value.slice.injEq, Option.some.injEq, Addr.mk.injEq] at e
      exact ⟨e.1.1, e.2.2⟩
    refine .inr ⟨g, c, cur, rfl, h3, h4, by simp at h5; omega, h6, h7, ?_⟩
    have e2 : intsV (flat l ++ flat [x]) = intsV (flat l) ++ intsV (flat [x]) := by simp [intsV]
    rw [e2] at h8
    have h9 := congrArg (List.take (l.length * 2)) h8
    rw [List.take_take, Nat.min_eq_left (by simp; omega), List.take_append_of_le_length (by rw [flatV_len]; exact Nat.le_refl _), List.take_of_length_le (l := intsV (flat l)) (by rw [flatV_len]; exact Nat.le_refl _)] at h9
    exact h9
theorem Vecs.rowC' {w : World} {b g n c : Nat} {l : List V2} (h : Vecs w b (.slice (some ⟨g, 0, none⟩) n c) l) : RowC w g (cyc l) l.length := by
  have hn : n = l.length := by
    rcases h.2 with ⟨_, h2⟩ | ⟨g', cap, cur, e, _⟩
    · simp_all
    · simp only [Value.slice.injEq] at e
      exact e.2.1
  rw [hn] at h
  exact h.rowC
def lenS : Value → Nat
  | .slice _ n _ => n
  | _ => 0
theorem pair_cells2 (W : World) (X Y : Int) (t : TypeId) : ∀ j u, [Value.int .i64 X, Value.int .i64 Y][j]? = some u → (W.alloc (.cells #[.int .i64 X, .int .i64 Y] t)).cell? ((⟨W.heap.size, 0, none⟩ : Addr).add j) = some u := by
  intro j u hj
  match j, hj with
  | 0, hj => simp at hj; subst hj; simp [Addr.add]
  | 1, hj => simp at hj; subst hj; simp [Addr.add]
theorem pair_one2 (X Y : Int) : ∀ u ∈ [Value.int .i64 X, Value.int .i64 Y], u.oneCell' = true := by
  intro u hu
  simp at hu
  rcases hu with rfl | rfl <;> rfl
def small5 (u : V2) : Prop := (-500 ≤ u.1 ∧ u.1 ≤ 500) ∧ -500 ≤ u.2 ∧ u.2 ≤ 500
set_option maxRecDepth 100000 in
set_option maxHeartbeats 8000000 in
theorem l6gHalf_any (v : Value) (l : List V2) (w : World) (hl : ReadsVecs w v l) (h0 : 0 < l.length) (hm : l.length ≤ 1000) (hv : ∀ x ∈ l, small5 x) :
    Calls Tryz.prog 133 #[v] w (GivesVecs w (halfH l).reverse) := by
  obtain ⟨i0, hi, hz0, hz1, hz2⟩ := info_parts infoVec
  obtain ⟨bb, off, c, rfl, _, _, hbb, hcs⟩ := hl.open h0
  have HCl := Lib.hid hcs
  have HSm : Hid (∀ x ∈ l, small5 x) := hv
  have HEm := Lib.hid (Vecs.empty w)
  have HDn : Hid ((l.take l.length).foldl pushH [] = halfH l) := by show _ = _; rw [List.take_of_length_le (Nat.le_refl _)]; rfl
  have HStp : Hid (∀ k, k < l.length → (l.take (k + 1)).foldl pushH [] = pushH ((l.take k).foldl pushH []) (cyc l k)) := fun k hk => by rw [take_cyc hk, List.foldl_append]; rfl
  have HMem : Hid (∀ k x, x ∈ (l.take k).foldl pushH [] → x ∈ l) := fun k x hx => by
    rcases fold_mem _ _ _ hx with h | h
    · cases h
    · exact List.mem_of_mem_take h
  have HLen : Hid (∀ k, ((l.take k).foldl pushH []).length ≤ k) := fun k => by
    have := fold_len (l.take k) []
    simp only [List.length_nil, List.length_take] at this
    show _ ≤ _
    omega
  clear hl hcs hv
  go_enter Tryz.func133, Tryz.ntmps133
  go_wp2
  go_loopw [3, 4] (fun s3 s4 wr => ∃ (k gg cc : Nat) (st : List V2), k ≤ l.length ∧ s3 = .slice (some ⟨gg, 0, none⟩) st.length cc ∧ s4 = .int .i64 k ∧ Hid (st = (l.take k).foldl pushH []) ∧ Hid (Vecs wr w.heap.size (.slice (some ⟨gg, 0, none⟩) st.length cc) st.reverse) ∧ Below w.heap.size w wr) (fun _ s4 _ => l.length - (intOf s4).toNat)
  case atStart => exact ⟨0, w.heap.size, 0, [], Nat.zero_le _, rfl, rfl, rfl, HEm.out, by go_grown⟩
  case round =>
    obtain ⟨k, gg, cc, st, hk, rfl, rfl, HS, HV, hB⟩ := hrel
    have i1 : (0 : Int) ≤ (k : Int) := by omega
    by_cases hlt : k < l.length
    · have i2 : (k : Int) < (l.length : Int) := by omega
      have hsk : st.length ≤ k := by rw [HS.out]; exact HLen.out k
      have HMb : Hid (∀ x ∈ st, small5 x) := fun x hx => HSm.out x (HMem.out k x (by rw [← HS.out]; exact hx))
      have HN1 := Lib.hid (HStp.out k hlt)
      rw [← HS.out] at HN1
      have hq := HSm.out _ (cyc_mem h0 k)
      have HB := Lib.hid hB
      have HCk := Lib.hid (fun W hW => HCl.out W hW k hlt)
      generalize cyc l k = z at *
      obtain ⟨x, y⟩ := z
      dsimp only at HCk
      clear HStp HMem HLen hB HEm
      go_upto_region 5 with fail
      go_wp2_with fail
      rename_i K hK
      have HK : Hid (∀ (wr' : World) (st' : List V2) (u6 u7 u8 u9 u10 u11 u12 u13 u14 u15 u16 u17 u18 u19 u20 u21 u22 u23 u24 u25 u26 u27 u28 u29 u30 u31 u32 u33 u34 u35 u36 u37 u38 u39 u40 u41 u42 u43 u44 u45 u46 u47 u48 u49 u50 u51 u52 u53 u54 : Value), Hid (pushH st (x, y) = (x, y) :: st') → Hid (Vecs wr' w.heap.size (.slice (some ⟨gg, 0, none⟩) st'.length cc) st'.reverse) → Below w.heap.size w wr' → st'.length ≤ 1000 →
          K { tmps := #[.slice (some ⟨bb, off, none⟩) l.length c, undef, .slice none 0 0, .slice (some ⟨gg, 0, none⟩) st'.length cc, .int .i64 (k : Int), .slice (some ⟨w.heap.size, 0, none⟩) 0 0, u6, u7, u8, u9, u10, u11, u12, u13, u14, u15, u16, u17, u18, u19, u20, u21, u22, u23, u24, u25, u26, u27, u28, u29, u30, u31, u32, u33, u34, u35, u36, u37, u38, u39, u40, u41, u42, u43, u44, u45, u46, u47, u48, u49, u50, u51, u52, u53, u54, undef], defers := [] } wr') := by
        intro wr' st' u6 u7 u8 u9 u10 u11 u12 u13 u14 u15 u16 u17 u18 u19 u20 u21 u22 u23 u24 u25 u26 u27 u28 u29 u30 u31 u32 u33 u34 u35 u36 u37 u38 u39 u40 u41 u42 u43 u44 u45 u46 u47 u48 u49 u50 u51 u52 u53 u54 HPu HVz hBz h1000
        refine hK _ _ ?_
        clear hK
        obtain ⟨d0, d1⟩ := HCk.out _ hBz
        obtain ⟨n, hn⟩ : ∃ n, n = st'.length := ⟨_, rfl⟩
        rw [← hn] at HVz h1000 ⊢
        have HLn : Hid (st'.length = n) := hn.symm
        have hLr : (st'.reverse).length = n := by rw [List.length_reverse, hn]
        clear hn
        obtain ⟨RV, hRV⟩ : ∃ RV, RV = st'.reverse := ⟨_, rfl⟩
        have HRV := Lib.hid hRV
        rw [← hRV] at HVz hLr
        clear hRV
        have hown := HVz.out
        unfold Vecs VRow at hown
        rw [hLr] at hown
        have hbs := hBz.size
        clear HVz HMb HV HB HSm HCk HCl HDn hsk hq
        go_wp2_with (at_builtin; refine wpList_append_own_at _ rfl _ _ 23 rfl w.heap.size 55 i0 (.agg #[.int .i64 (0), .int .i64 (0)]) 2 16 Tryz.underlying23 hi hz0 hz1 hz2 rfl (by decide) _ _ _ rfl (World.ownsRow.alloc hown _) ⟨_, 0, none⟩ 1 1 [.int .i64 x, .int .i64 y] rfl rfl ?c1 (pair_one2 x y) ?c3 ?c4 ?c5 ?_)
        case c1 => exact pair_cells2 _ x y _
        case c3 => unfold maxLen; omega
        case c4 => omega
        case c5 => first | omega | (simp; omega)
        intro v' wz hown' hgrow _ _
        have HB5 := Lib.hid ((hBz.alloc hbs _).grown hgrow (by simp; omega) (fun k hk => (hown.lt k hk).1))
        obtain ⟨g2, cap2, rfl, _, _⟩ := World.ownsRow.form hown' (by omega)
        have HVv := Lib.hid (Vecs.snoc (l := RV) hLr.symm hown')
        rw [HRV.out, ← List.reverse_cons] at HVv
        clear hown' hgrow hown h1000 d0 d1 hBz hbs
        go_wp2
        go_roundw
        case rel => exact ⟨k + 1, g2, cap2, (x, y) :: st', by omega, by rw [List.length_cons, HLn.out], by go_num, by show _ = _; rw [HN1.out, HPu.out], by rw [List.length_cons, HLn.out]; exact HVv.out, HB5.out⟩
        case measure => simp [intOf]; omega
      clear hK
      go_loopw [3] (fun s3 wi => ∃ (st' pre : List V2), s3 = .slice (some ⟨gg, 0, none⟩) st'.length cc ∧ Hid (st = pre ++ st' ∧ pushH st (x, y) = pushH st' (x, y)) ∧ Hid (Vecs wi w.heap.size (.slice (some ⟨gg, 0, none⟩) st'.length cc) st'.reverse) ∧ Below w.heap.size w wi) (fun s3 _ => lenS s3)
      case atStart => exact ⟨st, [], rfl, ⟨rfl, rfl⟩, HV.out, HB.out⟩
      case round =>
        obtain ⟨st', pre, rfl, HP, HV', hBi⟩ := hrel
        have hle : st'.length ≤ st.length := by rw [HP.out.1]; simp
        have HMb' : Hid (∀ u ∈ st', small5 u) := fun u hu => HMb.out u (by rw [HP.out.1]; exact List.mem_append_right _ hu)
        clear HV HMb
        obtain ⟨d0, d1⟩ := HCk.out _ hBi
        by_cases h2 : 1 < st'.length
        · obtain ⟨vb, va, r, rfl⟩ : ∃ vb va r, st' = vb :: va :: r := by
            match st', h2 with
            | [], q => simp at q
            | [_], q => simp at q
            | vb :: va :: r, _ => exact ⟨vb, va, r, rfl⟩
          have hR := HV'.out.rowC'
          have e2 := suf_two (st := vb :: va :: r) (pre := []) rfl
          obtain ⟨⟨a1, a2⟩, _⟩ := hR r.length (by simp)
          obtain ⟨⟨a3, a4⟩, _⟩ := hR (r.length + 1) (by simp)
          rw [e2.1] at a1 a2
          rw [e2.2] at a3 a4
          have sa := HMb'.out va (by simp)
          have sb := HMb'.out vb (by simp)
          have HPb := Lib.hid (push_bend vb va r (x, y))
          have HBb : Hid (bendV va vb (x, y) = decide (0 < detZ (vb.1 - va.1) (vb.2 - va.2) (x - vb.1) (y - vb.2))) := rfl
          have hln : (vb :: va :: r).length = r.length + 2 := rfl
          obtain ⟨ax, ay⟩ := va
          obtain ⟨bx, bY⟩ := vb
          dsimp only at a1 a2 a3 a4 HBb
          unfold small5 at sa sb hq
          dsimp only at sa sb hq
          have HW1 := Lib.hid (fun w' => l6gWay_any ax ay bx bY w' (by unfold big; omega) (by unfold big; omega))
          have HW2 := Lib.hid (fun w' => l6gWay_any bx bY x y w' (by unfold big; omega) (by unfold big; omega))
          have HDt := Lib.hid (fun w' => l1Det_any (bx - ax) (bY - ay) (x - bx) (y - bY) w' (vec_of (by omega)) (vec_of (by omega)))
          generalize detZ (bx - ax) (bY - ay) (x - bx) (y - bY) = D at *
          generalize bendV (ax, ay) (bx, bY) (x, y) = K at *
          rw [hln] at HV' h2 hle ⊢
          obtain ⟨n, hn⟩ : ∃ n, n = r.length + 2 := ⟨_, rfl⟩
          rw [← hn] at HV' h2 hle ⊢
          rw [show r.length = n - 2 by omega] at a1 a2
          rw [show r.length + 1 = n - 1 by omega] at a3 a4
          have t1 : (1 : Int) < (n : Int) := by omega
          have t2 : IntKind.i64.wrap ((n : Int) - 2) = (n : Int) - 2 := by rw [IntKind.wrap_i64]; omega
          have t3 : (0 : Int) ≤ (n : Int) - 2 := by omega
          have t7 : (2 : Int) ≤ (n : Int) := by omega
          have u7 : (1 : Int) ≤ (n : Int) := by omega
          have t4 : (n : Int) - 2 < (n : Int) := by omega
          have t5 : ((n : Int) - 2).toNat = n - 2 := by omega
          have t6 : n - 2 < n := by omega
          have u2 : IntKind.i64.wrap ((n : Int) - 1) = (n : Int) - 1 := by rw [IntKind.wrap_i64]; omega
          have u3 : (0 : Int) ≤ (n : Int) - 1 := by omega
          have u4 : (n : Int) - 1 < (n : Int) := by omega
          have u5 : ((n : Int) - 1).toNat = n - 1 := by omega
          have u6 : n - 1 < n := by omega
          have hgl := cell_lt a1
          have hbl := cell_lt d0
          have hV0 := HV'.out
          have HnR := Lib.hid hn
          have hcc : n ≤ cc := by
            rcases hV0.2 with ⟨h, _⟩ | ⟨g', cap, cur, e, _, _, h5, _⟩
            · simp at h
            · simp only [Value.slice.injEq] at e
              omega
          have hcI : (n : Int) - 1 ≤ (cc : Int) := by omega
          clear hln hR e2 hn hcc
          cases K
          · have hD : D ≤ 0 := by have := HBb.out; simp at this; omega
            have hVs : Vecs wr w.heap.size (.slice (some ⟨gg, 0, none⟩) (n - 1) cc) ((ax, ay) :: r).reverse := by
              have q := hV0
              rw [show n = n - 1 + 1 by omega, List.reverse_cons] at q
              exact Vecs.short q (by have := HnR.out; simp; omega)
            have HVs := Lib.hid hVs
            clear hV0 hVs HV'
            go_upto_region 5 with fail
            refine wp_region_any (by kernel_rfl) ?_
            try (change wpAny _ _ _ _ _ _ _ (World.drew _))
            refine wpAny_of_held (S := fun w' => Below (wr.heap.size) wr w') _ _ _ _ ?_
            have hSw : Below (wr.heap.size) wr (World.drew wr) := by go_grown
            generalize World.drew wr = wd at hSw ⊢
            refine wpAnyH_take (i := 0) (v := ?_) rfl (by kernel_rfl) (by kernel_rfl) (by kernel_rfl) (fun _ _ _ h => h) (Or.inl ⟨by rfl, ?_⟩) hSw ?_
            rotate_left
            focus (intro w0 hS0; clear hS0; go_simp; try with_reducible rfl)
            refine wpAnyH_take (i := 1) (v := ?_) rfl (by kernel_rfl) (by kernel_rfl) (by kernel_rfl) (fun _ _ _ h => h) (Or.inl ⟨by rfl, ?_⟩) hSw ?_
            rotate_left
            focus (intro w0 hS0; clear hS0; go_simp; try with_reducible rfl)
            refine wpAnyH_take (i := 2) (v := ?_) rfl (by kernel_rfl) (by kernel_rfl) (by kernel_rfl) (fun _ _ _ h => h) (Or.inl ⟨by rfl, ?_⟩) hSw ?_
            rotate_left
            focus (intro w0 hS0; clear hS0; go_simp; try with_reducible rfl)
            refine wpAnyH_take (i := 3) (v := ?_) rfl (by kernel_rfl) (by kernel_rfl) (by kernel_rfl) (fun _ _ _ h => h) (Or.inl ⟨by rfl, ?_⟩) hSw ?_
            rotate_left
            focus (intro w0 hS0; clear hS0; go_simp; try with_reducible rfl)
            refine wpAnyH_take (i := 4) (v := ?_) rfl (by kernel_rfl) (by kernel_rfl) (by kernel_rfl) (fun _ _ _ h => h) (Or.inl ⟨by kernel_rfl, ?_⟩) hSw ?_
            rotate_left
            focus (intro w0 hS0; clear hS0; go_simp; try with_reducible rfl)
            refine wpAnyH_take (i := 5) (v := ?_) rfl (by kernel_rfl) (by kernel_rfl) (by kernel_rfl) (fun _ _ _ h => h) (Or.inl ⟨by kernel_rfl, ?_⟩) hSw ?_
            rotate_left
            focus (intro w0 hS0; clear hS0; go_simp; try with_reducible rfl)
            refine wpAnyH_take (i := 6) (v := ?_) rfl (by kernel_rfl) (by kernel_rfl) (by kernel_rfl) (fun _ _ _ h => h) (Or.inl ⟨by kernel_rfl, ?_⟩) hSw ?_
            rotate_left
            focus (intro w0 hS0; clear hS0; go_simp; try with_reducible rfl)
            refine wpAnyH_take (i := 7) (v := ?_) rfl (by kernel_rfl) (by kernel_rfl) (by kernel_rfl) (fun _ _ _ h => h) (Or.inl ⟨by kernel_rfl, ?_⟩) hSw ?_
            rotate_left
            focus (intro w0 hS0; clear hS0; go_simp; try with_reducible rfl)
            refine wpAnyH_take (i := 8) (v := ?_) rfl (by kernel_rfl) (by kernel_rfl) (by kernel_rfl) (fun _ _ _ h => h) (Or.inl ⟨by kernel_rfl, ?_⟩) hSw ?_
            rotate_left
            focus (intro w0 hS0; clear hS0; go_simp; try with_reducible rfl)
            refine wpAnyH_take (i := 9) (v := ?_) rfl (by kernel_rfl) (by kernel_rfl) (by kernel_rfl) (fun _ _ _ h => h) (Or.inl ⟨by kernel_rfl, ?_⟩) hSw ?_
            rotate_left
            focus (intro w0 hS0; have c0 := (hS0.cell (p := ⟨gg, (n - 2) * 2, none⟩) hgl).trans a1; have c1 := (hS0.cell (p := ⟨gg, (n - 2) * 2 + 1, none⟩) hgl).trans a2; have c2 := (hS0.cell (p := ⟨gg, (n - 1) * 2, none⟩) hgl).trans a3; have c3 := (hS0.cell (p := ⟨gg, (n - 1) * 2 + 1, none⟩) hgl).trans a4; have c4 := (hS0.cell (p := ⟨bb, off + k * 2, none⟩) hbl).trans d0; have c5 := (hS0.cell (p := ⟨bb, off + k * 2 + 1, none⟩) hbl).trans d1; clear hS0; go_simp; try with_reducible rfl)
            refine wpAnyH_take (i := 10) (v := ?_) rfl (by kernel_rfl) (by kernel_rfl) (by kernel_rfl) (fun _ _ _ h => h) (Or.inl ⟨by kernel_rfl, ?_⟩) hSw ?_
            rotate_left
            focus (intro w0 hS0; clear hS0; go_simp; try with_reducible rfl)
            refine wpAnyH_take (i := 11) (v := ?_) rfl (by kernel_rfl) (by kernel_rfl) (by kernel_rfl) (fun _ _ _ h => h) (Or.inl ⟨by kernel_rfl, ?_⟩) hSw ?_
            rotate_left
            focus (intro w0 hS0; clear hS0; go_simp; try with_reducible rfl)
            refine wpAnyH_take (i := 12) (v := ?_) rfl (by kernel_rfl) (by kernel_rfl) (by kernel_rfl) (fun _ _ _ h => h) (Or.inl ⟨by kernel_rfl, ?_⟩) hSw ?_
            rotate_left
            focus (intro w0 hS0; clear hS0; go_simp; try with_reducible rfl)
            refine wpAnyH_take (i := 13) (v := ?_) rfl (by kernel_rfl) (by kernel_rfl) (by kernel_rfl) (fun _ _ _ h => h) (Or.inl ⟨by kernel_rfl, ?_⟩) hSw ?_
            rotate_left
            focus (intro w0 hS0; clear hS0; go_simp; try with_reducible rfl)
            refine wpAnyH_take (i := 14) (v := ?_) rfl (by kernel_rfl) (by kernel_rfl) (by kernel_rfl) (fun _ _ _ h => h) (Or.inl ⟨by kernel_rfl, ?_⟩) hSw ?_
            rotate_left
            focus (intro w0 hS0; clear hS0; go_simp; try with_reducible rfl)
            refine wpAnyH_take (i := 15) (v := ?_) rfl (by kernel_rfl) (by kernel_rfl) (by kernel_rfl) (fun _ _ _ h => h) (Or.inl ⟨by kernel_rfl, ?_⟩) hSw ?_
            rotate_left
            focus (intro w0 hS0; have c0 := (hS0.cell (p := ⟨gg, (n - 2) * 2, none⟩) hgl).trans a1; have c1 := (hS0.cell (p := ⟨gg, (n - 2) * 2 + 1, none⟩) hgl).trans a2; have c2 := (hS0.cell (p := ⟨gg, (n - 1) * 2, none⟩) hgl).trans a3; have c3 := (hS0.cell (p := ⟨gg, (n - 1) * 2 + 1, none⟩) hgl).trans a4; have c4 := (hS0.cell (p := ⟨bb, off + k * 2, none⟩) hbl).trans d0; have c5 := (hS0.cell (p := ⟨bb, off + k * 2 + 1, none⟩) hbl).trans d1; clear hS0; go_simp; try with_reducible rfl)
            refine wpAnyH_take (i := 17) (v := ?_) rfl (by kernel_rfl) (by kernel_rfl) (by kernel_rfl) (fun _ _ _ h => h) (Or.inl ⟨by kernel_rfl, ?_⟩) hSw ?_
            rotate_left
            focus (intro w0 hS0; clear hS0; go_simp; try with_reducible rfl)
            refine wpAnyH_take (i := 18) (v := ?_) rfl (by kernel_rfl) (by kernel_rfl) (by kernel_rfl) (fun _ _ _ h => h) (Or.inl ⟨by kernel_rfl, ?_⟩) hSw ?_
            rotate_left
            focus (intro w0 hS0; clear hS0; go_simp; try with_reducible rfl)
            refine wpAnyH_take (i := 19) (v := ?_) rfl (by kernel_rfl) (by kernel_rfl) (by kernel_rfl) (fun _ _ _ h => h) (Or.inl ⟨by kernel_rfl, ?_⟩) hSw ?_
            rotate_left
            focus (intro w0 hS0; clear hS0; go_simp; try with_reducible rfl)
            refine wpAnyH_take (i := 20) (v := ?_) rfl (by kernel_rfl) (by kernel_rfl) (by kernel_rfl) (fun _ _ _ h => h) (Or.inl ⟨by kernel_rfl, ?_⟩) hSw ?_
            rotate_left
            focus (intro w0 hS0; clear hS0; go_simp; try with_reducible rfl)
            refine wpAnyH_take (i := 21) (v := ?_) rfl (by kernel_rfl) (by kernel_rfl) (by kernel_rfl) (fun _ _ _ h => h) (Or.inl ⟨by kernel_rfl, ?_⟩) hSw ?_
            rotate_left
            focus (intro w0 hS0; clear hS0; go_simp; try with_reducible rfl)
            refine wpAnyH_take (i := 22) (v := ?_) rfl (by kernel_rfl) (by kernel_rfl) (by kernel_rfl) (fun _ _ _ h => h) (Or.inl ⟨by kernel_rfl, ?_⟩) hSw ?_
            rotate_left
            focus (intro w0 hS0; have c0 := (hS0.cell (p := ⟨gg, (n - 2) * 2, none⟩) hgl).trans a1; have c1 := (hS0.cell (p := ⟨gg, (n - 2) * 2 + 1, none⟩) hgl).trans a2; have c2 := (hS0.cell (p := ⟨gg, (n - 1) * 2, none⟩) hgl).trans a3; have c3 := (hS0.cell (p := ⟨gg, (n - 1) * 2 + 1, none⟩) hgl).trans a4; have c4 := (hS0.cell (p := ⟨bb, off + k * 2, none⟩) hbl).trans d0; have c5 := (hS0.cell (p := ⟨bb, off + k * 2 + 1, none⟩) hbl).trans d1; clear hS0; go_simp; try with_reducible rfl)
            refine wpAnyH_take (i := 23) (v := ?_) rfl (by kernel_rfl) (by kernel_rfl) (by kernel_rfl) (fun _ _ _ h => h) (Or.inl ⟨by kernel_rfl, ?_⟩) hSw ?_
            rotate_left
            focus (intro w0 hS0; clear hS0; go_simp; try with_reducible rfl)
            refine wpAnyH_take (i := 24) (v := ?_) rfl (by kernel_rfl) (by kernel_rfl) (by kernel_rfl) (fun _ _ _ h => h) (Or.inl ⟨by kernel_rfl, ?_⟩) hSw ?_
            rotate_left
            focus (intro w0 hS0; clear hS0; go_simp; try with_reducible rfl)
            refine wpAnyH_take (i := 25) (v := ?_) rfl (by kernel_rfl) (by kernel_rfl) (by kernel_rfl) (fun _ _ _ h => h) (Or.inl ⟨by kernel_rfl, ?_⟩) hSw ?_
            rotate_left
            focus (intro w0 hS0; clear hS0; go_simp; try with_reducible rfl)
            refine wpAnyH_take (i := 26) (v := ?_) rfl (by kernel_rfl) (by kernel_rfl) (by kernel_rfl) (fun _ _ _ h => h) (Or.inl ⟨by kernel_rfl, ?_⟩) hSw ?_
            rotate_left
            focus (intro w0 hS0; have c0 := (hS0.cell (p := ⟨gg, (n - 2) * 2, none⟩) hgl).trans a1; have c1 := (hS0.cell (p := ⟨gg, (n - 2) * 2 + 1, none⟩) hgl).trans a2; have c2 := (hS0.cell (p := ⟨gg, (n - 1) * 2, none⟩) hgl).trans a3; have c3 := (hS0.cell (p := ⟨gg, (n - 1) * 2 + 1, none⟩) hgl).trans a4; have c4 := (hS0.cell (p := ⟨bb, off + k * 2, none⟩) hbl).trans d0; have c5 := (hS0.cell (p := ⟨bb, off + k * 2 + 1, none⟩) hbl).trans d1; clear hS0; go_simp; try with_reducible rfl)
            refine wpAnyH_ready (rs := [16]) (by kernel_rfl) (by simp) (AllReadyH.cons rfl (fun K hK => ?_) (AllReadyH.nil))
            go_simp
            (refine Calls.mono (HW1.out _) ?_; rintro e w4 ⟨rfl, hbX⟩; replace hSw := belowTo hSw hbX; refine hK.out _ _ hSw (fun _ => ?_); clear hK K hbX)
            refine wpAnyH_ready (rs := [27]) (by kernel_rfl) (by simp) (AllReadyH.cons rfl (fun K hK => ?_) (AllReadyH.nil))
            go_simp
            (refine Calls.mono (HW2.out _) ?_; rintro e w5 ⟨rfl, hbX⟩; replace hSw := belowTo hSw hbX; refine hK.out _ _ hSw (fun _ => ?_); clear hK K hbX)
            refine wpAnyH_ready (rs := [28]) (by kernel_rfl) (by simp) (AllReadyH.cons rfl (fun K hK => ?_) (AllReadyH.nil))
            go_simp
            (refine Calls.mono (HDt.out _) ?_; rintro e w6 ⟨rfl, hbX⟩; replace hSw := belowTo hSw hbX; refine hK.out _ _ hSw (fun _ => ?_); clear hK K hbX)
            refine wpAnyH_take (i := 29) (v := ?_) rfl (by kernel_rfl) (by kernel_rfl) (by kernel_rfl) (fun _ _ _ h => h) (Or.inl ⟨by kernel_rfl, ?_⟩) hSw ?_
            rotate_left
            focus (intro w0 hS0; clear hS0; go_simp; try with_reducible rfl)
            refine wpAnyH_take (i := 30) (v := ?_) rfl (by kernel_rfl) (by kernel_rfl) (by kernel_rfl) (fun _ _ _ h => h) (Or.inl ⟨by rfl, ?_⟩) hSw ?_
            rotate_left
            focus (intro w0 hS0; clear hS0; go_simp; try with_reducible rfl)
            refine wpAnyH_done (by kernel_rfl) ?_ _
            have hB6 := belowTo hBi hSw
            have HV6 := Lib.hid (HVs.out.below hSw)
            clear hSw a1 a2 a3 a4 d0 d1 HVs
            go_wp2
            go_roundw
            case rel => exact ⟨(ax, ay) :: r, pre ++ [(bx, bY)], by have := HnR.out; simp; omega, ⟨by rw [HP.out.1]; simp, by rw [HP.out.2, HPb.out]; rfl⟩, by have := HnR.out; rw [show ((ax, ay) :: r).length = n - 1 by simp; omega]; exact HV6.out, hB6⟩
            case measure => simp [lenS]; omega
          · have hD : ¬ D ≤ 0 := by have := HBb.out; simp at this; omega
            go_upto_region 5 with fail
            refine wp_region_any (by kernel_rfl) ?_
            try (change wpAny _ _ _ _ _ _ _ (World.drew _))
            refine wpAny_of_held (S := fun w' => Below (wr.heap.size) wr w') _ _ _ _ ?_
            have hSw : Below (wr.heap.size) wr (World.drew wr) := by go_grown
            generalize World.drew wr = wd at hSw ⊢
            refine wpAnyH_take (i := 0) (v := ?_) rfl (by kernel_rfl) (by kernel_rfl) (by kernel_rfl) (fun _ _ _ h => h) (Or.inl ⟨by rfl, ?_⟩) hSw ?_
            rotate_left
            focus (intro w0 hS0; clear hS0; go_simp; try with_reducible rfl)
            refine wpAnyH_take (i := 1) (v := ?_) rfl (by kernel_rfl) (by kernel_rfl) (by kernel_rfl) (fun _ _ _ h => h) (Or.inl ⟨by rfl, ?_⟩) hSw ?_
            rotate_left
            focus (intro w0 hS0; clear hS0; go_simp; try with_reducible rfl)
            refine wpAnyH_take (i := 2) (v := ?_) rfl (by kernel_rfl) (by kernel_rfl) (by kernel_rfl) (fun _ _ _ h => h) (Or.inl ⟨by rfl, ?_⟩) hSw ?_
            rotate_left
            focus (intro w0 hS0; clear hS0; go_simp; try with_reducible rfl)
            refine wpAnyH_take (i := 3) (v := ?_) rfl (by kernel_rfl) (by kernel_rfl) (by kernel_rfl) (fun _ _ _ h => h) (Or.inl ⟨by rfl, ?_⟩) hSw ?_
            rotate_left
            focus (intro w0 hS0; clear hS0; go_simp; try with_reducible rfl)
            refine wpAnyH_take (i := 4) (v := ?_) rfl (by kernel_rfl) (by kernel_rfl) (by kernel_rfl) (fun _ _ _ h => h) (Or.inl ⟨by kernel_rfl, ?_⟩) hSw ?_
            rotate_left
            focus (intro w0 hS0; clear hS0; go_simp; try with_reducible rfl)
            refine wpAnyH_take (i := 5) (v := ?_) rfl (by kernel_rfl) (by kernel_rfl) (by kernel_rfl) (fun _ _ _ h => h) (Or.inl ⟨by kernel_rfl, ?_⟩) hSw ?_
            rotate_left
            focus (intro w0 hS0; clear hS0; go_simp; try with_reducible rfl)
            refine wpAnyH_take (i := 6) (v := ?_) rfl (by kernel_rfl) (by kernel_rfl) (by kernel_rfl) (fun _ _ _ h => h) (Or.inl ⟨by kernel_rfl, ?_⟩) hSw ?_
            rotate_left
            focus (intro w0 hS0; clear hS0; go_simp; try with_reducible rfl)
            refine wpAnyH_take (i := 7) (v := ?_) rfl (by kernel_rfl) (by kernel_rfl) (by kernel_rfl) (fun _ _ _ h => h) (Or.inl ⟨by kernel_rfl, ?_⟩) hSw ?_
            rotate_left
            focus (intro w0 hS0; clear hS0; go_simp; try with_reducible rfl)
            refine wpAnyH_take (i := 8) (v := ?_) rfl (by kernel_rfl) (by kernel_rfl) (by kernel_rfl) (fun _ _ _ h => h) (Or.inl ⟨by kernel_rfl, ?_⟩) hSw ?_
            rotate_left
            focus (intro w0 hS0; clear hS0; go_simp; try with_reducible rfl)
            refine wpAnyH_take (i := 9) (v := ?_) rfl (by kernel_rfl) (by kernel_rfl) (by kernel_rfl) (fun _ _ _ h => h) (Or.inl ⟨by kernel_rfl, ?_⟩) hSw ?_
            rotate_left
            focus (intro w0 hS0; have c0 := (hS0.cell (p := ⟨gg, (n - 2) * 2, none⟩) hgl).trans a1; have c1 := (hS0.cell (p := ⟨gg, (n - 2) * 2 + 1, none⟩) hgl).trans a2; have c2 := (hS0.cell (p := ⟨gg, (n - 1) * 2, none⟩) hgl).trans a3; have c3 := (hS0.cell (p := ⟨gg, (n - 1) * 2 + 1, none⟩) hgl).trans a4; have c4 := (hS0.cell (p := ⟨bb, off + k * 2, none⟩) hbl).trans d0; have c5 := (hS0.cell (p := ⟨bb, off + k * 2 + 1, none⟩) hbl).trans d1; clear hS0; go_simp; try with_reducible rfl)
            refine wpAnyH_take (i := 10) (v := ?_) rfl (by kernel_rfl) (by kernel_rfl) (by kernel_rfl) (fun _ _ _ h => h) (Or.inl ⟨by kernel_rfl, ?_⟩) hSw ?_
            rotate_left
            focus (intro w0 hS0; clear hS0; go_simp; try with_reducible rfl)
            refine wpAnyH_take (i := 11) (v := ?_) rfl (by kernel_rfl) (by kernel_rfl) (by kernel_rfl) (fun _ _ _ h => h) (Or.inl ⟨by kernel_rfl, ?_⟩) hSw ?_
            rotate_left
            focus (intro w0 hS0; clear hS0; go_simp; try with_reducible rfl)
            refine wpAnyH_take (i := 12) (v := ?_) rfl (by kernel_rfl) (by kernel_rfl) (by kernel_rfl) (fun _ _ _ h => h) (Or.inl ⟨by kernel_rfl, ?_⟩) hSw ?_
            rotate_left
            focus (intro w0 hS0; clear hS0; go_simp; try with_reducible rfl)
            refine wpAnyH_take (i := 13) (v := ?_) rfl (by kernel_rfl) (by kernel_rfl) (by kernel_rfl) (fun _ _ _ h => h) (Or.inl ⟨by kernel_rfl, ?_⟩) hSw ?_
            rotate_left
            focus (intro w0 hS0; clear hS0; go_simp; try with_reducible rfl)
            refine wpAnyH_take (i := 14) (v := ?_) rfl (by kernel_rfl) (by kernel_rfl) (by kernel_rfl) (fun _ _ _ h => h) (Or.inl ⟨by kernel_rfl, ?_⟩) hSw ?_
            rotate_left
            focus (intro w0 hS0; clear hS0; go_simp; try with_reducible rfl)
            refine wpAnyH_take (i := 15) (v := ?_) rfl (by kernel_rfl) (by kernel_rfl) (by kernel_rfl) (fun _ _ _ h => h) (Or.inl ⟨by kernel_rfl, ?_⟩) hSw ?_
            rotate_left
            focus (intro w0 hS0; have c0 := (hS0.cell (p := ⟨gg, (n - 2) * 2, none⟩) hgl).trans a1; have c1 := (hS0.cell (p := ⟨gg, (n - 2) * 2 + 1, none⟩) hgl).trans a2; have c2 := (hS0.cell (p := ⟨gg, (n - 1) * 2, none⟩) hgl).trans a3; have c3 := (hS0.cell (p := ⟨gg, (n - 1) * 2 + 1, none⟩) hgl).trans a4; have c4 := (hS0.cell (p := ⟨bb, off + k * 2, none⟩) hbl).trans d0; have c5 := (hS0.cell (p := ⟨bb, off + k * 2 + 1, none⟩) hbl).trans d1; clear hS0; go_simp; try with_reducible rfl)
            refine wpAnyH_take (i := 17) (v := ?_) rfl (by kernel_rfl) (by kernel_rfl) (by kernel_rfl) (fun _ _ _ h => h) (Or.inl ⟨by kernel_rfl, ?_⟩) hSw ?_
            rotate_left
            focus (intro w0 hS0; clear hS0; go_simp; try with_reducible rfl)
            refine wpAnyH_take (i := 18) (v := ?_) rfl (by kernel_rfl) (by kernel_rfl) (by kernel_rfl) (fun _ _ _ h => h) (Or.inl ⟨by kernel_rfl, ?_⟩) hSw ?_
            rotate_left
            focus (intro w0 hS0; clear hS0; go_simp; try with_reducible rfl)
            refine wpAnyH_take (i := 19) (v := ?_) rfl (by kernel_rfl) (by kernel_rfl) (by kernel_rfl) (fun _ _ _ h => h) (Or.inl ⟨by kernel_rfl, ?_⟩) hSw ?_
            rotate_left
            focus (intro w0 hS0; clear hS0; go_simp; try with_reducible rfl)
            refine wpAnyH_take (i := 20) (v := ?_) rfl (by kernel_rfl) (by kernel_rfl) (by kernel_rfl) (fun _ _ _ h => h) (Or.inl ⟨by kernel_rfl, ?_⟩) hSw ?_
            rotate_left
            focus (intro w0 hS0; clear hS0; go_simp; try with_reducible rfl)
            refine wpAnyH_take (i := 21) (v := ?_) rfl (by kernel_rfl) (by kernel_rfl) (by kernel_rfl) (fun _ _ _ h => h) (Or.inl ⟨by kernel_rfl, ?_⟩) hSw ?_
            rotate_left
            focus (intro w0 hS0; clear hS0; go_simp; try with_reducible rfl)
            refine wpAnyH_take (i := 22) (v := ?_) rfl (by kernel_rfl) (by kernel_rfl) (by kernel_rfl) (fun _ _ _ h => h) (Or.inl ⟨by kernel_rfl, ?_⟩) hSw ?_
            rotate_left
            focus (intro w0 hS0; have c0 := (hS0.cell (p := ⟨gg, (n - 2) * 2, none⟩) hgl).trans a1; have c1 := (hS0.cell (p := ⟨gg, (n - 2) * 2 + 1, none⟩) hgl).trans a2; have c2 := (hS0.cell (p := ⟨gg, (n - 1) * 2, none⟩) hgl).trans a3; have c3 := (hS0.cell (p := ⟨gg, (n - 1) * 2 + 1, none⟩) hgl).trans a4; have c4 := (hS0.cell (p := ⟨bb, off + k * 2, none⟩) hbl).trans d0; have c5 := (hS0.cell (p := ⟨bb, off + k * 2 + 1, none⟩) hbl).trans d1; clear hS0; go_simp; try with_reducible rfl)
            refine wpAnyH_take (i := 23) (v := ?_) rfl (by kernel_rfl) (by kernel_rfl) (by kernel_rfl) (fun _ _ _ h => h) (Or.inl ⟨by kernel_rfl, ?_⟩) hSw ?_
            rotate_left
            focus (intro w0 hS0; clear hS0; go_simp; try with_reducible rfl)
            refine wpAnyH_take (i := 24) (v := ?_) rfl (by kernel_rfl) (by kernel_rfl) (by kernel_rfl) (fun _ _ _ h => h) (Or.inl ⟨by kernel_rfl, ?_⟩) hSw ?_
            rotate_left
            focus (intro w0 hS0; clear hS0; go_simp; try with_reducible rfl)
            refine wpAnyH_take (i := 25) (v := ?_) rfl (by kernel_rfl) (by kernel_rfl) (by kernel_rfl) (fun _ _ _ h => h) (Or.inl ⟨by kernel_rfl, ?_⟩) hSw ?_
            rotate_left
            focus (intro w0 hS0; clear hS0; go_simp; try with_reducible rfl)
            refine wpAnyH_take (i := 26) (v := ?_) rfl (by kernel_rfl) (by kernel_rfl) (by kernel_rfl) (fun _ _ _ h => h) (Or.inl ⟨by kernel_rfl, ?_⟩) hSw ?_
            rotate_left
            focus (intro w0 hS0; have c0 := (hS0.cell (p := ⟨gg, (n - 2) * 2, none⟩) hgl).trans a1; have c1 := (hS0.cell (p := ⟨gg, (n - 2) * 2 + 1, none⟩) hgl).trans a2; have c2 := (hS0.cell (p := ⟨gg, (n - 1) * 2, none⟩) hgl).trans a3; have c3 := (hS0.cell (p := ⟨gg, (n - 1) * 2 + 1, none⟩) hgl).trans a4; have c4 := (hS0.cell (p := ⟨bb, off + k * 2, none⟩) hbl).trans d0; have c5 := (hS0.cell (p := ⟨bb, off + k * 2 + 1, none⟩) hbl).trans d1; clear hS0; go_simp; try with_reducible rfl)
            refine wpAnyH_ready (rs := [16]) (by kernel_rfl) (by simp) (AllReadyH.cons rfl (fun K hK => ?_) (AllReadyH.nil))
            go_simp
            (refine Calls.mono (HW1.out _) ?_; rintro e w4 ⟨rfl, hbX⟩; replace hSw := belowTo hSw hbX; refine hK.out _ _ hSw (fun _ => ?_); clear hK K hbX)
            refine wpAnyH_ready (rs := [27]) (by kernel_rfl) (by simp) (AllReadyH.cons rfl (fun K hK => ?_) (AllReadyH.nil))
            go_simp
            (refine Calls.mono (HW2.out _) ?_; rintro e w5 ⟨rfl, hbX⟩; replace hSw := belowTo hSw hbX; refine hK.out _ _ hSw (fun _ => ?_); clear hK K hbX)
            refine wpAnyH_ready (rs := [28]) (by kernel_rfl) (by simp) (AllReadyH.cons rfl (fun K hK => ?_) (AllReadyH.nil))
            go_simp
            (refine Calls.mono (HDt.out _) ?_; rintro e w6 ⟨rfl, hbX⟩; replace hSw := belowTo hSw hbX; refine hK.out _ _ hSw (fun _ => ?_); clear hK K hbX)
            refine wpAnyH_take (i := 29) (v := ?_) rfl (by kernel_rfl) (by kernel_rfl) (by kernel_rfl) (fun _ _ _ h => h) (Or.inl ⟨by kernel_rfl, ?_⟩) hSw ?_
            rotate_left
            focus (intro w0 hS0; clear hS0; go_simp; try with_reducible rfl)
            refine wpAnyH_take (i := 30) (v := ?_) rfl (by kernel_rfl) (by kernel_rfl) (by kernel_rfl) (fun _ _ _ h => h) (Or.inl ⟨by rfl, ?_⟩) hSw ?_
            rotate_left
            focus (intro w0 hS0; clear hS0; go_simp; try with_reducible rfl)
            refine wpAnyH_done (by kernel_rfl) ?_ _
            have hBz := belowTo hBi hSw
            have HVz := Lib.hid ((show Vecs wr w.heap.size (.slice (some ⟨gg, 0, none⟩) n cc) ((bx, bY) :: (ax, ay) :: r).reverse from hV0).below hSw)
            have HLn : Hid (((bx, bY) :: (ax, ay) :: r).length = n) := by have := HnR.out; show _ = _; simp; omega
            have HPu : Hid (pushH st (x, y) = (x, y) :: (bx, bY) :: (ax, ay) :: r) := by show _ = _; rw [HP.out.2, HPb.out, if_pos rfl]
            have HLe : Hid (n ≤ 1000) := by show _ ≤ _; omega
            rw [← HLn.out] at HVz
            have HKz := Lib.hid (fun u6 u7 u8 u9 u10 u11 u12 u13 u14 u15 u16 u17 u18 u19 u20 u21 u22 u23 u24 u25 u26 u27 u28 u29 u30 u31 u32 u33 u34 u35 u36 u37 u38 u39 u40 u41 u42 u43 u44 u45 u46 u47 u48 u49 u50 u51 u52 u53 u54 => HK.out _ ((bx, bY) :: (ax, ay) :: r) u6 u7 u8 u9 u10 u11 u12 u13 u14 u15 u16 u17 u18 u19 u20 u21 u22 u23 u24 u25 u26 u27 u28 u29 u30 u31 u32 u33 u34 u35 u36 u37 u38 u39 u40 u41 u42 u43 u44 u45 u46 u47 u48 u49 u50 u51 u52 u53 u54 HPu HVz hBz (by rw [HLn.out]; exact HLe.out))
            rw [HLn.out] at HKz
            clear hSw a1 a2 a3 a4 d0 d1 hV0 HV' HPb HP HK HCk HVz HBb HMb' hle h2 hgl hbl hcI HnR HLn HPu HLe
            go_wp2
            exact HKz.out _ _ _ _ _ _ _ _ _ _ _ _ _ _ _ _ _ _ _ _ _ _ _ _ _ _ _ _ _ _ _ _ _ _ _ _ _ _ _ _ _ _ _ _ _ _ _ _ _
        · have t1 : ¬ (1 : Int) < (st'.length : Int) := by omega
          have HPu : Hid (pushH st (x, y) = (x, y) :: st') := by show _ = _; rw [HP.out.2]; exact push_one h2 _
          have HLe : Hid (st'.length ≤ 1000) := by show _ ≤ _; omega
          have HKz := Lib.hid (fun (wz : World) u6 u7 u8 u9 u10 u11 u12 u13 u14 u15 u16 u17 u18 u19 u20 u21 u22 u23 u24 u25 u26 u27 u28 u29 u30 u31 u32 u33 u34 u35 u36 u37 u38 u39 u40 u41 u42 u43 u44 u45 u46 u47 u48 u49 u50 u51 u52 u53 u54 (hV : Hid (Vecs wz w.heap.size (.slice (some ⟨gg, 0, none⟩) st'.length cc) st'.reverse)) (hB : Below w.heap.size w wz) => HK.out wz st' u6 u7 u8 u9 u10 u11 u12 u13 u14 u15 u16 u17 u18 u19 u20 u21 u22 u23 u24 u25 u26 u27 u28 u29 u30 u31 u32 u33 u34 u35 u36 u37 u38 u39 u40 u41 u42 u43 u44 u45 u46 u47 u48 u49 u50 u51 u52 u53 u54 HPu hV hB HLe.out)
          obtain ⟨n, hn⟩ : ∃ n, n = st'.length := ⟨_, rfl⟩
          rw [← hn] at HV' t1 HKz ⊢
          have HBi := Lib.hid hBi
          have HQ : Hid (Vecs (World.drew wr) w.heap.size (.slice (some ⟨gg, 0, none⟩) n cc) st'.reverse) := HV'.out
          clear hn hBi HV' d0 d1 h2 hle HPu HP HK HCk HMb' HLe
          go_upto_region 5 with fail
          refine wp_region_any (by kernel_rfl) ?_
          try (change wpAny _ _ _ _ _ _ _ (World.drew _))
          refine wpAny_take (i := 0) (v := ?_) rfl (by kernel_rfl) (by kernel_rfl) (by kernel_rfl) (fun _ _ _ h => h) (Or.inl ⟨by rfl, ?_⟩) ?_
          rotate_left
          focus (intro w0; go_simp; try with_reducible rfl)
          refine wpAny_take (i := 1) (v := ?_) rfl (by kernel_rfl) (by kernel_rfl) (by kernel_rfl) (fun _ _ _ h => h) (Or.inl ⟨by rfl, ?_⟩) ?_
          rotate_left
          focus (intro w0; go_simp; try with_reducible rfl)
          refine wpAny_take (i := 2) (v := ?_) rfl (by kernel_rfl) (by kernel_rfl) (by kernel_rfl) (fun _ _ _ h => h) (Or.inl ⟨by rfl, ?_⟩) ?_
          rotate_left
          focus (intro w0; go_simp; try with_reducible rfl)
          refine wpAny_take (i := 3) (v := ?_) rfl (by kernel_rfl) (by kernel_rfl) (by kernel_rfl) (fun _ _ _ h => h) (Or.inl ⟨by rfl, ?_⟩) ?_
          rotate_left
          focus (intro w0; go_simp; try with_reducible rfl)
          refine wpAny_take (i := 4) (v := undef) rfl (by kernel_rfl) (by kernel_rfl) (by kernel_rfl) (fun _ _ _ h => h) (Or.inr ⟨by kernel_rfl, rfl⟩) ?_
          refine wpAny_take (i := 5) (v := undef) rfl (by kernel_rfl) (by kernel_rfl) (by kernel_rfl) (fun _ _ _ h => h) (Or.inr ⟨by kernel_rfl, rfl⟩) ?_
          refine wpAny_take (i := 6) (v := undef) rfl (by kernel_rfl) (by kernel_rfl) (by kernel_rfl) (fun _ _ _ h => h) (Or.inr ⟨by kernel_rfl, rfl⟩) ?_
          refine wpAny_take (i := 7) (v := undef) rfl (by kernel_rfl) (by kernel_rfl) (by kernel_rfl) (fun _ _ _ h => h) (Or.inr ⟨by kernel_rfl, rfl⟩) ?_
          refine wpAny_take (i := 8) (v := undef) rfl (by kernel_rfl) (by kernel_rfl) (by kernel_rfl) (fun _ _ _ h => h) (Or.inr ⟨by kernel_rfl, rfl⟩) ?_
          refine wpAny_take (i := 9) (v := undef) rfl (by kernel_rfl) (by kernel_rfl) (by kernel_rfl) (fun _ _ _ h => h) (Or.inr ⟨by kernel_rfl, rfl⟩) ?_
          refine wpAny_take (i := 10) (v := undef) rfl (by kernel_rfl) (by kernel_rfl) (by kernel_rfl) (fun _ _ _ h => h) (Or.inr ⟨by kernel_rfl, rfl⟩) ?_
          refine wpAny_take (i := 11) (v := undef) rfl (by kernel_rfl) (by kernel_rfl) (by kernel_rfl) (fun _ _ _ h => h) (Or.inr ⟨by kernel_rfl, rfl⟩) ?_
          refine wpAny_take (i := 12) (v := undef) rfl (by kernel_rfl) (by kernel_rfl) (by kernel_rfl) (fun _ _ _ h => h) (Or.inr ⟨by kernel_rfl, rfl⟩) ?_
          refine wpAny_take (i := 13) (v := undef) rfl (by kernel_rfl) (by kernel_rfl) (by kernel_rfl) (fun _ _ _ h => h) (Or.inr ⟨by kernel_rfl, rfl⟩) ?_
          refine wpAny_take (i := 14) (v := undef) rfl (by kernel_rfl) (by kernel_rfl) (by kernel_rfl) (fun _ _ _ h => h) (Or.inr ⟨by kernel_rfl, rfl⟩) ?_
          refine wpAny_take (i := 15) (v := undef) rfl (by kernel_rfl) (by kernel_rfl) (by kernel_rfl) (fun _ _ _ h => h) (Or.inr ⟨by kernel_rfl, rfl⟩) ?_
          refine wpAny_take (i := 16) (v := undef) rfl (by kernel_rfl) (by kernel_rfl) (by kernel_rfl) (fun _ _ _ h => h) (Or.inr ⟨by kernel_rfl, rfl⟩) ?_
          refine wpAny_take (i := 17) (v := undef) rfl (by kernel_rfl) (by kernel_rfl) (by kernel_rfl) (fun _ _ _ h => h) (Or.inr ⟨by kernel_rfl, rfl⟩) ?_
          refine wpAny_take (i := 18) (v := undef) rfl (by kernel_rfl) (by kernel_rfl) (by kernel_rfl) (fun _ _ _ h => h) (Or.inr ⟨by kernel_rfl, rfl⟩) ?_
          refine wpAny_take (i := 19) (v := undef) rfl (by kernel_rfl) (by kernel_rfl) (by kernel_rfl) (fun _ _ _ h => h) (Or.inr ⟨by kernel_rfl, rfl⟩) ?_
          refine wpAny_take (i := 20) (v := undef) rfl (by kernel_rfl) (by kernel_rfl) (by kernel_rfl) (fun _ _ _ h => h) (Or.inr ⟨by kernel_rfl, rfl⟩) ?_
          refine wpAny_take (i := 21) (v := undef) rfl (by kernel_rfl) (by kernel_rfl) (by kernel_rfl) (fun _ _ _ h => h) (Or.inr ⟨by kernel_rfl, rfl⟩) ?_
          refine wpAny_take (i := 22) (v := undef) rfl (by kernel_rfl) (by kernel_rfl) (by kernel_rfl) (fun _ _ _ h => h) (Or.inr ⟨by kernel_rfl, rfl⟩) ?_
          refine wpAny_take (i := 23) (v := undef) rfl (by kernel_rfl) (by kernel_rfl) (by kernel_rfl) (fun _ _ _ h => h) (Or.inr ⟨by kernel_rfl, rfl⟩) ?_
          refine wpAny_take (i := 24) (v := undef) rfl (by kernel_rfl) (by kernel_rfl) (by kernel_rfl) (fun _ _ _ h => h) (Or.inr ⟨by kernel_rfl, rfl⟩) ?_
          refine wpAny_take (i := 25) (v := undef) rfl (by kernel_rfl) (by kernel_rfl) (by kernel_rfl) (fun _ _ _ h => h) (Or.inr ⟨by kernel_rfl, rfl⟩) ?_
          refine wpAny_take (i := 26) (v := undef) rfl (by kernel_rfl) (by kernel_rfl) (by kernel_rfl) (fun _ _ _ h => h) (Or.inr ⟨by kernel_rfl, rfl⟩) ?_
          refine wpAny_take (i := 27) (v := undef) rfl (by kernel_rfl) (by kernel_rfl) (by kernel_rfl) (fun _ _ _ h => h) (Or.inr ⟨by kernel_rfl, rfl⟩) ?_
          refine wpAny_take (i := 28) (v := undef) rfl (by kernel_rfl) (by kernel_rfl) (by kernel_rfl) (fun _ _ _ h => h) (Or.inr ⟨by kernel_rfl, rfl⟩) ?_
          refine wpAny_seq 29 rfl (by kernel_rfl) ?_
          simp only [List.drop_succ_cons, List.drop_zero]
          go_wp2
          exact HKz.out _ _ _ _ _ _ _ _ _ _ _ _ _ _ _ _ _ _ _ _ _ _ _ _ _ _ _ _ _ _ _ _ _ _ _ _ _ _ _ _ _ _ _ _ _ _ _ _ _ _ HQ HBi.out.drew
    · obtain rfl : k = l.length := by omega
      have i2 : ¬ ((l.length : Nat) : Int) < (l.length : Int) := by omega
      have hI := HV.out
      rw [HS.out, HDn.out] at hI
      have HI := Lib.hid hI
      have HSe : Hid (st = halfH l) := by show _ = _; rw [HS.out]; exact HDn.out
      clear hI HV
      go_wp2
      go_returns
      exact ⟨_, rfl, by rw [HSe.out]; exact HI.out, hB⟩
end Go.Proofs.YtgaeibibeekclabGreatDoor
namespace Go.Proofs.YtgaeibibeekclabGreatDoor
open Go.RowKit
theorem piece0D {wr : World} {L : List V2} {g s m : Nat} (hc : ∀ j, j < L.length → wr.cell? ⟨g, j * 2, none⟩ = some (.int .i64 (cyc L j).1) ∧ wr.cell? ⟨g, j * 2 + 1, none⟩ = some (.int .i64 (cyc L j).2)) (h : s + m ≤ L.length) :
    ∀ j u, (intsV (flat ((L.drop s).take m)))[j]? = some u → wr.cell? ((⟨g, s * 2, none⟩ : Addr).add j) = some u := by
  have := piece_cells (bb := g) (off := 0) (fun j hj => by rw [Nat.zero_add]; exact hc j hj) h
  rwa [Nat.zero_add] at this
theorem Vecs.formD {w : World} {base : Nat} {v : Value} {L : List V2} (h : Vecs w base v L) (h0 : 0 < L.length) : ∃ go c, v = .slice (some ⟨go, 0, none⟩) L.length c ∧ base ≤ go ∧ go < w.heap.size ∧ L.length ≤ c := by
  rcases VRow.form h with ⟨h1, _⟩ | ⟨_, g, c, h1, h2, h3, h4⟩
  · omega
  · exact ⟨g, c, h1, h2, h3, h4⟩
/-- the ones before place k, v, the others -/
def insN (L : List V2) (k : Nat) (v : V2) : List V2 := (([] ++ (L.drop 0).take k) ++ [v]) ++ (L.drop k).take (L.length - k)
theorem insN_is (L : List V2) (k : Nat) (v : V2) : insN L k v = (L.take k ++ [v]) ++ L.drop k := by
  unfold insN
  rw [List.nil_append, List.drop_zero, List.take_of_length_le (l := L.drop k) (by simp)]
theorem insN_len {L : List V2} {k : Nat} {v : V2} (h : k ≤ L.length) : (insN L k v).length = L.length + 1 := by
  rw [insN_is]; simp; omega
/-- what the model holds behind the first i vectors -/
structure InnsD (l : List V2) (i : Nat) (L : List V2) : Prop where
  asc : Asc L
  mem : ∀ x, x ∈ L ↔ x ∈ l.take i
  le : i ≤ l.length
  small : L.length ≤ i
theorem InnsD.zero (l : List V2) : InnsD l 0 [] := ⟨by simp [Asc], fun x => by simp, Nat.zero_le _, Nat.le_refl _⟩
/-- where x goes -/
structure SpotD (L : List V2) (x : V2) (k : Nat) : Prop where
  le : k ≤ L.length
  high : ∀ j, k ≤ j → j < L.length → lessB x (cyc L j) = true
theorem SpotD.top (L : List V2) (x : V2) : SpotD L x L.length := ⟨Nat.le_refl _, fun j h1 h2 => by omega⟩
theorem SpotD.down {L : List V2} {x : V2} {k : Nat} (h : SpotD L x k) (h0 : 0 < k) (ha : lessB x (cyc L (k - 1)) = true) : SpotD L x (k - 1) :=
  ⟨by have := h.le; omega, fun j h1 h2 => by
    by_cases e : j = k - 1
    · rw [e]; exact ha
    · exact h.high j (by omega) h2⟩
theorem mem_cycD {L : List V2} {v : V2} (h : v ∈ L) : ∃ j, j < L.length ∧ v = cyc L j := by
  obtain ⟨j, hj, rfl⟩ := List.mem_iff_getElem.1 h
  exact ⟨j, hj, by rw [cyc_lt hj, List.getElem?_eq_getElem hj]; rfl⟩
theorem asc_at {L : List V2} (h : Asc L) {i j : Nat} (hij : i < j) (hj : j < L.length) : lexV (subV (cyc L j) (cyc L i)) := by
  have := List.pairwise_iff_getElem.1 h i j (by omega) hj hij
  rw [cyc_lt (show i < L.length by omega), cyc_lt hj, List.getElem?_eq_getElem (show i < L.length by omega), List.getElem?_eq_getElem hj]
  exact this
theorem InnsD.keep {l L : List V2} {i k : Nat} (h : InnsD l i L) (hi : i < l.length) (h0 : 0 < k) (hs : SpotD L (cyc l i) k) (e : cyc L (k - 1) = cyc l i) : InnsD l (i + 1) L := by
  refine ⟨h.asc, fun x => ?_, hi, by have := h.small; omega⟩
  rw [h.mem, take_cyc hi, List.mem_append, List.mem_singleton]
  constructor
  · exact .inl
  · rintro (h1 | rfl)
    · exact h1
    · rw [← e, ← h.mem]
      exact cyc_mem (by have := hs.le; omega) _
theorem InnsD.ins {l L : List V2} {i k : Nat} (h : InnsD l i L) (hi : i < l.length) (hs : SpotD L (cyc l i) k) (hk : 0 < k → lessB (cyc l i) (cyc L (k - 1)) = false ∧ cyc L (k - 1) ≠ cyc l i) : InnsD l (i + 1) (insN L k (cyc l i)) := by
  have hle := hs.le
  have hlow : ∀ v ∈ L.take k, lexV (subV (cyc l i) v) := fun v hv => by
    have hjk : ∃ j', j' < k ∧ v = cyc L j' := by
      obtain ⟨j', hj', e⟩ := mem_cycD hv
      have hj2 : j' < k := by simp at hj'; omega
      refine ⟨j', hj2, e.trans ?_⟩
      rw [cyc_lt hj', cyc_lt (by omega), List.getElem?_take, if_pos hj2]
    obtain ⟨j', hj', e⟩ := hjk
    rw [e]
    obtain ⟨h1, h2⟩ := hk (by omega)
    have hlast : lexV (subV (cyc l i) (cyc L (k - 1))) := by
      rcases less_not h1 with q | q
      · exact absurd q.symm h2
      · exact q
    by_cases e2 : j' = k - 1
    · rw [e2]; exact hlast
    · exact lex_add (asc_at h.asc (i := j') (j := k - 1) (by omega) (by omega)) hlast
  have hhigh : ∀ v ∈ L.drop k, lexV (subV v (cyc l i)) := fun v hv => by
    obtain ⟨j, hj, rfl⟩ := mem_cycD hv
    have hj2 : k + j < L.length := by simp at hj; omega
    have : cyc (L.drop k) j = cyc L (k + j) := by rw [cyc_lt hj, cyc_lt hj2, List.getElem?_drop]
    rw [this]
    exact less_lex.1 (hs.high _ (by omega) hj2)
  refine ⟨?_, fun x => ?_, hi, by rw [insN_len hle]; have := h.small; omega⟩
  · rw [insN_is]
    have hst := h.asc
    unfold Asc at hst ⊢
    rw [← List.take_append_drop k L] at hst
    obtain ⟨h1, h2, h3⟩ := List.pairwise_append.1 hst
    refine List.pairwise_append.2 ⟨List.pairwise_append.2 ⟨h1, by simp, fun y hy z hz => ?_⟩, h2, fun y hy z hz => ?_⟩
    · obtain rfl := List.mem_singleton.1 hz
      exact hlow y hy
    · rcases List.mem_append.1 hy with hy | hy
      · exact h3 y hy z hz
      · obtain rfl := List.mem_singleton.1 hy
        exact hhigh z hz
  · rw [insN_is, take_cyc hi]
    have hm := h.mem x
    rw [← List.take_append_drop k L, List.mem_append] at hm
    rw [List.mem_append, List.mem_append, List.mem_append]
    constructor
    · rintro ((h1 | h1) | h1)
      · exact .inl (hm.1 (.inl h1))
      · exact .inr h1
      · exact .inl (hm.1 (.inr h1))
    · rintro (h1 | h1)
      · rcases hm.2 h1 with h2 | h2
        · exact .inl (.inl h2)
        · exact .inr h2
      · exact .inl (.inr h1)
theorem InnsD.done {l L : List V2} (h : InnsD l l.length L) : L = sortD l :=
  asc_ext h.asc (sortD_asc l) (fun q => by rw [h.mem, sortD_mem, List.take_of_length_le (Nat.le_refl _)])
structure OutD (w : World) (l : List V2) (i : Nat) (L : List V2) (s : Value) (wr : World) : Prop where
  inns : InnsD l i L
  val : ∃ go c, s = .slice (some ⟨go, 0, none⟩) L.length c ∧ w.heap.size ≤ go ∧ go < wr.heap.size ∧ L.length ≤ c
  vecs : Vecs wr w.heap.size s L
set_option maxRecDepth 100000 in
set_option maxHeartbeats 32000000 in
theorem l6gSort_any (v : Value) (l : List V2) (w : World) (hl : ReadsVecs w v l) (hm : l.length ≤ 1048576) :
    Calls Tryz.prog 132 #[v] w (GivesVecs w (sortD l)) := by
  obtain ⟨a, c, rfl, _, _, hcell⟩ := hl
  have HCl := Lib.hid hcell
  have HDn := Lib.hid (fun L (h : InnsD l l.length L) => InnsD.done h)
  have HI0 : Hid (OutD w l 0 [] (.slice (some ⟨w.heap.size, 0, none⟩) 0 0) (w.alloc (.cells #[] 55))) := ⟨InnsD.zero l, ⟨w.heap.size, 0, rfl, Nat.le_refl _, by simp, Nat.le_refl _⟩, Vecs.empty w⟩
  obtain ⟨n, hn⟩ : ∃ n, n = l.length := ⟨_, rfl⟩
  have HN := Lib.hid hn
  rw [← hn] at hm
  rw [← hn]
  clear hcell hn
  go_enter Tryz.func132, Tryz.ntmps132
  go_wp2
  go_loopw [3, 4] (fun s4 s5 wr => ∃ (i : Nat) (L : List V2), s5 = .int .i64 i ∧ i ≤ n ∧ Hid (OutD w l i L s4 wr) ∧ Below w.heap.size w wr) (fun _ s5 _ => n - (intOf s5).toNat)
  case atStart => exact ⟨0, [], rfl, Nat.zero_le _, HI0, by go_grown⟩
  case round =>
    clear HI0
    obtain ⟨i, L, rfl, hi, hO, hB⟩ := hrel
    have j1 : (0 : Int) ≤ (i : Int) := by omega
    have hs0 := hB.size
    by_cases hlt : i < n
    · have hil : i < l.length := by have := HN.out; omega
      obtain ⟨bb, off, rfl, hbb, hcs⟩ := HCl.out (by omega)
      have c1 := (hB.cell (p := ⟨bb, off + i * 2, none⟩) hbb).trans (hcs i hil).1
      have c2 := (hB.cell (p := ⟨bb, off + i * 2 + 1, none⟩) hbb).trans (hcs i hil).2
      have hbl := Nat.lt_of_lt_of_le hbb hB.size
      have j2 : (i : Int) < (n : Int) := by omega
      have HX := Lib.hid (And.intro hil hO.out)
      generalize hz : cyc l i = z at c1 c2
      have HZ := Lib.hid hz
      obtain ⟨x, y⟩ := z
      dsimp only at c1 c2
      obtain ⟨go, cc, rfl, hgo, hgl, hcc⟩ := hO.out.val
      have hV := hO.out.vecs
      have HRow := Lib.hid hV.rowC
      have HV := Lib.hid hV
      have hB2 := hB
      clear hcs hil hz HDn hO
      obtain ⟨m, hmm⟩ : ∃ m, m = L.length := ⟨_, rfl⟩
      have HM := Lib.hid hmm
      rw [← hmm] at hcc
      have hmn : m ≤ 1048576 := by have h1 := HX.out.2.inns.small; omega
      rw [← hmm]
      clear hB hs0 hV hmm
      go_upto_region 5 with fail
      go_wp2_with fail
      rename_i K hK
      have hgd := guardV
      have HK : Hid (∀ (k : Nat) (wr' : World) (u7 u8 u9 u10 u11 u12 u13 u14 u15 u16 u17 u18 u19 u20 u21 u22 u23 u24 u25 u26 u27 u28 u29 u30 u31 u32 u33 u34 u35 u36 u37 u38 u39 u40 u41 u42 u43 u44 u45 u46 u47 u48 u49 u50 u51 u52 u53 u54 u55 u56 u57 u58 u59 : Value), SpotD L (x, y) k → (0 < k → lessB (x, y) (cyc L (k - 1)) = false) → Below wr.heap.size wr wr' →
          K { tmps := #[.slice (some ⟨bb, off, none⟩) n c, undef, .slice none 0 0, .slice (some ⟨go, 0, none⟩) m cc, .int .i64 (i : Int), .int .i64 (k : Int), .slice (some ⟨w.heap.size, 0, none⟩) 0 0, u7, u8, u9, u10, u11, u12, u13, u14, u15, u16, u17, u18, u19, u20, u21, u22, u23, u24, u25, u26, u27, u28, u29, u30, u31, u32, u33, u34, u35, u36, u37, u38, u39, u40, u41, u42, u43, u44, u45, u46, u47, u48, u49, u50, u51, u52, u53, u54, u55, u56, u57, u58, u59, undef], defers := [] } wr') := by
        intro k wr' u7 u8 u9 u10 u11 u12 u13 u14 u15 u16 u17 u18 u19 u20 u21 u22 u23 u24 u25 u26 u27 u28 u29 u30 u31 u32 u33 u34 u35 u36 u37 u38 u39 u40 u41 u42 u43 u44 u45 u46 u47 u48 u49 u50 u51 u52 u53 u54 u55 u56 u57 u58 u59 hsp hk hb
        refine hK _ _ ?_
        clear hK
        have hkm : k ≤ m := by have := hsp.le; have := HM.out; omega
        have d1 := (hb.cell (p := ⟨bb, off + i * 2, none⟩) hbl).trans c1
        have d2 := (hb.cell (p := ⟨bb, off + i * 2 + 1, none⟩) hbl).trans c2
        have dl := Nat.lt_of_lt_of_le hbl hb.size
        have gl := Nat.lt_of_lt_of_le hgl hb.size
        have HKk := Lib.hid hk
        have HSz : Hid (SpotD L (cyc l i) k) := by show SpotD L (cyc l i) k; rw [HZ.out]; exact hsp
        have HKL : Hid (k ≤ L.length) := hsp.le
        clear hsp hk
        have HWb := Lib.hid (belowTo hB2 hb)
        have HRw : Hid (∀ wr, Below wr'.heap.size wr' wr → ∀ j, j < L.length → wr.cell? ⟨go, j * 2, none⟩ = some (.int .i64 (cyc L j).1) ∧ wr.cell? ⟨go, j * 2 + 1, none⟩ = some (.int .i64 (cyc L j).2)) := fun wr h j hj => by
          obtain ⟨⟨p1, p2⟩, _⟩ := HRow.out j hj
          exact ⟨(h.cell (p := ⟨go, j * 2, none⟩) gl).trans ((hb.cell (p := ⟨go, j * 2, none⟩) hgl).trans p1), (h.cell (p := ⟨go, j * 2 + 1, none⟩) gl).trans ((hb.cell (p := ⟨go, j * 2 + 1, none⟩) hgl).trans p2)⟩
        go_upto_region 8 with fail
        rename_i K2 hK2
        have HK2 := Lib.hid hK2
        clear hK2
        have HT : Hid (∀ (wr2 : World) (u7 u8 u9 u10 u11 u12 u13 u14 u15 u16 u17 u18 u19 u20 u21 u22 u23 u24 u25 u26 u27 u28 u29 u30 u31 u32 u33 u34 u35 u36 u37 u38 u39 u40 u41 u42 u43 u45 u46 u47 u48 u49 u50 u51 u52 u53 u54 u55 u56 u57 u58 u59 : Value), Hid (InnsD l (i + 1) (insN L k (x, y))) → Below wr'.heap.size wr' wr2 →
            K2 { tmps := #[.slice (some ⟨bb, off, none⟩) n c, undef, .slice none 0 0, .slice (some ⟨go, 0, none⟩) m cc, .int .i64 (i : Int), .int .i64 (k : Int), .slice (some ⟨w.heap.size, 0, none⟩) 0 0, u7, u8, u9, u10, u11, u12, u13, u14, u15, u16, u17, u18, u19, u20, u21, u22, u23, u24, u25, u26, u27, u28, u29, u30, u31, u32, u33, u34, u35, u36, u37, u38, u39, u40, u41, u42, u43, .bool true, u45, u46, u47, u48, u49, u50, u51, u52, u53, u54, u55, u56, u57, u58, u59, undef], defers := [] } wr2) := by
          intro W u7 u8 u9 u10 u11 u12 u13 u14 u15 u16 u17 u18 u19 u20 u21 u22 u23 u24 u25 u26 u27 u28 u29 u30 u31 u32 u33 u34 u35 u36 u37 u38 u39 u40 u41 u42 u43 u45 u46 u47 u48 u49 u50 u51 u52 u53 u54 u55 u56 u57 u58 u59 HIn hbW
          refine HK2.out _ _ ?_
          have hWb := belowTo HWb.out hbW
          have hwW := hWb.size
          have c0 := (hbW.cell (p := ⟨bb, off + i * 2, none⟩) dl).trans d1
          have c1' := (hbW.cell (p := ⟨bb, off + i * 2 + 1, none⟩) dl).trans d2
          have hrb := Nat.lt_of_lt_of_le dl hbW.size
          have HCL : Hid (∀ wr, Below W.heap.size W wr → ∀ j, j < L.length → wr.cell? ⟨go, j * 2, none⟩ = some (.int .i64 (cyc L j).1) ∧ wr.cell? ⟨go, j * 2 + 1, none⟩ = some (.int .i64 (cyc L j).2)) := fun wr h => HRw.out wr (belowTo hbW h)
          clear HRw HRow HX HSz HKk HK2 d1 d2 dl gl c1 c2 hbl hgl hbW hb hB2 HWb HV HCl HZ
          obtain ⟨i0, hi0, hz0, hz1, hz2⟩ := info_parts infoVec
          have HO1 : Hid (Vecs (W.drew.alloc (.cells #[] 55)) W.heap.size (.slice (some ⟨W.heap.size, 0, none⟩) 0 0) []) := Vecs.empty W.drew
          have HB1 : Hid (Below W.heap.size W (W.drew.alloc (.cells #[] 55))) := by show Below W.heap.size W (W.drew.alloc (.cells #[] 55)); go_grown
          have HO2 : Hid (Vecs ((W.drew.alloc (.cells #[] 55)).alloc (.cells #[.int .i64 x, .int .i64 y] 55)) W.heap.size (.slice (some ⟨W.heap.size, 0, none⟩) 0 0) []) := HO1.out.below (by go_grown)
          have HB2 : Hid (Below W.heap.size W ((W.drew.alloc (.cells #[] 55)).alloc (.cells #[.int .i64 x, .int .i64 y] 55))) := by show Below W.heap.size W ((W.drew.alloc (.cells #[] 55)).alloc (.cells #[.int .i64 x, .int .i64 y] 55)); go_grown
          have hO3 := (Vecs.empty (W.drew.alloc (.cells #[.int .i64 x, .int .i64 y] 55))).lower (base' := W.heap.size) (by simp)
          simp only [World.size_alloc, World.size_drew] at hO3
          have HO3 : Hid (Vecs ((W.drew.alloc (.cells #[.int .i64 x, .int .i64 y] 55)).alloc (.cells #[] 55)) W.heap.size (.slice (some ⟨W.heap.size + 1, 0, none⟩) 0 0) []) := hO3
          have HB3 : Hid (Below W.heap.size W ((W.drew.alloc (.cells #[.int .i64 x, .int .i64 y] 55)).alloc (.cells #[] 55))) := by show Below W.heap.size W ((W.drew.alloc (.cells #[.int .i64 x, .int .i64 y] 55)).alloc (.cells #[] 55)); go_grown
          have KE0 : Hid (((W.drew.alloc (.cells #[] 55)).alloc (.cells #[.int .i64 x, .int .i64 y] 55)).cell? ⟨W.heap.size + 1, 0, none⟩ = some (.int .i64 x)) := by show ((W.drew.alloc (.cells #[] 55)).alloc (.cells #[.int .i64 x, .int .i64 y] 55)).cell? ⟨W.heap.size + 1, 0, none⟩ = some (.int .i64 x); rw [World.cell?_alloc_at _ _ _ _ (by simp only [World.size_alloc, World.size_drew])]; rfl
          have KE1 : Hid (((W.drew.alloc (.cells #[] 55)).alloc (.cells #[.int .i64 x, .int .i64 y] 55)).cell? ⟨W.heap.size + 1, 1, none⟩ = some (.int .i64 y)) := by show ((W.drew.alloc (.cells #[] 55)).alloc (.cells #[.int .i64 x, .int .i64 y] 55)).cell? ⟨W.heap.size + 1, 1, none⟩ = some (.int .i64 y); rw [World.cell?_alloc_at _ _ _ _ (by simp only [World.size_alloc, World.size_drew])]; rfl
          have KR0 : Hid (((W.drew.alloc (.cells #[.int .i64 x, .int .i64 y] 55)).alloc (.cells #[] 55)).cell? ⟨W.heap.size, 0, none⟩ = some (.int .i64 x)) := by show ((W.drew.alloc (.cells #[.int .i64 x, .int .i64 y] 55)).alloc (.cells #[] 55)).cell? ⟨W.heap.size, 0, none⟩ = some (.int .i64 x); rw [World.cell?_alloc_lt _ _ ⟨_, _, none⟩ (by simp only [World.size_alloc, World.size_drew]; omega), World.cell?_alloc_at _ _ _ _ (by simp only [World.size_drew])]; rfl
          have KR1 : Hid (((W.drew.alloc (.cells #[.int .i64 x, .int .i64 y] 55)).alloc (.cells #[] 55)).cell? ⟨W.heap.size, 1, none⟩ = some (.int .i64 y)) := by show ((W.drew.alloc (.cells #[.int .i64 x, .int .i64 y] 55)).alloc (.cells #[] 55)).cell? ⟨W.heap.size, 1, none⟩ = some (.int .i64 y); rw [World.cell?_alloc_lt _ _ ⟨_, _, none⟩ (by simp only [World.size_alloc, World.size_drew]; omega), World.cell?_alloc_at _ _ _ _ (by simp only [World.size_drew])]; rfl
          clear hO3
          have HLm := HM
          have HT1 : Hid (0 + k ≤ L.length) := by have := HM.out; show 0 + k ≤ L.length; omega
          have HT2 : Hid (k + (m - k) ≤ L.length) := by have := HM.out; show k + (m - k) ≤ L.length; omega
          have HRf : Hid ((([] ++ (L.drop 0).take k) ++ [(x, y)]) ++ (L.drop k).take (m - k) = insN L k (x, y)) := by show _ = _; unfold insN; rw [HM.out]
          have r1 : (0 : Int) ≤ (k : Int) := by omega
          have r2 : (k : Int) ≤ (m : Int) := by omega
          have r3 : (k : Int) ≤ (cc : Int) := by omega
          have r4 : k ≤ cc := by omega
          by_cases hk0 : k = 0
          · subst hk0
            by_cases hc0 : cc = 0
            · have hm0 : m = 0 := by omega
              subst hm0
              subst hc0
              have HR : Hid ((([] ++ (L.drop 0).take 0) ++ [(x, y)]) ++ [] = insN L 0 (x, y)) := by
                have := HRf.out
                rwa [Nat.sub_zero, List.take_zero] at this
              clear HRf HM
              go_wp2
              refine wp_region_any (by kernel_rfl) ?_
              try (change wpAny _ _ _ _ _ _ _ (World.drew _))
              refine wpAny_take (i := 1) (v := ?_) rfl (by kernel_rfl) (by kernel_rfl) (by kernel_rfl) (fun _ _ _ h => h) (Or.inl ⟨by rfl, ?_⟩) ?_
              rotate_left
              focus (intro w0; go_simp; try with_reducible rfl)
              refine wpAny_take (i := 2) (v := ?_) rfl (by kernel_rfl) (by kernel_rfl) (by kernel_rfl) (fun _ _ _ h => h) (Or.inl ⟨by rfl, ?_⟩) ?_
              rotate_left
              focus (intro w0; go_simp; try with_reducible rfl)
              refine wpAny_take (i := 3) (v := ?_) rfl (by kernel_rfl) (by kernel_rfl) (by kernel_rfl) (fun _ _ _ h => h) (Or.inl ⟨by rfl, ?_⟩) ?_
              rotate_left
              focus (intro w0; go_simp; try with_reducible rfl)
              refine wpAny_take (i := 5) (v := ?_) rfl (by kernel_rfl) (by kernel_rfl) (by kernel_rfl) (fun _ _ _ h => h) (Or.inl ⟨by rfl, ?_⟩) ?_
              rotate_left
              focus (intro w0; go_simp; try with_reducible rfl)
              refine wpAny_take (i := 6) (v := ?_) rfl (by kernel_rfl) (by kernel_rfl) (by kernel_rfl) (fun _ _ _ h => h) (Or.inl ⟨by rfl, ?_⟩) ?_
              rotate_left
              focus (intro w0; go_simp; try with_reducible rfl)
              refine wpAny_take (i := 7) (v := ?_) rfl (by kernel_rfl) (by kernel_rfl) (by kernel_rfl) (fun _ _ _ h => h) (Or.inl ⟨by rfl, ?_⟩) ?_
              rotate_left
              focus (intro w0; go_simp; try with_reducible rfl)
              refine wpAny_take (i := 11) (v := ?_) rfl (by kernel_rfl) (by kernel_rfl) (by kernel_rfl) (fun _ _ _ h => h) (Or.inl ⟨by rfl, ?_⟩) ?_
              rotate_left
              focus (intro w0; go_simp; try with_reducible rfl)
              refine wpAny_take (i := 12) (v := ?_) rfl (by kernel_rfl) (by kernel_rfl) (by kernel_rfl) (fun _ _ _ h => h) (Or.inl ⟨by rfl, ?_⟩) ?_
              rotate_left
              focus (intro w0; go_simp; try with_reducible rfl)
              refine wpAny_take (i := 13) (v := ?_) rfl (by kernel_rfl) (by kernel_rfl) (by kernel_rfl) (fun _ _ _ h => h) (Or.inl ⟨by rfl, ?_⟩) ?_
              rotate_left
              focus (intro w0; go_simp; try with_reducible rfl)
              refine wpAny_ready (rs := [0, 8]) (by kernel_rfl) (by simp) (AllReady.cons rfl (fun K hK => ?_) (AllReady.cons rfl (fun K hK => ?_) (AllReady.nil)))
              focus
                go_simp
                refine hK _ _ ?_
                clear hK K
                refine wpAny_ready (rs := [4, 8]) (by kernel_rfl) (by simp) (AllReady.cons rfl (fun K hK => ?_) (AllReady.cons rfl (fun K hK => ?_) (AllReady.nil)))
                focus
                  (refine step_list (by rintro ⟨_, _, h⟩; obtain ⟨_, hv, _⟩ := h; cases hv) (by kernel_rfl) ?_; refine wpList_append_own_at _ rfl _ _ 23 rfl W.heap.size 55 i0 (.agg #[.int .i64 (0), .int .i64 (0)]) 2 16 Tryz.underlying23 hi0 hz0 hz1 hz2 rfl (by decide) (.slice (some ⟨W.heap.size, 0, none⟩) 0 0) _ _ rfl HO1.out _ _ _ _ rfl (piece_len HT1.out) (piece0D (HCL.out _ HB1.out) HT1.out) (piece_one _) (by unfold maxLen; simp <;> omega) (by simp <;> omega) HB1.out.size ?_; intro v2 w2 hown2 hgrow2 _ _; have HBA := Lib.hid (HB1.out.grown hgrow2 HB1.out.size (fun q hq => (World.ownsRow.lt HO1.out q hq).1)); have HOA := Lib.hid (Vecs.join (l := []) hown2 (by have := HLm.out; simp <;> omega)); have b0 := (HBA.out.cell (p := ⟨bb, off + i * 2, none⟩) hrb).trans c0; have b1 := (HBA.out.cell (p := ⟨bb, off + i * 2 + 1, none⟩) hrb).trans c1'; have bl := Nat.lt_of_lt_of_le hrb HBA.out.size; clear hown2 hgrow2)
                  refine hK _ _ ?_
                  clear hK K
                  refine wpAny_ready (rs := [8]) (by kernel_rfl) (by simp) (AllReady.cons rfl (fun K hK => ?_) (AllReady.nil))
                  go_simp
                  refine hK _ _ ?_
                  clear hK K
                  refine wpAny_ready (rs := [9]) (by kernel_rfl) (by simp) (AllReady.cons rfl (fun K hK => ?_) (AllReady.nil))
                  go_simp
                  refine hK _ _ ?_
                  clear hK K
                  refine wpAny_ready (rs := [10]) (by kernel_rfl) (by simp) (AllReady.cons rfl (fun K hK => ?_) (AllReady.nil))
                  (refine step_list (by rintro ⟨_, _, h⟩; obtain ⟨_, hv, _⟩ := h; cases hv) (by kernel_rfl) ?_; refine wpList_append_own_at _ rfl _ _ 23 rfl W.heap.size 55 i0 (.agg #[.int .i64 (0), .int .i64 (0)]) 2 16 Tryz.underlying23 hi0 hz0 hz1 hz2 rfl (by decide) _ _ _ rfl (HOA.out.below (by go_grown)) _ 1 1 [.int .i64 x, .int .i64 y] rfl rfl (two_cells (by simp) (by simp)) (two_one _ _) (by unfold maxLen; simp <;> omega) (by simp <;> omega) (HBA.out.alloc HBA.out.size _).size ?_; intro v3 w3 hown3 hgrow3 _ _; have HBC := Lib.hid ((HBA.out.alloc HBA.out.size _).grown hgrow3 (HBA.out.alloc HBA.out.size _).size (fun q hq => (World.ownsRow.lt HOA.out q hq).1)); have HOC := Lib.hid (Vecs.snoc (l := [] ++ (L.drop 0).take 0) rfl hown3); clear hown3 hgrow3)
                  refine hK _ _ ?_
                  clear hK K
                  refine wpAny_ready (rs := [14]) (by kernel_rfl) (by simp) (AllReady.cons rfl (fun K hK => ?_) (AllReady.nil))
                  (refine step_list (by rintro ⟨_, _, h⟩; obtain ⟨_, hv, _⟩ := h; cases hv) (by kernel_rfl) ?_; refine wpList_append_own_at _ rfl _ _ 23 rfl W.heap.size 55 i0 (.agg #[.int .i64 (0), .int .i64 (0)]) 2 16 Tryz.underlying23 hi0 hz0 hz1 hz2 rfl (by decide) _ _ _ rfl HOC.out _ 0 _ [] rfl rfl (fun j u hj => by simp at hj) (fun u hu => by simp at hu) (by unfold maxLen; simp <;> omega) (by simp <;> omega) HBC.out.size ?_; intro v4 w4 hown4 hgrow4 _ _; have HBD := Lib.hid (HBC.out.grown hgrow4 HBC.out.size (fun q hq => (World.ownsRow.lt HOC.out q hq).1)); have HOD := Lib.hid (Vecs.join (m := []) hown4 (by have := HLm.out; simp <;> omega)); clear hown4 hgrow4)
                  refine hK _ _ ?_
                  clear hK K
                  refine wpAny_seq 15 rfl (by kernel_rfl) ?_
                  simp only [List.drop_succ_cons, List.drop_zero]
                rotate_left 1
                focus
                  go_simp
                  refine hK _ _ ?_
                  clear hK K
                  refine wpAny_ready (rs := [4, 9]) (by kernel_rfl) (by simp) (AllReady.cons rfl (fun K hK => ?_) (AllReady.cons rfl (fun K hK => ?_) (AllReady.nil)))
                  focus
                    (refine step_list (by rintro ⟨_, _, h⟩; obtain ⟨_, hv, _⟩ := h; cases hv) (by kernel_rfl) ?_; refine wpList_append_own_at _ rfl _ _ 23 rfl W.heap.size 55 i0 (.agg #[.int .i64 (0), .int .i64 (0)]) 2 16 Tryz.underlying23 hi0 hz0 hz1 hz2 rfl (by decide) (.slice (some ⟨W.heap.size, 0, none⟩) 0 0) _ _ rfl HO1.out _ _ _ _ rfl (piece_len HT1.out) (piece0D (HCL.out _ HB1.out) HT1.out) (piece_one _) (by unfold maxLen; simp <;> omega) (by simp <;> omega) HB1.out.size ?_; intro v2 w2 hown2 hgrow2 _ _; have HBA := Lib.hid (HB1.out.grown hgrow2 HB1.out.size (fun q hq => (World.ownsRow.lt HO1.out q hq).1)); have HOA := Lib.hid (Vecs.join (l := []) hown2 (by have := HLm.out; simp <;> omega)); have b0 := (HBA.out.cell (p := ⟨bb, off + i * 2, none⟩) hrb).trans c0; have b1 := (HBA.out.cell (p := ⟨bb, off + i * 2 + 1, none⟩) hrb).trans c1'; have bl := Nat.lt_of_lt_of_le hrb HBA.out.size; clear hown2 hgrow2)
                    refine hK _ _ ?_
                    clear hK K
                    refine wpAny_ready (rs := [9]) (by kernel_rfl) (by simp) (AllReady.cons rfl (fun K hK => ?_) (AllReady.nil))
                    go_simp
                    refine hK _ _ ?_
                    clear hK K
                    refine wpAny_ready (rs := [10]) (by kernel_rfl) (by simp) (AllReady.cons rfl (fun K hK => ?_) (AllReady.nil))
                    (refine step_list (by rintro ⟨_, _, h⟩; obtain ⟨_, hv, _⟩ := h; cases hv) (by kernel_rfl) ?_; refine wpList_append_own_at _ rfl _ _ 23 rfl W.heap.size 55 i0 (.agg #[.int .i64 (0), .int .i64 (0)]) 2 16 Tryz.underlying23 hi0 hz0 hz1 hz2 rfl (by decide) _ _ _ rfl (HOA.out.below (by go_grown)) _ 1 1 [.int .i64 x, .int .i64 y] rfl rfl (two_cells (by simp) (by simp)) (two_one _ _) (by unfold maxLen; simp <;> omega) (by simp <;> omega) (HBA.out.alloc HBA.out.size _).size ?_; intro v3 w3 hown3 hgrow3 _ _; have HBC := Lib.hid ((HBA.out.alloc HBA.out.size _).grown hgrow3 (HBA.out.alloc HBA.out.size _).size (fun q hq => (World.ownsRow.lt HOA.out q hq).1)); have HOC := Lib.hid (Vecs.snoc (l := [] ++ (L.drop 0).take 0) rfl hown3); clear hown3 hgrow3)
                    refine hK _ _ ?_
                    clear hK K
                    refine wpAny_ready (rs := [14]) (by kernel_rfl) (by simp) (AllReady.cons rfl (fun K hK => ?_) (AllReady.nil))
                    (refine step_list (by rintro ⟨_, _, h⟩; obtain ⟨_, hv, _⟩ := h; cases hv) (by kernel_rfl) ?_; refine wpList_append_own_at _ rfl _ _ 23 rfl W.heap.size 55 i0 (.agg #[.int .i64 (0), .int .i64 (0)]) 2 16 Tryz.underlying23 hi0 hz0 hz1 hz2 rfl (by decide) _ _ _ rfl HOC.out _ 0 _ [] rfl rfl (fun j u hj => by simp at hj) (fun u hu => by simp at hu) (by unfold maxLen; simp <;> omega) (by simp <;> omega) HBC.out.size ?_; intro v4 w4 hown4 hgrow4 _ _; have HBD := Lib.hid (HBC.out.grown hgrow4 HBC.out.size (fun q hq => (World.ownsRow.lt HOC.out q hq).1)); have HOD := Lib.hid (Vecs.join (m := []) hown4 (by have := HLm.out; simp <;> omega)); clear hown4 hgrow4)
                    refine hK _ _ ?_
                    clear hK K
                    refine wpAny_seq 15 rfl (by kernel_rfl) ?_
                    simp only [List.drop_succ_cons, List.drop_zero]
                  rotate_left 1
                  focus
                    go_simp
                    refine hK _ _ ?_
                    clear hK K
                    refine wpAny_ready (rs := [4]) (by kernel_rfl) (by simp) (AllReady.cons rfl (fun K hK => ?_) (AllReady.nil))
                    (refine step_list (by rintro ⟨_, _, h⟩; obtain ⟨_, hv, _⟩ := h; cases hv) (by kernel_rfl) ?_; refine wpList_append_own_at _ rfl _ _ 23 rfl W.heap.size 55 i0 (.agg #[.int .i64 (0), .int .i64 (0)]) 2 16 Tryz.underlying23 hi0 hz0 hz1 hz2 rfl (by decide) (.slice (some ⟨W.heap.size, 0, none⟩) 0 0) _ _ rfl HO2.out _ _ _ _ rfl (piece_len HT1.out) (piece0D (HCL.out _ HB2.out) HT1.out) (piece_one _) (by unfold maxLen; simp <;> omega) (by simp <;> omega) HB2.out.size ?_; intro v2 w2 hown2 hgrow2 _ _; have HBA := Lib.hid (HB2.out.grown hgrow2 HB2.out.size (fun q hq => (World.ownsRow.lt HO2.out q hq).1)); have HOA := Lib.hid (Vecs.join (l := []) hown2 (by have := HLm.out; simp <;> omega)); have rr : w2.heap[W.heap.size + 1]? = ((W.drew.alloc (.cells #[] 55)).alloc (.cells #[.int .i64 x, .int .i64 y] 55)).heap[W.heap.size + 1]? := hgrow2.block _ (by simp <;> omega) (by simp [Value.ownBlock]); have RR0 : Hid (w2.cell? ⟨W.heap.size + 1, 0, none⟩ = some (.int .i64 x)) := (cell_same rr 0).trans KE0.out; have RR1 : Hid (w2.cell? ⟨W.heap.size + 1, 1, none⟩ = some (.int .i64 y)) := (cell_same rr 1).trans KE1.out; clear rr; clear hown2 hgrow2)
                    refine hK _ _ ?_
                    clear hK K
                    refine wpAny_ready (rs := [10]) (by kernel_rfl) (by simp) (AllReady.cons rfl (fun K hK => ?_) (AllReady.nil))
                    (refine step_list (by rintro ⟨_, _, h⟩; obtain ⟨_, hv, _⟩ := h; cases hv) (by kernel_rfl) ?_; refine wpList_append_own_at _ rfl _ _ 23 rfl W.heap.size 55 i0 (.agg #[.int .i64 (0), .int .i64 (0)]) 2 16 Tryz.underlying23 hi0 hz0 hz1 hz2 rfl (by decide) _ _ _ rfl HOA.out _ 1 1 [.int .i64 x, .int .i64 y] rfl rfl (two_cells RR0.out RR1.out) (two_one _ _) (by unfold maxLen; simp <;> omega) (by simp <;> omega) HBA.out.size ?_; intro v3 w3 hown3 hgrow3 _ _; have HBC := Lib.hid (HBA.out.grown hgrow3 HBA.out.size (fun q hq => (World.ownsRow.lt HOA.out q hq).1)); have HOC := Lib.hid (Vecs.snoc (l := [] ++ (L.drop 0).take 0) rfl hown3); clear hown3 hgrow3)
                    refine hK _ _ ?_
                    clear hK K
                    refine wpAny_ready (rs := [14]) (by kernel_rfl) (by simp) (AllReady.cons rfl (fun K hK => ?_) (AllReady.nil))
                    (refine step_list (by rintro ⟨_, _, h⟩; obtain ⟨_, hv, _⟩ := h; cases hv) (by kernel_rfl) ?_; refine wpList_append_own_at _ rfl _ _ 23 rfl W.heap.size 55 i0 (.agg #[.int .i64 (0), .int .i64 (0)]) 2 16 Tryz.underlying23 hi0 hz0 hz1 hz2 rfl (by decide) _ _ _ rfl HOC.out _ 0 _ [] rfl rfl (fun j u hj => by simp at hj) (fun u hu => by simp at hu) (by unfold maxLen; simp <;> omega) (by simp <;> omega) HBC.out.size ?_; intro v4 w4 hown4 hgrow4 _ _; have HBD := Lib.hid (HBC.out.grown hgrow4 HBC.out.size (fun q hq => (World.ownsRow.lt HOC.out q hq).1)); have HOD := Lib.hid (Vecs.join (m := []) hown4 (by have := HLm.out; simp <;> omega)); clear hown4 hgrow4)
                    refine hK _ _ ?_
                    clear hK K
                    refine wpAny_seq 15 rfl (by kernel_rfl) ?_
                    simp only [List.drop_succ_cons, List.drop_zero]
              rotate_left 3
              focus
                go_simp
                refine hK _ _ ?_
                clear hK K
                refine wpAny_ready (rs := [0, 9]) (by kernel_rfl) (by simp) (AllReady.cons rfl (fun K hK => ?_) (AllReady.cons rfl (fun K hK => ?_) (AllReady.nil)))
                focus
                  go_simp
                  refine hK _ _ ?_
                  clear hK K
                  refine wpAny_ready (rs := [4, 9]) (by kernel_rfl) (by simp) (AllReady.cons rfl (fun K hK => ?_) (AllReady.cons rfl (fun K hK => ?_) (AllReady.nil)))
                  focus
                    (refine step_list (by rintro ⟨_, _, h⟩; obtain ⟨_, hv, _⟩ := h; cases hv) (by kernel_rfl) ?_; refine wpList_append_own_at _ rfl _ _ 23 rfl W.heap.size 55 i0 (.agg #[.int .i64 (0), .int .i64 (0)]) 2 16 Tryz.underlying23 hi0 hz0 hz1 hz2 rfl (by decide) (.slice (some ⟨W.heap.size, 0, none⟩) 0 0) _ _ rfl HO1.out _ _ _ _ rfl (piece_len HT1.out) (piece0D (HCL.out _ HB1.out) HT1.out) (piece_one _) (by unfold maxLen; simp <;> omega) (by simp <;> omega) HB1.out.size ?_; intro v2 w2 hown2 hgrow2 _ _; have HBA := Lib.hid (HB1.out.grown hgrow2 HB1.out.size (fun q hq => (World.ownsRow.lt HO1.out q hq).1)); have HOA := Lib.hid (Vecs.join (l := []) hown2 (by have := HLm.out; simp <;> omega)); have b0 := (HBA.out.cell (p := ⟨bb, off + i * 2, none⟩) hrb).trans c0; have b1 := (HBA.out.cell (p := ⟨bb, off + i * 2 + 1, none⟩) hrb).trans c1'; have bl := Nat.lt_of_lt_of_le hrb HBA.out.size; clear hown2 hgrow2)
                    refine hK _ _ ?_
                    clear hK K
                    refine wpAny_ready (rs := [9]) (by kernel_rfl) (by simp) (AllReady.cons rfl (fun K hK => ?_) (AllReady.nil))
                    go_simp
                    refine hK _ _ ?_
                    clear hK K
                    refine wpAny_ready (rs := [10]) (by kernel_rfl) (by simp) (AllReady.cons rfl (fun K hK => ?_) (AllReady.nil))
                    (refine step_list (by rintro ⟨_, _, h⟩; obtain ⟨_, hv, _⟩ := h; cases hv) (by kernel_rfl) ?_; refine wpList_append_own_at _ rfl _ _ 23 rfl W.heap.size 55 i0 (.agg #[.int .i64 (0), .int .i64 (0)]) 2 16 Tryz.underlying23 hi0 hz0 hz1 hz2 rfl (by decide) _ _ _ rfl (HOA.out.below (by go_grown)) _ 1 1 [.int .i64 x, .int .i64 y] rfl rfl (two_cells (by simp) (by simp)) (two_one _ _) (by unfold maxLen; simp <;> omega) (by simp <;> omega) (HBA.out.alloc HBA.out.size _).size ?_; intro v3 w3 hown3 hgrow3 _ _; have HBC := Lib.hid ((HBA.out.alloc HBA.out.size _).grown hgrow3 (HBA.out.alloc HBA.out.size _).size (fun q hq => (World.ownsRow.lt HOA.out q hq).1)); have HOC := Lib.hid (Vecs.snoc (l := [] ++ (L.drop 0).take 0) rfl hown3); clear hown3 hgrow3)
                    refine hK _ _ ?_
                    clear hK K
                    refine wpAny_ready (rs := [14]) (by kernel_rfl) (by simp) (AllReady.cons rfl (fun K hK => ?_) (AllReady.nil))
                    (refine step_list (by rintro ⟨_, _, h⟩; obtain ⟨_, hv, _⟩ := h; cases hv) (by kernel_rfl) ?_; refine wpList_append_own_at _ rfl _ _ 23 rfl W.heap.size 55 i0 (.agg #[.int .i64 (0), .int .i64 (0)]) 2 16 Tryz.underlying23 hi0 hz0 hz1 hz2 rfl (by decide) _ _ _ rfl HOC.out _ 0 _ [] rfl rfl (fun j u hj => by simp at hj) (fun u hu => by simp at hu) (by unfold maxLen; simp <;> omega) (by simp <;> omega) HBC.out.size ?_; intro v4 w4 hown4 hgrow4 _ _; have HBD := Lib.hid (HBC.out.grown hgrow4 HBC.out.size (fun q hq => (World.ownsRow.lt HOC.out q hq).1)); have HOD := Lib.hid (Vecs.join (m := []) hown4 (by have := HLm.out; simp <;> omega)); clear hown4 hgrow4)
                    refine hK _ _ ?_
                    clear hK K
                    refine wpAny_seq 15 rfl (by kernel_rfl) ?_
                    simp only [List.drop_succ_cons, List.drop_zero]
                  rotate_left 1
                  focus
                    go_simp
                    refine hK _ _ ?_
                    clear hK K
                    refine wpAny_ready (rs := [4]) (by kernel_rfl) (by simp) (AllReady.cons rfl (fun K hK => ?_) (AllReady.nil))
                    (refine step_list (by rintro ⟨_, _, h⟩; obtain ⟨_, hv, _⟩ := h; cases hv) (by kernel_rfl) ?_; refine wpList_append_own_at _ rfl _ _ 23 rfl W.heap.size 55 i0 (.agg #[.int .i64 (0), .int .i64 (0)]) 2 16 Tryz.underlying23 hi0 hz0 hz1 hz2 rfl (by decide) (.slice (some ⟨W.heap.size, 0, none⟩) 0 0) _ _ rfl HO2.out _ _ _ _ rfl (piece_len HT1.out) (piece0D (HCL.out _ HB2.out) HT1.out) (piece_one _) (by unfold maxLen; simp <;> omega) (by simp <;> omega) HB2.out.size ?_; intro v2 w2 hown2 hgrow2 _ _; have HBA := Lib.hid (HB2.out.grown hgrow2 HB2.out.size (fun q hq => (World.ownsRow.lt HO2.out q hq).1)); have HOA := Lib.hid (Vecs.join (l := []) hown2 (by have := HLm.out; simp <;> omega)); have rr : w2.heap[W.heap.size + 1]? = ((W.drew.alloc (.cells #[] 55)).alloc (.cells #[.int .i64 x, .int .i64 y] 55)).heap[W.heap.size + 1]? := hgrow2.block _ (by simp <;> omega) (by simp [Value.ownBlock]); have RR0 : Hid (w2.cell? ⟨W.heap.size + 1, 0, none⟩ = some (.int .i64 x)) := (cell_same rr 0).trans KE0.out; have RR1 : Hid (w2.cell? ⟨W.heap.size + 1, 1, none⟩ = some (.int .i64 y)) := (cell_same rr 1).trans KE1.out; clear rr; clear hown2 hgrow2)
                    refine hK _ _ ?_
                    clear hK K
                    refine wpAny_ready (rs := [10]) (by kernel_rfl) (by simp) (AllReady.cons rfl (fun K hK => ?_) (AllReady.nil))
                    (refine step_list (by rintro ⟨_, _, h⟩; obtain ⟨_, hv, _⟩ := h; cases hv) (by kernel_rfl) ?_; refine wpList_append_own_at _ rfl _ _ 23 rfl W.heap.size 55 i0 (.agg #[.int .i64 (0), .int .i64 (0)]) 2 16 Tryz.underlying23 hi0 hz0 hz1 hz2 rfl (by decide) _ _ _ rfl HOA.out _ 1 1 [.int .i64 x, .int .i64 y] rfl rfl (two_cells RR0.out RR1.out) (two_one _ _) (by unfold maxLen; simp <;> omega) (by simp <;> omega) HBA.out.size ?_; intro v3 w3 hown3 hgrow3 _ _; have HBC := Lib.hid (HBA.out.grown hgrow3 HBA.out.size (fun q hq => (World.ownsRow.lt HOA.out q hq).1)); have HOC := Lib.hid (Vecs.snoc (l := [] ++ (L.drop 0).take 0) rfl hown3); clear hown3 hgrow3)
                    refine hK _ _ ?_
                    clear hK K
                    refine wpAny_ready (rs := [14]) (by kernel_rfl) (by simp) (AllReady.cons rfl (fun K hK => ?_) (AllReady.nil))
                    (refine step_list (by rintro ⟨_, _, h⟩; obtain ⟨_, hv, _⟩ := h; cases hv) (by kernel_rfl) ?_; refine wpList_append_own_at _ rfl _ _ 23 rfl W.heap.size 55 i0 (.agg #[.int .i64 (0), .int .i64 (0)]) 2 16 Tryz.underlying23 hi0 hz0 hz1 hz2 rfl (by decide) _ _ _ rfl HOC.out _ 0 _ [] rfl rfl (fun j u hj => by simp at hj) (fun u hu => by simp at hu) (by unfold maxLen; simp <;> omega) (by simp <;> omega) HBC.out.size ?_; intro v4 w4 hown4 hgrow4 _ _; have HBD := Lib.hid (HBC.out.grown hgrow4 HBC.out.size (fun q hq => (World.ownsRow.lt HOC.out q hq).1)); have HOD := Lib.hid (Vecs.join (m := []) hown4 (by have := HLm.out; simp <;> omega)); clear hown4 hgrow4)
                    refine hK _ _ ?_
                    clear hK K
                    refine wpAny_seq 15 rfl (by kernel_rfl) ?_
                    simp only [List.drop_succ_cons, List.drop_zero]
                rotate_left 2
                focus
                  go_simp
                  refine hK _ _ ?_
                  clear hK K
                  refine wpAny_ready (rs := [0]) (by kernel_rfl) (by simp) (AllReady.cons rfl (fun K hK => ?_) (AllReady.nil))
                  go_simp
                  refine hK _ _ ?_
                  clear hK K
                  refine wpAny_ready (rs := [4]) (by kernel_rfl) (by simp) (AllReady.cons rfl (fun K hK => ?_) (AllReady.nil))
                  (refine step_list (by rintro ⟨_, _, h⟩; obtain ⟨_, hv, _⟩ := h; cases hv) (by kernel_rfl) ?_; refine wpList_append_own_at _ rfl _ _ 23 rfl W.heap.size 55 i0 (.agg #[.int .i64 (0), .int .i64 (0)]) 2 16 Tryz.underlying23 hi0 hz0 hz1 hz2 rfl (by decide) (.slice (some ⟨W.heap.size + 1, 0, none⟩) 0 0) _ _ rfl HO3.out _ _ _ _ rfl (piece_len HT1.out) (piece0D (HCL.out _ HB3.out) HT1.out) (piece_one _) (by unfold maxLen; simp <;> omega) (by simp <;> omega) HB3.out.size ?_; intro v2 w2 hown2 hgrow2 _ _; have HBA := Lib.hid (HB3.out.grown hgrow2 HB3.out.size (fun q hq => (World.ownsRow.lt HO3.out q hq).1)); have HOA := Lib.hid (Vecs.join (l := []) hown2 (by have := HLm.out; simp <;> omega)); have rr : w2.heap[W.heap.size]? = ((W.drew.alloc (.cells #[.int .i64 x, .int .i64 y] 55)).alloc (.cells #[] 55)).heap[W.heap.size]? := hgrow2.block _ (by simp <;> omega) (by simp [Value.ownBlock]); have RR0 : Hid (w2.cell? ⟨W.heap.size, 0, none⟩ = some (.int .i64 x)) := (cell_same rr 0).trans KR0.out; have RR1 : Hid (w2.cell? ⟨W.heap.size, 1, none⟩ = some (.int .i64 y)) := (cell_same rr 1).trans KR1.out; clear rr; clear hown2 hgrow2)
                  refine hK _ _ ?_
                  clear hK K
                  refine wpAny_ready (rs := [10]) (by kernel_rfl) (by simp) (AllReady.cons rfl (fun K hK => ?_) (AllReady.nil))
                  (refine step_list (by rintro ⟨_, _, h⟩; obtain ⟨_, hv, _⟩ := h; cases hv) (by kernel_rfl) ?_; refine wpList_append_own_at _ rfl _ _ 23 rfl W.heap.size 55 i0 (.agg #[.int .i64 (0), .int .i64 (0)]) 2 16 Tryz.underlying23 hi0 hz0 hz1 hz2 rfl (by decide) _ _ _ rfl HOA.out _ 1 1 [.int .i64 x, .int .i64 y] rfl rfl (two_cells RR0.out RR1.out) (two_one _ _) (by unfold maxLen; simp <;> omega) (by simp <;> omega) HBA.out.size ?_; intro v3 w3 hown3 hgrow3 _ _; have HBC := Lib.hid (HBA.out.grown hgrow3 HBA.out.size (fun q hq => (World.ownsRow.lt HOA.out q hq).1)); have HOC := Lib.hid (Vecs.snoc (l := [] ++ (L.drop 0).take 0) rfl hown3); clear hown3 hgrow3)
                  refine hK _ _ ?_
                  clear hK K
                  refine wpAny_ready (rs := [14]) (by kernel_rfl) (by simp) (AllReady.cons rfl (fun K hK => ?_) (AllReady.nil))
                  (refine step_list (by rintro ⟨_, _, h⟩; obtain ⟨_, hv, _⟩ := h; cases hv) (by kernel_rfl) ?_; refine wpList_append_own_at _ rfl _ _ 23 rfl W.heap.size 55 i0 (.agg #[.int .i64 (0), .int .i64 (0)]) 2 16 Tryz.underlying23 hi0 hz0 hz1 hz2 rfl (by decide) _ _ _ rfl HOC.out _ 0 _ [] rfl rfl (fun j u hj => by simp at hj) (fun u hu => by simp at hu) (by unfold maxLen; simp <;> omega) (by simp <;> omega) HBC.out.size ?_; intro v4 w4 hown4 hgrow4 _ _; have HBD := Lib.hid (HBC.out.grown hgrow4 HBC.out.size (fun q hq => (World.ownsRow.lt HOC.out q hq).1)); have HOD := Lib.hid (Vecs.join (m := []) hown4 (by have := HLm.out; simp <;> omega)); clear hown4 hgrow4)
                  refine hK _ _ ?_
                  clear hK K
                  refine wpAny_seq 15 rfl (by kernel_rfl) ?_
                  simp only [List.drop_succ_cons, List.drop_zero]
              all_goals
                rw [HR.out] at HOD
                have hV4 := HOD.out.lower (base' := w.heap.size) hwW
                have hB4 := hWb.trans (HBD.out.mono hwW)
                have HO4 : Hid (OutD w l (i + 1) (insN L 0 (x, y)) v4 w4) := ⟨HIn.out, Vecs.formD hV4 (by rw [insN_len HKL.out]; omega), hV4⟩
                clear hV4 HOD HBD HOC HBC HOA HBA
                go_wp2
                go_roundw
                case rel => exact ⟨i + 1, _, by go_num, by omega, HO4, hB4⟩
                case measure => simp [intOf]; omega
            · have HR : Hid ((([] ++ (L.drop 0).take 0) ++ [(x, y)]) ++ (L.drop 0).take m = insN L 0 (x, y)) := HRf.out
              clear HRf HM
              go_wp2
              refine wp_region_any (by kernel_rfl) ?_
              try (change wpAny _ _ _ _ _ _ _ (World.drew _))
              refine wpAny_take (i := 1) (v := ?_) rfl (by kernel_rfl) (by kernel_rfl) (by kernel_rfl) (fun _ _ _ h => h) (Or.inl ⟨by rfl, ?_⟩) ?_
              rotate_left
              focus (intro w0; go_simp; try with_reducible rfl)
              refine wpAny_take (i := 2) (v := ?_) rfl (by kernel_rfl) (by kernel_rfl) (by kernel_rfl) (fun _ _ _ h => h) (Or.inl ⟨by rfl, ?_⟩) ?_
              rotate_left
              focus (intro w0; go_simp; try with_reducible rfl)
              refine wpAny_take (i := 3) (v := ?_) rfl (by kernel_rfl) (by kernel_rfl) (by kernel_rfl) (fun _ _ _ h => h) (Or.inl ⟨by rfl, ?_⟩) ?_
              rotate_left
              focus (intro w0; go_simp; try with_reducible rfl)
              refine wpAny_take (i := 5) (v := ?_) rfl (by kernel_rfl) (by kernel_rfl) (by kernel_rfl) (fun _ _ _ h => h) (Or.inl ⟨by rfl, ?_⟩) ?_
              rotate_left
              focus (intro w0; go_simp; try with_reducible rfl)
              refine wpAny_take (i := 6) (v := ?_) rfl (by kernel_rfl) (by kernel_rfl) (by kernel_rfl) (fun _ _ _ h => h) (Or.inl ⟨by rfl, ?_⟩) ?_
              rotate_left
              focus (intro w0; go_simp; try with_reducible rfl)
              refine wpAny_take (i := 7) (v := ?_) rfl (by kernel_rfl) (by kernel_rfl) (by kernel_rfl) (fun _ _ _ h => h) (Or.inl ⟨by rfl, ?_⟩) ?_
              rotate_left
              focus (intro w0; go_simp; try with_reducible rfl)
              refine wpAny_take (i := 11) (v := ?_) rfl (by kernel_rfl) (by kernel_rfl) (by kernel_rfl) (fun _ _ _ h => h) (Or.inl ⟨by rfl, ?_⟩) ?_
              rotate_left
              focus (intro w0; go_simp; try with_reducible rfl)
              refine wpAny_take (i := 12) (v := ?_) rfl (by kernel_rfl) (by kernel_rfl) (by kernel_rfl) (fun _ _ _ h => h) (Or.inl ⟨by rfl, ?_⟩) ?_
              rotate_left
              focus (intro w0; go_simp; try with_reducible rfl)
              refine wpAny_take (i := 13) (v := ?_) rfl (by kernel_rfl) (by kernel_rfl) (by kernel_rfl) (fun _ _ _ h => h) (Or.inl ⟨by rfl, ?_⟩) ?_
              rotate_left
              focus (intro w0; go_simp; try with_reducible rfl)
              refine wpAny_ready (rs := [0, 8]) (by kernel_rfl) (by simp) (AllReady.cons rfl (fun K hK => ?_) (AllReady.cons rfl (fun K hK => ?_) (AllReady.nil)))
              focus
                go_simp
                refine hK _ _ ?_
                clear hK K
                refine wpAny_ready (rs := [4, 8]) (by kernel_rfl) (by simp) (AllReady.cons rfl (fun K hK => ?_) (AllReady.cons rfl (fun K hK => ?_) (AllReady.nil)))
                focus
                  (refine step_list (by rintro ⟨_, _, h⟩; obtain ⟨_, hv, _⟩ := h; cases hv) (by kernel_rfl) ?_; refine wpList_append_own_at _ rfl _ _ 23 rfl W.heap.size 55 i0 (.agg #[.int .i64 (0), .int .i64 (0)]) 2 16 Tryz.underlying23 hi0 hz0 hz1 hz2 rfl (by decide) (.slice (some ⟨W.heap.size, 0, none⟩) 0 0) _ _ rfl HO1.out _ _ _ _ rfl (piece_len HT1.out) (piece0D (HCL.out _ HB1.out) HT1.out) (piece_one _) (by unfold maxLen; simp <;> omega) (by simp <;> omega) HB1.out.size ?_; intro v2 w2 hown2 hgrow2 _ _; have HBA := Lib.hid (HB1.out.grown hgrow2 HB1.out.size (fun q hq => (World.ownsRow.lt HO1.out q hq).1)); have HOA := Lib.hid (Vecs.join (l := []) hown2 (by have := HLm.out; simp <;> omega)); have b0 := (HBA.out.cell (p := ⟨bb, off + i * 2, none⟩) hrb).trans c0; have b1 := (HBA.out.cell (p := ⟨bb, off + i * 2 + 1, none⟩) hrb).trans c1'; have bl := Nat.lt_of_lt_of_le hrb HBA.out.size; clear hown2 hgrow2)
                  refine hK _ _ ?_
                  clear hK K
                  refine wpAny_ready (rs := [8]) (by kernel_rfl) (by simp) (AllReady.cons rfl (fun K hK => ?_) (AllReady.nil))
                  go_simp
                  refine hK _ _ ?_
                  clear hK K
                  refine wpAny_ready (rs := [9]) (by kernel_rfl) (by simp) (AllReady.cons rfl (fun K hK => ?_) (AllReady.nil))
                  go_simp
                  refine hK _ _ ?_
                  clear hK K
                  refine wpAny_ready (rs := [10]) (by kernel_rfl) (by simp) (AllReady.cons rfl (fun K hK => ?_) (AllReady.nil))
                  (refine step_list (by rintro ⟨_, _, h⟩; obtain ⟨_, hv, _⟩ := h; cases hv) (by kernel_rfl) ?_; refine wpList_append_own_at _ rfl _ _ 23 rfl W.heap.size 55 i0 (.agg #[.int .i64 (0), .int .i64 (0)]) 2 16 Tryz.underlying23 hi0 hz0 hz1 hz2 rfl (by decide) _ _ _ rfl (HOA.out.below (by go_grown)) _ 1 1 [.int .i64 x, .int .i64 y] rfl rfl (two_cells (by simp) (by simp)) (two_one _ _) (by unfold maxLen; simp <;> omega) (by simp <;> omega) (HBA.out.alloc HBA.out.size _).size ?_; intro v3 w3 hown3 hgrow3 _ _; have HBC := Lib.hid ((HBA.out.alloc HBA.out.size _).grown hgrow3 (HBA.out.alloc HBA.out.size _).size (fun q hq => (World.ownsRow.lt HOA.out q hq).1)); have HOC := Lib.hid (Vecs.snoc (l := [] ++ (L.drop 0).take 0) rfl hown3); clear hown3 hgrow3)
                  refine hK _ _ ?_
                  clear hK K
                  refine wpAny_ready (rs := [14]) (by kernel_rfl) (by simp) (AllReady.cons rfl (fun K hK => ?_) (AllReady.nil))
                  (refine step_list (by rintro ⟨_, _, h⟩; obtain ⟨_, hv, _⟩ := h; cases hv) (by kernel_rfl) ?_; refine wpList_append_own_at _ rfl _ _ 23 rfl W.heap.size 55 i0 (.agg #[.int .i64 (0), .int .i64 (0)]) 2 16 Tryz.underlying23 hi0 hz0 hz1 hz2 rfl (by decide) _ _ _ rfl HOC.out _ _ _ _ rfl (piece_len HT2.out) (piece0D (HCL.out _ HBC.out) HT2.out) (piece_one _) (by unfold maxLen; simp <;> omega) (by simp <;> omega) HBC.out.size ?_; intro v4 w4 hown4 hgrow4 _ _; have HBD := Lib.hid (HBC.out.grown hgrow4 HBC.out.size (fun q hq => (World.ownsRow.lt HOC.out q hq).1)); have HOD := Lib.hid (Vecs.join hown4 (by have := HLm.out; simp <;> omega)); clear hown4 hgrow4)
                  refine hK _ _ ?_
                  clear hK K
                  refine wpAny_seq 15 rfl (by kernel_rfl) ?_
                  simp only [List.drop_succ_cons, List.drop_zero]
                rotate_left 1
                focus
                  go_simp
                  refine hK _ _ ?_
                  clear hK K
                  refine wpAny_ready (rs := [4, 9]) (by kernel_rfl) (by simp) (AllReady.cons rfl (fun K hK => ?_) (AllReady.cons rfl (fun K hK => ?_) (AllReady.nil)))
                  focus
                    (refine step_list (by rintro ⟨_, _, h⟩; obtain ⟨_, hv, _⟩ := h; cases hv) (by kernel_rfl) ?_; refine wpList_append_own_at _ rfl _ _ 23 rfl W.heap.size 55 i0 (.agg #[.int .i64 (0), .int .i64 (0)]) 2 16 Tryz.underlying23 hi0 hz0 hz1 hz2 rfl (by decide) (.slice (some ⟨W.heap.size, 0, none⟩) 0 0) _ _ rfl HO1.out _ _ _ _ rfl (piece_len HT1.out) (piece0D (HCL.out _ HB1.out) HT1.out) (piece_one _) (by unfold maxLen; simp <;> omega) (by simp <;> omega) HB1.out.size ?_; intro v2 w2 hown2 hgrow2 _ _; have HBA := Lib.hid (HB1.out.grown hgrow2 HB1.out.size (fun q hq => (World.ownsRow.lt HO1.out q hq).1)); have HOA := Lib.hid (Vecs.join (l := []) hown2 (by have := HLm.out; simp <;> omega)); have b0 := (HBA.out.cell (p := ⟨bb, off + i * 2, none⟩) hrb).trans c0; have b1 := (HBA.out.cell (p := ⟨bb, off + i * 2 + 1, none⟩) hrb).trans c1'; have bl := Nat.lt_of_lt_of_le hrb HBA.out.size; clear hown2 hgrow2)
                    refine hK _ _ ?_
                    clear hK K
                    refine wpAny_ready (rs := [9]) (by kernel_rfl) (by simp) (AllReady.cons rfl (fun K hK => ?_) (AllReady.nil))
                    go_simp
                    refine hK _ _ ?_
                    clear hK K
                    refine wpAny_ready (rs := [10]) (by kernel_rfl) (by simp) (AllReady.cons rfl (fun K hK => ?_) (AllReady.nil))
                    (refine step_list (by rintro ⟨_, _, h⟩; obtain ⟨_, hv, _⟩ := h; cases hv) (by kernel_rfl) ?_; refine wpList_append_own_at _ rfl _ _ 23 rfl W.heap.size 55 i0 (.agg #[.int .i64 (0), .int .i64 (0)]) 2 16 Tryz.underlying23 hi0 hz0 hz1 hz2 rfl (by decide) _ _ _ rfl (HOA.out.below (by go_grown)) _ 1 1 [.int .i64 x, .int .i64 y] rfl rfl (two_cells (by simp) (by simp)) (two_one _ _) (by unfold maxLen; simp <;> omega) (by simp <;> omega) (HBA.out.alloc HBA.out.size _).size ?_; intro v3 w3 hown3 hgrow3 _ _; have HBC := Lib.hid ((HBA.out.alloc HBA.out.size _).grown hgrow3 (HBA.out.alloc HBA.out.size _).size (fun q hq => (World.ownsRow.lt HOA.out q hq).1)); have HOC := Lib.hid (Vecs.snoc (l := [] ++ (L.drop 0).take 0) rfl hown3); clear hown3 hgrow3)
                    refine hK _ _ ?_
                    clear hK K
                    refine wpAny_ready (rs := [14]) (by kernel_rfl) (by simp) (AllReady.cons rfl (fun K hK => ?_) (AllReady.nil))
                    (refine step_list (by rintro ⟨_, _, h⟩; obtain ⟨_, hv, _⟩ := h; cases hv) (by kernel_rfl) ?_; refine wpList_append_own_at _ rfl _ _ 23 rfl W.heap.size 55 i0 (.agg #[.int .i64 (0), .int .i64 (0)]) 2 16 Tryz.underlying23 hi0 hz0 hz1 hz2 rfl (by decide) _ _ _ rfl HOC.out _ _ _ _ rfl (piece_len HT2.out) (piece0D (HCL.out _ HBC.out) HT2.out) (piece_one _) (by unfold maxLen; simp <;> omega) (by simp <;> omega) HBC.out.size ?_; intro v4 w4 hown4 hgrow4 _ _; have HBD := Lib.hid (HBC.out.grown hgrow4 HBC.out.size (fun q hq => (World.ownsRow.lt HOC.out q hq).1)); have HOD := Lib.hid (Vecs.join hown4 (by have := HLm.out; simp <;> omega)); clear hown4 hgrow4)
                    refine hK _ _ ?_
                    clear hK K
                    refine wpAny_seq 15 rfl (by kernel_rfl) ?_
                    simp only [List.drop_succ_cons, List.drop_zero]
                  rotate_left 1
                  focus
                    go_simp
                    refine hK _ _ ?_
                    clear hK K
                    refine wpAny_ready (rs := [4]) (by kernel_rfl) (by simp) (AllReady.cons rfl (fun K hK => ?_) (AllReady.nil))
                    (refine step_list (by rintro ⟨_, _, h⟩; obtain ⟨_, hv, _⟩ := h; cases hv) (by kernel_rfl) ?_; refine wpList_append_own_at _ rfl _ _ 23 rfl W.heap.size 55 i0 (.agg #[.int .i64 (0), .int .i64 (0)]) 2 16 Tryz.underlying23 hi0 hz0 hz1 hz2 rfl (by decide) (.slice (some ⟨W.heap.size, 0, none⟩) 0 0) _ _ rfl HO2.out _ _ _ _ rfl (piece_len HT1.out) (piece0D (HCL.out _ HB2.out) HT1.out) (piece_one _) (by unfold maxLen; simp <;> omega) (by simp <;> omega) HB2.out.size ?_; intro v2 w2 hown2 hgrow2 _ _; have HBA := Lib.hid (HB2.out.grown hgrow2 HB2.out.size (fun q hq => (World.ownsRow.lt HO2.out q hq).1)); have HOA := Lib.hid (Vecs.join (l := []) hown2 (by have := HLm.out; simp <;> omega)); have rr : w2.heap[W.heap.size + 1]? = ((W.drew.alloc (.cells #[] 55)).alloc (.cells #[.int .i64 x, .int .i64 y] 55)).heap[W.heap.size + 1]? := hgrow2.block _ (by simp <;> omega) (by simp [Value.ownBlock]); have RR0 : Hid (w2.cell? ⟨W.heap.size + 1, 0, none⟩ = some (.int .i64 x)) := (cell_same rr 0).trans KE0.out; have RR1 : Hid (w2.cell? ⟨W.heap.size + 1, 1, none⟩ = some (.int .i64 y)) := (cell_same rr 1).trans KE1.out; clear rr; clear hown2 hgrow2)
                    refine hK _ _ ?_
                    clear hK K
                    refine wpAny_ready (rs := [10]) (by kernel_rfl) (by simp) (AllReady.cons rfl (fun K hK => ?_) (AllReady.nil))
                    (refine step_list (by rintro ⟨_, _, h⟩; obtain ⟨_, hv, _⟩ := h; cases hv) (by kernel_rfl) ?_; refine wpList_append_own_at _ rfl _ _ 23 rfl W.heap.size 55 i0 (.agg #[.int .i64 (0), .int .i64 (0)]) 2 16 Tryz.underlying23 hi0 hz0 hz1 hz2 rfl (by decide) _ _ _ rfl HOA.out _ 1 1 [.int .i64 x, .int .i64 y] rfl rfl (two_cells RR0.out RR1.out) (two_one _ _) (by unfold maxLen; simp <;> omega) (by simp <;> omega) HBA.out.size ?_; intro v3 w3 hown3 hgrow3 _ _; have HBC := Lib.hid (HBA.out.grown hgrow3 HBA.out.size (fun q hq => (World.ownsRow.lt HOA.out q hq).1)); have HOC := Lib.hid (Vecs.snoc (l := [] ++ (L.drop 0).take 0) rfl hown3); clear hown3 hgrow3)
                    refine hK _ _ ?_
                    clear hK K
                    refine wpAny_ready (rs := [14]) (by kernel_rfl) (by simp) (AllReady.cons rfl (fun K hK => ?_) (AllReady.nil))
                    (refine step_list (by rintro ⟨_, _, h⟩; obtain ⟨_, hv, _⟩ := h; cases hv) (by kernel_rfl) ?_; refine wpList_append_own_at _ rfl _ _ 23 rfl W.heap.size 55 i0 (.agg #[.int .i64 (0), .int .i64 (0)]) 2 16 Tryz.underlying23 hi0 hz0 hz1 hz2 rfl (by decide) _ _ _ rfl HOC.out _ _ _ _ rfl (piece_len HT2.out) (piece0D (HCL.out _ HBC.out) HT2.out) (piece_one _) (by unfold maxLen; simp <;> omega) (by simp <;> omega) HBC.out.size ?_; intro v4 w4 hown4 hgrow4 _ _; have HBD := Lib.hid (HBC.out.grown hgrow4 HBC.out.size (fun q hq => (World.ownsRow.lt HOC.out q hq).1)); have HOD := Lib.hid (Vecs.join hown4 (by have := HLm.out; simp <;> omega)); clear hown4 hgrow4)
                    refine hK _ _ ?_
                    clear hK K
                    refine wpAny_seq 15 rfl (by kernel_rfl) ?_
                    simp only [List.drop_succ_cons, List.drop_zero]
              rotate_left 3
              focus
                go_simp
                refine hK _ _ ?_
                clear hK K
                refine wpAny_ready (rs := [0, 9]) (by kernel_rfl) (by simp) (AllReady.cons rfl (fun K hK => ?_) (AllReady.cons rfl (fun K hK => ?_) (AllReady.nil)))
                focus
                  go_simp
                  refine hK _ _ ?_
                  clear hK K
                  refine wpAny_ready (rs := [4, 9]) (by kernel_rfl) (by simp) (AllReady.cons rfl (fun K hK => ?_) (AllReady.cons rfl (fun K hK => ?_) (AllReady.nil)))
                  focus
                    (refine step_list (by rintro ⟨_, _, h⟩; obtain ⟨_, hv, _⟩ := h; cases hv) (by kernel_rfl) ?_; refine wpList_append_own_at _ rfl _ _ 23 rfl W.heap.size 55 i0 (.agg #[.int .i64 (0), .int .i64 (0)]) 2 16 Tryz.underlying23 hi0 hz0 hz1 hz2 rfl (by decide) (.slice (some ⟨W.heap.size, 0, none⟩) 0 0) _ _ rfl HO1.out _ _ _ _ rfl (piece_len HT1.out) (piece0D (HCL.out _ HB1.out) HT1.out) (piece_one _) (by unfold maxLen; simp <;> omega) (by simp <;> omega) HB1.out.size ?_; intro v2 w2 hown2 hgrow2 _ _; have HBA := Lib.hid (HB1.out.grown hgrow2 HB1.out.size (fun q hq => (World.ownsRow.lt HO1.out q hq).1)); have HOA := Lib.hid (Vecs.join (l := []) hown2 (by have := HLm.out; simp <;> omega)); have b0 := (HBA.out.cell (p := ⟨bb, off + i * 2, none⟩) hrb).trans c0; have b1 := (HBA.out.cell (p := ⟨bb, off + i * 2 + 1, none⟩) hrb).trans c1'; have bl := Nat.lt_of_lt_of_le hrb HBA.out.size; clear hown2 hgrow2)
                    refine hK _ _ ?_
                    clear hK K
                    refine wpAny_ready (rs := [9]) (by kernel_rfl) (by simp) (AllReady.cons rfl (fun K hK => ?_) (AllReady.nil))
                    go_simp
                    refine hK _ _ ?_
                    clear hK K
                    refine wpAny_ready (rs := [10]) (by kernel_rfl) (by simp) (AllReady.cons rfl (fun K hK => ?_) (AllReady.nil))
                    (refine step_list (by rintro ⟨_, _, h⟩; obtain ⟨_, hv, _⟩ := h; cases hv) (by kernel_rfl) ?_; refine wpList_append_own_at _ rfl _ _ 23 rfl W.heap.size 55 i0 (.agg #[.int .i64 (0), .int .i64 (0)]) 2 16 Tryz.underlying23 hi0 hz0 hz1 hz2 rfl (by decide) _ _ _ rfl (HOA.out.below (by go_grown)) _ 1 1 [.int .i64 x, .int .i64 y] rfl rfl (two_cells (by simp) (by simp)) (two_one _ _) (by unfold maxLen; simp <;> omega) (by simp <;> omega) (HBA.out.alloc HBA.out.size _).size ?_; intro v3 w3 hown3 hgrow3 _ _; have HBC := Lib.hid ((HBA.out.alloc HBA.out.size _).grown hgrow3 (HBA.out.alloc HBA.out.size _).size (fun q hq => (World.ownsRow.lt HOA.out q hq).1)); have HOC := Lib.hid (Vecs.snoc (l := [] ++ (L.drop 0).take 0) rfl hown3); clear hown3 hgrow3)
                    refine hK _ _ ?_
                    clear hK K
                    refine wpAny_ready (rs := [14]) (by kernel_rfl) (by simp) (AllReady.cons rfl (fun K hK => ?_) (AllReady.nil))
                    (refine step_list (by rintro ⟨_, _, h⟩; obtain ⟨_, hv, _⟩ := h; cases hv) (by kernel_rfl) ?_; refine wpList_append_own_at _ rfl _ _ 23 rfl W.heap.size 55 i0 (.agg #[.int .i64 (0), .int .i64 (0)]) 2 16 Tryz.underlying23 hi0 hz0 hz1 hz2 rfl (by decide) _ _ _ rfl HOC.out _ _ _ _ rfl (piece_len HT2.out) (piece0D (HCL.out _ HBC.out) HT2.out) (piece_one _) (by unfold maxLen; simp <;> omega) (by simp <;> omega) HBC.out.size ?_; intro v4 w4 hown4 hgrow4 _ _; have HBD := Lib.hid (HBC.out.grown hgrow4 HBC.out.size (fun q hq => (World.ownsRow.lt HOC.out q hq).1)); have HOD := Lib.hid (Vecs.join hown4 (by have := HLm.out; simp <;> omega)); clear hown4 hgrow4)
                    refine hK _ _ ?_
                    clear hK K
                    refine wpAny_seq 15 rfl (by kernel_rfl) ?_
                    simp only [List.drop_succ_cons, List.drop_zero]
                  rotate_left 1
                  focus
                    go_simp
                    refine hK _ _ ?_
                    clear hK K
                    refine wpAny_ready (rs := [4]) (by kernel_rfl) (by simp) (AllReady.cons rfl (fun K hK => ?_) (AllReady.nil))
                    (refine step_list (by rintro ⟨_, _, h⟩; obtain ⟨_, hv, _⟩ := h; cases hv) (by kernel_rfl) ?_; refine wpList_append_own_at _ rfl _ _ 23 rfl W.heap.size 55 i0 (.agg #[.int .i64 (0), .int .i64 (0)]) 2 16 Tryz.underlying23 hi0 hz0 hz1 hz2 rfl (by decide) (.slice (some ⟨W.heap.size, 0, none⟩) 0 0) _ _ rfl HO2.out _ _ _ _ rfl (piece_len HT1.out) (piece0D (HCL.out _ HB2.out) HT1.out) (piece_one _) (by unfold maxLen; simp <;> omega) (by simp <;> omega) HB2.out.size ?_; intro v2 w2 hown2 hgrow2 _ _; have HBA := Lib.hid (HB2.out.grown hgrow2 HB2.out.size (fun q hq => (World.ownsRow.lt HO2.out q hq).1)); have HOA := Lib.hid (Vecs.join (l := []) hown2 (by have := HLm.out; simp <;> omega)); have rr : w2.heap[W.heap.size + 1]? = ((W.drew.alloc (.cells #[] 55)).alloc (.cells #[.int .i64 x, .int .i64 y] 55)).heap[W.heap.size + 1]? := hgrow2.block _ (by simp <;> omega) (by simp [Value.ownBlock]); have RR0 : Hid (w2.cell? ⟨W.heap.size + 1, 0, none⟩ = some (.int .i64 x)) := (cell_same rr 0).trans KE0.out; have RR1 : Hid (w2.cell? ⟨W.heap.size + 1, 1, none⟩ = some (.int .i64 y)) := (cell_same rr 1).trans KE1.out; clear rr; clear hown2 hgrow2)
                    refine hK _ _ ?_
                    clear hK K
                    refine wpAny_ready (rs := [10]) (by kernel_rfl) (by simp) (AllReady.cons rfl (fun K hK => ?_) (AllReady.nil))
                    (refine step_list (by rintro ⟨_, _, h⟩; obtain ⟨_, hv, _⟩ := h; cases hv) (by kernel_rfl) ?_; refine wpList_append_own_at _ rfl _ _ 23 rfl W.heap.size 55 i0 (.agg #[.int .i64 (0), .int .i64 (0)]) 2 16 Tryz.underlying23 hi0 hz0 hz1 hz2 rfl (by decide) _ _ _ rfl HOA.out _ 1 1 [.int .i64 x, .int .i64 y] rfl rfl (two_cells RR0.out RR1.out) (two_one _ _) (by unfold maxLen; simp <;> omega) (by simp <;> omega) HBA.out.size ?_; intro v3 w3 hown3 hgrow3 _ _; have HBC := Lib.hid (HBA.out.grown hgrow3 HBA.out.size (fun q hq => (World.ownsRow.lt HOA.out q hq).1)); have HOC := Lib.hid (Vecs.snoc (l := [] ++ (L.drop 0).take 0) rfl hown3); clear hown3 hgrow3)
                    refine hK _ _ ?_
                    clear hK K
                    refine wpAny_ready (rs := [14]) (by kernel_rfl) (by simp) (AllReady.cons rfl (fun K hK => ?_) (AllReady.nil))
                    (refine step_list (by rintro ⟨_, _, h⟩; obtain ⟨_, hv, _⟩ := h; cases hv) (by kernel_rfl) ?_; refine wpList_append_own_at _ rfl _ _ 23 rfl W.heap.size 55 i0 (.agg #[.int .i64 (0), .int .i64 (0)]) 2 16 Tryz.underlying23 hi0 hz0 hz1 hz2 rfl (by decide) _ _ _ rfl HOC.out _ _ _ _ rfl (piece_len HT2.out) (piece0D (HCL.out _ HBC.out) HT2.out) (piece_one _) (by unfold maxLen; simp <;> omega) (by simp <;> omega) HBC.out.size ?_; intro v4 w4 hown4 hgrow4 _ _; have HBD := Lib.hid (HBC.out.grown hgrow4 HBC.out.size (fun q hq => (World.ownsRow.lt HOC.out q hq).1)); have HOD := Lib.hid (Vecs.join hown4 (by have := HLm.out; simp <;> omega)); clear hown4 hgrow4)
                    refine hK _ _ ?_
                    clear hK K
                    refine wpAny_seq 15 rfl (by kernel_rfl) ?_
                    simp only [List.drop_succ_cons, List.drop_zero]
                rotate_left 2
                focus
                  go_simp
                  refine hK _ _ ?_
                  clear hK K
                  refine wpAny_ready (rs := [0]) (by kernel_rfl) (by simp) (AllReady.cons rfl (fun K hK => ?_) (AllReady.nil))
                  go_simp
                  refine hK _ _ ?_
                  clear hK K
                  refine wpAny_ready (rs := [4]) (by kernel_rfl) (by simp) (AllReady.cons rfl (fun K hK => ?_) (AllReady.nil))
                  (refine step_list (by rintro ⟨_, _, h⟩; obtain ⟨_, hv, _⟩ := h; cases hv) (by kernel_rfl) ?_; refine wpList_append_own_at _ rfl _ _ 23 rfl W.heap.size 55 i0 (.agg #[.int .i64 (0), .int .i64 (0)]) 2 16 Tryz.underlying23 hi0 hz0 hz1 hz2 rfl (by decide) (.slice (some ⟨W.heap.size + 1, 0, none⟩) 0 0) _ _ rfl HO3.out _ _ _ _ rfl (piece_len HT1.out) (piece0D (HCL.out _ HB3.out) HT1.out) (piece_one _) (by unfold maxLen; simp <;> omega) (by simp <;> omega) HB3.out.size ?_; intro v2 w2 hown2 hgrow2 _ _; have HBA := Lib.hid (HB3.out.grown hgrow2 HB3.out.size (fun q hq => (World.ownsRow.lt HO3.out q hq).1)); have HOA := Lib.hid (Vecs.join (l := []) hown2 (by have := HLm.out; simp <;> omega)); have rr : w2.heap[W.heap.size]? = ((W.drew.alloc (.cells #[.int .i64 x, .int .i64 y] 55)).alloc (.cells #[] 55)).heap[W.heap.size]? := hgrow2.block _ (by simp <;> omega) (by simp [Value.ownBlock]); have RR0 : Hid (w2.cell? ⟨W.heap.size, 0, none⟩ = some (.int .i64 x)) := (cell_same rr 0).trans KR0.out; have RR1 : Hid (w2.cell? ⟨W.heap.size, 1, none⟩ = some (.int .i64 y)) := (cell_same rr 1).trans KR1.out; clear rr; clear hown2 hgrow2)
                  refine hK _ _ ?_
                  clear hK K
                  refine wpAny_ready (rs := [10]) (by kernel_rfl) (by simp) (AllReady.cons rfl (fun K hK => ?_) (AllReady.nil))
                  (refine step_list (by rintro ⟨_, _, h⟩; obtain ⟨_, hv, _⟩ := h; cases hv) (by kernel_rfl) ?_; refine wpList_append_own_at _ rfl _ _ 23 rfl W.heap.size 55 i0 (.agg #[.int .i64 (0), .int .i64 (0)]) 2 16 Tryz.underlying23 hi0 hz0 hz1 hz2 rfl (by decide) _ _ _ rfl HOA.out _ 1 1 [.int .i64 x, .int .i64 y] rfl rfl (two_cells RR0.out RR1.out) (two_one _ _) (by unfold maxLen; simp <;> omega) (by simp <;> omega) HBA.out.size ?_; intro v3 w3 hown3 hgrow3 _ _; have HBC := Lib.hid (HBA.out.grown hgrow3 HBA.out.size (fun q hq => (World.ownsRow.lt HOA.out q hq).1)); have HOC := Lib.hid (Vecs.snoc (l := [] ++ (L.drop 0).take 0) rfl hown3); clear hown3 hgrow3)
                  refine hK _ _ ?_
                  clear hK K
                  refine wpAny_ready (rs := [14]) (by kernel_rfl) (by simp) (AllReady.cons rfl (fun K hK => ?_) (AllReady.nil))
                  (refine step_list (by rintro ⟨_, _, h⟩; obtain ⟨_, hv, _⟩ := h; cases hv) (by kernel_rfl) ?_; refine wpList_append_own_at _ rfl _ _ 23 rfl W.heap.size 55 i0 (.agg #[.int .i64 (0), .int .i64 (0)]) 2 16 Tryz.underlying23 hi0 hz0 hz1 hz2 rfl (by decide) _ _ _ rfl HOC.out _ _ _ _ rfl (piece_len HT2.out) (piece0D (HCL.out _ HBC.out) HT2.out) (piece_one _) (by unfold maxLen; simp <;> omega) (by simp <;> omega) HBC.out.size ?_; intro v4 w4 hown4 hgrow4 _ _; have HBD := Lib.hid (HBC.out.grown hgrow4 HBC.out.size (fun q hq => (World.ownsRow.lt HOC.out q hq).1)); have HOD := Lib.hid (Vecs.join hown4 (by have := HLm.out; simp <;> omega)); clear hown4 hgrow4)
                  refine hK _ _ ?_
                  clear hK K
                  refine wpAny_seq 15 rfl (by kernel_rfl) ?_
                  simp only [List.drop_succ_cons, List.drop_zero]
              all_goals
                rw [HR.out] at HOD
                have hV4 := HOD.out.lower (base' := w.heap.size) hwW
                have hB4 := hWb.trans (HBD.out.mono hwW)
                have HO4 : Hid (OutD w l (i + 1) (insN L 0 (x, y)) v4 w4) := ⟨HIn.out, Vecs.formD hV4 (by rw [insN_len HKL.out]; omega), hV4⟩
                clear hV4 HOD HBD HOC HBC HOA HBA
                go_wp2
                go_roundw
                case rel => exact ⟨i + 1, _, by go_num, by omega, HO4, hB4⟩
                case measure => simp [intOf]; omega
          · by_cases hck : cc = k
            · have hmk : k = m := by omega
              have hck' : k = cc := by omega
              clear hck
              subst hmk
              subst hck'
              have HR : Hid ((([] ++ (L.drop 0).take k) ++ [(x, y)]) ++ [] = insN L k (x, y)) := by
                have := HRf.out
                rwa [Nat.sub_self, List.take_zero] at this
              clear HRf HM
              have r5 : ¬ k * 2 = 0 := by omega
              have r6 : ¬ k = 0 := hk0
              go_wp2
              refine wp_region_any (by kernel_rfl) ?_
              try (change wpAny _ _ _ _ _ _ _ (World.drew _))
              refine wpAny_take (i := 1) (v := ?_) rfl (by kernel_rfl) (by kernel_rfl) (by kernel_rfl) (fun _ _ _ h => h) (Or.inl ⟨by rfl, ?_⟩) ?_
              rotate_left
              focus (intro w0; go_simp; try with_reducible rfl)
              refine wpAny_take (i := 2) (v := ?_) rfl (by kernel_rfl) (by kernel_rfl) (by kernel_rfl) (fun _ _ _ h => h) (Or.inl ⟨by rfl, ?_⟩) ?_
              rotate_left
              focus (intro w0; go_simp; try with_reducible rfl)
              refine wpAny_take (i := 3) (v := ?_) rfl (by kernel_rfl) (by kernel_rfl) (by kernel_rfl) (fun _ _ _ h => h) (Or.inl ⟨by rfl, ?_⟩) ?_
              rotate_left
              focus (intro w0; go_simp; try with_reducible rfl)
              refine wpAny_take (i := 5) (v := ?_) rfl (by kernel_rfl) (by kernel_rfl) (by kernel_rfl) (fun _ _ _ h => h) (Or.inl ⟨by rfl, ?_⟩) ?_
              rotate_left
              focus (intro w0; go_simp; try with_reducible rfl)
              refine wpAny_take (i := 6) (v := ?_) rfl (by kernel_rfl) (by kernel_rfl) (by kernel_rfl) (fun _ _ _ h => h) (Or.inl ⟨by rfl, ?_⟩) ?_
              rotate_left
              focus (intro w0; go_simp; try with_reducible rfl)
              refine wpAny_take (i := 7) (v := ?_) rfl (by kernel_rfl) (by kernel_rfl) (by kernel_rfl) (fun _ _ _ h => h) (Or.inl ⟨by rfl, ?_⟩) ?_
              rotate_left
              focus (intro w0; go_simp; try with_reducible rfl)
              refine wpAny_take (i := 11) (v := ?_) rfl (by kernel_rfl) (by kernel_rfl) (by kernel_rfl) (fun _ _ _ h => h) (Or.inl ⟨by rfl, ?_⟩) ?_
              rotate_left
              focus (intro w0; go_simp; try with_reducible rfl)
              refine wpAny_take (i := 12) (v := ?_) rfl (by kernel_rfl) (by kernel_rfl) (by kernel_rfl) (fun _ _ _ h => h) (Or.inl ⟨by rfl, ?_⟩) ?_
              rotate_left
              focus (intro w0; go_simp; try with_reducible rfl)
              refine wpAny_take (i := 13) (v := ?_) rfl (by kernel_rfl) (by kernel_rfl) (by kernel_rfl) (fun _ _ _ h => h) (Or.inl ⟨by rfl, ?_⟩) ?_
              rotate_left
              focus (intro w0; go_simp; try with_reducible rfl)
              refine wpAny_ready (rs := [0, 8]) (by kernel_rfl) (by simp) (AllReady.cons rfl (fun K hK => ?_) (AllReady.cons rfl (fun K hK => ?_) (AllReady.nil)))
              focus
                go_simp
                refine hK _ _ ?_
                clear hK K
                refine wpAny_ready (rs := [4, 8]) (by kernel_rfl) (by simp) (AllReady.cons rfl (fun K hK => ?_) (AllReady.cons rfl (fun K hK => ?_) (AllReady.nil)))
                focus
                  (refine step_list (by rintro ⟨_, _, h⟩; obtain ⟨_, hv, _⟩ := h; cases hv) (by kernel_rfl) ?_; refine wpList_append_own_at _ rfl _ _ 23 rfl W.heap.size 55 i0 (.agg #[.int .i64 (0), .int .i64 (0)]) 2 16 Tryz.underlying23 hi0 hz0 hz1 hz2 rfl (by decide) (.slice (some ⟨W.heap.size, 0, none⟩) 0 0) _ _ rfl HO1.out _ _ _ _ rfl (piece_len HT1.out) (piece0D (HCL.out _ HB1.out) HT1.out) (piece_one _) (by unfold maxLen; simp <;> omega) (by simp <;> omega) HB1.out.size ?_; intro v2 w2 hown2 hgrow2 _ _; have HBA := Lib.hid (HB1.out.grown hgrow2 HB1.out.size (fun q hq => (World.ownsRow.lt HO1.out q hq).1)); have HOA := Lib.hid (Vecs.join (l := []) hown2 (by have := HLm.out; simp <;> omega)); have b0 := (HBA.out.cell (p := ⟨bb, off + i * 2, none⟩) hrb).trans c0; have b1 := (HBA.out.cell (p := ⟨bb, off + i * 2 + 1, none⟩) hrb).trans c1'; have bl := Nat.lt_of_lt_of_le hrb HBA.out.size; clear hown2 hgrow2)
                  refine hK _ _ ?_
                  clear hK K
                  refine wpAny_ready (rs := [8]) (by kernel_rfl) (by simp) (AllReady.cons rfl (fun K hK => ?_) (AllReady.nil))
                  go_simp
                  refine hK _ _ ?_
                  clear hK K
                  refine wpAny_ready (rs := [9]) (by kernel_rfl) (by simp) (AllReady.cons rfl (fun K hK => ?_) (AllReady.nil))
                  go_simp
                  refine hK _ _ ?_
                  clear hK K
                  refine wpAny_ready (rs := [10]) (by kernel_rfl) (by simp) (AllReady.cons rfl (fun K hK => ?_) (AllReady.nil))
                  (refine step_list (by rintro ⟨_, _, h⟩; obtain ⟨_, hv, _⟩ := h; cases hv) (by kernel_rfl) ?_; refine wpList_append_own_at _ rfl _ _ 23 rfl W.heap.size 55 i0 (.agg #[.int .i64 (0), .int .i64 (0)]) 2 16 Tryz.underlying23 hi0 hz0 hz1 hz2 rfl (by decide) _ _ _ rfl (HOA.out.below (by go_grown)) _ 1 1 [.int .i64 x, .int .i64 y] rfl rfl (two_cells (by simp) (by simp)) (two_one _ _) (by unfold maxLen; simp <;> omega) (by simp <;> omega) (HBA.out.alloc HBA.out.size _).size ?_; intro v3 w3 hown3 hgrow3 _ _; have HBC := Lib.hid ((HBA.out.alloc HBA.out.size _).grown hgrow3 (HBA.out.alloc HBA.out.size _).size (fun q hq => (World.ownsRow.lt HOA.out q hq).1)); have HOC := Lib.hid (Vecs.snoc (l := [] ++ (L.drop 0).take k) rfl hown3); clear hown3 hgrow3)
                  refine hK _ _ ?_
                  clear hK K
                  refine wpAny_ready (rs := [14]) (by kernel_rfl) (by simp) (AllReady.cons rfl (fun K hK => ?_) (AllReady.nil))
                  (refine step_list (by rintro ⟨_, _, h⟩; obtain ⟨_, hv, _⟩ := h; cases hv) (by kernel_rfl) ?_; refine wpList_append_own_at _ rfl _ _ 23 rfl W.heap.size 55 i0 (.agg #[.int .i64 (0), .int .i64 (0)]) 2 16 Tryz.underlying23 hi0 hz0 hz1 hz2 rfl (by decide) _ _ _ rfl HOC.out _ 0 _ [] rfl rfl (fun j u hj => by simp at hj) (fun u hu => by simp at hu) (by unfold maxLen; simp <;> omega) (by simp <;> omega) HBC.out.size ?_; intro v4 w4 hown4 hgrow4 _ _; have HBD := Lib.hid (HBC.out.grown hgrow4 HBC.out.size (fun q hq => (World.ownsRow.lt HOC.out q hq).1)); have HOD := Lib.hid (Vecs.join (m := []) hown4 (by have := HLm.out; simp <;> omega)); clear hown4 hgrow4)
                  refine hK _ _ ?_
                  clear hK K
                  refine wpAny_seq 15 rfl (by kernel_rfl) ?_
                  simp only [List.drop_succ_cons, List.drop_zero]
                rotate_left 1
                focus
                  go_simp
                  refine hK _ _ ?_
                  clear hK K
                  refine wpAny_ready (rs := [4, 9]) (by kernel_rfl) (by simp) (AllReady.cons rfl (fun K hK => ?_) (AllReady.cons rfl (fun K hK => ?_) (AllReady.nil)))
                  focus
                    (refine step_list (by rintro ⟨_, _, h⟩; obtain ⟨_, hv, _⟩ := h; cases hv) (by kernel_rfl) ?_; refine wpList_append_own_at _ rfl _ _ 23 rfl W.heap.size 55 i0 (.agg #[.int .i64 (0), .int .i64 (0)]) 2 16 Tryz.underlying23 hi0 hz0 hz1 hz2 rfl (by decide) (.slice (some ⟨W.heap.size, 0, none⟩) 0 0) _ _ rfl HO1.out _ _ _ _ rfl (piece_len HT1.out) (piece0D (HCL.out _ HB1.out) HT1.out) (piece_one _) (by unfold maxLen; simp <;> omega) (by simp <;> omega) HB1.out.size ?_; intro v2 w2 hown2 hgrow2 _ _; have HBA := Lib.hid (HB1.out.grown hgrow2 HB1.out.size (fun q hq => (World.ownsRow.lt HO1.out q hq).1)); have HOA := Lib.hid (Vecs.join (l := []) hown2 (by have := HLm.out; simp <;> omega)); have b0 := (HBA.out.cell (p := ⟨bb, off + i * 2, none⟩) hrb).trans c0; have b1 := (HBA.out.cell (p := ⟨bb, off + i * 2 + 1, none⟩) hrb).trans c1'; have bl := Nat.lt_of_lt_of_le hrb HBA.out.size; clear hown2 hgrow2)
                    refine hK _ _ ?_
                    clear hK K
                    refine wpAny_ready (rs := [9]) (by kernel_rfl) (by simp) (AllReady.cons rfl (fun K hK => ?_) (AllReady.nil))
                    go_simp
                    refine hK _ _ ?_
                    clear hK K
                    refine wpAny_ready (rs := [10]) (by kernel_rfl) (by simp) (AllReady.cons rfl (fun K hK => ?_) (AllReady.nil))
                    (refine step_list (by rintro ⟨_, _, h⟩; obtain ⟨_, hv, _⟩ := h; cases hv) (by kernel_rfl) ?_; refine wpList_append_own_at _ rfl _ _ 23 rfl W.heap.size 55 i0 (.agg #[.int .i64 (0), .int .i64 (0)]) 2 16 Tryz.underlying23 hi0 hz0 hz1 hz2 rfl (by decide) _ _ _ rfl (HOA.out.below (by go_grown)) _ 1 1 [.int .i64 x, .int .i64 y] rfl rfl (two_cells (by simp) (by simp)) (two_one _ _) (by unfold maxLen; simp <;> omega) (by simp <;> omega) (HBA.out.alloc HBA.out.size _).size ?_; intro v3 w3 hown3 hgrow3 _ _; have HBC := Lib.hid ((HBA.out.alloc HBA.out.size _).grown hgrow3 (HBA.out.alloc HBA.out.size _).size (fun q hq => (World.ownsRow.lt HOA.out q hq).1)); have HOC := Lib.hid (Vecs.snoc (l := [] ++ (L.drop 0).take k) rfl hown3); clear hown3 hgrow3)
                    refine hK _ _ ?_
                    clear hK K
                    refine wpAny_ready (rs := [14]) (by kernel_rfl) (by simp) (AllReady.cons rfl (fun K hK => ?_) (AllReady.nil))
                    (refine step_list (by rintro ⟨_, _, h⟩; obtain ⟨_, hv, _⟩ := h; cases hv) (by kernel_rfl) ?_; refine wpList_append_own_at _ rfl _ _ 23 rfl W.heap.size 55 i0 (.agg #[.int .i64 (0), .int .i64 (0)]) 2 16 Tryz.underlying23 hi0 hz0 hz1 hz2 rfl (by decide) _ _ _ rfl HOC.out _ 0 _ [] rfl rfl (fun j u hj => by simp at hj) (fun u hu => by simp at hu) (by unfold maxLen; simp <;> omega) (by simp <;> omega) HBC.out.size ?_; intro v4 w4 hown4 hgrow4 _ _; have HBD := Lib.hid (HBC.out.grown hgrow4 HBC.out.size (fun q hq => (World.ownsRow.lt HOC.out q hq).1)); have HOD := Lib.hid (Vecs.join (m := []) hown4 (by have := HLm.out; simp <;> omega)); clear hown4 hgrow4)
                    refine hK _ _ ?_
                    clear hK K
                    refine wpAny_seq 15 rfl (by kernel_rfl) ?_
                    simp only [List.drop_succ_cons, List.drop_zero]
                  rotate_left 1
                  focus
                    go_simp
                    refine hK _ _ ?_
                    clear hK K
                    refine wpAny_ready (rs := [4]) (by kernel_rfl) (by simp) (AllReady.cons rfl (fun K hK => ?_) (AllReady.nil))
                    (refine step_list (by rintro ⟨_, _, h⟩; obtain ⟨_, hv, _⟩ := h; cases hv) (by kernel_rfl) ?_; refine wpList_append_own_at _ rfl _ _ 23 rfl W.heap.size 55 i0 (.agg #[.int .i64 (0), .int .i64 (0)]) 2 16 Tryz.underlying23 hi0 hz0 hz1 hz2 rfl (by decide) (.slice (some ⟨W.heap.size, 0, none⟩) 0 0) _ _ rfl HO2.out _ _ _ _ rfl (piece_len HT1.out) (piece0D (HCL.out _ HB2.out) HT1.out) (piece_one _) (by unfold maxLen; simp <;> omega) (by simp <;> omega) HB2.out.size ?_; intro v2 w2 hown2 hgrow2 _ _; have HBA := Lib.hid (HB2.out.grown hgrow2 HB2.out.size (fun q hq => (World.ownsRow.lt HO2.out q hq).1)); have HOA := Lib.hid (Vecs.join (l := []) hown2 (by have := HLm.out; simp <;> omega)); have rr : w2.heap[W.heap.size + 1]? = ((W.drew.alloc (.cells #[] 55)).alloc (.cells #[.int .i64 x, .int .i64 y] 55)).heap[W.heap.size + 1]? := hgrow2.block _ (by simp <;> omega) (by simp [Value.ownBlock]); have RR0 : Hid (w2.cell? ⟨W.heap.size + 1, 0, none⟩ = some (.int .i64 x)) := (cell_same rr 0).trans KE0.out; have RR1 : Hid (w2.cell? ⟨W.heap.size + 1, 1, none⟩ = some (.int .i64 y)) := (cell_same rr 1).trans KE1.out; clear rr; clear hown2 hgrow2)
                    refine hK _ _ ?_
                    clear hK K
                    refine wpAny_ready (rs := [10]) (by kernel_rfl) (by simp) (AllReady.cons rfl (fun K hK => ?_) (AllReady.nil))
                    (refine step_list (by rintro ⟨_, _, h⟩; obtain ⟨_, hv, _⟩ := h; cases hv) (by kernel_rfl) ?_; refine wpList_append_own_at _ rfl _ _ 23 rfl W.heap.size 55 i0 (.agg #[.int .i64 (0), .int .i64 (0)]) 2 16 Tryz.underlying23 hi0 hz0 hz1 hz2 rfl (by decide) _ _ _ rfl HOA.out _ 1 1 [.int .i64 x, .int .i64 y] rfl rfl (two_cells RR0.out RR1.out) (two_one _ _) (by unfold maxLen; simp <;> omega) (by simp <;> omega) HBA.out.size ?_; intro v3 w3 hown3 hgrow3 _ _; have HBC := Lib.hid (HBA.out.grown hgrow3 HBA.out.size (fun q hq => (World.ownsRow.lt HOA.out q hq).1)); have HOC := Lib.hid (Vecs.snoc (l := [] ++ (L.drop 0).take k) rfl hown3); clear hown3 hgrow3)
                    refine hK _ _ ?_
                    clear hK K
                    refine wpAny_ready (rs := [14]) (by kernel_rfl) (by simp) (AllReady.cons rfl (fun K hK => ?_) (AllReady.nil))
                    (refine step_list (by rintro ⟨_, _, h⟩; obtain ⟨_, hv, _⟩ := h; cases hv) (by kernel_rfl) ?_; refine wpList_append_own_at _ rfl _ _ 23 rfl W.heap.size 55 i0 (.agg #[.int .i64 (0), .int .i64 (0)]) 2 16 Tryz.underlying23 hi0 hz0 hz1 hz2 rfl (by decide) _ _ _ rfl HOC.out _ 0 _ [] rfl rfl (fun j u hj => by simp at hj) (fun u hu => by simp at hu) (by unfold maxLen; simp <;> omega) (by simp <;> omega) HBC.out.size ?_; intro v4 w4 hown4 hgrow4 _ _; have HBD := Lib.hid (HBC.out.grown hgrow4 HBC.out.size (fun q hq => (World.ownsRow.lt HOC.out q hq).1)); have HOD := Lib.hid (Vecs.join (m := []) hown4 (by have := HLm.out; simp <;> omega)); clear hown4 hgrow4)
                    refine hK _ _ ?_
                    clear hK K
                    refine wpAny_seq 15 rfl (by kernel_rfl) ?_
                    simp only [List.drop_succ_cons, List.drop_zero]
              rotate_left 3
              focus
                go_simp
                refine hK _ _ ?_
                clear hK K
                refine wpAny_ready (rs := [0, 9]) (by kernel_rfl) (by simp) (AllReady.cons rfl (fun K hK => ?_) (AllReady.cons rfl (fun K hK => ?_) (AllReady.nil)))
                focus
                  go_simp
                  refine hK _ _ ?_
                  clear hK K
                  refine wpAny_ready (rs := [4, 9]) (by kernel_rfl) (by simp) (AllReady.cons rfl (fun K hK => ?_) (AllReady.cons rfl (fun K hK => ?_) (AllReady.nil)))
                  focus
                    (refine step_list (by rintro ⟨_, _, h⟩; obtain ⟨_, hv, _⟩ := h; cases hv) (by kernel_rfl) ?_; refine wpList_append_own_at _ rfl _ _ 23 rfl W.heap.size 55 i0 (.agg #[.int .i64 (0), .int .i64 (0)]) 2 16 Tryz.underlying23 hi0 hz0 hz1 hz2 rfl (by decide) (.slice (some ⟨W.heap.size, 0, none⟩) 0 0) _ _ rfl HO1.out _ _ _ _ rfl (piece_len HT1.out) (piece0D (HCL.out _ HB1.out) HT1.out) (piece_one _) (by unfold maxLen; simp <;> omega) (by simp <;> omega) HB1.out.size ?_; intro v2 w2 hown2 hgrow2 _ _; have HBA := Lib.hid (HB1.out.grown hgrow2 HB1.out.size (fun q hq => (World.ownsRow.lt HO1.out q hq).1)); have HOA := Lib.hid (Vecs.join (l := []) hown2 (by have := HLm.out; simp <;> omega)); have b0 := (HBA.out.cell (p := ⟨bb, off + i * 2, none⟩) hrb).trans c0; have b1 := (HBA.out.cell (p := ⟨bb, off + i * 2 + 1, none⟩) hrb).trans c1'; have bl := Nat.lt_of_lt_of_le hrb HBA.out.size; clear hown2 hgrow2)
                    refine hK _ _ ?_
                    clear hK K
                    refine wpAny_ready (rs := [9]) (by kernel_rfl) (by simp) (AllReady.cons rfl (fun K hK => ?_) (AllReady.nil))
                    go_simp
                    refine hK _ _ ?_
                    clear hK K
                    refine wpAny_ready (rs := [10]) (by kernel_rfl) (by simp) (AllReady.cons rfl (fun K hK => ?_) (AllReady.nil))
                    (refine step_list (by rintro ⟨_, _, h⟩; obtain ⟨_, hv, _⟩ := h; cases hv) (by kernel_rfl) ?_; refine wpList_append_own_at _ rfl _ _ 23 rfl W.heap.size 55 i0 (.agg #[.int .i64 (0), .int .i64 (0)]) 2 16 Tryz.underlying23 hi0 hz0 hz1 hz2 rfl (by decide) _ _ _ rfl (HOA.out.below (by go_grown)) _ 1 1 [.int .i64 x, .int .i64 y] rfl rfl (two_cells (by simp) (by simp)) (two_one _ _) (by unfold maxLen; simp <;> omega) (by simp <;> omega) (HBA.out.alloc HBA.out.size _).size ?_; intro v3 w3 hown3 hgrow3 _ _; have HBC := Lib.hid ((HBA.out.alloc HBA.out.size _).grown hgrow3 (HBA.out.alloc HBA.out.size _).size (fun q hq => (World.ownsRow.lt HOA.out q hq).1)); have HOC := Lib.hid (Vecs.snoc (l := [] ++ (L.drop 0).take k) rfl hown3); clear hown3 hgrow3)
                    refine hK _ _ ?_
                    clear hK K
                    refine wpAny_ready (rs := [14]) (by kernel_rfl) (by simp) (AllReady.cons rfl (fun K hK => ?_) (AllReady.nil))
                    (refine step_list (by rintro ⟨_, _, h⟩; obtain ⟨_, hv, _⟩ := h; cases hv) (by kernel_rfl) ?_; refine wpList_append_own_at _ rfl _ _ 23 rfl W.heap.size 55 i0 (.agg #[.int .i64 (0), .int .i64 (0)]) 2 16 Tryz.underlying23 hi0 hz0 hz1 hz2 rfl (by decide) _ _ _ rfl HOC.out _ 0 _ [] rfl rfl (fun j u hj => by simp at hj) (fun u hu => by simp at hu) (by unfold maxLen; simp <;> omega) (by simp <;> omega) HBC.out.size ?_; intro v4 w4 hown4 hgrow4 _ _; have HBD := Lib.hid (HBC.out.grown hgrow4 HBC.out.size (fun q hq => (World.ownsRow.lt HOC.out q hq).1)); have HOD := Lib.hid (Vecs.join (m := []) hown4 (by have := HLm.out; simp <;> omega)); clear hown4 hgrow4)
                    refine hK _ _ ?_
                    clear hK K
                    refine wpAny_seq 15 rfl (by kernel_rfl) ?_
                    simp only [List.drop_succ_cons, List.drop_zero]
                  rotate_left 1
                  focus
                    go_simp
                    refine hK _ _ ?_
                    clear hK K
                    refine wpAny_ready (rs := [4]) (by kernel_rfl) (by simp) (AllReady.cons rfl (fun K hK => ?_) (AllReady.nil))
                    (refine step_list (by rintro ⟨_, _, h⟩; obtain ⟨_, hv, _⟩ := h; cases hv) (by kernel_rfl) ?_; refine wpList_append_own_at _ rfl _ _ 23 rfl W.heap.size 55 i0 (.agg #[.int .i64 (0), .int .i64 (0)]) 2 16 Tryz.underlying23 hi0 hz0 hz1 hz2 rfl (by decide) (.slice (some ⟨W.heap.size, 0, none⟩) 0 0) _ _ rfl HO2.out _ _ _ _ rfl (piece_len HT1.out) (piece0D (HCL.out _ HB2.out) HT1.out) (piece_one _) (by unfold maxLen; simp <;> omega) (by simp <;> omega) HB2.out.size ?_; intro v2 w2 hown2 hgrow2 _ _; have HBA := Lib.hid (HB2.out.grown hgrow2 HB2.out.size (fun q hq => (World.ownsRow.lt HO2.out q hq).1)); have HOA := Lib.hid (Vecs.join (l := []) hown2 (by have := HLm.out; simp <;> omega)); have rr : w2.heap[W.heap.size + 1]? = ((W.drew.alloc (.cells #[] 55)).alloc (.cells #[.int .i64 x, .int .i64 y] 55)).heap[W.heap.size + 1]? := hgrow2.block _ (by simp <;> omega) (by simp [Value.ownBlock]); have RR0 : Hid (w2.cell? ⟨W.heap.size + 1, 0, none⟩ = some (.int .i64 x)) := (cell_same rr 0).trans KE0.out; have RR1 : Hid (w2.cell? ⟨W.heap.size + 1, 1, none⟩ = some (.int .i64 y)) := (cell_same rr 1).trans KE1.out; clear rr; clear hown2 hgrow2)
                    refine hK _ _ ?_
                    clear hK K
                    refine wpAny_ready (rs := [10]) (by kernel_rfl) (by simp) (AllReady.cons rfl (fun K hK => ?_) (AllReady.nil))
                    (refine step_list (by rintro ⟨_, _, h⟩; obtain ⟨_, hv, _⟩ := h; cases hv) (by kernel_rfl) ?_; refine wpList_append_own_at _ rfl _ _ 23 rfl W.heap.size 55 i0 (.agg #[.int .i64 (0), .int .i64 (0)]) 2 16 Tryz.underlying23 hi0 hz0 hz1 hz2 rfl (by decide) _ _ _ rfl HOA.out _ 1 1 [.int .i64 x, .int .i64 y] rfl rfl (two_cells RR0.out RR1.out) (two_one _ _) (by unfold maxLen; simp <;> omega) (by simp <;> omega) HBA.out.size ?_; intro v3 w3 hown3 hgrow3 _ _; have HBC := Lib.hid (HBA.out.grown hgrow3 HBA.out.size (fun q hq => (World.ownsRow.lt HOA.out q hq).1)); have HOC := Lib.hid (Vecs.snoc (l := [] ++ (L.drop 0).take k) rfl hown3); clear hown3 hgrow3)
                    refine hK _ _ ?_
                    clear hK K
                    refine wpAny_ready (rs := [14]) (by kernel_rfl) (by simp) (AllReady.cons rfl (fun K hK => ?_) (AllReady.nil))
                    (refine step_list (by rintro ⟨_, _, h⟩; obtain ⟨_, hv, _⟩ := h; cases hv) (by kernel_rfl) ?_; refine wpList_append_own_at _ rfl _ _ 23 rfl W.heap.size 55 i0 (.agg #[.int .i64 (0), .int .i64 (0)]) 2 16 Tryz.underlying23 hi0 hz0 hz1 hz2 rfl (by decide) _ _ _ rfl HOC.out _ 0 _ [] rfl rfl (fun j u hj => by simp at hj) (fun u hu => by simp at hu) (by unfold maxLen; simp <;> omega) (by simp <;> omega) HBC.out.size ?_; intro v4 w4 hown4 hgrow4 _ _; have HBD := Lib.hid (HBC.out.grown hgrow4 HBC.out.size (fun q hq => (World.ownsRow.lt HOC.out q hq).1)); have HOD := Lib.hid (Vecs.join (m := []) hown4 (by have := HLm.out; simp <;> omega)); clear hown4 hgrow4)
                    refine hK _ _ ?_
                    clear hK K
                    refine wpAny_seq 15 rfl (by kernel_rfl) ?_
                    simp only [List.drop_succ_cons, List.drop_zero]
                rotate_left 2
                focus
                  go_simp
                  refine hK _ _ ?_
                  clear hK K
                  refine wpAny_ready (rs := [0]) (by kernel_rfl) (by simp) (AllReady.cons rfl (fun K hK => ?_) (AllReady.nil))
                  go_simp
                  refine hK _ _ ?_
                  clear hK K
                  refine wpAny_ready (rs := [4]) (by kernel_rfl) (by simp) (AllReady.cons rfl (fun K hK => ?_) (AllReady.nil))
                  (refine step_list (by rintro ⟨_, _, h⟩; obtain ⟨_, hv, _⟩ := h; cases hv) (by kernel_rfl) ?_; refine wpList_append_own_at _ rfl _ _ 23 rfl W.heap.size 55 i0 (.agg #[.int .i64 (0), .int .i64 (0)]) 2 16 Tryz.underlying23 hi0 hz0 hz1 hz2 rfl (by decide) (.slice (some ⟨W.heap.size + 1, 0, none⟩) 0 0) _ _ rfl HO3.out _ _ _ _ rfl (piece_len HT1.out) (piece0D (HCL.out _ HB3.out) HT1.out) (piece_one _) (by unfold maxLen; simp <;> omega) (by simp <;> omega) HB3.out.size ?_; intro v2 w2 hown2 hgrow2 _ _; have HBA := Lib.hid (HB3.out.grown hgrow2 HB3.out.size (fun q hq => (World.ownsRow.lt HO3.out q hq).1)); have HOA := Lib.hid (Vecs.join (l := []) hown2 (by have := HLm.out; simp <;> omega)); have rr : w2.heap[W.heap.size]? = ((W.drew.alloc (.cells #[.int .i64 x, .int .i64 y] 55)).alloc (.cells #[] 55)).heap[W.heap.size]? := hgrow2.block _ (by simp <;> omega) (by simp [Value.ownBlock]); have RR0 : Hid (w2.cell? ⟨W.heap.size, 0, none⟩ = some (.int .i64 x)) := (cell_same rr 0).trans KR0.out; have RR1 : Hid (w2.cell? ⟨W.heap.size, 1, none⟩ = some (.int .i64 y)) := (cell_same rr 1).trans KR1.out; clear rr; clear hown2 hgrow2)
                  refine hK _ _ ?_
                  clear hK K
                  refine wpAny_ready (rs := [10]) (by kernel_rfl) (by simp) (AllReady.cons rfl (fun K hK => ?_) (AllReady.nil))
                  (refine step_list (by rintro ⟨_, _, h⟩; obtain ⟨_, hv, _⟩ := h; cases hv) (by kernel_rfl) ?_; refine wpList_append_own_at _ rfl _ _ 23 rfl W.heap.size 55 i0 (.agg #[.int .i64 (0), .int .i64 (0)]) 2 16 Tryz.underlying23 hi0 hz0 hz1 hz2 rfl (by decide) _ _ _ rfl HOA.out _ 1 1 [.int .i64 x, .int .i64 y] rfl rfl (two_cells RR0.out RR1.out) (two_one _ _) (by unfold maxLen; simp <;> omega) (by simp <;> omega) HBA.out.size ?_; intro v3 w3 hown3 hgrow3 _ _; have HBC := Lib.hid (HBA.out.grown hgrow3 HBA.out.size (fun q hq => (World.ownsRow.lt HOA.out q hq).1)); have HOC := Lib.hid (Vecs.snoc (l := [] ++ (L.drop 0).take k) rfl hown3); clear hown3 hgrow3)
                  refine hK _ _ ?_
                  clear hK K
                  refine wpAny_ready (rs := [14]) (by kernel_rfl) (by simp) (AllReady.cons rfl (fun K hK => ?_) (AllReady.nil))
                  (refine step_list (by rintro ⟨_, _, h⟩; obtain ⟨_, hv, _⟩ := h; cases hv) (by kernel_rfl) ?_; refine wpList_append_own_at _ rfl _ _ 23 rfl W.heap.size 55 i0 (.agg #[.int .i64 (0), .int .i64 (0)]) 2 16 Tryz.underlying23 hi0 hz0 hz1 hz2 rfl (by decide) _ _ _ rfl HOC.out _ 0 _ [] rfl rfl (fun j u hj => by simp at hj) (fun u hu => by simp at hu) (by unfold maxLen; simp <;> omega) (by simp <;> omega) HBC.out.size ?_; intro v4 w4 hown4 hgrow4 _ _; have HBD := Lib.hid (HBC.out.grown hgrow4 HBC.out.size (fun q hq => (World.ownsRow.lt HOC.out q hq).1)); have HOD := Lib.hid (Vecs.join (m := []) hown4 (by have := HLm.out; simp <;> omega)); clear hown4 hgrow4)
                  refine hK _ _ ?_
                  clear hK K
                  refine wpAny_seq 15 rfl (by kernel_rfl) ?_
                  simp only [List.drop_succ_cons, List.drop_zero]
              all_goals
                rw [HR.out] at HOD
                have hV4 := HOD.out.lower (base' := w.heap.size) hwW
                have hB4 := hWb.trans (HBD.out.mono hwW)
                have HO4 : Hid (OutD w l (i + 1) (insN L k (x, y)) v4 w4) := ⟨HIn.out, Vecs.formD hV4 (by rw [insN_len HKL.out]; omega), hV4⟩
                clear hV4 HOD HBD HOC HBC HOA HBA
                go_wp2
                go_roundw
                case rel => exact ⟨i + 1, _, by go_num, by omega, HO4, hB4⟩
                case measure => simp [intOf]; omega
            · have HR := HRf
              have r5 : ¬ k * 2 = 0 := by omega
              have r6 : ¬ cc = 0 := by omega
              clear HRf HM
              go_wp2
              refine wp_region_any (by kernel_rfl) ?_
              try (change wpAny _ _ _ _ _ _ _ (World.drew _))
              refine wpAny_take (i := 1) (v := ?_) rfl (by kernel_rfl) (by kernel_rfl) (by kernel_rfl) (fun _ _ _ h => h) (Or.inl ⟨by rfl, ?_⟩) ?_
              rotate_left
              focus (intro w0; go_simp; try with_reducible rfl)
              refine wpAny_take (i := 2) (v := ?_) rfl (by kernel_rfl) (by kernel_rfl) (by kernel_rfl) (fun _ _ _ h => h) (Or.inl ⟨by rfl, ?_⟩) ?_
              rotate_left
              focus (intro w0; go_simp; try with_reducible rfl)
              refine wpAny_take (i := 3) (v := ?_) rfl (by kernel_rfl) (by kernel_rfl) (by kernel_rfl) (fun _ _ _ h => h) (Or.inl ⟨by rfl, ?_⟩) ?_
              rotate_left
              focus (intro w0; go_simp; try with_reducible rfl)
              refine wpAny_take (i := 5) (v := ?_) rfl (by kernel_rfl) (by kernel_rfl) (by kernel_rfl) (fun _ _ _ h => h) (Or.inl ⟨by rfl, ?_⟩) ?_
              rotate_left
              focus (intro w0; go_simp; try with_reducible rfl)
              refine wpAny_take (i := 6) (v := ?_) rfl (by kernel_rfl) (by kernel_rfl) (by kernel_rfl) (fun _ _ _ h => h) (Or.inl ⟨by rfl, ?_⟩) ?_
              rotate_left
              focus (intro w0; go_simp; try with_reducible rfl)
              refine wpAny_take (i := 7) (v := ?_) rfl (by kernel_rfl) (by kernel_rfl) (by kernel_rfl) (fun _ _ _ h => h) (Or.inl ⟨by rfl, ?_⟩) ?_
              rotate_left
              focus (intro w0; go_simp; try with_reducible rfl)
              refine wpAny_take (i := 11) (v := ?_) rfl (by kernel_rfl) (by kernel_rfl) (by kernel_rfl) (fun _ _ _ h => h) (Or.inl ⟨by rfl, ?_⟩) ?_
              rotate_left
              focus (intro w0; go_simp; try with_reducible rfl)
              refine wpAny_take (i := 12) (v := ?_) rfl (by kernel_rfl) (by kernel_rfl) (by kernel_rfl) (fun _ _ _ h => h) (Or.inl ⟨by rfl, ?_⟩) ?_
              rotate_left
              focus (intro w0; go_simp; try with_reducible rfl)
              refine wpAny_take (i := 13) (v := ?_) rfl (by kernel_rfl) (by kernel_rfl) (by kernel_rfl) (fun _ _ _ h => h) (Or.inl ⟨by rfl, ?_⟩) ?_
              rotate_left
              focus (intro w0; go_simp; try with_reducible rfl)
              refine wpAny_ready (rs := [0, 8]) (by kernel_rfl) (by simp) (AllReady.cons rfl (fun K hK => ?_) (AllReady.cons rfl (fun K hK => ?_) (AllReady.nil)))
              focus
                go_simp
                refine hK _ _ ?_
                clear hK K
                refine wpAny_ready (rs := [4, 8]) (by kernel_rfl) (by simp) (AllReady.cons rfl (fun K hK => ?_) (AllReady.cons rfl (fun K hK => ?_) (AllReady.nil)))
                focus
                  (refine step_list (by rintro ⟨_, _, h⟩; obtain ⟨_, hv, _⟩ := h; cases hv) (by kernel_rfl) ?_; refine wpList_append_own_at _ rfl _ _ 23 rfl W.heap.size 55 i0 (.agg #[.int .i64 (0), .int .i64 (0)]) 2 16 Tryz.underlying23 hi0 hz0 hz1 hz2 rfl (by decide) (.slice (some ⟨W.heap.size, 0, none⟩) 0 0) _ _ rfl HO1.out _ _ _ _ rfl (piece_len HT1.out) (piece0D (HCL.out _ HB1.out) HT1.out) (piece_one _) (by unfold maxLen; simp <;> omega) (by simp <;> omega) HB1.out.size ?_; intro v2 w2 hown2 hgrow2 _ _; have HBA := Lib.hid (HB1.out.grown hgrow2 HB1.out.size (fun q hq => (World.ownsRow.lt HO1.out q hq).1)); have HOA := Lib.hid (Vecs.join (l := []) hown2 (by have := HLm.out; simp <;> omega)); have b0 := (HBA.out.cell (p := ⟨bb, off + i * 2, none⟩) hrb).trans c0; have b1 := (HBA.out.cell (p := ⟨bb, off + i * 2 + 1, none⟩) hrb).trans c1'; have bl := Nat.lt_of_lt_of_le hrb HBA.out.size; clear hown2 hgrow2)
                  refine hK _ _ ?_
                  clear hK K
                  refine wpAny_ready (rs := [8]) (by kernel_rfl) (by simp) (AllReady.cons rfl (fun K hK => ?_) (AllReady.nil))
                  go_simp
                  refine hK _ _ ?_
                  clear hK K
                  refine wpAny_ready (rs := [9]) (by kernel_rfl) (by simp) (AllReady.cons rfl (fun K hK => ?_) (AllReady.nil))
                  go_simp
                  refine hK _ _ ?_
                  clear hK K
                  refine wpAny_ready (rs := [10]) (by kernel_rfl) (by simp) (AllReady.cons rfl (fun K hK => ?_) (AllReady.nil))
                  (refine step_list (by rintro ⟨_, _, h⟩; obtain ⟨_, hv, _⟩ := h; cases hv) (by kernel_rfl) ?_; refine wpList_append_own_at _ rfl _ _ 23 rfl W.heap.size 55 i0 (.agg #[.int .i64 (0), .int .i64 (0)]) 2 16 Tryz.underlying23 hi0 hz0 hz1 hz2 rfl (by decide) _ _ _ rfl (HOA.out.below (by go_grown)) _ 1 1 [.int .i64 x, .int .i64 y] rfl rfl (two_cells (by simp) (by simp)) (two_one _ _) (by unfold maxLen; simp <;> omega) (by simp <;> omega) (HBA.out.alloc HBA.out.size _).size ?_; intro v3 w3 hown3 hgrow3 _ _; have HBC := Lib.hid ((HBA.out.alloc HBA.out.size _).grown hgrow3 (HBA.out.alloc HBA.out.size _).size (fun q hq => (World.ownsRow.lt HOA.out q hq).1)); have HOC := Lib.hid (Vecs.snoc (l := [] ++ (L.drop 0).take k) rfl hown3); clear hown3 hgrow3)
                  refine hK _ _ ?_
                  clear hK K
                  refine wpAny_ready (rs := [14]) (by kernel_rfl) (by simp) (AllReady.cons rfl (fun K hK => ?_) (AllReady.nil))
                  (refine step_list (by rintro ⟨_, _, h⟩; obtain ⟨_, hv, _⟩ := h; cases hv) (by kernel_rfl) ?_; refine wpList_append_own_at _ rfl _ _ 23 rfl W.heap.size 55 i0 (.agg #[.int .i64 (0), .int .i64 (0)]) 2 16 Tryz.underlying23 hi0 hz0 hz1 hz2 rfl (by decide) _ _ _ rfl HOC.out _ _ _ _ rfl (piece_len HT2.out) (piece0D (HCL.out _ HBC.out) HT2.out) (piece_one _) (by unfold maxLen; simp <;> omega) (by simp <;> omega) HBC.out.size ?_; intro v4 w4 hown4 hgrow4 _ _; have HBD := Lib.hid (HBC.out.grown hgrow4 HBC.out.size (fun q hq => (World.ownsRow.lt HOC.out q hq).1)); have HOD := Lib.hid (Vecs.join hown4 (by have := HLm.out; simp <;> omega)); clear hown4 hgrow4)
                  refine hK _ _ ?_
                  clear hK K
                  refine wpAny_seq 15 rfl (by kernel_rfl) ?_
                  simp only [List.drop_succ_cons, List.drop_zero]
                rotate_left 1
                focus
                  go_simp
                  refine hK _ _ ?_
                  clear hK K
                  refine wpAny_ready (rs := [4, 9]) (by kernel_rfl) (by simp) (AllReady.cons rfl (fun K hK => ?_) (AllReady.cons rfl (fun K hK => ?_) (AllReady.nil)))
                  focus
                    (refine step_list (by rintro ⟨_, _, h⟩; obtain ⟨_, hv, _⟩ := h; cases hv) (by kernel_rfl) ?_; refine wpList_append_own_at _ rfl _ _ 23 rfl W.heap.size 55 i0 (.agg #[.int .i64 (0), .int .i64 (0)]) 2 16 Tryz.underlying23 hi0 hz0 hz1 hz2 rfl (by decide) (.slice (some ⟨W.heap.size, 0, none⟩) 0 0) _ _ rfl HO1.out _ _ _ _ rfl (piece_len HT1.out) (piece0D (HCL.out _ HB1.out) HT1.out) (piece_one _) (by unfold maxLen; simp <;> omega) (by simp <;> omega) HB1.out.size ?_; intro v2 w2 hown2 hgrow2 _ _; have HBA := Lib.hid (HB1.out.grown hgrow2 HB1.out.size (fun q hq => (World.ownsRow.lt HO1.out q hq).1)); have HOA := Lib.hid (Vecs.join (l := []) hown2 (by have := HLm.out; simp <;> omega)); have b0 := (HBA.out.cell (p := ⟨bb, off + i * 2, none⟩) hrb).trans c0; have b1 := (HBA.out.cell (p := ⟨bb, off + i * 2 + 1, none⟩) hrb).trans c1'; have bl := Nat.lt_of_lt_of_le hrb HBA.out.size; clear hown2 hgrow2)
                    refine hK _ _ ?_
                    clear hK K
                    refine wpAny_ready (rs := [9]) (by kernel_rfl) (by simp) (AllReady.cons rfl (fun K hK => ?_) (AllReady.nil))
                    go_simp
                    refine hK _ _ ?_
                    clear hK K
                    refine wpAny_ready (rs := [10]) (by kernel_rfl) (by simp) (AllReady.cons rfl (fun K hK => ?_) (AllReady.nil))
                    (refine step_list (by rintro ⟨_, _, h⟩; obtain ⟨_, hv, _⟩ := h; cases hv) (by kernel_rfl) ?_; refine wpList_append_own_at _ rfl _ _ 23 rfl W.heap.size 55 i0 (.agg #[.int .i64 (0), .int .i64 (0)]) 2 16 Tryz.underlying23 hi0 hz0 hz1 hz2 rfl (by decide) _ _ _ rfl (HOA.out.below (by go_grown)) _ 1 1 [.int .i64 x, .int .i64 y] rfl rfl (two_cells (by simp) (by simp)) (two_one _ _) (by unfold maxLen; simp <;> omega) (by simp <;> omega) (HBA.out.alloc HBA.out.size _).size ?_; intro v3 w3 hown3 hgrow3 _ _; have HBC := Lib.hid ((HBA.out.alloc HBA.out.size _).grown hgrow3 (HBA.out.alloc HBA.out.size _).size (fun q hq => (World.ownsRow.lt HOA.out q hq).1)); have HOC := Lib.hid (Vecs.snoc (l := [] ++ (L.drop 0).take k) rfl hown3); clear hown3 hgrow3)
                    refine hK _ _ ?_
                    clear hK K
                    refine wpAny_ready (rs := [14]) (by kernel_rfl) (by simp) (AllReady.cons rfl (fun K hK => ?_) (AllReady.nil))
                    (refine step_list (by rintro ⟨_, _, h⟩; obtain ⟨_, hv, _⟩ := h; cases hv) (by kernel_rfl) ?_; refine wpList_append_own_at _ rfl _ _ 23 rfl W.heap.size 55 i0 (.agg #[.int .i64 (0), .int .i64 (0)]) 2 16 Tryz.underlying23 hi0 hz0 hz1 hz2 rfl (by decide) _ _ _ rfl HOC.out _ _ _ _ rfl (piece_len HT2.out) (piece0D (HCL.out _ HBC.out) HT2.out) (piece_one _) (by unfold maxLen; simp <;> omega) (by simp <;> omega) HBC.out.size ?_; intro v4 w4 hown4 hgrow4 _ _; have HBD := Lib.hid (HBC.out.grown hgrow4 HBC.out.size (fun q hq => (World.ownsRow.lt HOC.out q hq).1)); have HOD := Lib.hid (Vecs.join hown4 (by have := HLm.out; simp <;> omega)); clear hown4 hgrow4)
                    refine hK _ _ ?_
                    clear hK K
                    refine wpAny_seq 15 rfl (by kernel_rfl) ?_
                    simp only [List.drop_succ_cons, List.drop_zero]
                  rotate_left 1
                  focus
                    go_simp
                    refine hK _ _ ?_
                    clear hK K
                    refine wpAny_ready (rs := [4]) (by kernel_rfl) (by simp) (AllReady.cons rfl (fun K hK => ?_) (AllReady.nil))
                    (refine step_list (by rintro ⟨_, _, h⟩; obtain ⟨_, hv, _⟩ := h; cases hv) (by kernel_rfl) ?_; refine wpList_append_own_at _ rfl _ _ 23 rfl W.heap.size 55 i0 (.agg #[.int .i64 (0), .int .i64 (0)]) 2 16 Tryz.underlying23 hi0 hz0 hz1 hz2 rfl (by decide) (.slice (some ⟨W.heap.size, 0, none⟩) 0 0) _ _ rfl HO2.out _ _ _ _ rfl (piece_len HT1.out) (piece0D (HCL.out _ HB2.out) HT1.out) (piece_one _) (by unfold maxLen; simp <;> omega) (by simp <;> omega) HB2.out.size ?_; intro v2 w2 hown2 hgrow2 _ _; have HBA := Lib.hid (HB2.out.grown hgrow2 HB2.out.size (fun q hq => (World.ownsRow.lt HO2.out q hq).1)); have HOA := Lib.hid (Vecs.join (l := []) hown2 (by have := HLm.out; simp <;> omega)); have rr : w2.heap[W.heap.size + 1]? = ((W.drew.alloc (.cells #[] 55)).alloc (.cells #[.int .i64 x, .int .i64 y] 55)).heap[W.heap.size + 1]? := hgrow2.block _ (by simp <;> omega) (by simp [Value.ownBlock]); have RR0 : Hid (w2.cell? ⟨W.heap.size + 1, 0, none⟩ = some (.int .i64 x)) := (cell_same rr 0).trans KE0.out; have RR1 : Hid (w2.cell? ⟨W.heap.size + 1, 1, none⟩ = some (.int .i64 y)) := (cell_same rr 1).trans KE1.out; clear rr; clear hown2 hgrow2)
                    refine hK _ _ ?_
                    clear hK K
                    refine wpAny_ready (rs := [10]) (by kernel_rfl) (by simp) (AllReady.cons rfl (fun K hK => ?_) (AllReady.nil))
                    (refine step_list (by rintro ⟨_, _, h⟩; obtain ⟨_, hv, _⟩ := h; cases hv) (by kernel_rfl) ?_; refine wpList_append_own_at _ rfl _ _ 23 rfl W.heap.size 55 i0 (.agg #[.int .i64 (0), .int .i64 (0)]) 2 16 Tryz.underlying23 hi0 hz0 hz1 hz2 rfl (by decide) _ _ _ rfl HOA.out _ 1 1 [.int .i64 x, .int .i64 y] rfl rfl (two_cells RR0.out RR1.out) (two_one _ _) (by unfold maxLen; simp <;> omega) (by simp <;> omega) HBA.out.size ?_; intro v3 w3 hown3 hgrow3 _ _; have HBC := Lib.hid (HBA.out.grown hgrow3 HBA.out.size (fun q hq => (World.ownsRow.lt HOA.out q hq).1)); have HOC := Lib.hid (Vecs.snoc (l := [] ++ (L.drop 0).take k) rfl hown3); clear hown3 hgrow3)
                    refine hK _ _ ?_
                    clear hK K
                    refine wpAny_ready (rs := [14]) (by kernel_rfl) (by simp) (AllReady.cons rfl (fun K hK => ?_) (AllReady.nil))
                    (refine step_list (by rintro ⟨_, _, h⟩; obtain ⟨_, hv, _⟩ := h; cases hv) (by kernel_rfl) ?_; refine wpList_append_own_at _ rfl _ _ 23 rfl W.heap.size 55 i0 (.agg #[.int .i64 (0), .int .i64 (0)]) 2 16 Tryz.underlying23 hi0 hz0 hz1 hz2 rfl (by decide) _ _ _ rfl HOC.out _ _ _ _ rfl (piece_len HT2.out) (piece0D (HCL.out _ HBC.out) HT2.out) (piece_one _) (by unfold maxLen; simp <;> omega) (by simp <;> omega) HBC.out.size ?_; intro v4 w4 hown4 hgrow4 _ _; have HBD := Lib.hid (HBC.out.grown hgrow4 HBC.out.size (fun q hq => (World.ownsRow.lt HOC.out q hq).1)); have HOD := Lib.hid (Vecs.join hown4 (by have := HLm.out; simp <;> omega)); clear hown4 hgrow4)
                    refine hK _ _ ?_
                    clear hK K
                    refine wpAny_seq 15 rfl (by kernel_rfl) ?_
                    simp only [List.drop_succ_cons, List.drop_zero]
              rotate_left 3
              focus
                go_simp
                refine hK _ _ ?_
                clear hK K
                refine wpAny_ready (rs := [0, 9]) (by kernel_rfl) (by simp) (AllReady.cons rfl (fun K hK => ?_) (AllReady.cons rfl (fun K hK => ?_) (AllReady.nil)))
                focus
                  go_simp
                  refine hK _ _ ?_
                  clear hK K
                  refine wpAny_ready (rs := [4, 9]) (by kernel_rfl) (by simp) (AllReady.cons rfl (fun K hK => ?_) (AllReady.cons rfl (fun K hK => ?_) (AllReady.nil)))
                  focus
                    (refine step_list (by rintro ⟨_, _, h⟩; obtain ⟨_, hv, _⟩ := h; cases hv) (by kernel_rfl) ?_; refine wpList_append_own_at _ rfl _ _ 23 rfl W.heap.size 55 i0 (.agg #[.int .i64 (0), .int .i64 (0)]) 2 16 Tryz.underlying23 hi0 hz0 hz1 hz2 rfl (by decide) (.slice (some ⟨W.heap.size, 0, none⟩) 0 0) _ _ rfl HO1.out _ _ _ _ rfl (piece_len HT1.out) (piece0D (HCL.out _ HB1.out) HT1.out) (piece_one _) (by unfold maxLen; simp <;> omega) (by simp <;> omega) HB1.out.size ?_; intro v2 w2 hown2 hgrow2 _ _; have HBA := Lib.hid (HB1.out.grown hgrow2 HB1.out.size (fun q hq => (World.ownsRow.lt HO1.out q hq).1)); have HOA := Lib.hid (Vecs.join (l := []) hown2 (by have := HLm.out; simp <;> omega)); have b0 := (HBA.out.cell (p := ⟨bb, off + i * 2, none⟩) hrb).trans c0; have b1 := (HBA.out.cell (p := ⟨bb, off + i * 2 + 1, none⟩) hrb).trans c1'; have bl := Nat.lt_of_lt_of_le hrb HBA.out.size; clear hown2 hgrow2)
                    refine hK _ _ ?_
                    clear hK K
                    refine wpAny_ready (rs := [9]) (by kernel_rfl) (by simp) (AllReady.cons rfl (fun K hK => ?_) (AllReady.nil))
                    go_simp
                    refine hK _ _ ?_
                    clear hK K
                    refine wpAny_ready (rs := [10]) (by kernel_rfl) (by simp) (AllReady.cons rfl (fun K hK => ?_) (AllReady.nil))
                    (refine step_list (by rintro ⟨_, _, h⟩; obtain ⟨_, hv, _⟩ := h; cases hv) (by kernel_rfl) ?_; refine wpList_append_own_at _ rfl _ _ 23 rfl W.heap.size 55 i0 (.agg #[.int .i64 (0), .int .i64 (0)]) 2 16 Tryz.underlying23 hi0 hz0 hz1 hz2 rfl (by decide) _ _ _ rfl (HOA.out.below (by go_grown)) _ 1 1 [.int .i64 x, .int .i64 y] rfl rfl (two_cells (by simp) (by simp)) (two_one _ _) (by unfold maxLen; simp <;> omega) (by simp <;> omega) (HBA.out.alloc HBA.out.size _).size ?_; intro v3 w3 hown3 hgrow3 _ _; have HBC := Lib.hid ((HBA.out.alloc HBA.out.size _).grown hgrow3 (HBA.out.alloc HBA.out.size _).size (fun q hq => (World.ownsRow.lt HOA.out q hq).1)); have HOC := Lib.hid (Vecs.snoc (l := [] ++ (L.drop 0).take k) rfl hown3); clear hown3 hgrow3)
                    refine hK _ _ ?_
                    clear hK K
                    refine wpAny_ready (rs := [14]) (by kernel_rfl) (by simp) (AllReady.cons rfl (fun K hK => ?_) (AllReady.nil))
                    (refine step_list (by rintro ⟨_, _, h⟩; obtain ⟨_, hv, _⟩ := h; cases hv) (by kernel_rfl) ?_; refine wpList_append_own_at _ rfl _ _ 23 rfl W.heap.size 55 i0 (.agg #[.int .i64 (0), .int .i64 (0)]) 2 16 Tryz.underlying23 hi0 hz0 hz1 hz2 rfl (by decide) _ _ _ rfl HOC.out _ _ _ _ rfl (piece_len HT2.out) (piece0D (HCL.out _ HBC.out) HT2.out) (piece_one _) (by unfold maxLen; simp <;> omega) (by simp <;> omega) HBC.out.size ?_; intro v4 w4 hown4 hgrow4 _ _; have HBD := Lib.hid (HBC.out.grown hgrow4 HBC.out.size (fun q hq => (World.ownsRow.lt HOC.out q hq).1)); have HOD := Lib.hid (Vecs.join hown4 (by have := HLm.out; simp <;> omega)); clear hown4 hgrow4)
                    refine hK _ _ ?_
                    clear hK K
                    refine wpAny_seq 15 rfl (by kernel_rfl) ?_
                    simp only [List.drop_succ_cons, List.drop_zero]
                  rotate_left 1
                  focus
                    go_simp
                    refine hK _ _ ?_
                    clear hK K
                    refine wpAny_ready (rs := [4]) (by kernel_rfl) (by simp) (AllReady.cons rfl (fun K hK => ?_) (AllReady.nil))
                    (refine step_list (by rintro ⟨_, _, h⟩; obtain ⟨_, hv, _⟩ := h; cases hv) (by kernel_rfl) ?_; refine wpList_append_own_at _ rfl _ _ 23 rfl W.heap.size 55 i0 (.agg #[.int .i64 (0), .int .i64 (0)]) 2 16 Tryz.underlying23 hi0 hz0 hz1 hz2 rfl (by decide) (.slice (some ⟨W.heap.size, 0, none⟩) 0 0) _ _ rfl HO2.out _ _ _ _ rfl (piece_len HT1.out) (piece0D (HCL.out _ HB2.out) HT1.out) (piece_one _) (by unfold maxLen; simp <;> omega) (by simp <;> omega) HB2.out.size ?_; intro v2 w2 hown2 hgrow2 _ _; have HBA := Lib.hid (HB2.out.grown hgrow2 HB2.out.size (fun q hq => (World.ownsRow.lt HO2.out q hq).1)); have HOA := Lib.hid (Vecs.join (l := []) hown2 (by have := HLm.out; simp <;> omega)); have rr : w2.heap[W.heap.size + 1]? = ((W.drew.alloc (.cells #[] 55)).alloc (.cells #[.int .i64 x, .int .i64 y] 55)).heap[W.heap.size + 1]? := hgrow2.block _ (by simp <;> omega) (by simp [Value.ownBlock]); have RR0 : Hid (w2.cell? ⟨W.heap.size + 1, 0, none⟩ = some (.int .i64 x)) := (cell_same rr 0).trans KE0.out; have RR1 : Hid (w2.cell? ⟨W.heap.size + 1, 1, none⟩ = some (.int .i64 y)) := (cell_same rr 1).trans KE1.out; clear rr; clear hown2 hgrow2)
                    refine hK _ _ ?_
                    clear hK K
                    refine wpAny_ready (rs := [10]) (by kernel_rfl) (by simp) (AllReady.cons rfl (fun K hK => ?_) (AllReady.nil))
                    (refine step_list (by rintro ⟨_, _, h⟩; obtain ⟨_, hv, _⟩ := h; cases hv) (by kernel_rfl) ?_; refine wpList_append_own_at _ rfl _ _ 23 rfl W.heap.size 55 i0 (.agg #[.int .i64 (0), .int .i64 (0)]) 2 16 Tryz.underlying23 hi0 hz0 hz1 hz2 rfl (by decide) _ _ _ rfl HOA.out _ 1 1 [.int .i64 x, .int .i64 y] rfl rfl (two_cells RR0.out RR1.out) (two_one _ _) (by unfold maxLen; simp <;> omega) (by simp <;> omega) HBA.out.size ?_; intro v3 w3 hown3 hgrow3 _ _; have HBC := Lib.hid (HBA.out.grown hgrow3 HBA.out.size (fun q hq => (World.ownsRow.lt HOA.out q hq).1)); have HOC := Lib.hid (Vecs.snoc (l := [] ++ (L.drop 0).take k) rfl hown3); clear hown3 hgrow3)
                    refine hK _ _ ?_
                    clear hK K
                    refine wpAny_ready (rs := [14]) (by kernel_rfl) (by simp) (AllReady.cons rfl (fun K hK => ?_) (AllReady.nil))
                    (refine step_list (by rintro ⟨_, _, h⟩; obtain ⟨_, hv, _⟩ := h; cases hv) (by kernel_rfl) ?_; refine wpList_append_own_at _ rfl _ _ 23 rfl W.heap.size 55 i0 (.agg #[.int .i64 (0), .int .i64 (0)]) 2 16 Tryz.underlying23 hi0 hz0 hz1 hz2 rfl (by decide) _ _ _ rfl HOC.out _ _ _ _ rfl (piece_len HT2.out) (piece0D (HCL.out _ HBC.out) HT2.out) (piece_one _) (by unfold maxLen; simp <;> omega) (by simp <;> omega) HBC.out.size ?_; intro v4 w4 hown4 hgrow4 _ _; have HBD := Lib.hid (HBC.out.grown hgrow4 HBC.out.size (fun q hq => (World.ownsRow.lt HOC.out q hq).1)); have HOD := Lib.hid (Vecs.join hown4 (by have := HLm.out; simp <;> omega)); clear hown4 hgrow4)
                    refine hK _ _ ?_
                    clear hK K
                    refine wpAny_seq 15 rfl (by kernel_rfl) ?_
                    simp only [List.drop_succ_cons, List.drop_zero]
                rotate_left 2
                focus
                  go_simp
                  refine hK _ _ ?_
                  clear hK K
                  refine wpAny_ready (rs := [0]) (by kernel_rfl) (by simp) (AllReady.cons rfl (fun K hK => ?_) (AllReady.nil))
                  go_simp
                  refine hK _ _ ?_
                  clear hK K
                  refine wpAny_ready (rs := [4]) (by kernel_rfl) (by simp) (AllReady.cons rfl (fun K hK => ?_) (AllReady.nil))
                  (refine step_list (by rintro ⟨_, _, h⟩; obtain ⟨_, hv, _⟩ := h; cases hv) (by kernel_rfl) ?_; refine wpList_append_own_at _ rfl _ _ 23 rfl W.heap.size 55 i0 (.agg #[.int .i64 (0), .int .i64 (0)]) 2 16 Tryz.underlying23 hi0 hz0 hz1 hz2 rfl (by decide) (.slice (some ⟨W.heap.size + 1, 0, none⟩) 0 0) _ _ rfl HO3.out _ _ _ _ rfl (piece_len HT1.out) (piece0D (HCL.out _ HB3.out) HT1.out) (piece_one _) (by unfold maxLen; simp <;> omega) (by simp <;> omega) HB3.out.size ?_; intro v2 w2 hown2 hgrow2 _ _; have HBA := Lib.hid (HB3.out.grown hgrow2 HB3.out.size (fun q hq => (World.ownsRow.lt HO3.out q hq).1)); have HOA := Lib.hid (Vecs.join (l := []) hown2 (by have := HLm.out; simp <;> omega)); have rr : w2.heap[W.heap.size]? = ((W.drew.alloc (.cells #[.int .i64 x, .int .i64 y] 55)).alloc (.cells #[] 55)).heap[W.heap.size]? := hgrow2.block _ (by simp <;> omega) (by simp [Value.ownBlock]); have RR0 : Hid (w2.cell? ⟨W.heap.size, 0, none⟩ = some (.int .i64 x)) := (cell_same rr 0).trans KR0.out; have RR1 : Hid (w2.cell? ⟨W.heap.size, 1, none⟩ = some (.int .i64 y)) := (cell_same rr 1).trans KR1.out; clear rr; clear hown2 hgrow2)
                  refine hK _ _ ?_
                  clear hK K
                  refine wpAny_ready (rs := [10]) (by kernel_rfl) (by simp) (AllReady.cons rfl (fun K hK => ?_) (AllReady.nil))
                  (refine step_list (by rintro ⟨_, _, h⟩; obtain ⟨_, hv, _⟩ := h; cases hv) (by kernel_rfl) ?_; refine wpList_append_own_at _ rfl _ _ 23 rfl W.heap.size 55 i0 (.agg #[.int .i64 (0), .int .i64 (0)]) 2 16 Tryz.underlying23 hi0 hz0 hz1 hz2 rfl (by decide) _ _ _ rfl HOA.out _ 1 1 [.int .i64 x, .int .i64 y] rfl rfl (two_cells RR0.out RR1.out) (two_one _ _) (by unfold maxLen; simp <;> omega) (by simp <;> omega) HBA.out.size ?_; intro v3 w3 hown3 hgrow3 _ _; have HBC := Lib.hid (HBA.out.grown hgrow3 HBA.out.size (fun q hq => (World.ownsRow.lt HOA.out q hq).1)); have HOC := Lib.hid (Vecs.snoc (l := [] ++ (L.drop 0).take k) rfl hown3); clear hown3 hgrow3)
                  refine hK _ _ ?_
                  clear hK K
                  refine wpAny_ready (rs := [14]) (by kernel_rfl) (by simp) (AllReady.cons rfl (fun K hK => ?_) (AllReady.nil))
                  (refine step_list (by rintro ⟨_, _, h⟩; obtain ⟨_, hv, _⟩ := h; cases hv) (by kernel_rfl) ?_; refine wpList_append_own_at _ rfl _ _ 23 rfl W.heap.size 55 i0 (.agg #[.int .i64 (0), .int .i64 (0)]) 2 16 Tryz.underlying23 hi0 hz0 hz1 hz2 rfl (by decide) _ _ _ rfl HOC.out _ _ _ _ rfl (piece_len HT2.out) (piece0D (HCL.out _ HBC.out) HT2.out) (piece_one _) (by unfold maxLen; simp <;> omega) (by simp <;> omega) HBC.out.size ?_; intro v4 w4 hown4 hgrow4 _ _; have HBD := Lib.hid (HBC.out.grown hgrow4 HBC.out.size (fun q hq => (World.ownsRow.lt HOC.out q hq).1)); have HOD := Lib.hid (Vecs.join hown4 (by have := HLm.out; simp <;> omega)); clear hown4 hgrow4)
                  refine hK _ _ ?_
                  clear hK K
                  refine wpAny_seq 15 rfl (by kernel_rfl) ?_
                  simp only [List.drop_succ_cons, List.drop_zero]
              all_goals
                rw [HR.out] at HOD
                have hV4 := HOD.out.lower (base' := w.heap.size) hwW
                have hB4 := hWb.trans (HBD.out.mono hwW)
                have HO4 : Hid (OutD w l (i + 1) (insN L k (x, y)) v4 w4) := ⟨HIn.out, Vecs.formD hV4 (by rw [insN_len HKL.out]; omega), hV4⟩
                clear hV4 HOD HBD HOC HBC HOA HBA
                go_wp2
                go_roundw
                case rel => exact ⟨i + 1, _, by go_num, by omega, HO4, hB4⟩
                case measure => simp [intOf]; omega
        have HIns : Hid ((0 < k → cyc L (k - 1) ≠ (x, y)) → Hid (InnsD l (i + 1) (insN L k (x, y)))) := fun hne => by
          obtain ⟨h1, h2⟩ := HX.out
          have := h2.inns.ins (k := k) h1 HSz.out (fun h => by
            rw [HZ.out]
            exact ⟨HKk.out h, hne h⟩)
          rwa [HZ.out] at this
        by_cases h0 : k = 0
        · have HIn := HIns.out (fun h => by omega)
          subst h0
          clear HKk HSz HX HIns
          go_upto_region 8 with fail
          refine wp_region_any (by kernel_rfl) ?_
          try (change wpAny _ _ _ _ _ _ _ (World.drew _))
          refine wpAny_take (i := 0) (v := ?_) rfl (by kernel_rfl) (by kernel_rfl) (by kernel_rfl) (fun _ _ _ h => h) (Or.inl ⟨by rfl, ?_⟩) ?_
          rotate_left
          focus (intro w0; go_simp; try with_reducible rfl)
          refine wpAny_take (i := 1) (v := ?_) rfl (by kernel_rfl) (by kernel_rfl) (by kernel_rfl) (fun _ _ _ h => h) (Or.inl ⟨by rfl, ?_⟩) ?_
          rotate_left
          focus (intro w0; go_simp; try with_reducible rfl)
          refine wpAny_take (i := 2) (v := ?_) rfl (by kernel_rfl) (by kernel_rfl) (by kernel_rfl) (fun _ _ _ h => h) (Or.inl ⟨by rfl, ?_⟩) ?_
          rotate_left
          focus (intro w0; go_simp; try with_reducible rfl)
          refine wpAny_take (i := 3) (v := undef) rfl (by kernel_rfl) (by kernel_rfl) (by kernel_rfl) (fun _ _ _ h => h) (Or.inr ⟨by kernel_rfl, rfl⟩) ?_
          refine wpAny_take (i := 4) (v := undef) rfl (by kernel_rfl) (by kernel_rfl) (by kernel_rfl) (fun _ _ _ h => h) (Or.inr ⟨by kernel_rfl, rfl⟩) ?_
          refine wpAny_take (i := 5) (v := undef) rfl (by kernel_rfl) (by kernel_rfl) (by kernel_rfl) (fun _ _ _ h => h) (Or.inr ⟨by kernel_rfl, rfl⟩) ?_
          refine wpAny_take (i := 6) (v := undef) rfl (by kernel_rfl) (by kernel_rfl) (by kernel_rfl) (fun _ _ _ h => h) (Or.inr ⟨by kernel_rfl, rfl⟩) ?_
          refine wpAny_take (i := 8) (v := undef) rfl (by kernel_rfl) (by kernel_rfl) (by kernel_rfl) (fun _ _ _ h => h) (Or.inr ⟨by kernel_rfl, rfl⟩) ?_
          refine wpAny_take (i := 9) (v := undef) rfl (by kernel_rfl) (by kernel_rfl) (by kernel_rfl) (fun _ _ _ h => h) (Or.inr ⟨by kernel_rfl, rfl⟩) ?_
          refine wpAny_take (i := 10) (v := undef) rfl (by kernel_rfl) (by kernel_rfl) (by kernel_rfl) (fun _ _ _ h => h) (Or.inr ⟨by kernel_rfl, rfl⟩) ?_
          refine wpAny_ready (rs := [7, 11]) (by kernel_rfl) (by simp) (AllReady.cons rfl (fun K hK => ?_) (AllReady.cons rfl (fun K hK => ?_) (AllReady.nil)))
          focus
            go_simp
            refine hK _ _ ?_
            clear hK K
            refine wpAny_ready (rs := [11]) (by kernel_rfl) (by simp) (AllReady.cons rfl (fun K hK => ?_) (AllReady.nil))
            go_simp
            refine hK _ _ ?_
            clear hK K
            refine wpAny_seq 12 rfl (by kernel_rfl) ?_
            simp only [List.drop_succ_cons, List.drop_zero]
          rotate_left 1
          focus
            go_simp
            refine hK _ _ ?_
            clear hK K
            refine wpAny_ready (rs := [7]) (by kernel_rfl) (by simp) (AllReady.cons rfl (fun K hK => ?_) (AllReady.nil))
            go_simp
            refine hK _ _ ?_
            clear hK K
            refine wpAny_seq 12 rfl (by kernel_rfl) ?_
            simp only [List.drop_succ_cons, List.drop_zero]
          all_goals go_wp2
          all_goals exact HT.out _ _ _ _ _ _ _ _ _ _ _ _ _ _ _ _ _ _ _ _ _ _ _ _ _ _ _ _ _ _ _ _ _ _ _ _ _ _ _ _ _ _ _ _ _ _ _ _ _ _ _ _ _ HIn (by go_grown)
        · have hk0 : 0 < k := by omega
          have hk1 : k - 1 < L.length := by have := HM.out; omega
          obtain ⟨p1, p2⟩ := HRw.out wr' (Below.refl _ _) (k - 1) hk1
          have t2 : ¬ (k : Int) = 0 := by omega
          have t2' : ((k : Int) == 0) = false := by simpa using t2
          have t3 : (0 : Int) ≤ (k : Int) - 1 := by omega
          have t4 : (k : Int) - 1 < (m : Int) := by omega
          have t5 : ((k : Int) - 1).toNat = k - 1 := by omega
          have t6 : IntKind.i64.wrap ((k : Int) - 1) = (k : Int) - 1 := by rw [IntKind.wrap_i64]; omega
          have t7 : (1 : Int) ≤ (k : Int) := by omega
          have t8 : k - 1 < m := by omega
          have hq2 : lessB (x, y) (cyc L (k - 1)) = false := HKk.out hk0
          have HKp : Hid (cyc L (k - 1) = (x, y) → InnsD l (i + 1) L) := fun e => by
            obtain ⟨h1, h2⟩ := HX.out
            exact h2.inns.keep h1 hk0 HSz.out (by rw [HZ.out]; exact e)
          clear hq2 HKk HSz
          generalize cyc L (k - 1) = z' at *
          by_cases e : z' = (x, y)
          · subst e
            have hI := HKp.out rfl
            have HO4 : Hid (∀ wr, Below wr'.heap.size wr' wr → OutD w l (i + 1) L (.slice (some ⟨go, 0, none⟩) m cc) wr ∧ Below w.heap.size w wr) := fun wr h => by
              have hb2 := belowTo HWb.out h
              have hV := (HV.out.below hb).below h
              exact ⟨⟨hI, ⟨go, cc, by rw [HM.out], hgo, Nat.lt_of_lt_of_le gl h.size, by rw [← HM.out]; exact hcc⟩, by rw [HM.out]; exact hV⟩, hb2⟩
            have qe : ∀ w', (binOp .neq 55 (.agg #[.int .i64 (x), .int .i64 (y)]) (.agg #[.int .i64 (x), .int .i64 (y)])).run Tryz.prog w' = .ok (.bool false) w' := fun w' => by rw [run_neV]; simp
            clear HIns HT HKp hI HV HX
            dsimp only at p1 p2
            go_upto_region 8 with fail
            refine wp_region_any (by kernel_rfl) ?_
            try (change wpAny _ _ _ _ _ _ _ (World.drew _))
            refine wpAny_take (i := 0) (v := ?_) rfl (by kernel_rfl) (by kernel_rfl) (by kernel_rfl) (fun _ _ _ h => h) (Or.inl ⟨by rfl, ?_⟩) ?_
            rotate_left
            focus (intro w0; go_simp; try with_reducible rfl)
            refine wpAny_take (i := 1) (v := ?_) rfl (by kernel_rfl) (by kernel_rfl) (by kernel_rfl) (fun _ _ _ h => h) (Or.inl ⟨by rfl, ?_⟩) ?_
            rotate_left
            focus (intro w0; go_simp; try with_reducible rfl)
            refine wpAny_take (i := 2) (v := ?_) rfl (by kernel_rfl) (by kernel_rfl) (by kernel_rfl) (fun _ _ _ h => h) (Or.inl ⟨by rfl, ?_⟩) ?_
            rotate_left
            focus (intro w0; go_simp; try with_reducible rfl)
            refine wpAny_take (i := 3) (v := ?_) rfl (by kernel_rfl) (by kernel_rfl) (by kernel_rfl) (fun _ _ _ h => h) (Or.inl ⟨by kernel_rfl, ?_⟩) ?_
            rotate_left
            focus (intro w0; go_simp; try with_reducible rfl)
            refine wpAny_take (i := 4) (v := ?_) rfl (by kernel_rfl) (by kernel_rfl) (by kernel_rfl) (fun _ _ _ h => h) (Or.inl ⟨by kernel_rfl, ?_⟩) ?_
            rotate_left
            focus (intro w0; go_simp; try with_reducible rfl)
            refine wpAny_take (i := 5) (v := ?_) rfl (by kernel_rfl) (by kernel_rfl) (by kernel_rfl) (fun _ _ _ h => h) (Or.inl ⟨by kernel_rfl, ?_⟩) ?_
            rotate_left
            focus (intro w0; go_simp; try with_reducible rfl)
            refine wpAny_take (i := 6) (v := ?_) rfl (by kernel_rfl) (by kernel_rfl) (by kernel_rfl) (fun _ _ _ h => h) (Or.inl ⟨by kernel_rfl, ?_⟩) ?_
            rotate_left
            focus (intro w0; go_simp; try with_reducible rfl)
            refine wpAny_take (i := 8) (v := ?_) rfl (by kernel_rfl) (by kernel_rfl) (by kernel_rfl) (fun _ _ _ h => h) (Or.inl ⟨by kernel_rfl, ?_⟩) ?_
            rotate_left
            focus (intro w0; go_simp; try with_reducible rfl)
            refine wpAny_take (i := 9) (v := ?_) rfl (by kernel_rfl) (by kernel_rfl) (by kernel_rfl) (fun _ _ _ h => h) (Or.inl ⟨by kernel_rfl, ?_⟩) ?_
            rotate_left
            focus (intro w0; go_simp; try with_reducible rfl)
            refine wpAny_take (i := 10) (v := ?_) rfl (by kernel_rfl) (by kernel_rfl) (by kernel_rfl) (fun _ _ _ h => h) (Or.inl ⟨by kernel_rfl, ?_⟩) ?_
            rotate_left
            focus (intro w0; go_simp; try with_reducible rfl)
            refine wpAny_ready (rs := [7, 11]) (by kernel_rfl) (by simp) (AllReady.cons rfl (fun K hK => ?_) (AllReady.cons rfl (fun K hK => ?_) (AllReady.nil)))
            focus
              go_simp
              refine hK _ _ ?_
              clear hK K
              refine wpAny_ready (rs := [11]) (by kernel_rfl) (by simp) (AllReady.cons rfl (fun K hK => ?_) (AllReady.nil))
              go_simp
              refine hK _ _ ?_
              clear hK K
              refine wpAny_seq 12 rfl (by kernel_rfl) ?_
              simp only [List.drop_succ_cons, List.drop_zero]
            rotate_left 1
            focus
              go_simp
              refine hK _ _ ?_
              clear hK K
              refine wpAny_ready (rs := [7]) (by kernel_rfl) (by simp) (AllReady.cons rfl (fun K hK => ?_) (AllReady.nil))
              go_simp
              refine hK _ _ ?_
              clear hK K
              refine wpAny_seq 12 rfl (by kernel_rfl) ?_
              simp only [List.drop_succ_cons, List.drop_zero]
            all_goals go_wp2
            all_goals refine HK2.out _ _ ?_
            all_goals go_wp2
            all_goals go_roundw
            all_goals first
              | (case rel => exact ⟨i + 1, L, by go_num, by omega, (HO4.out _ (by go_grown)).1, (HO4.out _ (by go_grown)).2⟩)
              | skip
            all_goals (simp [intOf]; omega)
          · have HIn := HIns.out (fun _ => e)
            have qe : ∀ w', (binOp .neq 55 (.agg #[.int .i64 (z'.1), .int .i64 (z'.2)]) (.agg #[.int .i64 (x), .int .i64 (y)])).run Tryz.prog w' = .ok (.bool true) w' := fun w' => by
              rw [run_neV]
              have : (decide (z'.1 = x) && decide (z'.2 = y)) = false := by
                apply Bool.eq_false_iff.2
                intro h
                rw [Bool.and_eq_true] at h
                exact e (Prod.ext (of_decide_eq_true h.1) (of_decide_eq_true h.2))
              rw [this]
              rfl
            clear e HKp HIns HX HV
            obtain ⟨x', y'⟩ := z'
            dsimp only at p1 p2 qe
            go_upto_region 8 with fail
            refine wp_region_any (by kernel_rfl) ?_
            try (change wpAny _ _ _ _ _ _ _ (World.drew _))
            refine wpAny_take (i := 0) (v := ?_) rfl (by kernel_rfl) (by kernel_rfl) (by kernel_rfl) (fun _ _ _ h => h) (Or.inl ⟨by rfl, ?_⟩) ?_
            rotate_left
            focus (intro w0; go_simp; try with_reducible rfl)
            refine wpAny_take (i := 1) (v := ?_) rfl (by kernel_rfl) (by kernel_rfl) (by kernel_rfl) (fun _ _ _ h => h) (Or.inl ⟨by rfl, ?_⟩) ?_
            rotate_left
            focus (intro w0; go_simp; try with_reducible rfl)
            refine wpAny_take (i := 2) (v := ?_) rfl (by kernel_rfl) (by kernel_rfl) (by kernel_rfl) (fun _ _ _ h => h) (Or.inl ⟨by rfl, ?_⟩) ?_
            rotate_left
            focus (intro w0; go_simp; try with_reducible rfl)
            refine wpAny_take (i := 3) (v := ?_) rfl (by kernel_rfl) (by kernel_rfl) (by kernel_rfl) (fun _ _ _ h => h) (Or.inl ⟨by kernel_rfl, ?_⟩) ?_
            rotate_left
            focus (intro w0; go_simp; try with_reducible rfl)
            refine wpAny_take (i := 4) (v := ?_) rfl (by kernel_rfl) (by kernel_rfl) (by kernel_rfl) (fun _ _ _ h => h) (Or.inl ⟨by kernel_rfl, ?_⟩) ?_
            rotate_left
            focus (intro w0; go_simp; try with_reducible rfl)
            refine wpAny_take (i := 5) (v := ?_) rfl (by kernel_rfl) (by kernel_rfl) (by kernel_rfl) (fun _ _ _ h => h) (Or.inl ⟨by kernel_rfl, ?_⟩) ?_
            rotate_left
            focus (intro w0; go_simp; try with_reducible rfl)
            refine wpAny_take (i := 6) (v := ?_) rfl (by kernel_rfl) (by kernel_rfl) (by kernel_rfl) (fun _ _ _ h => h) (Or.inl ⟨by kernel_rfl, ?_⟩) ?_
            rotate_left
            focus (intro w0; go_simp; try with_reducible rfl)
            refine wpAny_take (i := 8) (v := ?_) rfl (by kernel_rfl) (by kernel_rfl) (by kernel_rfl) (fun _ _ _ h => h) (Or.inl ⟨by kernel_rfl, ?_⟩) ?_
            rotate_left
            focus (intro w0; go_simp; try with_reducible rfl)
            refine wpAny_take (i := 9) (v := ?_) rfl (by kernel_rfl) (by kernel_rfl) (by kernel_rfl) (fun _ _ _ h => h) (Or.inl ⟨by kernel_rfl, ?_⟩) ?_
            rotate_left
            focus (intro w0; go_simp; try with_reducible rfl)
            refine wpAny_take (i := 10) (v := ?_) rfl (by kernel_rfl) (by kernel_rfl) (by kernel_rfl) (fun _ _ _ h => h) (Or.inl ⟨by kernel_rfl, ?_⟩) ?_
            rotate_left
            focus (intro w0; go_simp; try with_reducible rfl)
            refine wpAny_ready (rs := [7, 11]) (by kernel_rfl) (by simp) (AllReady.cons rfl (fun K hK => ?_) (AllReady.cons rfl (fun K hK => ?_) (AllReady.nil)))
            focus
              go_simp
              refine hK _ _ ?_
              clear hK K
              refine wpAny_ready (rs := [11]) (by kernel_rfl) (by simp) (AllReady.cons rfl (fun K hK => ?_) (AllReady.nil))
              go_simp
              refine hK _ _ ?_
              clear hK K
              refine wpAny_seq 12 rfl (by kernel_rfl) ?_
              simp only [List.drop_succ_cons, List.drop_zero]
            rotate_left 1
            focus
              go_simp
              refine hK _ _ ?_
              clear hK K
              refine wpAny_ready (rs := [7]) (by kernel_rfl) (by simp) (AllReady.cons rfl (fun K hK => ?_) (AllReady.nil))
              go_simp
              refine hK _ _ ?_
              clear hK K
              refine wpAny_seq 12 rfl (by kernel_rfl) ?_
              simp only [List.drop_succ_cons, List.drop_zero]
            all_goals go_wp2
            all_goals exact HT.out _ _ _ _ _ _ _ _ _ _ _ _ _ _ _ _ _ _ _ _ _ _ _ _ _ _ _ _ _ _ _ _ _ _ _ _ _ _ _ _ _ _ _ _ _ _ _ _ _ _ _ _ _ HIn (by go_grown)
      clear hK
      go_loopw [5] (fun s6 wr' => ∃ k : Nat, s6 = .int .i64 k ∧ k ≤ m ∧ Hid (SpotD L (x, y) k) ∧ Below wr.heap.size wr wr') (fun s6 _ => (intOf s6).toNat)
      case atStart => exact ⟨m, rfl, Nat.le_refl _, by have h := SpotD.top L ((x, y) : V2); rw [← HM.out] at h; exact h, Below.refl _ _⟩
      case round =>
        obtain ⟨k, rfl, hk, hS, hb⟩ := hrel
        have t1 : (0 : Int) ≤ (k : Int) := by omega
        by_cases h0 : k = 0
        · subst h0
          clear t1 HX HV
          go_upto_region 6 with fail
          refine wp_region_any (by kernel_rfl) ?_
          try (change wpAny _ _ _ _ _ _ _ (World.drew _))
          refine wpAny_take (i := 0) (v := ?_) rfl (by kernel_rfl) (by kernel_rfl) (by kernel_rfl) (fun _ _ _ h => h) (Or.inl ⟨by rfl, ?_⟩) ?_
          rotate_left
          focus (intro w0; go_simp; try with_reducible rfl)
          refine wpAny_take (i := 1) (v := ?_) rfl (by kernel_rfl) (by kernel_rfl) (by kernel_rfl) (fun _ _ _ h => h) (Or.inl ⟨by rfl, ?_⟩) ?_
          rotate_left
          focus (intro w0; go_simp; try with_reducible rfl)
          refine wpAny_take (i := 2) (v := ?_) rfl (by kernel_rfl) (by kernel_rfl) (by kernel_rfl) (fun _ _ _ h => h) (Or.inl ⟨by rfl, ?_⟩) ?_
          rotate_left
          focus (intro w0; go_simp; try with_reducible rfl)
          refine wpAny_take (i := 3) (v := undef) rfl (by kernel_rfl) (by kernel_rfl) (by kernel_rfl) (fun _ _ _ h => h) (Or.inr ⟨by kernel_rfl, rfl⟩) ?_
          refine wpAny_take (i := 4) (v := undef) rfl (by kernel_rfl) (by kernel_rfl) (by kernel_rfl) (fun _ _ _ h => h) (Or.inr ⟨by kernel_rfl, rfl⟩) ?_
          refine wpAny_take (i := 5) (v := undef) rfl (by kernel_rfl) (by kernel_rfl) (by kernel_rfl) (fun _ _ _ h => h) (Or.inr ⟨by kernel_rfl, rfl⟩) ?_
          refine wpAny_take (i := 7) (v := undef) rfl (by kernel_rfl) (by kernel_rfl) (by kernel_rfl) (fun _ _ _ h => h) (Or.inr ⟨by kernel_rfl, rfl⟩) ?_
          refine wpAny_take (i := 8) (v := undef) rfl (by kernel_rfl) (by kernel_rfl) (by kernel_rfl) (fun _ _ _ h => h) (Or.inr ⟨by kernel_rfl, rfl⟩) ?_
          refine wpAny_take (i := 9) (v := undef) rfl (by kernel_rfl) (by kernel_rfl) (by kernel_rfl) (fun _ _ _ h => h) (Or.inr ⟨by kernel_rfl, rfl⟩) ?_
          refine wpAny_take (i := 10) (v := undef) rfl (by kernel_rfl) (by kernel_rfl) (by kernel_rfl) (fun _ _ _ h => h) (Or.inr ⟨by kernel_rfl, rfl⟩) ?_
          refine wpAny_ready (rs := [6, 11]) (by kernel_rfl) (by simp) (AllReady.cons rfl (fun K hK => ?_) (AllReady.cons rfl (fun K hK => ?_) (AllReady.nil)))
          focus
            go_simp
            refine hK _ _ ?_
            clear hK K
            refine wpAny_ready (rs := [11]) (by kernel_rfl) (by simp) (AllReady.cons rfl (fun K hK => ?_) (AllReady.nil))
            go_simp
            refine hK _ _ ?_
            clear hK K
            refine wpAny_ready (rs := [12]) (by kernel_rfl) (by simp) (AllReady.cons rfl (fun K hK => ?_) (AllReady.nil))
            go_simp
            refine hK _ _ ?_
            clear hK K
            refine wpAny_seq 13 rfl (by kernel_rfl) ?_
            simp only [List.drop_succ_cons, List.drop_zero]
          rotate_left 1
          focus
            go_simp
            refine hK _ _ ?_
            clear hK K
            refine wpAny_ready (rs := [6]) (by kernel_rfl) (by simp) (AllReady.cons rfl (fun K hK => ?_) (AllReady.nil))
            go_simp
            refine hK _ _ ?_
            clear hK K
            refine wpAny_ready (rs := [12]) (by kernel_rfl) (by simp) (AllReady.cons rfl (fun K hK => ?_) (AllReady.nil))
            go_simp
            refine hK _ _ ?_
            clear hK K
            refine wpAny_seq 13 rfl (by kernel_rfl) ?_
            simp only [List.drop_succ_cons, List.drop_zero]
          all_goals go_wp2
          all_goals exact HK.out 0 _ _ _ _ _ _ _ _ _ _ _ _ _ _ _ _ _ _ _ _ _ _ _ _ _ _ _ _ _ _ _ _ _ _ _ _ _ _ _ _ _ _ _ _ _ _ _ _ _ _ _ _ _ _ hS.out (fun h => absurd h (by omega)) (by go_grown)
        · have hk0 : 0 < k := by omega
          have hk1 : k - 1 < L.length := by have := HM.out; omega
          have t2 : (0 : Int) < (k : Int) := by omega
          have t3 : (0 : Int) ≤ (k : Int) - 1 := by omega
          have t4 : (k : Int) - 1 < (m : Int) := by omega
          have t5 : ((k : Int) - 1).toNat = k - 1 := by omega
          have t6 : IntKind.i64.wrap ((k : Int) - 1) = (k : Int) - 1 := by rw [IntKind.wrap_i64]; omega
          have t7 : (1 : Int) ≤ (k : Int) := by omega
          have t8 : k - 1 < m := by omega
          have d1 := (hb.cell (p := ⟨bb, off + i * 2, none⟩) hbl).trans c1
          have d2 := (hb.cell (p := ⟨bb, off + i * 2 + 1, none⟩) hbl).trans c2
          have dl := Nat.lt_of_lt_of_le hbl hb.size
          have gl := Nat.lt_of_lt_of_le hgl hb.size
          obtain ⟨⟨p1, p2⟩, _⟩ := HRow.out (k - 1) hk1
          replace p1 := (hb.cell (p := ⟨go, (k - 1) * 2, none⟩) hgl).trans p1
          replace p2 := (hb.cell (p := ⟨go, (k - 1) * 2 + 1, none⟩) hgl).trans p2
          have HL := Lib.hid (fun w' => l6gLess_any x y (cyc L (k - 1)).1 (cyc L (k - 1)).2 w')
          obtain ⟨b, hbq⟩ : ∃ b, b = lessB (x, y) ((cyc L (k - 1)).1, (cyc L (k - 1)).2) := ⟨_, rfl⟩
          rw [← hbq] at HL
          have HDo2 : Hid (b = true → SpotD L (x, y) (k - 1)) := fun h => SpotD.down hS.out hk0 (hbq.symm.trans h)
          have HEx : Hid (b = false → 0 < k → lessB (x, y) (cyc L (k - 1)) = false) := fun h _ => hbq.symm.trans h
          clear hk1 hbq
          generalize hx' : (cyc L (k - 1)).1 = x' at HL p1
          generalize hy' : (cyc L (k - 1)).2 = y' at HL p2
          clear hx' hy' HX HV
          go_wp2
          refine wp_region_any (by kernel_rfl) ?_
          try (change wpAny _ _ _ _ _ _ _ (World.drew _))
          refine wpAny_take (i := 0) (v := ?_) rfl (by kernel_rfl) (by kernel_rfl) (by kernel_rfl) (fun _ _ _ h => h) (Or.inl ⟨by rfl, ?_⟩) ?_
          rotate_left
          focus (intro w0; go_simp; try with_reducible rfl)
          refine wpAny_take (i := 1) (v := ?_) rfl (by kernel_rfl) (by kernel_rfl) (by kernel_rfl) (fun _ _ _ h => h) (Or.inl ⟨by rfl, ?_⟩) ?_
          rotate_left
          focus (intro w0; go_simp; try with_reducible rfl)
          refine wpAny_take (i := 2) (v := ?_) rfl (by kernel_rfl) (by kernel_rfl) (by kernel_rfl) (fun _ _ _ h => h) (Or.inl ⟨by rfl, ?_⟩) ?_
          rotate_left
          focus (intro w0; go_simp; try with_reducible rfl)
          refine wpAny_take (i := 3) (v := ?_) rfl (by kernel_rfl) (by kernel_rfl) (by kernel_rfl) (fun _ _ _ h => h) (Or.inl ⟨by kernel_rfl, ?_⟩) ?_
          rotate_left
          focus (intro w0; go_simp; try with_reducible rfl)
          refine wpAny_take (i := 4) (v := ?_) rfl (by kernel_rfl) (by kernel_rfl) (by kernel_rfl) (fun _ _ _ h => h) (Or.inl ⟨by kernel_rfl, ?_⟩) ?_
          rotate_left
          focus (intro w0; go_simp; try with_reducible rfl)
          refine wpAny_take (i := 5) (v := ?_) rfl (by kernel_rfl) (by kernel_rfl) (by kernel_rfl) (fun _ _ _ h => h) (Or.inl ⟨by kernel_rfl, ?_⟩) ?_
          rotate_left
          focus (intro w0; go_simp; try with_reducible rfl)
          refine wpAny_take (i := 7) (v := ?_) rfl (by kernel_rfl) (by kernel_rfl) (by kernel_rfl) (fun _ _ _ h => h) (Or.inl ⟨by kernel_rfl, ?_⟩) ?_
          rotate_left
          focus (intro w0; go_simp; try with_reducible rfl)
          refine wpAny_take (i := 8) (v := ?_) rfl (by kernel_rfl) (by kernel_rfl) (by kernel_rfl) (fun _ _ _ h => h) (Or.inl ⟨by kernel_rfl, ?_⟩) ?_
          rotate_left
          focus (intro w0; go_simp; try with_reducible rfl)
          refine wpAny_take (i := 9) (v := ?_) rfl (by kernel_rfl) (by kernel_rfl) (by kernel_rfl) (fun _ _ _ h => h) (Or.inl ⟨by kernel_rfl, ?_⟩) ?_
          rotate_left
          focus (intro w0; go_simp; try with_reducible rfl)
          refine wpAny_take (i := 10) (v := ?_) rfl (by kernel_rfl) (by kernel_rfl) (by kernel_rfl) (fun _ _ _ h => h) (Or.inl ⟨by kernel_rfl, ?_⟩) ?_
          rotate_left
          focus (intro w0; go_simp; try with_reducible rfl)
          refine wpAny_ready (rs := [6, 11]) (by kernel_rfl) (by simp) (AllReady.cons rfl (fun K hK => ?_) (AllReady.cons rfl (fun K hK => ?_) (AllReady.nil)))
          focus
            go_simp
            refine hK _ _ ?_
            clear hK K
            refine wpAny_ready (rs := [11]) (by kernel_rfl) (by simp) (AllReady.cons rfl (fun K hK => ?_) (AllReady.nil))
            go_simp
            refine hK _ _ ?_
            clear hK K
            refine wpAny_ready (rs := [12]) (by kernel_rfl) (by simp) (AllReady.cons rfl (fun K hK => ?_) (AllReady.nil))
            go_simp
            (refine Calls.mono (HL.out _) ?_; rintro e w3 ⟨rfl, hb3⟩; (repeat replace hb3 := undrew hb3); replace hb := belowTo hb hb3; clear hb3)
            refine hK _ _ ?_
            clear hK K
            refine wpAny_seq 13 rfl (by kernel_rfl) ?_
            simp only [List.drop_succ_cons, List.drop_zero]
          rotate_left 1
          focus
            go_simp
            refine hK _ _ ?_
            clear hK K
            refine wpAny_ready (rs := [6]) (by kernel_rfl) (by simp) (AllReady.cons rfl (fun K hK => ?_) (AllReady.nil))
            go_simp
            refine hK _ _ ?_
            clear hK K
            refine wpAny_ready (rs := [12]) (by kernel_rfl) (by simp) (AllReady.cons rfl (fun K hK => ?_) (AllReady.nil))
            go_simp
            (refine Calls.mono (HL.out _) ?_; rintro e w3 ⟨rfl, hb3⟩; (repeat replace hb3 := undrew hb3); replace hb := belowTo hb hb3; clear hb3)
            refine hK _ _ ?_
            clear hK K
            refine wpAny_seq 13 rfl (by kernel_rfl) ?_
            simp only [List.drop_succ_cons, List.drop_zero]
          all_goals
            cases b
            · have HE2 := Lib.hid (HEx.out rfl)
              clear HEx HDo2
              go_wp2
              exact HK.out k _ _ _ _ _ _ _ _ _ _ _ _ _ _ _ _ _ _ _ _ _ _ _ _ _ _ _ _ _ _ _ _ _ _ _ _ _ _ _ _ _ _ _ _ _ _ _ _ _ _ _ _ _ _ hS.out HE2.out hb
            · have HS2 := Lib.hid (HDo2.out rfl)
              clear HEx HDo2
              go_wp2
              go_roundw
              case rel => exact ⟨k - 1, by simp; omega, by omega, HS2.out, hb⟩
              case measure => simp [intOf]; omega
    · obtain rfl : i = n := by omega
      have i2 : ¬ (i : Int) < (i : Int) := by omega
      have HE1 := Lib.hid (HDn.out L (by have := hO.out.inns; rwa [← HN.out]))
      obtain ⟨go, cc, rfl, hgo, hgl, hcc⟩ := hO.out.val
      have HV := Lib.hid hO.out.vecs
      clear hO HCl HDn
      generalize L.length = m at *
      go_wp2
      go_returns
      exact ⟨_, rfl, by rw [← HE1.out]; exact HV.out, hB⟩
end Go.Proofs.YtgaeibibeekclabGreatDoor
namespace Go.Proofs.YtgaeibibeekclabGreatDoor
open Go.RowKit
theorem insD_len (v : V2) : ∀ l : List V2, (insD v l).length ≤ l.length + 1 := by
  intro l
  induction l with
  | nil => simp [insD]
  | cons a l ih =>
    unfold insD
    split
    · simp
    · split
      · simp
      · simp only [List.length_cons]; omega
theorem sortD_len (l : List V2) : (sortD l).length ≤ l.length := by
  refine snoc_ind (P := fun l => (sortD l).length ≤ l.length) (by simp [sortD]) (fun m c h => ?_) l
  rw [sortD_snoc, List.length_append, List.length_singleton]
  have := insD_len c (sortD m)
  omega
/-- what the model's hull gives: of fewer than three vectors these -/
def hullM (l : List V2) : List V2 := if (sortD l).length < 3 then sortD l else hullD l
theorem half_len' (l : List V2) : (halfH l).length ≤ l.length := by
  have h := fold_len l []
  simpa [halfH] using h
theorem half_pos {l : List V2} (h : 0 < l.length) : 0 < (halfH l).length := by
  cases k : halfH l
  · exfalso
    refine absurd k ?_
    have hl : l = l.dropLast ++ [l.getLast (by intro e; rw [e] at h; simp at h)] := (List.dropLast_concat_getLast _).symm
    intro k
    rw [hl] at k
    unfold halfH at k
    rw [List.foldl_append] at k
    obtain ⟨r, hr⟩ := push_head ((l.dropLast).foldl pushH []) (l.getLast (by intro e; rw [e] at h; simp at h))
    rw [List.foldl_cons, List.foldl_nil, hr] at k
    cases k
  · simp
theorem back_snoc (S : List V2) (n k : Nat) : (List.range (k + 1)).map (fun j => cyc S (n - 1 - j)) = (List.range k).map (fun j => cyc S (n - 1 - j)) ++ [cyc S (n - 1 - k)] := by simp [List.range_succ]
theorem back_all {S : List V2} : (List.range S.length).map (fun j => cyc S (S.length - 1 - j)) = S.reverse := by
  apply List.ext_getElem?
  intro j
  by_cases hj : j < S.length
  · rw [List.getElem?_map, List.getElem?_range hj, List.getElem?_reverse hj]
    simp only [Option.map_some]
    rw [cyc_get (by omega : S.length - 1 - j < S.length)]
  · rw [List.getElem?_eq_none (by simp; omega), List.getElem?_eq_none (by simp; omega)]
theorem drop_last (L : List V2) : ((L.drop 0).take (L.length - 1)) = L.dropLast := by rw [List.drop_zero, List.dropLast_eq_take]
theorem hull_join (S : List V2) : ([] ++ ((((halfH S).reverse).drop 0).take (((halfH S).reverse).length - 1))) ++ ((((halfH S.reverse).reverse).drop 0).take (((halfH S.reverse).reverse).length - 1)) = hullZ S := by
  have e : ∀ L : List V2, L.reverse.dropLast = L.tail.reverse := fun L => by cases L <;> simp
  unfold hullZ
  rw [drop_last, drop_last, List.nil_append, e, e]
set_option maxRecDepth 100000 in
set_option maxHeartbeats 16000000 in
theorem l6gHull_any (v : Value) (l : List V2) (w : World) (hl : ReadsVecs w v l) (hm : l.length ≤ 1000) (hs : ∀ x ∈ l, small5 x) :
    Calls Tryz.prog 101 #[v] w (GivesVecs w (hullM l)) := by
  obtain ⟨i0, hi0, hz0, hz1, hz2⟩ := info_parts infoVec
  have HSo := Lib.hid (l6gSort_any v l w hl (by omega))
  have hSn : (sortD l).length ≤ 1000 := Nat.le_trans (sortD_len l) hm
  have hSm : ∀ x ∈ sortD l, small5 x := fun x hx => hs x ((sortD_mem l x).1 hx)
  obtain ⟨a, c, rfl, _⟩ := hl
  unfold hullM hullD
  generalize sortD l = S at *
  clear hs hm
  by_cases h3 : S.length < 3
  · rw [if_pos h3]
    have j1 : (S.length : Int) < 3 := by omega
    have HRd := Lib.hid (fun w' b v' (hI : Vecs w' b v' S) => (hI.reads (by omega) : ReadsVecs w' v' S))
    go_enter Tryz.func101, Tryz.ntmps101
    go_wp2_with fail
    refine Calls.mono HSo.out ?_
    rintro e w1 ⟨v1, rfl, I1, hb1⟩
    obtain ⟨a1, c1, rfl, _⟩ := HRd.out _ _ _ I1
    have HI1 := Lib.hid I1
    clear I1 HRd HSo hSm
    go_wp2
    go_returns
    exact ⟨_, rfl, HI1.out, hb1⟩
  · rw [if_neg h3]
    have j1 : ¬ (S.length : Int) < 3 := by omega
    obtain ⟨n, hn⟩ : ∃ n, n = S.length := ⟨_, rfl⟩
    have HN := Lib.hid hn
    have h0 : 0 < S.length := by omega
    have HHa := Lib.hid (fun v' b' w' (hI : Vecs w' b' v' S) => l6gHalf_any v' S w' (hI.reads (by omega)) h0 hSn hSm)
    have HHb := Lib.hid (fun v' b' w' (hI : Vecs w' b' v' S.reverse) => l6gHalf_any v' S.reverse w' (hI.reads (by rw [List.length_reverse]; omega)) (by rw [List.length_reverse]; exact h0) (by rw [List.length_reverse]; exact hSn) (fun x hx => hSm x (List.mem_reverse.1 hx)))
    have HX := Lib.hid (fun k => back_snoc S n k)
    have HXa : Hid ((List.range n).map (fun j => cyc S (n - 1 - j)) = S.reverse) := by show _ = _; rw [hn]; exact back_all
    have HX0 : Hid ((List.range 0).map (fun j => cyc S (n - 1 - j)) = []) := rfl
    have HJ := Lib.hid (hull_join S)
    have ha1 : (halfH S).reverse.length ≤ 1000 := by rw [List.length_reverse]; have := half_len' S; omega
    have hb1' : (halfH S.reverse).reverse.length ≤ 1000 := by rw [List.length_reverse]; have := half_len' S.reverse; rw [List.length_reverse] at this; omega
    have ha0 : 0 < (halfH S).reverse.length := by rw [List.length_reverse]; exact half_pos h0
    have hb0 : 0 < (halfH S.reverse).reverse.length := by rw [List.length_reverse]; exact half_pos (by rw [List.length_reverse]; exact h0)
    generalize hullZ S = HZ at *
    generalize (halfH S).reverse = LA at *
    generalize (halfH S.reverse).reverse = LB at *
    rw [← hn] at j1 h3 hSn
    have HLs : Hid (0 < LA.length ∧ LA.length ≤ 1000 ∧ 0 < LB.length ∧ LB.length ≤ 1000) := ⟨ha0, ha1, hb0, hb1'⟩
    clear hSm hn h0 ha0 ha1 hb0 hb1'
    go_enter Tryz.func101, Tryz.ntmps101
    go_wp2_with fail
    refine Calls.mono HSo.out ?_
    rintro e w1 ⟨v1, rfl, I1, hb1⟩
    obtain ⟨g1, c1, rfl, hg1, hgl1, hcc1⟩ := Vecs.formD I1 (by have := HN.out; omega)
    have HRow := Lib.hid I1.rowC
    have HI1 := Lib.hid I1
    have HB1 := Lib.hid hb1
    have HEm := Lib.hid (Vecs.empty w1)
    rw [← HN.out] at hcc1
    have q0 : IntKind.i64.wrap ((n : Int) - 1) = (n : Int) - 1 := by rw [IntKind.wrap_i64]; omega
    rw [← HN.out]
    clear I1 HSo hb1
    go_wp2
    go_loopw [4, 5] (fun s4 s5 wr => ∃ k : Nat, k ≤ n ∧ s5 = .int .i64 ((n : Int) - 1 - k) ∧ Hid (Vecs wr w1.heap.size s4 ((List.range k).map (fun j => cyc S (n - 1 - j)))) ∧ Below w1.heap.size w1 wr) (fun _ s5 _ => (intOf s5 + 1).toNat)
    case atStart => exact ⟨0, Nat.zero_le _, by simp, by rw [HX0.out]; exact HEm.out, by go_grown⟩
    case round =>
      obtain ⟨k, hk, rfl, HV, hB⟩ := hrel
      by_cases hlt : k < n
      · have i1 : (0 : Int) ≤ (n : Int) - 1 - (k : Int) := by omega
        have i2 : (n : Int) - 1 - (k : Int) < (n : Int) := by omega
        have i3 : ((n : Int) - 1 - (k : Int)).toNat = n - 1 - k := by omega
        obtain ⟨⟨p1, p2⟩, _⟩ := HRow.out (n - 1 - k) (by have := HN.out; omega)
        have d0 := (hB.cell (p := ⟨g1, (n - 1 - k) * 2, none⟩) hgl1).trans p1
        have d1 := (hB.cell (p := ⟨g1, (n - 1 - k) * 2 + 1, none⟩) hgl1).trans p2
        have HXk := Lib.hid (HX.out k)
        have hkl : ((List.range k).map (fun j => cyc S (n - 1 - j))).length = k := by simp
        generalize hV : cyc S (n - 1 - k) = V at d0 d1 HXk
        clear hV
        obtain ⟨x, y⟩ := V
        dsimp only at d0 d1
        obtain ⟨I, hI⟩ : ∃ I : Int, I = (n : Int) - 1 - (k : Int) := ⟨_, rfl⟩
        have HIe := Lib.hid hI
        have q1 : IntKind.i64.wrap (I - 1) = I - 1 := by rw [IntKind.wrap_i64]; omega
        rw [← hI] at i1 i2 i3 ⊢
        have hown := HV.out
        unfold Vecs VRow at hown
        rw [hkl] at hown
        have HHk := Lib.hid hkl
        have hbs := hB.size
        have h1000 : k ≤ 1000 := by omega
        clear HV HX HXa HX0 HJ hI hkl p1 p2 HHa HHb HEm HRow
        go_wp2_with (at_builtin; refine wpList_append_own_at _ rfl _ _ 23 rfl w1.heap.size 55 i0 (.agg #[.int .i64 (0), .int .i64 (0)]) 2 16 Tryz.underlying23 hi0 hz0 hz1 hz2 rfl (by decide) _ _ _ rfl (World.ownsRow.alloc hown _) ⟨_, 0, none⟩ 1 1 [.int .i64 x, .int .i64 y] rfl rfl (pair_cells2 _ x y _) (pair_one2 x y) ?c3 ?c4 ?c5 ?_)
        case c3 => unfold maxLen; omega
        case c4 => omega
        case c5 => first | omega | (simp; omega)
        intro v' wz hown' hgrow _ _
        have HB5 := Lib.hid ((hB.alloc hbs _).grown hgrow (by simp; omega) (fun k hk => (hown.lt k hk).1))
        have HVv := Lib.hid (Vecs.snoc (l := (List.range k).map (fun j => cyc S (n - 1 - j))) HHk.out.symm hown')
        rw [← HXk.out] at HVv
        clear hown' hgrow hown hbs d0 d1 h1000
        go_wp2
        go_roundw
        case rel => exact ⟨k + 1, by omega, by rw [HIe.out]; congr 1; push_cast; omega, HVv, HB5.out⟩
        case measure => have := HIe.out; simp [intOf]; omega
      · obtain rfl : k = n := by omega
        have i2 : ¬ (0 : Int) ≤ (k : Int) - 1 - (k : Int) := by omega
        have hV := HV.out
        rw [HXa.out] at hV
        have HA := Lib.hid (HHa.out _ _ wr (HI1.out.below hB))
        rw [← HN.out] at HA
        have HBk := Lib.hid (fun w' (h : Below wr.heap.size wr w') => HHb.out _ _ w' (hV.below h))
        have hBw := HB1.out.trans (hB.mono HB1.out.size)
        obtain ⟨vl, hvl⟩ : ∃ x, x = (k : Int) - 1 - (k : Int) := ⟨_, rfl⟩
        rw [← hvl] at i2 ⊢
        clear hV HV HX HXa HX0 hvl HHa HHb HRow HEm
        go_wp2_with fail
        refine Calls.mono HA.out ?_
        rintro e w6 ⟨v6, rfl, I6, hb6⟩
        have HB2 := Lib.hid (HBk.out w6 hb6)
        have HI6 := Lib.hid I6
        have hB6 := belowTo hBw hb6
        clear HA HBk I6 hb6
        go_wp2_with fail
        refine Calls.mono HB2.out ?_
        rintro e w7 ⟨v7, rfl, I7, hb7⟩
        have I6' := HI6.out.below hb7
        have HB7 := Lib.hid (belowTo hB6 hb7)
        obtain ⟨g6, c6, rfl, _, hgl6, hcc6⟩ := Vecs.formD I6' HLs.out.1
        obtain ⟨g7, c7, rfl, _, hgl7, hcc7⟩ := Vecs.formD I7 HLs.out.2.2.1
        have HC6 : Hid (∀ wr, Below w7.heap.size w7 wr → ∀ j, j < LA.length → wr.cell? ⟨g6, j * 2, none⟩ = some (.int .i64 (cyc LA j).1) ∧ wr.cell? ⟨g6, j * 2 + 1, none⟩ = some (.int .i64 (cyc LA j).2)) := fun wr h j hj => by
          obtain ⟨⟨p1, p2⟩, _⟩ := I6'.rowC j hj
          exact ⟨(h.cell (p := ⟨g6, j * 2, none⟩) hgl6).trans p1, (h.cell (p := ⟨g6, j * 2 + 1, none⟩) hgl6).trans p2⟩
        have HC7 : Hid (∀ wr, Below w7.heap.size w7 wr → ∀ j, j < LB.length → wr.cell? ⟨g7, j * 2, none⟩ = some (.int .i64 (cyc LB j).1) ∧ wr.cell? ⟨g7, j * 2 + 1, none⟩ = some (.int .i64 (cyc LB j).2)) := fun wr h j hj => by
          obtain ⟨⟨p1, p2⟩, _⟩ := I7.rowC j hj
          exact ⟨(h.cell (p := ⟨g7, j * 2, none⟩) hgl7).trans p1, (h.cell (p := ⟨g7, j * 2 + 1, none⟩) hgl7).trans p2⟩
        have HT1 : Hid (0 + (LA.length - 1) ≤ LA.length ∧ LA.length ≤ 1000) := ⟨by omega, HLs.out.2.1⟩
        have HT2 : Hid (0 + (LB.length - 1) ≤ LB.length ∧ LB.length ≤ 1000) := ⟨by omega, HLs.out.2.2.2⟩
        obtain ⟨na, hna⟩ : ∃ na, na = LA.length := ⟨_, rfl⟩
        obtain ⟨nb, hnb⟩ : ∃ nb, nb = LB.length := ⟨_, rfl⟩
        obtain ⟨la0, la1, lb0, lb1⟩ := HLs.out
        rw [← hna] at la0 la1 hcc6 HJ HT1
        rw [← hnb] at lb0 lb1 hcc7 HJ HT2
        rw [← hna, ← hnb]
        have HT1' : Hid (0 + (na - 1) ≤ LA.length) := by show _ ≤ _; omega
        have HT2' : Hid (0 + (nb - 1) ≤ LB.length) := by show _ ≤ _; omega
        have a1 : IntKind.i64.wrap ((na : Int) - 1) = ((na - 1 : Nat) : Int) := by rw [IntKind.wrap_i64]; omega
        have a2 : (0 : Int) ≤ ((na - 1 : Nat) : Int) := by omega
        have a3 : ((na - 1 : Nat) : Int) ≤ (na : Int) := by omega
        have a4 : ((na - 1 : Nat) : Int) ≤ (c6 : Int) := by omega
        have a5 : na - 1 ≤ c6 := by omega
        have a6 : ¬ c6 = 0 := by omega
        have b1 : IntKind.i64.wrap ((nb : Int) - 1) = ((nb - 1 : Nat) : Int) := by rw [IntKind.wrap_i64]; omega
        have b2 : (0 : Int) ≤ ((nb - 1 : Nat) : Int) := by omega
        have b3 : ((nb - 1 : Nat) : Int) ≤ (nb : Int) := by omega
        have b4 : ((nb - 1 : Nat) : Int) ≤ (c7 : Int) := by omega
        have b5 : nb - 1 ≤ c7 := by omega
        have b6 : ¬ c7 = 0 := by omega
        have HNs : Hid (na ≤ 1000 ∧ nb ≤ 1000) := ⟨la1, lb1⟩
        obtain ⟨ma, hma⟩ : ∃ ma, ma = na - 1 := ⟨_, rfl⟩
        obtain ⟨mb, hmb⟩ : ∃ mb, mb = nb - 1 := ⟨_, rfl⟩
        have hma1 : ma ≤ 1000 := by omega
        have hmb1 : mb ≤ 1000 := by omega
        rw [← hma] at a1 a2 a3 a4 a5 HJ HT1'
        rw [← hmb] at b1 b2 b3 b4 b5 HJ HT2'
        replace HT1 := HT1'
        replace HT2 := HT2'
        have HO1 : Hid (Vecs (w7.drew.alloc (.cells #[] 55)) w7.heap.size (.slice (some ⟨w7.heap.size, 0, none⟩) 0 0) []) := Vecs.empty w7.drew
        have HB1' : Hid (Below w7.heap.size w7 (w7.drew.alloc (.cells #[] 55))) := by show Below w7.heap.size w7 (w7.drew.alloc (.cells #[] 55)); go_grown
        clear HB1
        have HB1 := HB1'
        have hw7 := HB7.out.size
        clear HB1' I6' I7 hb7 HI6 HI1 hna hnb la0 la1 lb0 lb1 hcc6 hcc7 HT1' HT2' hma hmb HLs HB2 HNs hgl6 hgl7 hB6 hBw hB hgl1 hcc1 hg1
        go_upto_region 11 with fail
        refine wp_region_any (by kernel_rfl) ?_
        try (change wpAny _ _ _ _ _ _ _ (World.drew _))
        refine wpAny_take (i := 1) (v := ?_) rfl (by kernel_rfl) (by kernel_rfl) (by kernel_rfl) (fun _ _ _ h => h) (Or.inl ⟨by rfl, ?_⟩) ?_
        rotate_left
        focus (intro w0; go_simp; try with_reducible rfl)
        refine wpAny_take (i := 2) (v := ?_) rfl (by kernel_rfl) (by kernel_rfl) (by kernel_rfl) (fun _ _ _ h => h) (Or.inl ⟨by rfl, ?_⟩) ?_
        rotate_left
        focus (intro w0; go_simp; try with_reducible rfl)
        refine wpAny_take (i := 3) (v := ?_) rfl (by kernel_rfl) (by kernel_rfl) (by kernel_rfl) (fun _ _ _ h => h) (Or.inl ⟨by rfl, ?_⟩) ?_
        rotate_left
        focus (intro w0; go_simp; try with_reducible rfl)
        refine wpAny_take (i := 4) (v := ?_) rfl (by kernel_rfl) (by kernel_rfl) (by kernel_rfl) (fun _ _ _ h => h) (Or.inl ⟨by rfl, ?_⟩) ?_
        rotate_left
        focus (intro w0; go_simp; try with_reducible rfl)
        refine wpAny_take (i := 5) (v := ?_) rfl (by kernel_rfl) (by kernel_rfl) (by kernel_rfl) (fun _ _ _ h => h) (Or.inl ⟨by rfl, ?_⟩) ?_
        rotate_left
        focus (intro w0; go_simp; try with_reducible rfl)
        refine wpAny_take (i := 7) (v := ?_) rfl (by kernel_rfl) (by kernel_rfl) (by kernel_rfl) (fun _ _ _ h => h) (Or.inl ⟨by rfl, ?_⟩) ?_
        rotate_left
        focus (intro w0; go_simp; try with_reducible rfl)
        refine wpAny_take (i := 8) (v := ?_) rfl (by kernel_rfl) (by kernel_rfl) (by kernel_rfl) (fun _ _ _ h => h) (Or.inl ⟨by rfl, ?_⟩) ?_
        rotate_left
        focus (intro w0; go_simp; try with_reducible rfl)
        refine wpAny_take (i := 9) (v := ?_) rfl (by kernel_rfl) (by kernel_rfl) (by kernel_rfl) (fun _ _ _ h => h) (Or.inl ⟨by rfl, ?_⟩) ?_
        rotate_left
        focus (intro w0; go_simp; try with_reducible rfl)
        refine wpAny_take (i := 10) (v := ?_) rfl (by kernel_rfl) (by kernel_rfl) (by kernel_rfl) (fun _ _ _ h => h) (Or.inl ⟨by rfl, ?_⟩) ?_
        rotate_left
        focus (intro w0; go_simp; try with_reducible rfl)
        refine wpAny_take (i := 11) (v := ?_) rfl (by kernel_rfl) (by kernel_rfl) (by kernel_rfl) (fun _ _ _ h => h) (Or.inl ⟨by rfl, ?_⟩) ?_
        rotate_left
        focus (intro w0; go_simp; try with_reducible rfl)
        refine wpAny_ready (rs := [0]) (by kernel_rfl) (by simp) (AllReady.cons rfl (fun K hK => ?_) (AllReady.nil))
        go_simp
        refine hK _ _ ?_
        clear hK K
        refine wpAny_ready (rs := [6]) (by kernel_rfl) (by simp) (AllReady.cons rfl (fun K hK => ?_) (AllReady.nil))
        (refine step_list (by rintro ⟨_, _, h⟩; obtain ⟨_, hv, _⟩ := h; cases hv) (by kernel_rfl) ?_; refine wpList_append_own_at _ rfl _ _ 23 rfl w7.heap.size 55 i0 (.agg #[.int .i64 (0), .int .i64 (0)]) 2 16 Tryz.underlying23 hi0 hz0 hz1 hz2 rfl (by decide) (.slice (some ⟨w7.heap.size, 0, none⟩) 0 0) _ _ rfl HO1.out _ _ _ _ rfl (piece_len HT1.out) (piece0D (HC6.out _ HB1.out) HT1.out) (piece_one _) (by unfold maxLen; simp <;> omega) (by simp <;> omega) HB1.out.size ?_; intro v2 w2 hown2 hgrow2 _ _; have HBA := Lib.hid (HB1.out.grown hgrow2 HB1.out.size (fun q hq => (World.ownsRow.lt HO1.out q hq).1)); have HOA := Lib.hid (Vecs.join (l := []) hown2 (by have := HT1.out; simp <;> omega)); clear hown2 hgrow2)
        refine hK _ _ ?_
        clear hK K
        refine wpAny_ready (rs := [12]) (by kernel_rfl) (by simp) (AllReady.cons rfl (fun K hK => ?_) (AllReady.nil))
        (refine step_list (by rintro ⟨_, _, h⟩; obtain ⟨_, hv, _⟩ := h; cases hv) (by kernel_rfl) ?_; refine wpList_append_own_at _ rfl _ _ 23 rfl w7.heap.size 55 i0 (.agg #[.int .i64 (0), .int .i64 (0)]) 2 16 Tryz.underlying23 hi0 hz0 hz1 hz2 rfl (by decide) _ _ _ rfl HOA.out _ _ _ _ rfl (piece_len HT2.out) (piece0D (HC7.out _ HBA.out) HT2.out) (piece_one _) (by unfold maxLen; simp <;> omega) (by simp <;> omega) HBA.out.size ?_; intro v4 w4 hown4 hgrow4 _ _; have HBD := Lib.hid (HBA.out.grown hgrow4 HBA.out.size (fun q hq => (World.ownsRow.lt HOA.out q hq).1)); have HOD := Lib.hid (Vecs.join hown4 (by have := HT1.out; have := HT2.out; simp <;> omega)); clear hown4 hgrow4)
        refine hK _ _ ?_
        clear hK K
        refine wpAny_seq 13 rfl (by kernel_rfl) ?_
        simp only [List.drop_succ_cons, List.drop_zero]
        all_goals
          rw [HJ.out] at HOD
          have HV4 := Lib.hid (HOD.out.lower (base' := w.heap.size) hw7)
          have HB4 := Lib.hid (HB7.out.trans (HBD.out.mono hw7))
          clear HOD HBD HOA HBA
          go_wp2
          go_returns
          exact ⟨_, rfl, HV4.out, HB4.out⟩
end Go.Proofs.YtgaeibibeekclabGreatDoor
namespace Go.Proofs.YtgaeibibeekclabGreatDoor
open Go.RowKit
/-- the hull, and whether it is told -/
def OfB (l : List V2) : Bool := decide (l.length ≤ 60) && polyB (hullD l)
def OfL (l : List V2) : List V2 := gV (OfB l) (hullD l)
theorem hull_two {l : List V2} (h : (sortD l).length ≤ 2) : (hullD l).length ≤ 2 := by
  unfold hullD
  generalize sortD l = S at *
  match S, h with
  | [], _ => exact Nat.zero_le _
  | [a], _ => exact Nat.zero_le _
  | [a, b], _ => exact Nat.le_refl _
theorem hull_three {l : List V2} (h : polyB (hullD l) = true) : 3 ≤ (sortD l).length := by
  rcases Nat.lt_or_ge (sortD l).length 3 with c | c
  · have := hull_two (l := l) (by omega)
    have := poly_len h
    omega
  · exact c
/-- the vectors of a hull that is a polygon are small -/
theorem hull_small_all {l : List V2} (h : polyB (hullD l) = true) : ∀ x ∈ l, cnrV x = true := by
  have h3 := hull_three h
  have hb := hull_bound (B := 100) (sortD_asc l) (by omega) (fun q hq => by
    obtain ⟨i, hi, rfl⟩ := List.mem_iff_getElem.1 hq
    have hi2 : i < (hullD l).length := hi
    have := poly_small h i
    rw [cyc_lt hi2] at this
    have e : ((hullD l)[i]?.getD default) = (hullZ (sortD l))[i] := by
      show ((hullZ (sortD l))[i]?.getD default) = _
      rw [List.getElem?_eq_getElem hi]
      rfl
    rw [e] at this
    exact this)
  intro x hx
  obtain ⟨a, b⟩ := hb x ((sortD_mem l x).2 hx)
  unfold cnrV cnrN
  simp
  omega
theorem leastAt_zero {l : List V2} (h : ∀ j, lessB (cyc l j) (cyc l 0) = false) : ∀ i, leastAt l i = 0 := by
  intro i
  induction i with
  | zero => rfl
  | succ i ih =>
    unfold leastAt
    rw [ih, h]
    rfl
/-- a hull begins with the least corner -/
theorem hull_tidy {l : List V2} (h : polyB (hullD l) = true) : tidyP (hullD l) = hullD l := by
  have h3 := hull_three h
  obtain ⟨a, ha⟩ : ∃ a, (sortD l).head? = some a := by
    cases k : sortD l
    · rw [k] at h3; simp at h3
    · exact ⟨_, rfl⟩
  obtain ⟨r, hr⟩ := hull_head (sortD_asc l) (by omega) ha
  have h0 : cyc (hullD l) 0 = a := by
    have hl := poly_len h
    rw [cyc_lt (by omega)]
    show ((hullZ (sortD l))[0]?.getD default) = a
    rw [hr]
    rfl
  have hmin : ∀ q ∈ sortD l, a = q ∨ lexV (subV q a) := by
    intro q hq
    cases k : sortD l with
    | nil => rw [k] at h3; simp at h3
    | cons b S =>
      rw [k] at ha hq
      simp at ha
      subst ha
      rcases List.mem_cons.1 hq with e | e
      · exact .inl e.symm
      · have hs := sortD_asc l
        rw [k] at hs
        unfold Asc at hs
        exact .inr ((List.pairwise_cons.1 hs).1 q e)
  unfold tidyP
  rw [leastAt_zero (fun j => by
    rw [h0]
    cases k : lessB (cyc (hullD l) j) a
    · rfl
    · exfalso
      have hp0 : 0 < (hullD l).length := by have := poly_len h; omega
      have hm : cyc (hullD l) j ∈ sortD l := hull_mem (sortD_asc l) _ (cyc_mem hp0 j)
      have h1 := less_lex.1 k
      rcases hmin _ hm with e | e
      · rw [← e] at h1
        unfold lexV subV at h1
        dsimp only at h1
        omega
      · exact lex_asym h1 e)]
  simp [rot]
theorem hullM_done (l : List V2) : polyB (hullM l) = polyB (hullD l) ∧ gV (polyB (hullM l)) (tidyP (hullM l)) = gV (polyB (hullD l)) (hullD l) := by
  unfold hullM
  split
  · rename_i h3
    have a : polyB (sortD l) = false := poly_short (.inl h3)
    have b : polyB (hullD l) = false := poly_short (.inl (by have := hull_two (l := l) (by omega); omega))
    rw [a, b]
    exact ⟨rfl, rfl⟩
  · refine ⟨rfl, ?_⟩
    cases h : polyB (hullD l)
    · rfl
    · rw [hull_tidy h]
/-- hull and done, in the model -/
theorem small5_of {l : List V2} (h : ∀ x ∈ l, cnrV x = true) : ∀ x ∈ l, small5 x := fun x hx => by
  have := cnr_in (h x hx)
  unfold small5
  omega
set_option maxHeartbeats 8000000 in
theorem specPolygonOf_any (v : Value) (l : List V2) (w : World) (hl : ReadsVecs w v l) :
    Calls Tryz.prog 64 #[v] w (GivesVecsOk w (OfL l) (OfB l)) := by
  have hE := Lib.hid (fun w' => Vecs.empty w')
  by_cases h60 : l.length ≤ 60
  · have HH := Lib.hid (fun w' (hb : Below w.heap.size w w') (hs : ∀ x ∈ l, cnrV x = true) => l6gHull_any v l w' (hl.below hb) (by omega) (small5_of hs))
    have HD := Lib.hid (fun v' b' w' (hI : Vecs w' b' v' (hullM l)) (hm : (hullM l).length ≤ 576460752303423488) => l6gDone_any v' (hullM l) w' (hI.reads hm))
    have hM : (hullM l).length ≤ 576460752303423488 := by
      have h1 := sortD_len l
      unfold hullM
      split
      · omega
      · have h1' := half_len (sortD l)
        have h2' := half_len (sortD l).reverse
        have h4 : (sortD l).reverse.length = (sortD l).length := by simp
        show ((halfH (sortD l)).tail.reverse ++ (halfH (sortD l).reverse).tail.reverse).length ≤ _
        rw [List.length_append]
        omega
    have HMl := Lib.hid hM
    unfold TidyS at HD
    rw [(hullM_done l).2, (hullM_done l).1] at HD
    have HY : OfB l = polyB (hullD l) ∧ OfL l = gV (polyB (hullD l)) (hullD l) := by
      have : OfB l = polyB (hullD l) := by unfold OfB; simp [h60]
      unfold OfL
      rw [this]
      exact ⟨rfl, rfl⟩
    have HZ : Hid (∀ k, k < l.length → cnrV (cyc l k) = false → polyB (hullD l) = false) := fun k hk h => by
      cases q : polyB (hullD l)
      · rfl
      · have := hull_small_all q _ (cyc_mem (by omega) k)
        rw [h] at this
        cases this
    have HG : Hid ((∀ k, k < l.length → cnrV (cyc l k) = true) → ∀ x ∈ l, cnrV x = true) := fun h x hx => by
      obtain ⟨i, hi, rfl⟩ := List.mem_iff_getElem.1 hx
      have := h i hi
      rwa [cyc_lt hi, List.getElem?_eq_getElem hi] at this
    rw [HY.1, HY.2]
    have j1 : ¬ 60 < (l.length : Int) := by omega
    have HS := Lib.hid (fun x y w' => l6gSmall_any x y w')
    obtain ⟨a, c, rfl, _, _, hcell⟩ := hl
    have HCl := Lib.hid hcell
    have HDz : Hid (polyB (hullD l) = false → gV (polyB (hullD l)) (hullD l) = []) := fun h => by rw [h]; rfl
    generalize gV (polyB (hullD l)) (hullD l) = D at *
    generalize polyB (hullD l) = P at *
    generalize hullM l = M at *
    clear hcell HY hM
    go_enter Tryz.func64, Tryz.ntmps64
    go_wp2
    go_loopw [4] (fun s wr => ∃ k : Nat, k ≤ l.length ∧ s = .int .i64 k ∧ Hid (∀ j, j < k → cnrV (cyc l j) = true) ∧ Below w.heap.size w wr) (fun s _ => l.length - (intOf s).toNat)
    case atStart => exact ⟨0, Nat.zero_le _, rfl, fun j hj => by omega, Below.refl _ _⟩
    case round =>
      obtain ⟨k, hk, rfl, HEx, hB⟩ := hrel
      have i1 : (0 : Int) ≤ (k : Int) := by omega
      by_cases hlt : k < l.length
      · have i2 : (k : Int) < (l.length : Int) := by omega
        obtain ⟨bb, off, rfl, hbb, hcs⟩ := HCl.out (by omega)
        have d0 := (hB.cell (p := ⟨bb, off + k * 2, none⟩) hbb).trans (hcs k hlt).1
        have d1 := (hB.cell (p := ⟨bb, off + k * 2 + 1, none⟩) hbb).trans (hcs k hlt).2
        have HZk := Lib.hid (fun h => HZ.out k hlt h)
        have HE2 : Hid (cnrV (cyc l k) = true → ∀ j, j < k + 1 → cnrV (cyc l j) = true) := fun h j h2 => by
          by_cases e : j = k
          · subst e; exact h
          · exact HEx.out j (by omega)
        generalize hV : cyc l k = V at d0 d1 HZk HE2
        clear hV
        obtain ⟨x, y⟩ := V
        dsimp only at d0 d1
        have HSk := Lib.hid (fun w' => HS.out x y w')
        generalize hz : cnrV (x, y) = z at HZk HE2 HSk
        clear hz
        have hs := hB.size
        clear HEx HZ HG HS HH HD hcs HCl
        go_wp2_with fail
        refine Calls.mono (HSk.out _) ?_
        rintro e w2 ⟨rfl, hb2⟩
        have hA : Below w.heap.size w w2 := hB.trans ((belowTo (a := wr) (by go_grown) hb2).mono hs)
        clear hb2 HSk
        cases z
        · obtain rfl := HZk.out rfl
          obtain rfl := HDz.out rfl
          have hs2 := hA.size
          have HE3 := Lib.hid ((hE.out w2).lower hs2)
          clear HE2 HZk
          go_wp2
          go_returns
          exact ⟨_, rfl, HE3.out, by go_grown⟩
        · have HE3 := Lib.hid (HE2.out rfl)
          clear HE2 HZk
          go_wp2
          go_roundw
          case rel => exact ⟨k + 1, by omega, by go_num, HE3.out, hA⟩
          case measure => simp [intOf]; omega
      · obtain rfl : k = l.length := by omega
        have i2 : ¬ ((l.length : Nat) : Int) < (l.length : Int) := by omega
        have HH2 := Lib.hid (HH.out wr hB (HG.out HEx.out))
        clear HEx HZ HG HS HH HCl HDz hE
        go_wp2_with fail
        refine Calls.mono HH2.out ?_
        rintro e w2 ⟨v2, rfl, I2, hb2⟩
        have HD2 := Lib.hid (HD.out v2 _ w2 I2 HMl.out)
        have hb := belowTo hB hb2
        clear hb2 I2 HD HH2
        go_wp2_with fail
        refine Calls.mono HD2.out ?_
        rintro e w3 ⟨v3, rfl, I3, hb3⟩
        have HI3 := Lib.hid (I3.lower hb.size)
        replace hb := belowTo hb hb3
        clear hb3 I3 HD2
        go_wp2
        go_returns
        exact ⟨_, rfl, HI3.out, hb⟩
  · have hB : OfB l = false := by unfold OfB; simp; omega
    have j1 : 60 < (l.length : Int) := by omega
    have HE := Lib.hid (hE.out w)
    obtain ⟨a, c, rfl, _⟩ := hl
    unfold OfL
    rw [hB]
    clear hB
    go_enter Tryz.func64, Tryz.ntmps64
    go_wp2
    go_returns
    exact ⟨_, rfl, HE.out, by go_grown⟩
end Go.Proofs.YtgaeibibeekclabGreatDoor
