/- Fans of lists: the model's side: the walk. -/
import Derived.Test.YtcieihbknfeddaaDoorSt
namespace Go.Proofs.YtcieihbknfeddaaDoor
open Go.RowKit

theorem piece0 {wr : World} {L : List V2} {g s m : Nat} (hc : ∀ j, j < L.length → wr.cell? ⟨g, j * 2, none⟩ = some (.int .i64 (cyc L j).1) ∧ wr.cell? ⟨g, j * 2 + 1, none⟩ = some (.int .i64 (cyc L j).2)) (h : s + m ≤ L.length) :
    ∀ j u, (intsV (flat ((L.drop s).take m)))[j]? = some u → wr.cell? ((⟨g, s * 2, none⟩ : Addr).add j) = some u := by
  have := piece_cells (bb := g) (off := 0) (fun j hj => by rw [Nat.zero_add]; exact hc j hj) h
  rwa [Nat.zero_add] at this
structure OutI (w : World) (l : List V2) (i : Nat) (L : List V2) (s : Value) (wr : World) : Prop where
  inns : Inns l i L
  val : ∃ go c, s = .slice (some ⟨go, 0, none⟩) L.length c ∧ w.heap.size ≤ go ∧ go < wr.heap.size ∧ L.length ≤ c
  vecs : Vecs wr w.heap.size s L
theorem Vecs.formOf {w : World} {base : Nat} {v : Value} {L : List V2} (h : Vecs w base v L) (h0 : 0 < L.length) : ∃ go c, v = .slice (some ⟨go, 0, none⟩) L.length c ∧ base ≤ go ∧ go < w.heap.size ∧ L.length ≤ c := by
  rcases VRow.form h with ⟨h1, _⟩ | ⟨_, g, c, h1, h2, h3, h4⟩
  · omega
  · exact ⟨g, c, h1, h2, h3, h4⟩
set_option maxRecDepth 100000 in
set_option maxHeartbeats 32000000 in
theorem specFanOf_any (v : Value) (l : List V2) (w : World) (hl : ReadsVecs w v l) (hm : l.length ≤ 1048576) :
    Calls Tryd.prog 33 #[v] w (GivesVecsOk w (gV (ofB l) (sortL l)) (ofB l)) := by
  obtain ⟨a, c, rfl, _, _, hcell⟩ := hl
  have HCl := Lib.hid hcell
  have hE := Lib.hid (fun w' => Vecs.empty w')
  have HF := Lib.hid (fun v' L w' h' => specFanIn_any v' L w' h')
  have HNo := Lib.hid (fun k (hk : k < l.length) h => of_not hk h)
  have HDn := Lib.hid (fun L (h : Inns l l.length L) => Inns.done h)
  have HI0 : Hid (OutI w l 0 [] (.slice (some ⟨w.heap.size, 0, none⟩) 0 0) (w.alloc (.cells #[] 26))) := ⟨Inns.zero l, ⟨w.heap.size, 0, rfl, Nat.le_refl _, by simp, Nat.le_refl _⟩, Vecs.empty w⟩
  obtain ⟨n, hn⟩ : ∃ n, n = l.length := ⟨_, rfl⟩
  have HN := Lib.hid hn
  rw [← hn] at hm
  rw [← hn]
  clear hcell hn
  go_enter Tryd.func33, Tryd.ntmps33
  go_wp2
  go_loopw [4, 5] (fun s4 s5 wr => ∃ (i : Nat) (L : List V2), s5 = .int .i64 i ∧ i ≤ n ∧ Hid (OutI w l i L s4 wr) ∧ Below w.heap.size w wr) (fun _ s5 _ => n - (intOf s5).toNat)
  case atStart => exact ⟨0, [], rfl, Nat.zero_le _, HI0, by go_grown⟩
  case round =>
    clear HI0
    obtain ⟨i, L, rfl, hi, hO, hB⟩ := hrel
    have j1 : (0 : Int) ≤ (i : Int) := by omega
    have hs0 := hB.size
    by_cases hlt : i < n
    · have hil : i < l.length := by have := HN.out; omega
      obtain ⟨bb, off, rfl, hbb, hcs⟩ := HCl.out (by omega)
      have c1 := (hB.cell (p := ⟨bb, off + i * 2, none⟩) hbb).trans (hcs i hil).1
      have c2 := (hB.cell (p := ⟨bb, off + i * 2 + 1, none⟩) hbb).trans (hcs i hil).2
      have hbl := Nat.lt_of_lt_of_le hbb hB.size
      have j2 : (i : Int) < (n : Int) := by omega
      have HNk := Lib.hid (HNo.out i hil)
      have HX := Lib.hid (And.intro hil hO.out)
      unfold primV at HNk
      generalize hz : cyc l i = z at c1 c2 HNk
      have HZ := Lib.hid hz
      obtain ⟨x, y⟩ := z
      dsimp only at c1 c2 HNk
      clear hcs hil hz HNo HDn
      have HP := Lib.hid (fun w' => l2Primitive_any x y w')
      cases hp : primB x y
      · rw [hp] at HP
        have HOf : Hid (ofB l = false) := HNk.out hp
        clear hp HNk HX hO
        go_wp2_with fail
        refine Calls.mono (HP.out _) ?_
        rintro e w2 ⟨rfl, hb2⟩
        have hB2 := belowTo hB hb2
        have hs2 := hB2.size
        have HE := Lib.hid ((hE.out w2).lower hs2)
        clear hb2
        go_wp2
        go_returns
        rw [HOf.out]
        exact ⟨_, rfl, HE.out, hB2.alloc hs2 _⟩
      · rw [hp] at HP
        have HPr := Lib.hid hp
        clear hp HNk
        obtain ⟨go, cc, rfl, hgo, hgl, hcc⟩ := hO.out.val
        have hV := hO.out.vecs
        clear hO
        go_wp2_with fail
        refine Calls.mono (HP.out _) ?_
        rintro e w2 ⟨rfl, hb2⟩
        have hB2 := belowTo hB hb2
        replace c1 := (hb2.cell (p := ⟨bb, off + i * 2, none⟩) hbl).trans c1
        replace c2 := (hb2.cell (p := ⟨bb, off + i * 2 + 1, none⟩) hbl).trans c2
        replace hbl := Nat.lt_of_lt_of_le hbl hb2.size
        replace hgl := Nat.lt_of_lt_of_le hgl hb2.size
        have HRow := Lib.hid ((hV.below hb2).rowC)
        have HV := Lib.hid (hV.below hb2)
        obtain ⟨m, hmm⟩ : ∃ m, m = L.length := ⟨_, rfl⟩
        have HM := Lib.hid hmm
        rw [← hmm] at hcc
        have hmn : m ≤ 1048576 := by have h1 := HX.out.2.inns.small; omega
        rw [← hmm]
        clear hb2 hB hs0 hV hmm
        go_upto_region 7 with fail
        go_wp2_with fail
        rename_i K hK
        have hgd := guardV
        have HK : Hid (∀ (k : Nat) (wr' : World) (u2 u3 u8 u9 u10 u11 u12 u13 u14 u15 u16 u17 u18 u19 u20 u21 u22 u23 u24 u25 u26 u27 u28 u29 u30 u31 u32 u33 u34 u35 u36 u37 u38 u39 u40 u41 u42 u43 u44 u45 u46 u47 u48 u49 u50 u51 u52 u53 u54 u55 u56 u57 u58 u59 u60 u61 u62 u63 u64 u65 u66 u67 : Value), Spot L (x, y) k → (0 < k → aheadV (x, y) (cyc L (k - 1)) = false) → Below w2.heap.size w2 wr' →
            K { tmps := #[.slice (some ⟨bb, off, none⟩) n c, undef, u2, u3, .slice (some ⟨go, 0, none⟩) m cc, .int .i64 (i : Int), .int .i64 (k : Int), .slice (some ⟨w.heap.size, 0, none⟩) 0 0, u8, u9, u10, u11, u12, u13, u14, u15, u16, u17, u18, u19, u20, u21, u22, u23, u24, u25, u26, u27, u28, u29, u30, u31, u32, u33, u34, u35, u36, u37, u38, u39, u40, u41, u42, u43, u44, u45, u46, u47, u48, u49, u50, u51, u52, u53, u54, u55, u56, u57, u58, u59, u60, u61, u62, u63, u64, u65, u66, u67, undef, undef, undef, undef, undef], defers := [] } wr') := by
          intro k wr' u2 u3 u8 u9 u10 u11 u12 u13 u14 u15 u16 u17 u18 u19 u20 u21 u22 u23 u24 u25 u26 u27 u28 u29 u30 u31 u32 u33 u34 u35 u36 u37 u38 u39 u40 u41 u42 u43 u44 u45 u46 u47 u48 u49 u50 u51 u52 u53 u54 u55 u56 u57 u58 u59 u60 u61 u62 u63 u64 u65 u66 u67 hsp hk hb
          refine hK _ _ ?_
          clear hK
          have hkm : k ≤ m := by have := hsp.le; have := HM.out; omega
          have d1 := (hb.cell (p := ⟨bb, off + i * 2, none⟩) hbl).trans c1
          have d2 := (hb.cell (p := ⟨bb, off + i * 2 + 1, none⟩) hbl).trans c2
          have dl := Nat.lt_of_lt_of_le hbl hb.size
          have gl := Nat.lt_of_lt_of_le hgl hb.size
          have HKk := Lib.hid hk
          have HSz : Hid (Spot L (cyc l i) k) := by show Spot L (cyc l i) k; rw [HZ.out]; exact hsp
          have HPz : Hid (primV (cyc l i) = true) := by show primV (cyc l i) = true; rw [HZ.out]; exact HPr.out
          have HKL : Hid (k ≤ L.length) := hsp.le
          clear hsp hk
          have HWb := Lib.hid (belowTo hB2 hb)
          have HRw : Hid (∀ wr, Below wr'.heap.size wr' wr → ∀ j, j < L.length → wr.cell? ⟨go, j * 2, none⟩ = some (.int .i64 (cyc L j).1) ∧ wr.cell? ⟨go, j * 2 + 1, none⟩ = some (.int .i64 (cyc L j).2)) := fun wr h j hj => by
            obtain ⟨⟨p1, p2⟩, _⟩ := HRow.out j hj
            exact ⟨(h.cell (p := ⟨go, j * 2, none⟩) gl).trans ((hb.cell (p := ⟨go, j * 2, none⟩) hgl).trans p1), (h.cell (p := ⟨go, j * 2 + 1, none⟩) gl).trans ((hb.cell (p := ⟨go, j * 2 + 1, none⟩) hgl).trans p2)⟩
          go_upto_region 10 with fail
          rename_i K2 hK2
          have HK2 := Lib.hid hK2
          clear hK2
          have HT : Hid (∀ (wr2 : World) (u2 u3 u8 u9 u10 u11 u12 u13 u14 u15 u16 u17 u18 u19 u20 u21 u22 u23 u24 u25 u26 u27 u28 u29 u30 u31 u32 u33 u34 u35 u36 u37 u38 u39 u40 u41 u42 u43 u44 u45 u46 u47 u48 u49 u50 u51 u53 u54 u55 u56 u57 u58 u59 u60 u61 u62 u63 u64 u65 u66 u67 : Value), Hid (Inns l (i + 1) (insL L k (x, y))) → Below wr'.heap.size wr' wr2 →
              K2 { tmps := #[.slice (some ⟨bb, off, none⟩) n c, undef, u2, u3, .slice (some ⟨go, 0, none⟩) m cc, .int .i64 (i : Int), .int .i64 (k : Int), .slice (some ⟨w.heap.size, 0, none⟩) 0 0, u8, u9, u10, u11, u12, u13, u14, u15, u16, u17, u18, u19, u20, u21, u22, u23, u24, u25, u26, u27, u28, u29, u30, u31, u32, u33, u34, u35, u36, u37, u38, u39, u40, u41, u42, u43, u44, u45, u46, u47, u48, u49, u50, u51, .bool true, u53, u54, u55, u56, u57, u58, u59, u60, u61, u62, u63, u64, u65, u66, u67, undef, undef, undef, undef, undef], defers := [] } wr2) := by
            intro W u2 u3 u8 u9 u10 u11 u12 u13 u14 u15 u16 u17 u18 u19 u20 u21 u22 u23 u24 u25 u26 u27 u28 u29 u30 u31 u32 u33 u34 u35 u36 u37 u38 u39 u40 u41 u42 u43 u44 u45 u46 u47 u48 u49 u50 u51 u53 u54 u55 u56 u57 u58 u59 u60 u61 u62 u63 u64 u65 u66 u67 HIn hbW
            refine HK2.out _ _ ?_
            have hWb := belowTo HWb.out hbW
            have hwW := hWb.size
            have c0 := (hbW.cell (p := ⟨bb, off + i * 2, none⟩) dl).trans d1
            have c1' := (hbW.cell (p := ⟨bb, off + i * 2 + 1, none⟩) dl).trans d2
            have hrb := Nat.lt_of_lt_of_le dl hbW.size
            have HCL : Hid (∀ wr, Below W.heap.size W wr → ∀ j, j < L.length → wr.cell? ⟨go, j * 2, none⟩ = some (.int .i64 (cyc L j).1) ∧ wr.cell? ⟨go, j * 2 + 1, none⟩ = some (.int .i64 (cyc L j).2)) := fun wr h => HRw.out wr (belowTo hbW h)
            clear HRw HRow HX HPz HSz HKk HK2 d1 d2 dl gl c1 c2 hbl hgl hbW hb hB2 HWb HV HP HPr HCl HZ hE HF
            obtain ⟨i0, hi0, hz0, hz1, hz2⟩ := info_parts infoVec
            have HO1 : Hid (Vecs (W.drew.alloc (.cells #[] 26)) W.heap.size (.slice (some ⟨W.heap.size, 0, none⟩) 0 0) []) := Vecs.empty W.drew
            have HB1 : Hid (Below W.heap.size W (W.drew.alloc (.cells #[] 26))) := by show Below W.heap.size W (W.drew.alloc (.cells #[] 26)); go_grown
            have HO2 : Hid (Vecs ((W.drew.alloc (.cells #[] 26)).alloc (.cells #[.int .i64 x, .int .i64 y] 26)) W.heap.size (.slice (some ⟨W.heap.size, 0, none⟩) 0 0) []) := HO1.out.below (by go_grown)
            have HB2 : Hid (Below W.heap.size W ((W.drew.alloc (.cells #[] 26)).alloc (.cells #[.int .i64 x, .int .i64 y] 26))) := by show Below W.heap.size W ((W.drew.alloc (.cells #[] 26)).alloc (.cells #[.int .i64 x, .int .i64 y] 26)); go_grown
            have hO3 := (Vecs.empty (W.drew.alloc (.cells #[.int .i64 x, .int .i64 y] 26))).lower (base' := W.heap.size) (by simp)
            simp only [World.size_alloc, World.size_drew] at hO3
            have HO3 : Hid (Vecs ((W.drew.alloc (.cells #[.int .i64 x, .int .i64 y] 26)).alloc (.cells #[] 26)) W.heap.size (.slice (some ⟨W.heap.size + 1, 0, none⟩) 0 0) []) := hO3
            have HB3 : Hid (Below W.heap.size W ((W.drew.alloc (.cells #[.int .i64 x, .int .i64 y] 26)).alloc (.cells #[] 26))) := by show Below W.heap.size W ((W.drew.alloc (.cells #[.int .i64 x, .int .i64 y] 26)).alloc (.cells #[] 26)); go_grown
            have KE0 : Hid (((W.drew.alloc (.cells #[] 26)).alloc (.cells #[.int .i64 x, .int .i64 y] 26)).cell? ⟨W.heap.size + 1, 0, none⟩ = some (.int .i64 x)) := by show ((W.drew.alloc (.cells #[] 26)).alloc (.cells #[.int .i64 x, .int .i64 y] 26)).cell? ⟨W.heap.size + 1, 0, none⟩ = some (.int .i64 x); rw [World.cell?_alloc_at _ _ _ _ (by simp only [World.size_alloc, World.size_drew])]; rfl
            have KE1 : Hid (((W.drew.alloc (.cells #[] 26)).alloc (.cells #[.int .i64 x, .int .i64 y] 26)).cell? ⟨W.heap.size + 1, 1, none⟩ = some (.int .i64 y)) := by show ((W.drew.alloc (.cells #[] 26)).alloc (.cells #[.int .i64 x, .int .i64 y] 26)).cell? ⟨W.heap.size + 1, 1, none⟩ = some (.int .i64 y); rw [World.cell?_alloc_at _ _ _ _ (by simp only [World.size_alloc, World.size_drew])]; rfl
            have KR0 : Hid (((W.drew.alloc (.cells #[.int .i64 x, .int .i64 y] 26)).alloc (.cells #[] 26)).cell? ⟨W.heap.size, 0, none⟩ = some (.int .i64 x)) := by show ((W.drew.alloc (.cells #[.int .i64 x, .int .i64 y] 26)).alloc (.cells #[] 26)).cell? ⟨W.heap.size, 0, none⟩ = some (.int .i64 x); rw [World.cell?_alloc_lt _ _ ⟨_, _, none⟩ (by simp only [World.size_alloc, World.size_drew]; omega), World.cell?_alloc_at _ _ _ _ (by simp only [World.size_drew])]; rfl
            have KR1 : Hid (((W.drew.alloc (.cells #[.int .i64 x, .int .i64 y] 26)).alloc (.cells #[] 26)).cell? ⟨W.heap.size, 1, none⟩ = some (.int .i64 y)) := by show ((W.drew.alloc (.cells #[.int .i64 x, .int .i64 y] 26)).alloc (.cells #[] 26)).cell? ⟨W.heap.size, 1, none⟩ = some (.int .i64 y); rw [World.cell?_alloc_lt _ _ ⟨_, _, none⟩ (by simp only [World.size_alloc, World.size_drew]; omega), World.cell?_alloc_at _ _ _ _ (by simp only [World.size_drew])]; rfl
            clear hO3
            have HLm := HM
            have HT1 : Hid (0 + k ≤ L.length) := by have := HM.out; show 0 + k ≤ L.length; omega
            have HT2 : Hid (k + (m - k) ≤ L.length) := by have := HM.out; show k + (m - k) ≤ L.length; omega
            have HRf : Hid ((([] ++ (L.drop 0).take k) ++ [(x, y)]) ++ (L.drop k).take (m - k) = insL L k (x, y)) := by show _ = _; unfold insL; rw [HM.out]
            have r1 : (0 : Int) ≤ (k : Int) := by omega
            have r2 : (k : Int) ≤ (m : Int) := by omega
            have r3 : (k : Int) ≤ (cc : Int) := by omega
            have r4 : k ≤ cc := by omega
            by_cases hk0 : k = 0
            · subst hk0
              by_cases hc0 : cc = 0
              · have hm0 : m = 0 := by omega
                subst hm0
                subst hc0
                have HR : Hid ((([] ++ (L.drop 0).take 0) ++ [(x, y)]) ++ [] = insL L 0 (x, y)) := by
                  have := HRf.out
                  rwa [Nat.sub_zero, List.take_zero] at this
                clear HRf HM
                go_wp2
                refine wp_region_any (by kernel_rfl) ?_
                try (change wpAny _ _ _ _ _ _ _ (World.drew _))
                refine wpAny_take (i := 1) (v := ?_) rfl (by kernel_rfl) (by kernel_rfl) (by kernel_rfl) (fun _ _ _ h => h) (Or.inl ⟨by rfl, ?_⟩) ?_
                rotate_left
                focus (intro w0; go_simp; try with_reducible rfl)
                refine wpAny_take (i := 2) (v := ?_) rfl (by kernel_rfl) (by kernel_rfl) (by kernel_rfl) (fun _ _ _ h => h) (Or.inl ⟨by rfl, ?_⟩) ?_
                rotate_left
                focus (intro w0; go_simp; try with_reducible rfl)
                refine wpAny_take (i := 3) (v := ?_) rfl (by kernel_rfl) (by kernel_rfl) (by kernel_rfl) (fun _ _ _ h => h) (Or.inl ⟨by rfl, ?_⟩) ?_
                rotate_left
                focus (intro w0; go_simp; try with_reducible rfl)
                refine wpAny_take (i := 5) (v := ?_) rfl (by kernel_rfl) (by kernel_rfl) (by kernel_rfl) (fun _ _ _ h => h) (Or.inl ⟨by rfl, ?_⟩) ?_
                rotate_left
                focus (intro w0; go_simp; try with_reducible rfl)
                refine wpAny_take (i := 6) (v := ?_) rfl (by kernel_rfl) (by kernel_rfl) (by kernel_rfl) (fun _ _ _ h => h) (Or.inl ⟨by rfl, ?_⟩) ?_
                rotate_left
                focus (intro w0; go_simp; try with_reducible rfl)
                refine wpAny_take (i := 7) (v := ?_) rfl (by kernel_rfl) (by kernel_rfl) (by kernel_rfl) (fun _ _ _ h => h) (Or.inl ⟨by rfl, ?_⟩) ?_
                rotate_left
                focus (intro w0; go_simp; try with_reducible rfl)
                refine wpAny_take (i := 11) (v := ?_) rfl (by kernel_rfl) (by kernel_rfl) (by kernel_rfl) (fun _ _ _ h => h) (Or.inl ⟨by rfl, ?_⟩) ?_
                rotate_left
                focus (intro w0; go_simp; try with_reducible rfl)
                refine wpAny_take (i := 12) (v := ?_) rfl (by kernel_rfl) (by kernel_rfl) (by kernel_rfl) (fun _ _ _ h => h) (Or.inl ⟨by rfl, ?_⟩) ?_
                rotate_left
                focus (intro w0; go_simp; try with_reducible rfl)
                refine wpAny_take (i := 13) (v := ?_) rfl (by kernel_rfl) (by kernel_rfl) (by kernel_rfl) (fun _ _ _ h => h) (Or.inl ⟨by rfl, ?_⟩) ?_
                rotate_left
                focus (intro w0; go_simp; try with_reducible rfl)
                refine wpAny_ready (rs := [0, 8]) (by kernel_rfl) (by simp) (AllReady.cons rfl (fun K hK => ?_) (AllReady.cons rfl (fun K hK => ?_) (AllReady.nil)))
                focus
                  go_simp
                  refine hK _ _ ?_
                  clear hK K
                  refine wpAny_ready (rs := [4, 8]) (by kernel_rfl) (by simp) (AllReady.cons rfl (fun K hK => ?_) (AllReady.cons rfl (fun K hK => ?_) (AllReady.nil)))
                  focus
                    (refine step_list (by rintro ⟨_, _, h⟩; obtain ⟨_, hv, _⟩ := h; cases hv) (by kernel_rfl) ?_; refine wpList_append_own_at _ rfl _ _ 39 rfl W.heap.size 26 i0 (.agg #[.int .i64 (0), .int .i64 (0)]) 2 16 Tryd.underlying39 hi0 hz0 hz1 hz2 rfl (by decide) (.slice (some ⟨W.heap.size, 0, none⟩) 0 0) _ _ rfl HO1.out _ _ _ _ rfl (piece_len HT1.out) (piece0 (HCL.out _ HB1.out) HT1.out) (piece_one _) (by unfold maxLen; simp <;> omega) (by simp <;> omega) HB1.out.size ?_; intro v2 w2 hown2 hgrow2 _ _; have HBA := Lib.hid (HB1.out.grown hgrow2 HB1.out.size (fun q hq => (World.ownsRow.lt HO1.out q hq).1)); have HOA := Lib.hid (Vecs.join (l := []) hown2 (by have := HLm.out; simp <;> omega)); have b0 := (HBA.out.cell (p := ⟨bb, off + i * 2, none⟩) hrb).trans c0; have b1 := (HBA.out.cell (p := ⟨bb, off + i * 2 + 1, none⟩) hrb).trans c1'; have bl := Nat.lt_of_lt_of_le hrb HBA.out.size; clear hown2 hgrow2)
                    refine hK _ _ ?_
                    clear hK K
                    refine wpAny_ready (rs := [8]) (by kernel_rfl) (by simp) (AllReady.cons rfl (fun K hK => ?_) (AllReady.nil))
                    go_simp
                    refine hK _ _ ?_
                    clear hK K
                    refine wpAny_ready (rs := [9]) (by kernel_rfl) (by simp) (AllReady.cons rfl (fun K hK => ?_) (AllReady.nil))
                    go_simp
                    refine hK _ _ ?_
                    clear hK K
                    refine wpAny_ready (rs := [10]) (by kernel_rfl) (by simp) (AllReady.cons rfl (fun K hK => ?_) (AllReady.nil))
                    (refine step_list (by rintro ⟨_, _, h⟩; obtain ⟨_, hv, _⟩ := h; cases hv) (by kernel_rfl) ?_; refine wpList_append_own_at _ rfl _ _ 39 rfl W.heap.size 26 i0 (.agg #[.int .i64 (0), .int .i64 (0)]) 2 16 Tryd.underlying39 hi0 hz0 hz1 hz2 rfl (by decide) _ _ _ rfl (HOA.out.below (by go_grown)) _ 1 1 [.int .i64 x, .int .i64 y] rfl rfl (two_cells (by simp) (by simp)) (two_one _ _) (by unfold maxLen; simp <;> omega) (by simp <;> omega) (HBA.out.alloc HBA.out.size _).size ?_; intro v3 w3 hown3 hgrow3 _ _; have HBC := Lib.hid ((HBA.out.alloc HBA.out.size _).grown hgrow3 (HBA.out.alloc HBA.out.size _).size (fun q hq => (World.ownsRow.lt HOA.out q hq).1)); have HOC := Lib.hid (Vecs.snoc (l := [] ++ (L.drop 0).take 0) rfl hown3); clear hown3 hgrow3)
                    refine hK _ _ ?_
                    clear hK K
                    refine wpAny_ready (rs := [14]) (by kernel_rfl) (by simp) (AllReady.cons rfl (fun K hK => ?_) (AllReady.nil))
                    (refine step_list (by rintro ⟨_, _, h⟩; obtain ⟨_, hv, _⟩ := h; cases hv) (by kernel_rfl) ?_; refine wpList_append_own_at _ rfl _ _ 39 rfl W.heap.size 26 i0 (.agg #[.int .i64 (0), .int .i64 (0)]) 2 16 Tryd.underlying39 hi0 hz0 hz1 hz2 rfl (by decide) _ _ _ rfl HOC.out _ 0 _ [] rfl rfl (fun j u hj => by simp at hj) (fun u hu => by simp at hu) (by unfold maxLen; simp <;> omega) (by simp <;> omega) HBC.out.size ?_; intro v4 w4 hown4 hgrow4 _ _; have HBD := Lib.hid (HBC.out.grown hgrow4 HBC.out.size (fun q hq => (World.ownsRow.lt HOC.out q hq).1)); have HOD := Lib.hid (Vecs.join (m := []) hown4 (by have := HLm.out; simp <;> omega)); clear hown4 hgrow4)
                    refine hK _ _ ?_
                    clear hK K
                    refine wpAny_seq 15 rfl (by kernel_rfl) ?_
                    simp only [List.drop_succ_cons, List.drop_zero]
                  rotate_left 1
                  focus
                    go_simp
                    refine hK _ _ ?_
                    clear hK K
                    refine wpAny_ready (rs := [4, 9]) (by kernel_rfl) (by simp) (AllReady.cons rfl (fun K hK => ?_) (AllReady.cons rfl (fun K hK => ?_) (AllReady.nil)))
                    focus
                      (refine step_list (by rintro ⟨_, _, h⟩; obtain ⟨_, hv, _⟩ := h; cases hv) (by kernel_rfl) ?_; refine wpList_append_own_at _ rfl _ _ 39 rfl W.heap.size 26 i0 (.agg #[.int .i64 (0), .int .i64 (0)]) 2 16 Tryd.underlying39 hi0 hz0 hz1 hz2 rfl (by decide) (.slice (some ⟨W.heap.size, 0, none⟩) 0 0) _ _ rfl HO1.out _ _ _ _ rfl (piece_len HT1.out) (piece0 (HCL.out _ HB1.out) HT1.out) (piece_one _) (by unfold maxLen; simp <;> omega) (by simp <;> omega) HB1.out.size ?_; intro v2 w2 hown2 hgrow2 _ _; have HBA := Lib.hid (HB1.out.grown hgrow2 HB1.out.size (fun q hq => (World.ownsRow.lt HO1.out q hq).1)); have HOA := Lib.hid (Vecs.join (l := []) hown2 (by have := HLm.out; simp <;> omega)); have b0 := (HBA.out.cell (p := ⟨bb, off + i * 2, none⟩) hrb).trans c0; have b1 := (HBA.out.cell (p := ⟨bb, off + i * 2 + 1, none⟩) hrb).trans c1'; have bl := Nat.lt_of_lt_of_le hrb HBA.out.size; clear hown2 hgrow2)
                      refine hK _ _ ?_
                      clear hK K
                      refine wpAny_ready (rs := [9]) (by kernel_rfl) (by simp) (AllReady.cons rfl (fun K hK => ?_) (AllReady.nil))
                      go_simp
                      refine hK _ _ ?_
                      clear hK K
                      refine wpAny_ready (rs := [10]) (by kernel_rfl) (by simp) (AllReady.cons rfl (fun K hK => ?_) (AllReady.nil))
                      (refine step_list (by rintro ⟨_, _, h⟩; obtain ⟨_, hv, _⟩ := h; cases hv) (by kernel_rfl) ?_; refine wpList_append_own_at _ rfl _ _ 39 rfl W.heap.size 26 i0 (.agg #[.int .i64 (0), .int .i64 (0)]) 2 16 Tryd.underlying39 hi0 hz0 hz1 hz2 rfl (by decide) _ _ _ rfl (HOA.out.below (by go_grown)) _ 1 1 [.int .i64 x, .int .i64 y] rfl rfl (two_cells (by simp) (by simp)) (two_one _ _) (by unfold maxLen; simp <;> omega) (by simp <;> omega) (HBA.out.alloc HBA.out.size _).size ?_; intro v3 w3 hown3 hgrow3 _ _; have HBC := Lib.hid ((HBA.out.alloc HBA.out.size _).grown hgrow3 (HBA.out.alloc HBA.out.size _).size (fun q hq => (World.ownsRow.lt HOA.out q hq).1)); have HOC := Lib.hid (Vecs.snoc (l := [] ++ (L.drop 0).take 0) rfl hown3); clear hown3 hgrow3)
                      refine hK _ _ ?_
                      clear hK K
                      refine wpAny_ready (rs := [14]) (by kernel_rfl) (by simp) (AllReady.cons rfl (fun K hK => ?_) (AllReady.nil))
                      (refine step_list (by rintro ⟨_, _, h⟩; obtain ⟨_, hv, _⟩ := h; cases hv) (by kernel_rfl) ?_; refine wpList_append_own_at _ rfl _ _ 39 rfl W.heap.size 26 i0 (.agg #[.int .i64 (0), .int .i64 (0)]) 2 16 Tryd.underlying39 hi0 hz0 hz1 hz2 rfl (by decide) _ _ _ rfl HOC.out _ 0 _ [] rfl rfl (fun j u hj => by simp at hj) (fun u hu => by simp at hu) (by unfold maxLen; simp <;> omega) (by simp <;> omega) HBC.out.size ?_; intro v4 w4 hown4 hgrow4 _ _; have HBD := Lib.hid (HBC.out.grown hgrow4 HBC.out.size (fun q hq => (World.ownsRow.lt HOC.out q hq).1)); have HOD := Lib.hid (Vecs.join (m := []) hown4 (by have := HLm.out; simp <;> omega)); clear hown4 hgrow4)
                      refine hK _ _ ?_
                      clear hK K
                      refine wpAny_seq 15 rfl (by kernel_rfl) ?_
                      simp only [List.drop_succ_cons, List.drop_zero]
                    rotate_left 1
                    focus
                      go_simp
                      refine hK _ _ ?_
                      clear hK K
                      refine wpAny_ready (rs := [4]) (by kernel_rfl) (by simp) (AllReady.cons rfl (fun K hK => ?_) (AllReady.nil))
                      (refine step_list (by rintro ⟨_, _, h⟩; obtain ⟨_, hv, _⟩ := h; cases hv) (by kernel_rfl) ?_; refine wpList_append_own_at _ rfl _ _ 39 rfl W.heap.size 26 i0 (.agg #[.int .i64 (0), .int .i64 (0)]) 2 16 Tryd.underlying39 hi0 hz0 hz1 hz2 rfl (by decide) (.slice (some ⟨W.heap.size, 0, none⟩) 0 0) _ _ rfl HO2.out _ _ _ _ rfl (piece_len HT1.out) (piece0 (HCL.out _ HB2.out) HT1.out) (piece_one _) (by unfold maxLen; simp <;> omega) (by simp <;> omega) HB2.out.size ?_; intro v2 w2 hown2 hgrow2 _ _; have HBA := Lib.hid (HB2.out.grown hgrow2 HB2.out.size (fun q hq => (World.ownsRow.lt HO2.out q hq).1)); have HOA := Lib.hid (Vecs.join (l := []) hown2 (by have := HLm.out; simp <;> omega)); have rr : w2.heap[W.heap.size + 1]? = ((W.drew.alloc (.cells #[] 26)).alloc (.cells #[.int .i64 x, .int .i64 y] 26)).heap[W.heap.size + 1]? := hgrow2.block _ (by simp <;> omega) (by simp [Value.ownBlock]); have RR0 : Hid (w2.cell? ⟨W.heap.size + 1, 0, none⟩ = some (.int .i64 x)) := (cell_same rr 0).trans KE0.out; have RR1 : Hid (w2.cell? ⟨W.heap.size + 1, 1, none⟩ = some (.int .i64 y)) := (cell_same rr 1).trans KE1.out; clear rr; clear hown2 hgrow2)
                      refine hK _ _ ?_
                      clear hK K
                      refine wpAny_ready (rs := [10]) (by kernel_rfl) (by simp) (AllReady.cons rfl (fun K hK => ?_) (AllReady.nil))
                      (refine step_list (by rintro ⟨_, _, h⟩; obtain ⟨_, hv, _⟩ := h; cases hv) (by kernel_rfl) ?_; refine wpList_append_own_at _ rfl _ _ 39 rfl W.heap.size 26 i0 (.agg #[.int .i64 (0), .int .i64 (0)]) 2 16 Tryd.underlying39 hi0 hz0 hz1 hz2 rfl (by decide) _ _ _ rfl HOA.out _ 1 1 [.int .i64 x, .int .i64 y] rfl rfl (two_cells RR0.out RR1.out) (two_one _ _) (by unfold maxLen; simp <;> omega) (by simp <;> omega) HBA.out.size ?_; intro v3 w3 hown3 hgrow3 _ _; have HBC := Lib.hid (HBA.out.grown hgrow3 HBA.out.size (fun q hq => (World.ownsRow.lt HOA.out q hq).1)); have HOC := Lib.hid (Vecs.snoc (l := [] ++ (L.drop 0).take 0) rfl hown3); clear hown3 hgrow3)
                      refine hK _ _ ?_
                      clear hK K
                      refine wpAny_ready (rs := [14]) (by kernel_rfl) (by simp) (AllReady.cons rfl (fun K hK => ?_) (AllReady.nil))
                      (refine step_list (by rintro ⟨_, _, h⟩; obtain ⟨_, hv, _⟩ := h; cases hv) (by kernel_rfl) ?_; refine wpList_append_own_at _ rfl _ _ 39 rfl W.heap.size 26 i0 (.agg #[.int .i64 (0), .int .i64 (0)]) 2 16 Tryd.underlying39 hi0 hz0 hz1 hz2 rfl (by decide) _ _ _ rfl HOC.out _ 0 _ [] rfl rfl (fun j u hj => by simp at hj) (fun u hu => by simp at hu) (by unfold maxLen; simp <;> omega) (by simp <;> omega) HBC.out.size ?_; intro v4 w4 hown4 hgrow4 _ _; have HBD := Lib.hid (HBC.out.grown hgrow4 HBC.out.size (fun q hq => (World.ownsRow.lt HOC.out q hq).1)); have HOD := Lib.hid (Vecs.join (m := []) hown4 (by have := HLm.out; simp <;> omega)); clear hown4 hgrow4)
                      refine hK _ _ ?_
                      clear hK K
                      refine wpAny_seq 15 rfl (by kernel_rfl) ?_
                      simp only [List.drop_succ_cons, List.drop_zero]
                rotate_left 3
                focus
                  go_simp
                  refine hK _ _ ?_
                  clear hK K
                  refine wpAny_ready (rs := [0, 9]) (by kernel_rfl) (by simp) (AllReady.cons rfl (fun K hK => ?_) (AllReady.cons rfl (fun K hK => ?_) (AllReady.nil)))
                  focus
                    go_simp
                    refine hK _ _ ?_
                    clear hK K
                    refine wpAny_ready (rs := [4, 9]) (by kernel_rfl) (by simp) (AllReady.cons rfl (fun K hK => ?_) (AllReady.cons rfl (fun K hK => ?_) (AllReady.nil)))
                    focus
                      (refine step_list (by rintro ⟨_, _, h⟩; obtain ⟨_, hv, _⟩ := h; cases hv) (by kernel_rfl) ?_; refine wpList_append_own_at _ rfl _ _ 39 rfl W.heap.size 26 i0 (.agg #[.int .i64 (0), .int .i64 (0)]) 2 16 Tryd.underlying39 hi0 hz0 hz1 hz2 rfl (by decide) (.slice (some ⟨W.heap.size, 0, none⟩) 0 0) _ _ rfl HO1.out _ _ _ _ rfl (piece_len HT1.out) (piece0 (HCL.out _ HB1.out) HT1.out) (piece_one _) (by unfold maxLen; simp <;> omega) (by simp <;> omega) HB1.out.size ?_; intro v2 w2 hown2 hgrow2 _ _; have HBA := Lib.hid (HB1.out.grown hgrow2 HB1.out.size (fun q hq => (World.ownsRow.lt HO1.out q hq).1)); have HOA := Lib.hid (Vecs.join (l := []) hown2 (by have := HLm.out; simp <;> omega)); have b0 := (HBA.out.cell (p := ⟨bb, off + i * 2, none⟩) hrb).trans c0; have b1 := (HBA.out.cell (p := ⟨bb, off + i * 2 + 1, none⟩) hrb).trans c1'; have bl := Nat.lt_of_lt_of_le hrb HBA.out.size; clear hown2 hgrow2)
                      refine hK _ _ ?_
                      clear hK K
                      refine wpAny_ready (rs := [9]) (by kernel_rfl) (by simp) (AllReady.cons rfl (fun K hK => ?_) (AllReady.nil))
                      go_simp
                      refine hK _ _ ?_
                      clear hK K
                      refine wpAny_ready (rs := [10]) (by kernel_rfl) (by simp) (AllReady.cons rfl (fun K hK => ?_) (AllReady.nil))
                      (refine step_list (by rintro ⟨_, _, h⟩; obtain ⟨_, hv, _⟩ := h; cases hv) (by kernel_rfl) ?_; refine wpList_append_own_at _ rfl _ _ 39 rfl W.heap.size 26 i0 (.agg #[.int .i64 (0), .int .i64 (0)]) 2 16 Tryd.underlying39 hi0 hz0 hz1 hz2 rfl (by decide) _ _ _ rfl (HOA.out.below (by go_grown)) _ 1 1 [.int .i64 x, .int .i64 y] rfl rfl (two_cells (by simp) (by simp)) (two_one _ _) (by unfold maxLen; simp <;> omega) (by simp <;> omega) (HBA.out.alloc HBA.out.size _).size ?_; intro v3 w3 hown3 hgrow3 _ _; have HBC := Lib.hid ((HBA.out.alloc HBA.out.size _).grown hgrow3 (HBA.out.alloc HBA.out.size _).size (fun q hq => (World.ownsRow.lt HOA.out q hq).1)); have HOC := Lib.hid (Vecs.snoc (l := [] ++ (L.drop 0).take 0) rfl hown3); clear hown3 hgrow3)
                      refine hK _ _ ?_
                      clear hK K
                      refine wpAny_ready (rs := [14]) (by kernel_rfl) (by simp) (AllReady.cons rfl (fun K hK => ?_) (AllReady.nil))
                      (refine step_list (by rintro ⟨_, _, h⟩; obtain ⟨_, hv, _⟩ := h; cases hv) (by kernel_rfl) ?_; refine wpList_append_own_at _ rfl _ _ 39 rfl W.heap.size 26 i0 (.agg #[.int .i64 (0), .int .i64 (0)]) 2 16 Tryd.underlying39 hi0 hz0 hz1 hz2 rfl (by decide) _ _ _ rfl HOC.out _ 0 _ [] rfl rfl (fun j u hj => by simp at hj) (fun u hu => by simp at hu) (by unfold maxLen; simp <;> omega) (by simp <;> omega) HBC.out.size ?_; intro v4 w4 hown4 hgrow4 _ _; have HBD := Lib.hid (HBC.out.grown hgrow4 HBC.out.size (fun q hq => (World.ownsRow.lt HOC.out q hq).1)); have HOD := Lib.hid (Vecs.join (m := []) hown4 (by have := HLm.out; simp <;> omega)); clear hown4 hgrow4)
                      refine hK _ _ ?_
                      clear hK K
                      refine wpAny_seq 15 rfl (by kernel_rfl) ?_
                      simp only [List.drop_succ_cons, List.drop_zero]
                    rotate_left 1
                    focus
                      go_simp
                      refine hK _ _ ?_
                      clear hK K
                      refine wpAny_ready (rs := [4]) (by kernel_rfl) (by simp) (AllReady.cons rfl (fun K hK => ?_) (AllReady.nil))
                      (refine step_list (by rintro ⟨_, _, h⟩; obtain ⟨_, hv, _⟩ := h; cases hv) (by kernel_rfl) ?_; refine wpList_append_own_at _ rfl _ _ 39 rfl W.heap.size 26 i0 (.agg #[.int .i64 (0), .int .i64 (0)]) 2 16 Tryd.underlying39 hi0 hz0 hz1 hz2 rfl (by decide) (.slice (some ⟨W.heap.size, 0, none⟩) 0 0) _ _ rfl HO2.out _ _ _ _ rfl (piece_len HT1.out) (piece0 (HCL.out _ HB2.out) HT1.out) (piece_one _) (by unfold maxLen; simp <;> omega) (by simp <;> omega) HB2.out.size ?_; intro v2 w2 hown2 hgrow2 _ _; have HBA := Lib.hid (HB2.out.grown hgrow2 HB2.out.size (fun q hq => (World.ownsRow.lt HO2.out q hq).1)); have HOA := Lib.hid (Vecs.join (l := []) hown2 (by have := HLm.out; simp <;> omega)); have rr : w2.heap[W.heap.size + 1]? = ((W.drew.alloc (.cells #[] 26)).alloc (.cells #[.int .i64 x, .int .i64 y] 26)).heap[W.heap.size + 1]? := hgrow2.block _ (by simp <;> omega) (by simp [Value.ownBlock]); have RR0 : Hid (w2.cell? ⟨W.heap.size + 1, 0, none⟩ = some (.int .i64 x)) := (cell_same rr 0).trans KE0.out; have RR1 : Hid (w2.cell? ⟨W.heap.size + 1, 1, none⟩ = some (.int .i64 y)) := (cell_same rr 1).trans KE1.out; clear rr; clear hown2 hgrow2)
                      refine hK _ _ ?_
                      clear hK K
                      refine wpAny_ready (rs := [10]) (by kernel_rfl) (by simp) (AllReady.cons rfl (fun K hK => ?_) (AllReady.nil))
                      (refine step_list (by rintro ⟨_, _, h⟩; obtain ⟨_, hv, _⟩ := h; cases hv) (by kernel_rfl) ?_; refine wpList_append_own_at _ rfl _ _ 39 rfl W.heap.size 26 i0 (.agg #[.int .i64 (0), .int .i64 (0)]) 2 16 Tryd.underlying39 hi0 hz0 hz1 hz2 rfl (by decide) _ _ _ rfl HOA.out _ 1 1 [.int .i64 x, .int .i64 y] rfl rfl (two_cells RR0.out RR1.out) (two_one _ _) (by unfold maxLen; simp <;> omega) (by simp <;> omega) HBA.out.size ?_; intro v3 w3 hown3 hgrow3 _ _; have HBC := Lib.hid (HBA.out.grown hgrow3 HBA.out.size (fun q hq => (World.ownsRow.lt HOA.out q hq).1)); have HOC := Lib.hid (Vecs.snoc (l := [] ++ (L.drop 0).take 0) rfl hown3); clear hown3 hgrow3)
                      refine hK _ _ ?_
                      clear hK K
                      refine wpAny_ready (rs := [14]) (by kernel_rfl) (by simp) (AllReady.cons rfl (fun K hK => ?_) (AllReady.nil))
                      (refine step_list (by rintro ⟨_, _, h⟩; obtain ⟨_, hv, _⟩ := h; cases hv) (by kernel_rfl) ?_; refine wpList_append_own_at _ rfl _ _ 39 rfl W.heap.size 26 i0 (.agg #[.int .i64 (0), .int .i64 (0)]) 2 16 Tryd.underlying39 hi0 hz0 hz1 hz2 rfl (by decide) _ _ _ rfl HOC.out _ 0 _ [] rfl rfl (fun j u hj => by simp at hj) (fun u hu => by simp at hu) (by unfold maxLen; simp <;> omega) (by simp <;> omega) HBC.out.size ?_; intro v4 w4 hown4 hgrow4 _ _; have HBD := Lib.hid (HBC.out.grown hgrow4 HBC.out.size (fun q hq => (World.ownsRow.lt HOC.out q hq).1)); have HOD := Lib.hid (Vecs.join (m := []) hown4 (by have := HLm.out; simp <;> omega)); clear hown4 hgrow4)
                      refine hK _ _ ?_
                      clear hK K
                      refine wpAny_seq 15 rfl (by kernel_rfl) ?_
                      simp only [List.drop_succ_cons, List.drop_zero]
                  rotate_left 2
                  focus
                    go_simp
                    refine hK _ _ ?_
                    clear hK K
                    refine wpAny_ready (rs := [0]) (by kernel_rfl) (by simp) (AllReady.cons rfl (fun K hK => ?_) (AllReady.nil))
                    go_simp
                    refine hK _ _ ?_
                    clear hK K
                    refine wpAny_ready (rs := [4]) (by kernel_rfl) (by simp) (AllReady.cons rfl (fun K hK => ?_) (AllReady.nil))
                    (refine step_list (by rintro ⟨_, _, h⟩; obtain ⟨_, hv, _⟩ := h; cases hv) (by kernel_rfl) ?_; refine wpList_append_own_at _ rfl _ _ 39 rfl W.heap.size 26 i0 (.agg #[.int .i64 (0), .int .i64 (0)]) 2 16 Tryd.underlying39 hi0 hz0 hz1 hz2 rfl (by decide) (.slice (some ⟨W.heap.size + 1, 0, none⟩) 0 0) _ _ rfl HO3.out _ _ _ _ rfl (piece_len HT1.out) (piece0 (HCL.out _ HB3.out) HT1.out) (piece_one _) (by unfold maxLen; simp <;> omega) (by simp <;> omega) HB3.out.size ?_; intro v2 w2 hown2 hgrow2 _ _; have HBA := Lib.hid (HB3.out.grown hgrow2 HB3.out.size (fun q hq => (World.ownsRow.lt HO3.out q hq).1)); have HOA := Lib.hid (Vecs.join (l := []) hown2 (by have := HLm.out; simp <;> omega)); have rr : w2.heap[W.heap.size]? = ((W.drew.alloc (.cells #[.int .i64 x, .int .i64 y] 26)).alloc (.cells #[] 26)).heap[W.heap.size]? := hgrow2.block _ (by simp <;> omega) (by simp [Value.ownBlock]); have RR0 : Hid (w2.cell? ⟨W.heap.size, 0, none⟩ = some (.int .i64 x)) := (cell_same rr 0).trans KR0.out; have RR1 : Hid (w2.cell? ⟨W.heap.size, 1, none⟩ = some (.int .i64 y)) := (cell_same rr 1).trans KR1.out; clear rr; clear hown2 hgrow2)
                    refine hK _ _ ?_
                    clear hK K
                    refine wpAny_ready (rs := [10]) (by kernel_rfl) (by simp) (AllReady.cons rfl (fun K hK => ?_) (AllReady.nil))
                    (refine step_list (by rintro ⟨_, _, h⟩; obtain ⟨_, hv, _⟩ := h; cases hv) (by kernel_rfl) ?_; refine wpList_append_own_at _ rfl _ _ 39 rfl W.heap.size 26 i0 (.agg #[.int .i64 (0), .int .i64 (0)]) 2 16 Tryd.underlying39 hi0 hz0 hz1 hz2 rfl (by decide) _ _ _ rfl HOA.out _ 1 1 [.int .i64 x, .int .i64 y] rfl rfl (two_cells RR0.out RR1.out) (two_one _ _) (by unfold maxLen; simp <;> omega) (by simp <;> omega) HBA.out.size ?_; intro v3 w3 hown3 hgrow3 _ _; have HBC := Lib.hid (HBA.out.grown hgrow3 HBA.out.size (fun q hq => (World.ownsRow.lt HOA.out q hq).1)); have HOC := Lib.hid (Vecs.snoc (l := [] ++ (L.drop 0).take 0) rfl hown3); clear hown3 hgrow3)
                    refine hK _ _ ?_
                    clear hK K
                    refine wpAny_ready (rs := [14]) (by kernel_rfl) (by simp) (AllReady.cons rfl (fun K hK => ?_) (AllReady.nil))
                    (refine step_list (by rintro ⟨_, _, h⟩; obtain ⟨_, hv, _⟩ := h; cases hv) (by kernel_rfl) ?_; refine wpList_append_own_at _ rfl _ _ 39 rfl W.heap.size 26 i0 (.agg #[.int .i64 (0), .int .i64 (0)]) 2 16 Tryd.underlying39 hi0 hz0 hz1 hz2 rfl (by decide) _ _ _ rfl HOC.out _ 0 _ [] rfl rfl (fun j u hj => by simp at hj) (fun u hu => by simp at hu) (by unfold maxLen; simp <;> omega) (by simp <;> omega) HBC.out.size ?_; intro v4 w4 hown4 hgrow4 _ _; have HBD := Lib.hid (HBC.out.grown hgrow4 HBC.out.size (fun q hq => (World.ownsRow.lt HOC.out q hq).1)); have HOD := Lib.hid (Vecs.join (m := []) hown4 (by have := HLm.out; simp <;> omega)); clear hown4 hgrow4)
                    refine hK _ _ ?_
                    clear hK K
                    refine wpAny_seq 15 rfl (by kernel_rfl) ?_
                    simp only [List.drop_succ_cons, List.drop_zero]
                all_goals
                  rw [HR.out] at HOD
                  have hV4 := HOD.out.lower (base' := w.heap.size) hwW
                  have hB4 := hWb.trans (HBD.out.mono hwW)
                  have HO4 : Hid (OutI w l (i + 1) (insL L 0 (x, y)) v4 w4) := ⟨HIn.out, Vecs.formOf hV4 (by rw [insL_len HKL.out]; omega), hV4⟩
                  clear hV4 HOD HBD HOC HBC HOA HBA
                  go_wp2
                  go_roundw
                  case rel => exact ⟨i + 1, _, by go_num, by omega, HO4, hB4⟩
                  case measure => simp [intOf]; omega
              · have HR : Hid ((([] ++ (L.drop 0).take 0) ++ [(x, y)]) ++ (L.drop 0).take m = insL L 0 (x, y)) := HRf.out
                clear HRf HM
                go_wp2
                refine wp_region_any (by kernel_rfl) ?_
                try (change wpAny _ _ _ _ _ _ _ (World.drew _))
                refine wpAny_take (i := 1) (v := ?_) rfl (by kernel_rfl) (by kernel_rfl) (by kernel_rfl) (fun _ _ _ h => h) (Or.inl ⟨by rfl, ?_⟩) ?_
                rotate_left
                focus (intro w0; go_simp; try with_reducible rfl)
                refine wpAny_take (i := 2) (v := ?_) rfl (by kernel_rfl) (by kernel_rfl) (by kernel_rfl) (fun _ _ _ h => h) (Or.inl ⟨by rfl, ?_⟩) ?_
                rotate_left
                focus (intro w0; go_simp; try with_reducible rfl)
                refine wpAny_take (i := 3) (v := ?_) rfl (by kernel_rfl) (by kernel_rfl) (by kernel_rfl) (fun _ _ _ h => h) (Or.inl ⟨by rfl, ?_⟩) ?_
                rotate_left
                focus (intro w0; go_simp; try with_reducible rfl)
                refine wpAny_take (i := 5) (v := ?_) rfl (by kernel_rfl) (by kernel_rfl) (by kernel_rfl) (fun _ _ _ h => h) (Or.inl ⟨by rfl, ?_⟩) ?_
                rotate_left
                focus (intro w0; go_simp; try with_reducible rfl)
                refine wpAny_take (i := 6) (v := ?_) rfl (by kernel_rfl) (by kernel_rfl) (by kernel_rfl) (fun _ _ _ h => h) (Or.inl ⟨by rfl, ?_⟩) ?_
                rotate_left
                focus (intro w0; go_simp; try with_reducible rfl)
                refine wpAny_take (i := 7) (v := ?_) rfl (by kernel_rfl) (by kernel_rfl) (by kernel_rfl) (fun _ _ _ h => h) (Or.inl ⟨by rfl, ?_⟩) ?_
                rotate_left
                focus (intro w0; go_simp; try with_reducible rfl)
                refine wpAny_take (i := 11) (v := ?_) rfl (by kernel_rfl) (by kernel_rfl) (by kernel_rfl) (fun _ _ _ h => h) (Or.inl ⟨by rfl, ?_⟩) ?_
                rotate_left
                focus (intro w0; go_simp; try with_reducible rfl)
                refine wpAny_take (i := 12) (v := ?_) rfl (by kernel_rfl) (by kernel_rfl) (by kernel_rfl) (fun _ _ _ h => h) (Or.inl ⟨by rfl, ?_⟩) ?_
                rotate_left
                focus (intro w0; go_simp; try with_reducible rfl)
                refine wpAny_take (i := 13) (v := ?_) rfl (by kernel_rfl) (by kernel_rfl) (by kernel_rfl) (fun _ _ _ h => h) (Or.inl ⟨by rfl, ?_⟩) ?_
                rotate_left
                focus (intro w0; go_simp; try with_reducible rfl)
                refine wpAny_ready (rs := [0, 8]) (by kernel_rfl) (by simp) (AllReady.cons rfl (fun K hK => ?_) (AllReady.cons rfl (fun K hK => ?_) (AllReady.nil)))
                focus
                  go_simp
                  refine hK _ _ ?_
                  clear hK K
                  refine wpAny_ready (rs := [4, 8]) (by kernel_rfl) (by simp) (AllReady.cons rfl (fun K hK => ?_) (AllReady.cons rfl (fun K hK => ?_) (AllReady.nil)))
                  focus
                    (refine step_list (by rintro ⟨_, _, h⟩; obtain ⟨_, hv, _⟩ := h; cases hv) (by kernel_rfl) ?_; refine wpList_append_own_at _ rfl _ _ 39 rfl W.heap.size 26 i0 (.agg #[.int .i64 (0), .int .i64 (0)]) 2 16 Tryd.underlying39 hi0 hz0 hz1 hz2 rfl (by decide) (.slice (some ⟨W.heap.size, 0, none⟩) 0 0) _ _ rfl HO1.out _ _ _ _ rfl (piece_len HT1.out) (piece0 (HCL.out _ HB1.out) HT1.out) (piece_one _) (by unfold maxLen; simp <;> omega) (by simp <;> omega) HB1.out.size ?_; intro v2 w2 hown2 hgrow2 _ _; have HBA := Lib.hid (HB1.out.grown hgrow2 HB1.out.size (fun q hq => (World.ownsRow.lt HO1.out q hq).1)); have HOA := Lib.hid (Vecs.join (l := []) hown2 (by have := HLm.out; simp <;> omega)); have b0 := (HBA.out.cell (p := ⟨bb, off + i * 2, none⟩) hrb).trans c0; have b1 := (HBA.out.cell (p := ⟨bb, off + i * 2 + 1, none⟩) hrb).trans c1'; have bl := Nat.lt_of_lt_of_le hrb HBA.out.size; clear hown2 hgrow2)
                    refine hK _ _ ?_
                    clear hK K
                    refine wpAny_ready (rs := [8]) (by kernel_rfl) (by simp) (AllReady.cons rfl (fun K hK => ?_) (AllReady.nil))
                    go_simp
                    refine hK _ _ ?_
                    clear hK K
                    refine wpAny_ready (rs := [9]) (by kernel_rfl) (by simp) (AllReady.cons rfl (fun K hK => ?_) (AllReady.nil))
                    go_simp
                    refine hK _ _ ?_
                    clear hK K
                    refine wpAny_ready (rs := [10]) (by kernel_rfl) (by simp) (AllReady.cons rfl (fun K hK => ?_) (AllReady.nil))
                    (refine step_list (by rintro ⟨_, _, h⟩; obtain ⟨_, hv, _⟩ := h; cases hv) (by kernel_rfl) ?_; refine wpList_append_own_at _ rfl _ _ 39 rfl W.heap.size 26 i0 (.agg #[.int .i64 (0), .int .i64 (0)]) 2 16 Tryd.underlying39 hi0 hz0 hz1 hz2 rfl (by decide) _ _ _ rfl (HOA.out.below (by go_grown)) _ 1 1 [.int .i64 x, .int .i64 y] rfl rfl (two_cells (by simp) (by simp)) (two_one _ _) (by unfold maxLen; simp <;> omega) (by simp <;> omega) (HBA.out.alloc HBA.out.size _).size ?_; intro v3 w3 hown3 hgrow3 _ _; have HBC := Lib.hid ((HBA.out.alloc HBA.out.size _).grown hgrow3 (HBA.out.alloc HBA.out.size _).size (fun q hq => (World.ownsRow.lt HOA.out q hq).1)); have HOC := Lib.hid (Vecs.snoc (l := [] ++ (L.drop 0).take 0) rfl hown3); clear hown3 hgrow3)
                    refine hK _ _ ?_
                    clear hK K
                    refine wpAny_ready (rs := [14]) (by kernel_rfl) (by simp) (AllReady.cons rfl (fun K hK => ?_) (AllReady.nil))
                    (refine step_list (by rintro ⟨_, _, h⟩; obtain ⟨_, hv, _⟩ := h; cases hv) (by kernel_rfl) ?_; refine wpList_append_own_at _ rfl _ _ 39 rfl W.heap.size 26 i0 (.agg #[.int .i64 (0), .int .i64 (0)]) 2 16 Tryd.underlying39 hi0 hz0 hz1 hz2 rfl (by decide) _ _ _ rfl HOC.out _ _ _ _ rfl (piece_len HT2.out) (piece0 (HCL.out _ HBC.out) HT2.out) (piece_one _) (by unfold maxLen; simp <;> omega) (by simp <;> omega) HBC.out.size ?_; intro v4 w4 hown4 hgrow4 _ _; have HBD := Lib.hid (HBC.out.grown hgrow4 HBC.out.size (fun q hq => (World.ownsRow.lt HOC.out q hq).1)); have HOD := Lib.hid (Vecs.join hown4 (by have := HLm.out; simp <;> omega)); clear hown4 hgrow4)
                    refine hK _ _ ?_
                    clear hK K
                    refine wpAny_seq 15 rfl (by kernel_rfl) ?_
                    simp only [List.drop_succ_cons, List.drop_zero]
                  rotate_left 1
                  focus
                    go_simp
                    refine hK _ _ ?_
                    clear hK K
                    refine wpAny_ready (rs := [4, 9]) (by kernel_rfl) (by simp) (AllReady.cons rfl (fun K hK => ?_) (AllReady.cons rfl (fun K hK => ?_) (AllReady.nil)))
                    focus
                      (refine step_list (by rintro ⟨_, _, h⟩; obtain ⟨_, hv, _⟩ := h; cases hv) (by kernel_rfl) ?_; refine wpList_append_own_at _ rfl _ _ 39 rfl W.heap.size 26 i0 (.agg #[.int .i64 (0), .int .i64 (0)]) 2 16 Tryd.underlying39 hi0 hz0 hz1 hz2 rfl (by decide) (.slice (some ⟨W.heap.size, 0, none⟩) 0 0) _ _ rfl HO1.out _ _ _ _ rfl (piece_len HT1.out) (piece0 (HCL.out _ HB1.out) HT1.out) (piece_one _) (by unfold maxLen; simp <;> omega) (by simp <;> omega) HB1.out.size ?_; intro v2 w2 hown2 hgrow2 _ _; have HBA := Lib.hid (HB1.out.grown hgrow2 HB1.out.size (fun q hq => (World.ownsRow.lt HO1.out q hq).1)); have HOA := Lib.hid (Vecs.join (l := []) hown2 (by have := HLm.out; simp <;> omega)); have b0 := (HBA.out.cell (p := ⟨bb, off + i * 2, none⟩) hrb).trans c0; have b1 := (HBA.out.cell (p := ⟨bb, off + i * 2 + 1, none⟩) hrb).trans c1'; have bl := Nat.lt_of_lt_of_le hrb HBA.out.size; clear hown2 hgrow2)
                      refine hK _ _ ?_
                      clear hK K
                      refine wpAny_ready (rs := [9]) (by kernel_rfl) (by simp) (AllReady.cons rfl (fun K hK => ?_) (AllReady.nil))
                      go_simp
                      refine hK _ _ ?_
                      clear hK K
                      refine wpAny_ready (rs := [10]) (by kernel_rfl) (by simp) (AllReady.cons rfl (fun K hK => ?_) (AllReady.nil))
                      (refine step_list (by rintro ⟨_, _, h⟩; obtain ⟨_, hv, _⟩ := h; cases hv) (by kernel_rfl) ?_; refine wpList_append_own_at _ rfl _ _ 39 rfl W.heap.size 26 i0 (.agg #[.int .i64 (0), .int .i64 (0)]) 2 16 Tryd.underlying39 hi0 hz0 hz1 hz2 rfl (by decide) _ _ _ rfl (HOA.out.below (by go_grown)) _ 1 1 [.int .i64 x, .int .i64 y] rfl rfl (two_cells (by simp) (by simp)) (two_one _ _) (by unfold maxLen; simp <;> omega) (by simp <;> omega) (HBA.out.alloc HBA.out.size _).size ?_; intro v3 w3 hown3 hgrow3 _ _; have HBC := Lib.hid ((HBA.out.alloc HBA.out.size _).grown hgrow3 (HBA.out.alloc HBA.out.size _).size (fun q hq => (World.ownsRow.lt HOA.out q hq).1)); have HOC := Lib.hid (Vecs.snoc (l := [] ++ (L.drop 0).take 0) rfl hown3); clear hown3 hgrow3)
                      refine hK _ _ ?_
                      clear hK K
                      refine wpAny_ready (rs := [14]) (by kernel_rfl) (by simp) (AllReady.cons rfl (fun K hK => ?_) (AllReady.nil))
                      (refine step_list (by rintro ⟨_, _, h⟩; obtain ⟨_, hv, _⟩ := h; cases hv) (by kernel_rfl) ?_; refine wpList_append_own_at _ rfl _ _ 39 rfl W.heap.size 26 i0 (.agg #[.int .i64 (0), .int .i64 (0)]) 2 16 Tryd.underlying39 hi0 hz0 hz1 hz2 rfl (by decide) _ _ _ rfl HOC.out _ _ _ _ rfl (piece_len HT2.out) (piece0 (HCL.out _ HBC.out) HT2.out) (piece_one _) (by unfold maxLen; simp <;> omega) (by simp <;> omega) HBC.out.size ?_; intro v4 w4 hown4 hgrow4 _ _; have HBD := Lib.hid (HBC.out.grown hgrow4 HBC.out.size (fun q hq => (World.ownsRow.lt HOC.out q hq).1)); have HOD := Lib.hid (Vecs.join hown4 (by have := HLm.out; simp <;> omega)); clear hown4 hgrow4)
                      refine hK _ _ ?_
                      clear hK K
                      refine wpAny_seq 15 rfl (by kernel_rfl) ?_
                      simp only [List.drop_succ_cons, List.drop_zero]
                    rotate_left 1
                    focus
                      go_simp
                      refine hK _ _ ?_
                      clear hK K
                      refine wpAny_ready (rs := [4]) (by kernel_rfl) (by simp) (AllReady.cons rfl (fun K hK => ?_) (AllReady.nil))
                      (refine step_list (by rintro ⟨_, _, h⟩; obtain ⟨_, hv, _⟩ := h; cases hv) (by kernel_rfl) ?_; refine wpList_append_own_at _ rfl _ _ 39 rfl W.heap.size 26 i0 (.agg #[.int .i64 (0), .int .i64 (0)]) 2 16 Tryd.underlying39 hi0 hz0 hz1 hz2 rfl (by decide) (.slice (some ⟨W.heap.size, 0, none⟩) 0 0) _ _ rfl HO2.out _ _ _ _ rfl (piece_len HT1.out) (piece0 (HCL.out _ HB2.out) HT1.out) (piece_one _) (by unfold maxLen; simp <;> omega) (by simp <;> omega) HB2.out.size ?_; intro v2 w2 hown2 hgrow2 _ _; have HBA := Lib.hid (HB2.out.grown hgrow2 HB2.out.size (fun q hq => (World.ownsRow.lt HO2.out q hq).1)); have HOA := Lib.hid (Vecs.join (l := []) hown2 (by have := HLm.out; simp <;> omega)); have rr : w2.heap[W.heap.size + 1]? = ((W.drew.alloc (.cells #[] 26)).alloc (.cells #[.int .i64 x, .int .i64 y] 26)).heap[W.heap.size + 1]? := hgrow2.block _ (by simp <;> omega) (by simp [Value.ownBlock]); have RR0 : Hid (w2.cell? ⟨W.heap.size + 1, 0, none⟩ = some (.int .i64 x)) := (cell_same rr 0).trans KE0.out; have RR1 : Hid (w2.cell? ⟨W.heap.size + 1, 1, none⟩ = some (.int .i64 y)) := (cell_same rr 1).trans KE1.out; clear rr; clear hown2 hgrow2)
                      refine hK _ _ ?_
                      clear hK K
                      refine wpAny_ready (rs := [10]) (by kernel_rfl) (by simp) (AllReady.cons rfl (fun K hK => ?_) (AllReady.nil))
                      (refine step_list (by rintro ⟨_, _, h⟩; obtain ⟨_, hv, _⟩ := h; cases hv) (by kernel_rfl) ?_; refine wpList_append_own_at _ rfl _ _ 39 rfl W.heap.size 26 i0 (.agg #[.int .i64 (0), .int .i64 (0)]) 2 16 Tryd.underlying39 hi0 hz0 hz1 hz2 rfl (by decide) _ _ _ rfl HOA.out _ 1 1 [.int .i64 x, .int .i64 y] rfl rfl (two_cells RR0.out RR1.out) (two_one _ _) (by unfold maxLen; simp <;> omega) (by simp <;> omega) HBA.out.size ?_; intro v3 w3 hown3 hgrow3 _ _; have HBC := Lib.hid (HBA.out.grown hgrow3 HBA.out.size (fun q hq => (World.ownsRow.lt HOA.out q hq).1)); have HOC := Lib.hid (Vecs.snoc (l := [] ++ (L.drop 0).take 0) rfl hown3); clear hown3 hgrow3)
                      refine hK _ _ ?_
                      clear hK K
                      refine wpAny_ready (rs := [14]) (by kernel_rfl) (by simp) (AllReady.cons rfl (fun K hK => ?_) (AllReady.nil))
                      (refine step_list (by rintro ⟨_, _, h⟩; obtain ⟨_, hv, _⟩ := h; cases hv) (by kernel_rfl) ?_; refine wpList_append_own_at _ rfl _ _ 39 rfl W.heap.size 26 i0 (.agg #[.int .i64 (0), .int .i64 (0)]) 2 16 Tryd.underlying39 hi0 hz0 hz1 hz2 rfl (by decide) _ _ _ rfl HOC.out _ _ _ _ rfl (piece_len HT2.out) (piece0 (HCL.out _ HBC.out) HT2.out) (piece_one _) (by unfold maxLen; simp <;> omega) (by simp <;> omega) HBC.out.size ?_; intro v4 w4 hown4 hgrow4 _ _; have HBD := Lib.hid (HBC.out.grown hgrow4 HBC.out.size (fun q hq => (World.ownsRow.lt HOC.out q hq).1)); have HOD := Lib.hid (Vecs.join hown4 (by have := HLm.out; simp <;> omega)); clear hown4 hgrow4)
                      refine hK _ _ ?_
                      clear hK K
                      refine wpAny_seq 15 rfl (by kernel_rfl) ?_
                      simp only [List.drop_succ_cons, List.drop_zero]
                rotate_left 3
                focus
                  go_simp
                  refine hK _ _ ?_
                  clear hK K
                  refine wpAny_ready (rs := [0, 9]) (by kernel_rfl) (by simp) (AllReady.cons rfl (fun K hK => ?_) (AllReady.cons rfl (fun K hK => ?_) (AllReady.nil)))
                  focus
                    go_simp
                    refine hK _ _ ?_
                    clear hK K
                    refine wpAny_ready (rs := [4, 9]) (by kernel_rfl) (by simp) (AllReady.cons rfl (fun K hK => ?_) (AllReady.cons rfl (fun K hK => ?_) (AllReady.nil)))
                    focus
                      (refine step_list (by rintro ⟨_, _, h⟩; obtain ⟨_, hv, _⟩ := h; cases hv) (by kernel_rfl) ?_; refine wpList_append_own_at _ rfl _ _ 39 rfl W.heap.size 26 i0 (.agg #[.int .i64 (0), .int .i64 (0)]) 2 16 Tryd.underlying39 hi0 hz0 hz1 hz2 rfl (by decide) (.slice (some ⟨W.heap.size, 0, none⟩) 0 0) _ _ rfl HO1.out _ _ _ _ rfl (piece_len HT1.out) (piece0 (HCL.out _ HB1.out) HT1.out) (piece_one _) (by unfold maxLen; simp <;> omega) (by simp <;> omega) HB1.out.size ?_; intro v2 w2 hown2 hgrow2 _ _; have HBA := Lib.hid (HB1.out.grown hgrow2 HB1.out.size (fun q hq => (World.ownsRow.lt HO1.out q hq).1)); have HOA := Lib.hid (Vecs.join (l := []) hown2 (by have := HLm.out; simp <;> omega)); have b0 := (HBA.out.cell (p := ⟨bb, off + i * 2, none⟩) hrb).trans c0; have b1 := (HBA.out.cell (p := ⟨bb, off + i * 2 + 1, none⟩) hrb).trans c1'; have bl := Nat.lt_of_lt_of_le hrb HBA.out.size; clear hown2 hgrow2)
                      refine hK _ _ ?_
                      clear hK K
                      refine wpAny_ready (rs := [9]) (by kernel_rfl) (by simp) (AllReady.cons rfl (fun K hK => ?_) (AllReady.nil))
                      go_simp
                      refine hK _ _ ?_
                      clear hK K
                      refine wpAny_ready (rs := [10]) (by kernel_rfl) (by simp) (AllReady.cons rfl (fun K hK => ?_) (AllReady.nil))
                      (refine step_list (by rintro ⟨_, _, h⟩; obtain ⟨_, hv, _⟩ := h; cases hv) (by kernel_rfl) ?_; refine wpList_append_own_at _ rfl _ _ 39 rfl W.heap.size 26 i0 (.agg #[.int .i64 (0), .int .i64 (0)]) 2 16 Tryd.underlying39 hi0 hz0 hz1 hz2 rfl (by decide) _ _ _ rfl (HOA.out.below (by go_grown)) _ 1 1 [.int .i64 x, .int .i64 y] rfl rfl (two_cells (by simp) (by simp)) (two_one _ _) (by unfold maxLen; simp <;> omega) (by simp <;> omega) (HBA.out.alloc HBA.out.size _).size ?_; intro v3 w3 hown3 hgrow3 _ _; have HBC := Lib.hid ((HBA.out.alloc HBA.out.size _).grown hgrow3 (HBA.out.alloc HBA.out.size _).size (fun q hq => (World.ownsRow.lt HOA.out q hq).1)); have HOC := Lib.hid (Vecs.snoc (l := [] ++ (L.drop 0).take 0) rfl hown3); clear hown3 hgrow3)
                      refine hK _ _ ?_
                      clear hK K
                      refine wpAny_ready (rs := [14]) (by kernel_rfl) (by simp) (AllReady.cons rfl (fun K hK => ?_) (AllReady.nil))
                      (refine step_list (by rintro ⟨_, _, h⟩; obtain ⟨_, hv, _⟩ := h; cases hv) (by kernel_rfl) ?_; refine wpList_append_own_at _ rfl _ _ 39 rfl W.heap.size 26 i0 (.agg #[.int .i64 (0), .int .i64 (0)]) 2 16 Tryd.underlying39 hi0 hz0 hz1 hz2 rfl (by decide) _ _ _ rfl HOC.out _ _ _ _ rfl (piece_len HT2.out) (piece0 (HCL.out _ HBC.out) HT2.out) (piece_one _) (by unfold maxLen; simp <;> omega) (by simp <;> omega) HBC.out.size ?_; intro v4 w4 hown4 hgrow4 _ _; have HBD := Lib.hid (HBC.out.grown hgrow4 HBC.out.size (fun q hq => (World.ownsRow.lt HOC.out q hq).1)); have HOD := Lib.hid (Vecs.join hown4 (by have := HLm.out; simp <;> omega)); clear hown4 hgrow4)
                      refine hK _ _ ?_
                      clear hK K
                      refine wpAny_seq 15 rfl (by kernel_rfl) ?_
                      simp only [List.drop_succ_cons, List.drop_zero]
                    rotate_left 1
                    focus
                      go_simp
                      refine hK _ _ ?_
                      clear hK K
                      refine wpAny_ready (rs := [4]) (by kernel_rfl) (by simp) (AllReady.cons rfl (fun K hK => ?_) (AllReady.nil))
                      (refine step_list (by rintro ⟨_, _, h⟩; obtain ⟨_, hv, _⟩ := h; cases hv) (by kernel_rfl) ?_; refine wpList_append_own_at _ rfl _ _ 39 rfl W.heap.size 26 i0 (.agg #[.int .i64 (0), .int .i64 (0)]) 2 16 Tryd.underlying39 hi0 hz0 hz1 hz2 rfl (by decide) (.slice (some ⟨W.heap.size, 0, none⟩) 0 0) _ _ rfl HO2.out _ _ _ _ rfl (piece_len HT1.out) (piece0 (HCL.out _ HB2.out) HT1.out) (piece_one _) (by unfold maxLen; simp <;> omega) (by simp <;> omega) HB2.out.size ?_; intro v2 w2 hown2 hgrow2 _ _; have HBA := Lib.hid (HB2.out.grown hgrow2 HB2.out.size (fun q hq => (World.ownsRow.lt HO2.out q hq).1)); have HOA := Lib.hid (Vecs.join (l := []) hown2 (by have := HLm.out; simp <;> omega)); have rr : w2.heap[W.heap.size + 1]? = ((W.drew.alloc (.cells #[] 26)).alloc (.cells #[.int .i64 x, .int .i64 y] 26)).heap[W.heap.size + 1]? := hgrow2.block _ (by simp <;> omega) (by simp [Value.ownBlock]); have RR0 : Hid (w2.cell? ⟨W.heap.size + 1, 0, none⟩ = some (.int .i64 x)) := (cell_same rr 0).trans KE0.out; have RR1 : Hid (w2.cell? ⟨W.heap.size + 1, 1, none⟩ = some (.int .i64 y)) := (cell_same rr 1).trans KE1.out; clear rr; clear hown2 hgrow2)
                      refine hK _ _ ?_
                      clear hK K
                      refine wpAny_ready (rs := [10]) (by kernel_rfl) (by simp) (AllReady.cons rfl (fun K hK => ?_) (AllReady.nil))
                      (refine step_list (by rintro ⟨_, _, h⟩; obtain ⟨_, hv, _⟩ := h; cases hv) (by kernel_rfl) ?_; refine wpList_append_own_at _ rfl _ _ 39 rfl W.heap.size 26 i0 (.agg #[.int .i64 (0), .int .i64 (0)]) 2 16 Tryd.underlying39 hi0 hz0 hz1 hz2 rfl (by decide) _ _ _ rfl HOA.out _ 1 1 [.int .i64 x, .int .i64 y] rfl rfl (two_cells RR0.out RR1.out) (two_one _ _) (by unfold maxLen; simp <;> omega) (by simp <;> omega) HBA.out.size ?_; intro v3 w3 hown3 hgrow3 _ _; have HBC := Lib.hid (HBA.out.grown hgrow3 HBA.out.size (fun q hq => (World.ownsRow.lt HOA.out q hq).1)); have HOC := Lib.hid (Vecs.snoc (l := [] ++ (L.drop 0).take 0) rfl hown3); clear hown3 hgrow3)
                      refine hK _ _ ?_
                      clear hK K
                      refine wpAny_ready (rs := [14]) (by kernel_rfl) (by simp) (AllReady.cons rfl (fun K hK => ?_) (AllReady.nil))
                      (refine step_list (by rintro ⟨_, _, h⟩; obtain ⟨_, hv, _⟩ := h; cases hv) (by kernel_rfl) ?_; refine wpList_append_own_at _ rfl _ _ 39 rfl W.heap.size 26 i0 (.agg #[.int .i64 (0), .int .i64 (0)]) 2 16 Tryd.underlying39 hi0 hz0 hz1 hz2 rfl (by decide) _ _ _ rfl HOC.out _ _ _ _ rfl (piece_len HT2.out) (piece0 (HCL.out _ HBC.out) HT2.out) (piece_one _) (by unfold maxLen; simp <;> omega) (by simp <;> omega) HBC.out.size ?_; intro v4 w4 hown4 hgrow4 _ _; have HBD := Lib.hid (HBC.out.grown hgrow4 HBC.out.size (fun q hq => (World.ownsRow.lt HOC.out q hq).1)); have HOD := Lib.hid (Vecs.join hown4 (by have := HLm.out; simp <;> omega)); clear hown4 hgrow4)
                      refine hK _ _ ?_
                      clear hK K
                      refine wpAny_seq 15 rfl (by kernel_rfl) ?_
                      simp only [List.drop_succ_cons, List.drop_zero]
                  rotate_left 2
                  focus
                    go_simp
                    refine hK _ _ ?_
                    clear hK K
                    refine wpAny_ready (rs := [0]) (by kernel_rfl) (by simp) (AllReady.cons rfl (fun K hK => ?_) (AllReady.nil))
                    go_simp
                    refine hK _ _ ?_
                    clear hK K
                    refine wpAny_ready (rs := [4]) (by kernel_rfl) (by simp) (AllReady.cons rfl (fun K hK => ?_) (AllReady.nil))
                    (refine step_list (by rintro ⟨_, _, h⟩; obtain ⟨_, hv, _⟩ := h; cases hv) (by kernel_rfl) ?_; refine wpList_append_own_at _ rfl _ _ 39 rfl W.heap.size 26 i0 (.agg #[.int .i64 (0), .int .i64 (0)]) 2 16 Tryd.underlying39 hi0 hz0 hz1 hz2 rfl (by decide) (.slice (some ⟨W.heap.size + 1, 0, none⟩) 0 0) _ _ rfl HO3.out _ _ _ _ rfl (piece_len HT1.out) (piece0 (HCL.out _ HB3.out) HT1.out) (piece_one _) (by unfold maxLen; simp <;> omega) (by simp <;> omega) HB3.out.size ?_; intro v2 w2 hown2 hgrow2 _ _; have HBA := Lib.hid (HB3.out.grown hgrow2 HB3.out.size (fun q hq => (World.ownsRow.lt HO3.out q hq).1)); have HOA := Lib.hid (Vecs.join (l := []) hown2 (by have := HLm.out; simp <;> omega)); have rr : w2.heap[W.heap.size]? = ((W.drew.alloc (.cells #[.int .i64 x, .int .i64 y] 26)).alloc (.cells #[] 26)).heap[W.heap.size]? := hgrow2.block _ (by simp <;> omega) (by simp [Value.ownBlock]); have RR0 : Hid (w2.cell? ⟨W.heap.size, 0, none⟩ = some (.int .i64 x)) := (cell_same rr 0).trans KR0.out; have RR1 : Hid (w2.cell? ⟨W.heap.size, 1, none⟩ = some (.int .i64 y)) := (cell_same rr 1).trans KR1.out; clear rr; clear hown2 hgrow2)
                    refine hK _ _ ?_
                    clear hK K
                    refine wpAny_ready (rs := [10]) (by kernel_rfl) (by simp) (AllReady.cons rfl (fun K hK => ?_) (AllReady.nil))
                    (refine step_list (by rintro ⟨_, _, h⟩; obtain ⟨_, hv, _⟩ := h; cases hv) (by kernel_rfl) ?_; refine wpList_append_own_at _ rfl _ _ 39 rfl W.heap.size 26 i0 (.agg #[.int .i64 (0), .int .i64 (0)]) 2 16 Tryd.underlying39 hi0 hz0 hz1 hz2 rfl (by decide) _ _ _ rfl HOA.out _ 1 1 [.int .i64 x, .int .i64 y] rfl rfl (two_cells RR0.out RR1.out) (two_one _ _) (by unfold maxLen; simp <;> omega) (by simp <;> omega) HBA.out.size ?_; intro v3 w3 hown3 hgrow3 _ _; have HBC := Lib.hid (HBA.out.grown hgrow3 HBA.out.size (fun q hq => (World.ownsRow.lt HOA.out q hq).1)); have HOC := Lib.hid (Vecs.snoc (l := [] ++ (L.drop 0).take 0) rfl hown3); clear hown3 hgrow3)
                    refine hK _ _ ?_
                    clear hK K
                    refine wpAny_ready (rs := [14]) (by kernel_rfl) (by simp) (AllReady.cons rfl (fun K hK => ?_) (AllReady.nil))
                    (refine step_list (by rintro ⟨_, _, h⟩; obtain ⟨_, hv, _⟩ := h; cases hv) (by kernel_rfl) ?_; refine wpList_append_own_at _ rfl _ _ 39 rfl W.heap.size 26 i0 (.agg #[.int .i64 (0), .int .i64 (0)]) 2 16 Tryd.underlying39 hi0 hz0 hz1 hz2 rfl (by decide) _ _ _ rfl HOC.out _ _ _ _ rfl (piece_len HT2.out) (piece0 (HCL.out _ HBC.out) HT2.out) (piece_one _) (by unfold maxLen; simp <;> omega) (by simp <;> omega) HBC.out.size ?_; intro v4 w4 hown4 hgrow4 _ _; have HBD := Lib.hid (HBC.out.grown hgrow4 HBC.out.size (fun q hq => (World.ownsRow.lt HOC.out q hq).1)); have HOD := Lib.hid (Vecs.join hown4 (by have := HLm.out; simp <;> omega)); clear hown4 hgrow4)
                    refine hK _ _ ?_
                    clear hK K
                    refine wpAny_seq 15 rfl (by kernel_rfl) ?_
                    simp only [List.drop_succ_cons, List.drop_zero]
                all_goals
                  rw [HR.out] at HOD
                  have hV4 := HOD.out.lower (base' := w.heap.size) hwW
                  have hB4 := hWb.trans (HBD.out.mono hwW)
                  have HO4 : Hid (OutI w l (i + 1) (insL L 0 (x, y)) v4 w4) := ⟨HIn.out, Vecs.formOf hV4 (by rw [insL_len HKL.out]; omega), hV4⟩
                  clear hV4 HOD HBD HOC HBC HOA HBA
                  go_wp2
                  go_roundw
                  case rel => exact ⟨i + 1, _, by go_num, by omega, HO4, hB4⟩
                  case measure => simp [intOf]; omega
            · by_cases hck : cc = k
              · have hmk : k = m := by omega
                have hck' : k = cc := by omega
                clear hck
                subst hmk
                subst hck'
                have HR : Hid ((([] ++ (L.drop 0).take k) ++ [(x, y)]) ++ [] = insL L k (x, y)) := by
                  have := HRf.out
                  rwa [Nat.sub_self, List.take_zero] at this
                clear HRf HM
                have r5 : ¬ k * 2 = 0 := by omega
                have r6 : ¬ k = 0 := hk0
                go_wp2
                refine wp_region_any (by kernel_rfl) ?_
                try (change wpAny _ _ _ _ _ _ _ (World.drew _))
                refine wpAny_take (i := 1) (v := ?_) rfl (by kernel_rfl) (by kernel_rfl) (by kernel_rfl) (fun _ _ _ h => h) (Or.inl ⟨by rfl, ?_⟩) ?_
                rotate_left
                focus (intro w0; go_simp; try with_reducible rfl)
                refine wpAny_take (i := 2) (v := ?_) rfl (by kernel_rfl) (by kernel_rfl) (by kernel_rfl) (fun _ _ _ h => h) (Or.inl ⟨by rfl, ?_⟩) ?_
                rotate_left
                focus (intro w0; go_simp; try with_reducible rfl)
                refine wpAny_take (i := 3) (v := ?_) rfl (by kernel_rfl) (by kernel_rfl) (by kernel_rfl) (fun _ _ _ h => h) (Or.inl ⟨by rfl, ?_⟩) ?_
                rotate_left
                focus (intro w0; go_simp; try with_reducible rfl)
                refine wpAny_take (i := 5) (v := ?_) rfl (by kernel_rfl) (by kernel_rfl) (by kernel_rfl) (fun _ _ _ h => h) (Or.inl ⟨by rfl, ?_⟩) ?_
                rotate_left
                focus (intro w0; go_simp; try with_reducible rfl)
                refine wpAny_take (i := 6) (v := ?_) rfl (by kernel_rfl) (by kernel_rfl) (by kernel_rfl) (fun _ _ _ h => h) (Or.inl ⟨by rfl, ?_⟩) ?_
                rotate_left
                focus (intro w0; go_simp; try with_reducible rfl)
                refine wpAny_take (i := 7) (v := ?_) rfl (by kernel_rfl) (by kernel_rfl) (by kernel_rfl) (fun _ _ _ h => h) (Or.inl ⟨by rfl, ?_⟩) ?_
                rotate_left
                focus (intro w0; go_simp; try with_reducible rfl)
                refine wpAny_take (i := 11) (v := ?_) rfl (by kernel_rfl) (by kernel_rfl) (by kernel_rfl) (fun _ _ _ h => h) (Or.inl ⟨by rfl, ?_⟩) ?_
                rotate_left
                focus (intro w0; go_simp; try with_reducible rfl)
                refine wpAny_take (i := 12) (v := ?_) rfl (by kernel_rfl) (by kernel_rfl) (by kernel_rfl) (fun _ _ _ h => h) (Or.inl ⟨by rfl, ?_⟩) ?_
                rotate_left
                focus (intro w0; go_simp; try with_reducible rfl)
                refine wpAny_take (i := 13) (v := ?_) rfl (by kernel_rfl) (by kernel_rfl) (by kernel_rfl) (fun _ _ _ h => h) (Or.inl ⟨by rfl, ?_⟩) ?_
                rotate_left
                focus (intro w0; go_simp; try with_reducible rfl)
                refine wpAny_ready (rs := [0, 8]) (by kernel_rfl) (by simp) (AllReady.cons rfl (fun K hK => ?_) (AllReady.cons rfl (fun K hK => ?_) (AllReady.nil)))
                focus
                  go_simp
                  refine hK _ _ ?_
                  clear hK K
                  refine wpAny_ready (rs := [4, 8]) (by kernel_rfl) (by simp) (AllReady.cons rfl (fun K hK => ?_) (AllReady.cons rfl (fun K hK => ?_) (AllReady.nil)))
                  focus
                    (refine step_list (by rintro ⟨_, _, h⟩; obtain ⟨_, hv, _⟩ := h; cases hv) (by kernel_rfl) ?_; refine wpList_append_own_at _ rfl _ _ 39 rfl W.heap.size 26 i0 (.agg #[.int .i64 (0), .int .i64 (0)]) 2 16 Tryd.underlying39 hi0 hz0 hz1 hz2 rfl (by decide) (.slice (some ⟨W.heap.size, 0, none⟩) 0 0) _ _ rfl HO1.out _ _ _ _ rfl (piece_len HT1.out) (piece0 (HCL.out _ HB1.out) HT1.out) (piece_one _) (by unfold maxLen; simp <;> omega) (by simp <;> omega) HB1.out.size ?_; intro v2 w2 hown2 hgrow2 _ _; have HBA := Lib.hid (HB1.out.grown hgrow2 HB1.out.size (fun q hq => (World.ownsRow.lt HO1.out q hq).1)); have HOA := Lib.hid (Vecs.join (l := []) hown2 (by have := HLm.out; simp <;> omega)); have b0 := (HBA.out.cell (p := ⟨bb, off + i * 2, none⟩) hrb).trans c0; have b1 := (HBA.out.cell (p := ⟨bb, off + i * 2 + 1, none⟩) hrb).trans c1'; have bl := Nat.lt_of_lt_of_le hrb HBA.out.size; clear hown2 hgrow2)
                    refine hK _ _ ?_
                    clear hK K
                    refine wpAny_ready (rs := [8]) (by kernel_rfl) (by simp) (AllReady.cons rfl (fun K hK => ?_) (AllReady.nil))
                    go_simp
                    refine hK _ _ ?_
                    clear hK K
                    refine wpAny_ready (rs := [9]) (by kernel_rfl) (by simp) (AllReady.cons rfl (fun K hK => ?_) (AllReady.nil))
                    go_simp
                    refine hK _ _ ?_
                    clear hK K
                    refine wpAny_ready (rs := [10]) (by kernel_rfl) (by simp) (AllReady.cons rfl (fun K hK => ?_) (AllReady.nil))
                    (refine step_list (by rintro ⟨_, _, h⟩; obtain ⟨_, hv, _⟩ := h; cases hv) (by kernel_rfl) ?_; refine wpList_append_own_at _ rfl _ _ 39 rfl W.heap.size 26 i0 (.agg #[.int .i64 (0), .int .i64 (0)]) 2 16 Tryd.underlying39 hi0 hz0 hz1 hz2 rfl (by decide) _ _ _ rfl (HOA.out.below (by go_grown)) _ 1 1 [.int .i64 x, .int .i64 y] rfl rfl (two_cells (by simp) (by simp)) (two_one _ _) (by unfold maxLen; simp <;> omega) (by simp <;> omega) (HBA.out.alloc HBA.out.size _).size ?_; intro v3 w3 hown3 hgrow3 _ _; have HBC := Lib.hid ((HBA.out.alloc HBA.out.size _).grown hgrow3 (HBA.out.alloc HBA.out.size _).size (fun q hq => (World.ownsRow.lt HOA.out q hq).1)); have HOC := Lib.hid (Vecs.snoc (l := [] ++ (L.drop 0).take k) rfl hown3); clear hown3 hgrow3)
                    refine hK _ _ ?_
                    clear hK K
                    refine wpAny_ready (rs := [14]) (by kernel_rfl) (by simp) (AllReady.cons rfl (fun K hK => ?_) (AllReady.nil))
                    (refine step_list (by rintro ⟨_, _, h⟩; obtain ⟨_, hv, _⟩ := h; cases hv) (by kernel_rfl) ?_; refine wpList_append_own_at _ rfl _ _ 39 rfl W.heap.size 26 i0 (.agg #[.int .i64 (0), .int .i64 (0)]) 2 16 Tryd.underlying39 hi0 hz0 hz1 hz2 rfl (by decide) _ _ _ rfl HOC.out _ 0 _ [] rfl rfl (fun j u hj => by simp at hj) (fun u hu => by simp at hu) (by unfold maxLen; simp <;> omega) (by simp <;> omega) HBC.out.size ?_; intro v4 w4 hown4 hgrow4 _ _; have HBD := Lib.hid (HBC.out.grown hgrow4 HBC.out.size (fun q hq => (World.ownsRow.lt HOC.out q hq).1)); have HOD := Lib.hid (Vecs.join (m := []) hown4 (by have := HLm.out; simp <;> omega)); clear hown4 hgrow4)
                    refine hK _ _ ?_
                    clear hK K
                    refine wpAny_seq 15 rfl (by kernel_rfl) ?_
                    simp only [List.drop_succ_cons, List.drop_zero]
                  rotate_left 1
                  focus
                    go_simp
                    refine hK _ _ ?_
                    clear hK K
                    refine wpAny_ready (rs := [4, 9]) (by kernel_rfl) (by simp) (AllReady.cons rfl (fun K hK => ?_) (AllReady.cons rfl (fun K hK => ?_) (AllReady.nil)))
                    focus
                      (refine step_list (by rintro ⟨_, _, h⟩; obtain ⟨_, hv, _⟩ := h; cases hv) (by kernel_rfl) ?_; refine wpList_append_own_at _ rfl _ _ 39 rfl W.heap.size 26 i0 (.agg #[.int .i64 (0), .int .i64 (0)]) 2 16 Tryd.underlying39 hi0 hz0 hz1 hz2 rfl (by decide) (.slice (some ⟨W.heap.size, 0, none⟩) 0 0) _ _ rfl HO1.out _ _ _ _ rfl (piece_len HT1.out) (piece0 (HCL.out _ HB1.out) HT1.out) (piece_one _) (by unfold maxLen; simp <;> omega) (by simp <;> omega) HB1.out.size ?_; intro v2 w2 hown2 hgrow2 _ _; have HBA := Lib.hid (HB1.out.grown hgrow2 HB1.out.size (fun q hq => (World.ownsRow.lt HO1.out q hq).1)); have HOA := Lib.hid (Vecs.join (l := []) hown2 (by have := HLm.out; simp <;> omega)); have b0 := (HBA.out.cell (p := ⟨bb, off + i * 2, none⟩) hrb).trans c0; have b1 := (HBA.out.cell (p := ⟨bb, off + i * 2 + 1, none⟩) hrb).trans c1'; have bl := Nat.lt_of_lt_of_le hrb HBA.out.size; clear hown2 hgrow2)
                      refine hK _ _ ?_
                      clear hK K
                      refine wpAny_ready (rs := [9]) (by kernel_rfl) (by simp) (AllReady.cons rfl (fun K hK => ?_) (AllReady.nil))
                      go_simp
                      refine hK _ _ ?_
                      clear hK K
                      refine wpAny_ready (rs := [10]) (by kernel_rfl) (by simp) (AllReady.cons rfl (fun K hK => ?_) (AllReady.nil))
                      (refine step_list (by rintro ⟨_, _, h⟩; obtain ⟨_, hv, _⟩ := h; cases hv) (by kernel_rfl) ?_; refine wpList_append_own_at _ rfl _ _ 39 rfl W.heap.size 26 i0 (.agg #[.int .i64 (0), .int .i64 (0)]) 2 16 Tryd.underlying39 hi0 hz0 hz1 hz2 rfl (by decide) _ _ _ rfl (HOA.out.below (by go_grown)) _ 1 1 [.int .i64 x, .int .i64 y] rfl rfl (two_cells (by simp) (by simp)) (two_one _ _) (by unfold maxLen; simp <;> omega) (by simp <;> omega) (HBA.out.alloc HBA.out.size _).size ?_; intro v3 w3 hown3 hgrow3 _ _; have HBC := Lib.hid ((HBA.out.alloc HBA.out.size _).grown hgrow3 (HBA.out.alloc HBA.out.size _).size (fun q hq => (World.ownsRow.lt HOA.out q hq).1)); have HOC := Lib.hid (Vecs.snoc (l := [] ++ (L.drop 0).take k) rfl hown3); clear hown3 hgrow3)
                      refine hK _ _ ?_
                      clear hK K
                      refine wpAny_ready (rs := [14]) (by kernel_rfl) (by simp) (AllReady.cons rfl (fun K hK => ?_) (AllReady.nil))
                      (refine step_list (by rintro ⟨_, _, h⟩; obtain ⟨_, hv, _⟩ := h; cases hv) (by kernel_rfl) ?_; refine wpList_append_own_at _ rfl _ _ 39 rfl W.heap.size 26 i0 (.agg #[.int .i64 (0), .int .i64 (0)]) 2 16 Tryd.underlying39 hi0 hz0 hz1 hz2 rfl (by decide) _ _ _ rfl HOC.out _ 0 _ [] rfl rfl (fun j u hj => by simp at hj) (fun u hu => by simp at hu) (by unfold maxLen; simp <;> omega) (by simp <;> omega) HBC.out.size ?_; intro v4 w4 hown4 hgrow4 _ _; have HBD := Lib.hid (HBC.out.grown hgrow4 HBC.out.size (fun q hq => (World.ownsRow.lt HOC.out q hq).1)); have HOD := Lib.hid (Vecs.join (m := []) hown4 (by have := HLm.out; simp <;> omega)); clear hown4 hgrow4)
                      refine hK _ _ ?_
                      clear hK K
                      refine wpAny_seq 15 rfl (by kernel_rfl) ?_
                      simp only [List.drop_succ_cons, List.drop_zero]
                    rotate_left 1
                    focus
                      go_simp
                      refine hK _ _ ?_
                      clear hK K
                      refine wpAny_ready (rs := [4]) (by kernel_rfl) (by simp) (AllReady.cons rfl (fun K hK => ?_) (AllReady.nil))
                      (refine step_list (by rintro ⟨_, _, h⟩; obtain ⟨_, hv, _⟩ := h; cases hv) (by kernel_rfl) ?_; refine wpList_append_own_at _ rfl _ _ 39 rfl W.heap.size 26 i0 (.agg #[.int .i64 (0), .int .i64 (0)]) 2 16 Tryd.underlying39 hi0 hz0 hz1 hz2 rfl (by decide) (.slice (some ⟨W.heap.size, 0, none⟩) 0 0) _ _ rfl HO2.out _ _ _ _ rfl (piece_len HT1.out) (piece0 (HCL.out _ HB2.out) HT1.out) (piece_one _) (by unfold maxLen; simp <;> omega) (by simp <;> omega) HB2.out.size ?_; intro v2 w2 hown2 hgrow2 _ _; have HBA := Lib.hid (HB2.out.grown hgrow2 HB2.out.size (fun q hq => (World.ownsRow.lt HO2.out q hq).1)); have HOA := Lib.hid (Vecs.join (l := []) hown2 (by have := HLm.out; simp <;> omega)); have rr : w2.heap[W.heap.size + 1]? = ((W.drew.alloc (.cells #[] 26)).alloc (.cells #[.int .i64 x, .int .i64 y] 26)).heap[W.heap.size + 1]? := hgrow2.block _ (by simp <;> omega) (by simp [Value.ownBlock]); have RR0 : Hid (w2.cell? ⟨W.heap.size + 1, 0, none⟩ = some (.int .i64 x)) := (cell_same rr 0).trans KE0.out; have RR1 : Hid (w2.cell? ⟨W.heap.size + 1, 1, none⟩ = some (.int .i64 y)) := (cell_same rr 1).trans KE1.out; clear rr; clear hown2 hgrow2)
                      refine hK _ _ ?_
                      clear hK K
                      refine wpAny_ready (rs := [10]) (by kernel_rfl) (by simp) (AllReady.cons rfl (fun K hK => ?_) (AllReady.nil))
                      (refine step_list (by rintro ⟨_, _, h⟩; obtain ⟨_, hv, _⟩ := h; cases hv) (by kernel_rfl) ?_; refine wpList_append_own_at _ rfl _ _ 39 rfl W.heap.size 26 i0 (.agg #[.int .i64 (0), .int .i64 (0)]) 2 16 Tryd.underlying39 hi0 hz0 hz1 hz2 rfl (by decide) _ _ _ rfl HOA.out _ 1 1 [.int .i64 x, .int .i64 y] rfl rfl (two_cells RR0.out RR1.out) (two_one _ _) (by unfold maxLen; simp <;> omega) (by simp <;> omega) HBA.out.size ?_; intro v3 w3 hown3 hgrow3 _ _; have HBC := Lib.hid (HBA.out.grown hgrow3 HBA.out.size (fun q hq => (World.ownsRow.lt HOA.out q hq).1)); have HOC := Lib.hid (Vecs.snoc (l := [] ++ (L.drop 0).take k) rfl hown3); clear hown3 hgrow3)
                      refine hK _ _ ?_
                      clear hK K
                      refine wpAny_ready (rs := [14]) (by kernel_rfl) (by simp) (AllReady.cons rfl (fun K hK => ?_) (AllReady.nil))
                      (refine step_list (by rintro ⟨_, _, h⟩; obtain ⟨_, hv, _⟩ := h; cases hv) (by kernel_rfl) ?_; refine wpList_append_own_at _ rfl _ _ 39 rfl W.heap.size 26 i0 (.agg #[.int .i64 (0), .int .i64 (0)]) 2 16 Tryd.underlying39 hi0 hz0 hz1 hz2 rfl (by decide) _ _ _ rfl HOC.out _ 0 _ [] rfl rfl (fun j u hj => by simp at hj) (fun u hu => by simp at hu) (by unfold maxLen; simp <;> omega) (by simp <;> omega) HBC.out.size ?_; intro v4 w4 hown4 hgrow4 _ _; have HBD := Lib.hid (HBC.out.grown hgrow4 HBC.out.size (fun q hq => (World.ownsRow.lt HOC.out q hq).1)); have HOD := Lib.hid (Vecs.join (m := []) hown4 (by have := HLm.out; simp <;> omega)); clear hown4 hgrow4)
                      refine hK _ _ ?_
                      clear hK K
                      refine wpAny_seq 15 rfl (by kernel_rfl) ?_
                      simp only [List.drop_succ_cons, List.drop_zero]
                rotate_left 3
                focus
                  go_simp
                  refine hK _ _ ?_
                  clear hK K
                  refine wpAny_ready (rs := [0, 9]) (by kernel_rfl) (by simp) (AllReady.cons rfl (fun K hK => ?_) (AllReady.cons rfl (fun K hK => ?_) (AllReady.nil)))
                  focus
                    go_simp
                    refine hK _ _ ?_
                    clear hK K
                    refine wpAny_ready (rs := [4, 9]) (by kernel_rfl) (by simp) (AllReady.cons rfl (fun K hK => ?_) (AllReady.cons rfl (fun K hK => ?_) (AllReady.nil)))
                    focus
                      (refine step_list (by rintro ⟨_, _, h⟩; obtain ⟨_, hv, _⟩ := h; cases hv) (by kernel_rfl) ?_; refine wpList_append_own_at _ rfl _ _ 39 rfl W.heap.size 26 i0 (.agg #[.int .i64 (0), .int .i64 (0)]) 2 16 Tryd.underlying39 hi0 hz0 hz1 hz2 rfl (by decide) (.slice (some ⟨W.heap.size, 0, none⟩) 0 0) _ _ rfl HO1.out _ _ _ _ rfl (piece_len HT1.out) (piece0 (HCL.out _ HB1.out) HT1.out) (piece_one _) (by unfold maxLen; simp <;> omega) (by simp <;> omega) HB1.out.size ?_; intro v2 w2 hown2 hgrow2 _ _; have HBA := Lib.hid (HB1.out.grown hgrow2 HB1.out.size (fun q hq => (World.ownsRow.lt HO1.out q hq).1)); have HOA := Lib.hid (Vecs.join (l := []) hown2 (by have := HLm.out; simp <;> omega)); have b0 := (HBA.out.cell (p := ⟨bb, off + i * 2, none⟩) hrb).trans c0; have b1 := (HBA.out.cell (p := ⟨bb, off + i * 2 + 1, none⟩) hrb).trans c1'; have bl := Nat.lt_of_lt_of_le hrb HBA.out.size; clear hown2 hgrow2)
                      refine hK _ _ ?_
                      clear hK K
                      refine wpAny_ready (rs := [9]) (by kernel_rfl) (by simp) (AllReady.cons rfl (fun K hK => ?_) (AllReady.nil))
                      go_simp
                      refine hK _ _ ?_
                      clear hK K
                      refine wpAny_ready (rs := [10]) (by kernel_rfl) (by simp) (AllReady.cons rfl (fun K hK => ?_) (AllReady.nil))
                      (refine step_list (by rintro ⟨_, _, h⟩; obtain ⟨_, hv, _⟩ := h; cases hv) (by kernel_rfl) ?_; refine wpList_append_own_at _ rfl _ _ 39 rfl W.heap.size 26 i0 (.agg #[.int .i64 (0), .int .i64 (0)]) 2 16 Tryd.underlying39 hi0 hz0 hz1 hz2 rfl (by decide) _ _ _ rfl (HOA.out.below (by go_grown)) _ 1 1 [.int .i64 x, .int .i64 y] rfl rfl (two_cells (by simp) (by simp)) (two_one _ _) (by unfold maxLen; simp <;> omega) (by simp <;> omega) (HBA.out.alloc HBA.out.size _).size ?_; intro v3 w3 hown3 hgrow3 _ _; have HBC := Lib.hid ((HBA.out.alloc HBA.out.size _).grown hgrow3 (HBA.out.alloc HBA.out.size _).size (fun q hq => (World.ownsRow.lt HOA.out q hq).1)); have HOC := Lib.hid (Vecs.snoc (l := [] ++ (L.drop 0).take k) rfl hown3); clear hown3 hgrow3)
                      refine hK _ _ ?_
                      clear hK K
                      refine wpAny_ready (rs := [14]) (by kernel_rfl) (by simp) (AllReady.cons rfl (fun K hK => ?_) (AllReady.nil))
                      (refine step_list (by rintro ⟨_, _, h⟩; obtain ⟨_, hv, _⟩ := h; cases hv) (by kernel_rfl) ?_; refine wpList_append_own_at _ rfl _ _ 39 rfl W.heap.size 26 i0 (.agg #[.int .i64 (0), .int .i64 (0)]) 2 16 Tryd.underlying39 hi0 hz0 hz1 hz2 rfl (by decide) _ _ _ rfl HOC.out _ 0 _ [] rfl rfl (fun j u hj => by simp at hj) (fun u hu => by simp at hu) (by unfold maxLen; simp <;> omega) (by simp <;> omega) HBC.out.size ?_; intro v4 w4 hown4 hgrow4 _ _; have HBD := Lib.hid (HBC.out.grown hgrow4 HBC.out.size (fun q hq => (World.ownsRow.lt HOC.out q hq).1)); have HOD := Lib.hid (Vecs.join (m := []) hown4 (by have := HLm.out; simp <;> omega)); clear hown4 hgrow4)
                      refine hK _ _ ?_
                      clear hK K
                      refine wpAny_seq 15 rfl (by kernel_rfl) ?_
                      simp only [List.drop_succ_cons, List.drop_zero]
                    rotate_left 1
                    focus
                      go_simp
                      refine hK _ _ ?_
                      clear hK K
                      refine wpAny_ready (rs := [4]) (by kernel_rfl) (by simp) (AllReady.cons rfl (fun K hK => ?_) (AllReady.nil))
                      (refine step_list (by rintro ⟨_, _, h⟩; obtain ⟨_, hv, _⟩ := h; cases hv) (by kernel_rfl) ?_; refine wpList_append_own_at _ rfl _ _ 39 rfl W.heap.size 26 i0 (.agg #[.int .i64 (0), .int .i64 (0)]) 2 16 Tryd.underlying39 hi0 hz0 hz1 hz2 rfl (by decide) (.slice (some ⟨W.heap.size, 0, none⟩) 0 0) _ _ rfl HO2.out _ _ _ _ rfl (piece_len HT1.out) (piece0 (HCL.out _ HB2.out) HT1.out) (piece_one _) (by unfold maxLen; simp <;> omega) (by simp <;> omega) HB2.out.size ?_; intro v2 w2 hown2 hgrow2 _ _; have HBA := Lib.hid (HB2.out.grown hgrow2 HB2.out.size (fun q hq => (World.ownsRow.lt HO2.out q hq).1)); have HOA := Lib.hid (Vecs.join (l := []) hown2 (by have := HLm.out; simp <;> omega)); have rr : w2.heap[W.heap.size + 1]? = ((W.drew.alloc (.cells #[] 26)).alloc (.cells #[.int .i64 x, .int .i64 y] 26)).heap[W.heap.size + 1]? := hgrow2.block _ (by simp <;> omega) (by simp [Value.ownBlock]); have RR0 : Hid (w2.cell? ⟨W.heap.size + 1, 0, none⟩ = some (.int .i64 x)) := (cell_same rr 0).trans KE0.out; have RR1 : Hid (w2.cell? ⟨W.heap.size + 1, 1, none⟩ = some (.int .i64 y)) := (cell_same rr 1).trans KE1.out; clear rr; clear hown2 hgrow2)
                      refine hK _ _ ?_
                      clear hK K
                      refine wpAny_ready (rs := [10]) (by kernel_rfl) (by simp) (AllReady.cons rfl (fun K hK => ?_) (AllReady.nil))
                      (refine step_list (by rintro ⟨_, _, h⟩; obtain ⟨_, hv, _⟩ := h; cases hv) (by kernel_rfl) ?_; refine wpList_append_own_at _ rfl _ _ 39 rfl W.heap.size 26 i0 (.agg #[.int .i64 (0), .int .i64 (0)]) 2 16 Tryd.underlying39 hi0 hz0 hz1 hz2 rfl (by decide) _ _ _ rfl HOA.out _ 1 1 [.int .i64 x, .int .i64 y] rfl rfl (two_cells RR0.out RR1.out) (two_one _ _) (by unfold maxLen; simp <;> omega) (by simp <;> omega) HBA.out.size ?_; intro v3 w3 hown3 hgrow3 _ _; have HBC := Lib.hid (HBA.out.grown hgrow3 HBA.out.size (fun q hq => (World.ownsRow.lt HOA.out q hq).1)); have HOC := Lib.hid (Vecs.snoc (l := [] ++ (L.drop 0).take k) rfl hown3); clear hown3 hgrow3)
                      refine hK _ _ ?_
                      clear hK K
                      refine wpAny_ready (rs := [14]) (by kernel_rfl) (by simp) (AllReady.cons rfl (fun K hK => ?_) (AllReady.nil))
                      (refine step_list (by rintro ⟨_, _, h⟩; obtain ⟨_, hv, _⟩ := h; cases hv) (by kernel_rfl) ?_; refine wpList_append_own_at _ rfl _ _ 39 rfl W.heap.size 26 i0 (.agg #[.int .i64 (0), .int .i64 (0)]) 2 16 Tryd.underlying39 hi0 hz0 hz1 hz2 rfl (by decide) _ _ _ rfl HOC.out _ 0 _ [] rfl rfl (fun j u hj => by simp at hj) (fun u hu => by simp at hu) (by unfold maxLen; simp <;> omega) (by simp <;> omega) HBC.out.size ?_; intro v4 w4 hown4 hgrow4 _ _; have HBD := Lib.hid (HBC.out.grown hgrow4 HBC.out.size (fun q hq => (World.ownsRow.lt HOC.out q hq).1)); have HOD := Lib.hid (Vecs.join (m := []) hown4 (by have := HLm.out; simp <;> omega)); clear hown4 hgrow4)
                      refine hK _ _ ?_
                      clear hK K
                      refine wpAny_seq 15 rfl (by kernel_rfl) ?_
                      simp only [List.drop_succ_cons, List.drop_zero]
                  rotate_left 2
                  focus
                    go_simp
                    refine hK _ _ ?_
                    clear hK K
                    refine wpAny_ready (rs := [0]) (by kernel_rfl) (by simp) (AllReady.cons rfl (fun K hK => ?_) (AllReady.nil))
                    go_simp
                    refine hK _ _ ?_
                    clear hK K
                    refine wpAny_ready (rs := [4]) (by kernel_rfl) (by simp) (AllReady.cons rfl (fun K hK => ?_) (AllReady.nil))
                    (refine step_list (by rintro ⟨_, _, h⟩; obtain ⟨_, hv, _⟩ := h; cases hv) (by kernel_rfl) ?_; refine wpList_append_own_at _ rfl _ _ 39 rfl W.heap.size 26 i0 (.agg #[.int .i64 (0), .int .i64 (0)]) 2 16 Tryd.underlying39 hi0 hz0 hz1 hz2 rfl (by decide) (.slice (some ⟨W.heap.size + 1, 0, none⟩) 0 0) _ _ rfl HO3.out _ _ _ _ rfl (piece_len HT1.out) (piece0 (HCL.out _ HB3.out) HT1.out) (piece_one _) (by unfold maxLen; simp <;> omega) (by simp <;> omega) HB3.out.size ?_; intro v2 w2 hown2 hgrow2 _ _; have HBA := Lib.hid (HB3.out.grown hgrow2 HB3.out.size (fun q hq => (World.ownsRow.lt HO3.out q hq).1)); have HOA := Lib.hid (Vecs.join (l := []) hown2 (by have := HLm.out; simp <;> omega)); have rr : w2.heap[W.heap.size]? = ((W.drew.alloc (.cells #[.int .i64 x, .int .i64 y] 26)).alloc (.cells #[] 26)).heap[W.heap.size]? := hgrow2.block _ (by simp <;> omega) (by simp [Value.ownBlock]); have RR0 : Hid (w2.cell? ⟨W.heap.size, 0, none⟩ = some (.int .i64 x)) := (cell_same rr 0).trans KR0.out; have RR1 : Hid (w2.cell? ⟨W.heap.size, 1, none⟩ = some (.int .i64 y)) := (cell_same rr 1).trans KR1.out; clear rr; clear hown2 hgrow2)
                    refine hK _ _ ?_
                    clear hK K
                    refine wpAny_ready (rs := [10]) (by kernel_rfl) (by simp) (AllReady.cons rfl (fun K hK => ?_) (AllReady.nil))
                    (refine step_list (by rintro ⟨_, _, h⟩; obtain ⟨_, hv, _⟩ := h; cases hv) (by kernel_rfl) ?_; refine wpList_append_own_at _ rfl _ _ 39 rfl W.heap.size 26 i0 (.agg #[.int .i64 (0), .int .i64 (0)]) 2 16 Tryd.underlying39 hi0 hz0 hz1 hz2 rfl (by decide) _ _ _ rfl HOA.out _ 1 1 [.int .i64 x, .int .i64 y] rfl rfl (two_cells RR0.out RR1.out) (two_one _ _) (by unfold maxLen; simp <;> omega) (by simp <;> omega) HBA.out.size ?_; intro v3 w3 hown3 hgrow3 _ _; have HBC := Lib.hid (HBA.out.grown hgrow3 HBA.out.size (fun q hq => (World.ownsRow.lt HOA.out q hq).1)); have HOC := Lib.hid (Vecs.snoc (l := [] ++ (L.drop 0).take k) rfl hown3); clear hown3 hgrow3)
                    refine hK _ _ ?_
                    clear hK K
                    refine wpAny_ready (rs := [14]) (by kernel_rfl) (by simp) (AllReady.cons rfl (fun K hK => ?_) (AllReady.nil))
                    (refine step_list (by rintro ⟨_, _, h⟩; obtain ⟨_, hv, _⟩ := h; cases hv) (by kernel_rfl) ?_; refine wpList_append_own_at _ rfl _ _ 39 rfl W.heap.size 26 i0 (.agg #[.int .i64 (0), .int .i64 (0)]) 2 16 Tryd.underlying39 hi0 hz0 hz1 hz2 rfl (by decide) _ _ _ rfl HOC.out _ 0 _ [] rfl rfl (fun j u hj => by simp at hj) (fun u hu => by simp at hu) (by unfold maxLen; simp <;> omega) (by simp <;> omega) HBC.out.size ?_; intro v4 w4 hown4 hgrow4 _ _; have HBD := Lib.hid (HBC.out.grown hgrow4 HBC.out.size (fun q hq => (World.ownsRow.lt HOC.out q hq).1)); have HOD := Lib.hid (Vecs.join (m := []) hown4 (by have := HLm.out; simp <;> omega)); clear hown4 hgrow4)
                    refine hK _ _ ?_
                    clear hK K
                    refine wpAny_seq 15 rfl (by kernel_rfl) ?_
                    simp only [List.drop_succ_cons, List.drop_zero]
                all_goals
                  rw [HR.out] at HOD
                  have hV4 := HOD.out.lower (base' := w.heap.size) hwW
                  have hB4 := hWb.trans (HBD.out.mono hwW)
                  have HO4 : Hid (OutI w l (i + 1) (insL L k (x, y)) v4 w4) := ⟨HIn.out, Vecs.formOf hV4 (by rw [insL_len HKL.out]; omega), hV4⟩
                  clear hV4 HOD HBD HOC HBC HOA HBA
                  go_wp2
                  go_roundw
                  case rel => exact ⟨i + 1, _, by go_num, by omega, HO4, hB4⟩
                  case measure => simp [intOf]; omega
              · have HR := HRf
                have r5 : ¬ k * 2 = 0 := by omega
                have r6 : ¬ cc = 0 := by omega
                clear HRf HM
                go_wp2
                refine wp_region_any (by kernel_rfl) ?_
                try (change wpAny _ _ _ _ _ _ _ (World.drew _))
                refine wpAny_take (i := 1) (v := ?_) rfl (by kernel_rfl) (by kernel_rfl) (by kernel_rfl) (fun _ _ _ h => h) (Or.inl ⟨by rfl, ?_⟩) ?_
                rotate_left
                focus (intro w0; go_simp; try with_reducible rfl)
                refine wpAny_take (i := 2) (v := ?_) rfl (by kernel_rfl) (by kernel_rfl) (by kernel_rfl) (fun _ _ _ h => h) (Or.inl ⟨by rfl, ?_⟩) ?_
                rotate_left
                focus (intro w0; go_simp; try with_reducible rfl)
                refine wpAny_take (i := 3) (v := ?_) rfl (by kernel_rfl) (by kernel_rfl) (by kernel_rfl) (fun _ _ _ h => h) (Or.inl ⟨by rfl, ?_⟩) ?_
                rotate_left
                focus (intro w0; go_simp; try with_reducible rfl)
                refine wpAny_take (i := 5) (v := ?_) rfl (by kernel_rfl) (by kernel_rfl) (by kernel_rfl) (fun _ _ _ h => h) (Or.inl ⟨by rfl, ?_⟩) ?_
                rotate_left
                focus (intro w0; go_simp; try with_reducible rfl)
                refine wpAny_take (i := 6) (v := ?_) rfl (by kernel_rfl) (by kernel_rfl) (by kernel_rfl) (fun _ _ _ h => h) (Or.inl ⟨by rfl, ?_⟩) ?_
                rotate_left
                focus (intro w0; go_simp; try with_reducible rfl)
                refine wpAny_take (i := 7) (v := ?_) rfl (by kernel_rfl) (by kernel_rfl) (by kernel_rfl) (fun _ _ _ h => h) (Or.inl ⟨by rfl, ?_⟩) ?_
                rotate_left
                focus (intro w0; go_simp; try with_reducible rfl)
                refine wpAny_take (i := 11) (v := ?_) rfl (by kernel_rfl) (by kernel_rfl) (by kernel_rfl) (fun _ _ _ h => h) (Or.inl ⟨by rfl, ?_⟩) ?_
                rotate_left
                focus (intro w0; go_simp; try with_reducible rfl)
                refine wpAny_take (i := 12) (v := ?_) rfl (by kernel_rfl) (by kernel_rfl) (by kernel_rfl) (fun _ _ _ h => h) (Or.inl ⟨by rfl, ?_⟩) ?_
                rotate_left
                focus (intro w0; go_simp; try with_reducible rfl)
                refine wpAny_take (i := 13) (v := ?_) rfl (by kernel_rfl) (by kernel_rfl) (by kernel_rfl) (fun _ _ _ h => h) (Or.inl ⟨by rfl, ?_⟩) ?_
                rotate_left
                focus (intro w0; go_simp; try with_reducible rfl)
                refine wpAny_ready (rs := [0, 8]) (by kernel_rfl) (by simp) (AllReady.cons rfl (fun K hK => ?_) (AllReady.cons rfl (fun K hK => ?_) (AllReady.nil)))
                focus
                  go_simp
                  refine hK _ _ ?_
                  clear hK K
                  refine wpAny_ready (rs := [4, 8]) (by kernel_rfl) (by simp) (AllReady.cons rfl (fun K hK => ?_) (AllReady.cons rfl (fun K hK => ?_) (AllReady.nil)))
                  focus
                    (refine step_list (by rintro ⟨_, _, h⟩; obtain ⟨_, hv, _⟩ := h; cases hv) (by kernel_rfl) ?_; refine wpList_append_own_at _ rfl _ _ 39 rfl W.heap.size 26 i0 (.agg #[.int .i64 (0), .int .i64 (0)]) 2 16 Tryd.underlying39 hi0 hz0 hz1 hz2 rfl (by decide) (.slice (some ⟨W.heap.size, 0, none⟩) 0 0) _ _ rfl HO1.out _ _ _ _ rfl (piece_len HT1.out) (piece0 (HCL.out _ HB1.out) HT1.out) (piece_one _) (by unfold maxLen; simp <;> omega) (by simp <;> omega) HB1.out.size ?_; intro v2 w2 hown2 hgrow2 _ _; have HBA := Lib.hid (HB1.out.grown hgrow2 HB1.out.size (fun q hq => (World.ownsRow.lt HO1.out q hq).1)); have HOA := Lib.hid (Vecs.join (l := []) hown2 (by have := HLm.out; simp <;> omega)); have b0 := (HBA.out.cell (p := ⟨bb, off + i * 2, none⟩) hrb).trans c0; have b1 := (HBA.out.cell (p := ⟨bb, off + i * 2 + 1, none⟩) hrb).trans c1'; have bl := Nat.lt_of_lt_of_le hrb HBA.out.size; clear hown2 hgrow2)
                    refine hK _ _ ?_
                    clear hK K
                    refine wpAny_ready (rs := [8]) (by kernel_rfl) (by simp) (AllReady.cons rfl (fun K hK => ?_) (AllReady.nil))
                    go_simp
                    refine hK _ _ ?_
                    clear hK K
                    refine wpAny_ready (rs := [9]) (by kernel_rfl) (by simp) (AllReady.cons rfl (fun K hK => ?_) (AllReady.nil))
                    go_simp
                    refine hK _ _ ?_
                    clear hK K
                    refine wpAny_ready (rs := [10]) (by kernel_rfl) (by simp) (AllReady.cons rfl (fun K hK => ?_) (AllReady.nil))
                    (refine step_list (by rintro ⟨_, _, h⟩; obtain ⟨_, hv, _⟩ := h; cases hv) (by kernel_rfl) ?_; refine wpList_append_own_at _ rfl _ _ 39 rfl W.heap.size 26 i0 (.agg #[.int .i64 (0), .int .i64 (0)]) 2 16 Tryd.underlying39 hi0 hz0 hz1 hz2 rfl (by decide) _ _ _ rfl (HOA.out.below (by go_grown)) _ 1 1 [.int .i64 x, .int .i64 y] rfl rfl (two_cells (by simp) (by simp)) (two_one _ _) (by unfold maxLen; simp <;> omega) (by simp <;> omega) (HBA.out.alloc HBA.out.size _).size ?_; intro v3 w3 hown3 hgrow3 _ _; have HBC := Lib.hid ((HBA.out.alloc HBA.out.size _).grown hgrow3 (HBA.out.alloc HBA.out.size _).size (fun q hq => (World.ownsRow.lt HOA.out q hq).1)); have HOC := Lib.hid (Vecs.snoc (l := [] ++ (L.drop 0).take k) rfl hown3); clear hown3 hgrow3)
                    refine hK _ _ ?_
                    clear hK K
                    refine wpAny_ready (rs := [14]) (by kernel_rfl) (by simp) (AllReady.cons rfl (fun K hK => ?_) (AllReady.nil))
                    (refine step_list (by rintro ⟨_, _, h⟩; obtain ⟨_, hv, _⟩ := h; cases hv) (by kernel_rfl) ?_; refine wpList_append_own_at _ rfl _ _ 39 rfl W.heap.size 26 i0 (.agg #[.int .i64 (0), .int .i64 (0)]) 2 16 Tryd.underlying39 hi0 hz0 hz1 hz2 rfl (by decide) _ _ _ rfl HOC.out _ _ _ _ rfl (piece_len HT2.out) (piece0 (HCL.out _ HBC.out) HT2.out) (piece_one _) (by unfold maxLen; simp <;> omega) (by simp <;> omega) HBC.out.size ?_; intro v4 w4 hown4 hgrow4 _ _; have HBD := Lib.hid (HBC.out.grown hgrow4 HBC.out.size (fun q hq => (World.ownsRow.lt HOC.out q hq).1)); have HOD := Lib.hid (Vecs.join hown4 (by have := HLm.out; simp <;> omega)); clear hown4 hgrow4)
                    refine hK _ _ ?_
                    clear hK K
                    refine wpAny_seq 15 rfl (by kernel_rfl) ?_
                    simp only [List.drop_succ_cons, List.drop_zero]
                  rotate_left 1
                  focus
                    go_simp
                    refine hK _ _ ?_
                    clear hK K
                    refine wpAny_ready (rs := [4, 9]) (by kernel_rfl) (by simp) (AllReady.cons rfl (fun K hK => ?_) (AllReady.cons rfl (fun K hK => ?_) (AllReady.nil)))
                    focus
                      (refine step_list (by rintro ⟨_, _, h⟩; obtain ⟨_, hv, _⟩ := h; cases hv) (by kernel_rfl) ?_; refine wpList_append_own_at _ rfl _ _ 39 rfl W.heap.size 26 i0 (.agg #[.int .i64 (0), .int .i64 (0)]) 2 16 Tryd.underlying39 hi0 hz0 hz1 hz2 rfl (by decide) (.slice (some ⟨W.heap.size, 0, none⟩) 0 0) _ _ rfl HO1.out _ _ _ _ rfl (piece_len HT1.out) (piece0 (HCL.out _ HB1.out) HT1.out) (piece_one _) (by unfold maxLen; simp <;> omega) (by simp <;> omega) HB1.out.size ?_; intro v2 w2 hown2 hgrow2 _ _; have HBA := Lib.hid (HB1.out.grown hgrow2 HB1.out.size (fun q hq => (World.ownsRow.lt HO1.out q hq).1)); have HOA := Lib.hid (Vecs.join (l := []) hown2 (by have := HLm.out; simp <;> omega)); have b0 := (HBA.out.cell (p := ⟨bb, off + i * 2, none⟩) hrb).trans c0; have b1 := (HBA.out.cell (p := ⟨bb, off + i * 2 + 1, none⟩) hrb).trans c1'; have bl := Nat.lt_of_lt_of_le hrb HBA.out.size; clear hown2 hgrow2)
                      refine hK _ _ ?_
                      clear hK K
                      refine wpAny_ready (rs := [9]) (by kernel_rfl) (by simp) (AllReady.cons rfl (fun K hK => ?_) (AllReady.nil))
                      go_simp
                      refine hK _ _ ?_
                      clear hK K
                      refine wpAny_ready (rs := [10]) (by kernel_rfl) (by simp) (AllReady.cons rfl (fun K hK => ?_) (AllReady.nil))
                      (refine step_list (by rintro ⟨_, _, h⟩; obtain ⟨_, hv, _⟩ := h; cases hv) (by kernel_rfl) ?_; refine wpList_append_own_at _ rfl _ _ 39 rfl W.heap.size 26 i0 (.agg #[.int .i64 (0), .int .i64 (0)]) 2 16 Tryd.underlying39 hi0 hz0 hz1 hz2 rfl (by decide) _ _ _ rfl (HOA.out.below (by go_grown)) _ 1 1 [.int .i64 x, .int .i64 y] rfl rfl (two_cells (by simp) (by simp)) (two_one _ _) (by unfold maxLen; simp <;> omega) (by simp <;> omega) (HBA.out.alloc HBA.out.size _).size ?_; intro v3 w3 hown3 hgrow3 _ _; have HBC := Lib.hid ((HBA.out.alloc HBA.out.size _).grown hgrow3 (HBA.out.alloc HBA.out.size _).size (fun q hq => (World.ownsRow.lt HOA.out q hq).1)); have HOC := Lib.hid (Vecs.snoc (l := [] ++ (L.drop 0).take k) rfl hown3); clear hown3 hgrow3)
                      refine hK _ _ ?_
                      clear hK K
                      refine wpAny_ready (rs := [14]) (by kernel_rfl) (by simp) (AllReady.cons rfl (fun K hK => ?_) (AllReady.nil))
                      (refine step_list (by rintro ⟨_, _, h⟩; obtain ⟨_, hv, _⟩ := h; cases hv) (by kernel_rfl) ?_; refine wpList_append_own_at _ rfl _ _ 39 rfl W.heap.size 26 i0 (.agg #[.int .i64 (0), .int .i64 (0)]) 2 16 Tryd.underlying39 hi0 hz0 hz1 hz2 rfl (by decide) _ _ _ rfl HOC.out _ _ _ _ rfl (piece_len HT2.out) (piece0 (HCL.out _ HBC.out) HT2.out) (piece_one _) (by unfold maxLen; simp <;> omega) (by simp <;> omega) HBC.out.size ?_; intro v4 w4 hown4 hgrow4 _ _; have HBD := Lib.hid (HBC.out.grown hgrow4 HBC.out.size (fun q hq => (World.ownsRow.lt HOC.out q hq).1)); have HOD := Lib.hid (Vecs.join hown4 (by have := HLm.out; simp <;> omega)); clear hown4 hgrow4)
                      refine hK _ _ ?_
                      clear hK K
                      refine wpAny_seq 15 rfl (by kernel_rfl) ?_
                      simp only [List.drop_succ_cons, List.drop_zero]
                    rotate_left 1
                    focus
                      go_simp
                      refine hK _ _ ?_
                      clear hK K
                      refine wpAny_ready (rs := [4]) (by kernel_rfl) (by simp) (AllReady.cons rfl (fun K hK => ?_) (AllReady.nil))
                      (refine step_list (by rintro ⟨_, _, h⟩; obtain ⟨_, hv, _⟩ := h; cases hv) (by kernel_rfl) ?_; refine wpList_append_own_at _ rfl _ _ 39 rfl W.heap.size 26 i0 (.agg #[.int .i64 (0), .int .i64 (0)]) 2 16 Tryd.underlying39 hi0 hz0 hz1 hz2 rfl (by decide) (.slice (some ⟨W.heap.size, 0, none⟩) 0 0) _ _ rfl HO2.out _ _ _ _ rfl (piece_len HT1.out) (piece0 (HCL.out _ HB2.out) HT1.out) (piece_one _) (by unfold maxLen; simp <;> omega) (by simp <;> omega) HB2.out.size ?_; intro v2 w2 hown2 hgrow2 _ _; have HBA := Lib.hid (HB2.out.grown hgrow2 HB2.out.size (fun q hq => (World.ownsRow.lt HO2.out q hq).1)); have HOA := Lib.hid (Vecs.join (l := []) hown2 (by have := HLm.out; simp <;> omega)); have rr : w2.heap[W.heap.size + 1]? = ((W.drew.alloc (.cells #[] 26)).alloc (.cells #[.int .i64 x, .int .i64 y] 26)).heap[W.heap.size + 1]? := hgrow2.block _ (by simp <;> omega) (by simp [Value.ownBlock]); have RR0 : Hid (w2.cell? ⟨W.heap.size + 1, 0, none⟩ = some (.int .i64 x)) := (cell_same rr 0).trans KE0.out; have RR1 : Hid (w2.cell? ⟨W.heap.size + 1, 1, none⟩ = some (.int .i64 y)) := (cell_same rr 1).trans KE1.out; clear rr; clear hown2 hgrow2)
                      refine hK _ _ ?_
                      clear hK K
                      refine wpAny_ready (rs := [10]) (by kernel_rfl) (by simp) (AllReady.cons rfl (fun K hK => ?_) (AllReady.nil))
                      (refine step_list (by rintro ⟨_, _, h⟩; obtain ⟨_, hv, _⟩ := h; cases hv) (by kernel_rfl) ?_; refine wpList_append_own_at _ rfl _ _ 39 rfl W.heap.size 26 i0 (.agg #[.int .i64 (0), .int .i64 (0)]) 2 16 Tryd.underlying39 hi0 hz0 hz1 hz2 rfl (by decide) _ _ _ rfl HOA.out _ 1 1 [.int .i64 x, .int .i64 y] rfl rfl (two_cells RR0.out RR1.out) (two_one _ _) (by unfold maxLen; simp <;> omega) (by simp <;> omega) HBA.out.size ?_; intro v3 w3 hown3 hgrow3 _ _; have HBC := Lib.hid (HBA.out.grown hgrow3 HBA.out.size (fun q hq => (World.ownsRow.lt HOA.out q hq).1)); have HOC := Lib.hid (Vecs.snoc (l := [] ++ (L.drop 0).take k) rfl hown3); clear hown3 hgrow3)
                      refine hK _ _ ?_
                      clear hK K
                      refine wpAny_ready (rs := [14]) (by kernel_rfl) (by simp) (AllReady.cons rfl (fun K hK => ?_) (AllReady.nil))
                      (refine step_list (by rintro ⟨_, _, h⟩; obtain ⟨_, hv, _⟩ := h; cases hv) (by kernel_rfl) ?_; refine wpList_append_own_at _ rfl _ _ 39 rfl W.heap.size 26 i0 (.agg #[.int .i64 (0), .int .i64 (0)]) 2 16 Tryd.underlying39 hi0 hz0 hz1 hz2 rfl (by decide) _ _ _ rfl HOC.out _ _ _ _ rfl (piece_len HT2.out) (piece0 (HCL.out _ HBC.out) HT2.out) (piece_one _) (by unfold maxLen; simp <;> omega) (by simp <;> omega) HBC.out.size ?_; intro v4 w4 hown4 hgrow4 _ _; have HBD := Lib.hid (HBC.out.grown hgrow4 HBC.out.size (fun q hq => (World.ownsRow.lt HOC.out q hq).1)); have HOD := Lib.hid (Vecs.join hown4 (by have := HLm.out; simp <;> omega)); clear hown4 hgrow4)
                      refine hK _ _ ?_
                      clear hK K
                      refine wpAny_seq 15 rfl (by kernel_rfl) ?_
                      simp only [List.drop_succ_cons, List.drop_zero]
                rotate_left 3
                focus
                  go_simp
                  refine hK _ _ ?_
                  clear hK K
                  refine wpAny_ready (rs := [0, 9]) (by kernel_rfl) (by simp) (AllReady.cons rfl (fun K hK => ?_) (AllReady.cons rfl (fun K hK => ?_) (AllReady.nil)))
                  focus
                    go_simp
                    refine hK _ _ ?_
                    clear hK K
                    refine wpAny_ready (rs := [4, 9]) (by kernel_rfl) (by simp) (AllReady.cons rfl (fun K hK => ?_) (AllReady.cons rfl (fun K hK => ?_) (AllReady.nil)))
                    focus
                      (refine step_list (by rintro ⟨_, _, h⟩; obtain ⟨_, hv, _⟩ := h; cases hv) (by kernel_rfl) ?_; refine wpList_append_own_at _ rfl _ _ 39 rfl W.heap.size 26 i0 (.agg #[.int .i64 (0), .int .i64 (0)]) 2 16 Tryd.underlying39 hi0 hz0 hz1 hz2 rfl (by decide) (.slice (some ⟨W.heap.size, 0, none⟩) 0 0) _ _ rfl HO1.out _ _ _ _ rfl (piece_len HT1.out) (piece0 (HCL.out _ HB1.out) HT1.out) (piece_one _) (by unfold maxLen; simp <;> omega) (by simp <;> omega) HB1.out.size ?_; intro v2 w2 hown2 hgrow2 _ _; have HBA := Lib.hid (HB1.out.grown hgrow2 HB1.out.size (fun q hq => (World.ownsRow.lt HO1.out q hq).1)); have HOA := Lib.hid (Vecs.join (l := []) hown2 (by have := HLm.out; simp <;> omega)); have b0 := (HBA.out.cell (p := ⟨bb, off + i * 2, none⟩) hrb).trans c0; have b1 := (HBA.out.cell (p := ⟨bb, off + i * 2 + 1, none⟩) hrb).trans c1'; have bl := Nat.lt_of_lt_of_le hrb HBA.out.size; clear hown2 hgrow2)
                      refine hK _ _ ?_
                      clear hK K
                      refine wpAny_ready (rs := [9]) (by kernel_rfl) (by simp) (AllReady.cons rfl (fun K hK => ?_) (AllReady.nil))
                      go_simp
                      refine hK _ _ ?_
                      clear hK K
                      refine wpAny_ready (rs := [10]) (by kernel_rfl) (by simp) (AllReady.cons rfl (fun K hK => ?_) (AllReady.nil))
                      (refine step_list (by rintro ⟨_, _, h⟩; obtain ⟨_, hv, _⟩ := h; cases hv) (by kernel_rfl) ?_; refine wpList_append_own_at _ rfl _ _ 39 rfl W.heap.size 26 i0 (.agg #[.int .i64 (0), .int .i64 (0)]) 2 16 Tryd.underlying39 hi0 hz0 hz1 hz2 rfl (by decide) _ _ _ rfl (HOA.out.below (by go_grown)) _ 1 1 [.int .i64 x, .int .i64 y] rfl rfl (two_cells (by simp) (by simp)) (two_one _ _) (by unfold maxLen; simp <;> omega) (by simp <;> omega) (HBA.out.alloc HBA.out.size _).size ?_; intro v3 w3 hown3 hgrow3 _ _; have HBC := Lib.hid ((HBA.out.alloc HBA.out.size _).grown hgrow3 (HBA.out.alloc HBA.out.size _).size (fun q hq => (World.ownsRow.lt HOA.out q hq).1)); have HOC := Lib.hid (Vecs.snoc (l := [] ++ (L.drop 0).take k) rfl hown3); clear hown3 hgrow3)
                      refine hK _ _ ?_
                      clear hK K
                      refine wpAny_ready (rs := [14]) (by kernel_rfl) (by simp) (AllReady.cons rfl (fun K hK => ?_) (AllReady.nil))
                      (refine step_list (by rintro ⟨_, _, h⟩; obtain ⟨_, hv, _⟩ := h; cases hv) (by kernel_rfl) ?_; refine wpList_append_own_at _ rfl _ _ 39 rfl W.heap.size 26 i0 (.agg #[.int .i64 (0), .int .i64 (0)]) 2 16 Tryd.underlying39 hi0 hz0 hz1 hz2 rfl (by decide) _ _ _ rfl HOC.out _ _ _ _ rfl (piece_len HT2.out) (piece0 (HCL.out _ HBC.out) HT2.out) (piece_one _) (by unfold maxLen; simp <;> omega) (by simp <;> omega) HBC.out.size ?_; intro v4 w4 hown4 hgrow4 _ _; have HBD := Lib.hid (HBC.out.grown hgrow4 HBC.out.size (fun q hq => (World.ownsRow.lt HOC.out q hq).1)); have HOD := Lib.hid (Vecs.join hown4 (by have := HLm.out; simp <;> omega)); clear hown4 hgrow4)
                      refine hK _ _ ?_
                      clear hK K
                      refine wpAny_seq 15 rfl (by kernel_rfl) ?_
                      simp only [List.drop_succ_cons, List.drop_zero]
                    rotate_left 1
                    focus
                      go_simp
                      refine hK _ _ ?_
                      clear hK K
                      refine wpAny_ready (rs := [4]) (by kernel_rfl) (by simp) (AllReady.cons rfl (fun K hK => ?_) (AllReady.nil))
                      (refine step_list (by rintro ⟨_, _, h⟩; obtain ⟨_, hv, _⟩ := h; cases hv) (by kernel_rfl) ?_; refine wpList_append_own_at _ rfl _ _ 39 rfl W.heap.size 26 i0 (.agg #[.int .i64 (0), .int .i64 (0)]) 2 16 Tryd.underlying39 hi0 hz0 hz1 hz2 rfl (by decide) (.slice (some ⟨W.heap.size, 0, none⟩) 0 0) _ _ rfl HO2.out _ _ _ _ rfl (piece_len HT1.out) (piece0 (HCL.out _ HB2.out) HT1.out) (piece_one _) (by unfold maxLen; simp <;> omega) (by simp <;> omega) HB2.out.size ?_; intro v2 w2 hown2 hgrow2 _ _; have HBA := Lib.hid (HB2.out.grown hgrow2 HB2.out.size (fun q hq => (World.ownsRow.lt HO2.out q hq).1)); have HOA := Lib.hid (Vecs.join (l := []) hown2 (by have := HLm.out; simp <;> omega)); have rr : w2.heap[W.heap.size + 1]? = ((W.drew.alloc (.cells #[] 26)).alloc (.cells #[.int .i64 x, .int .i64 y] 26)).heap[W.heap.size + 1]? := hgrow2.block _ (by simp <;> omega) (by simp [Value.ownBlock]); have RR0 : Hid (w2.cell? ⟨W.heap.size + 1, 0, none⟩ = some (.int .i64 x)) := (cell_same rr 0).trans KE0.out; have RR1 : Hid (w2.cell? ⟨W.heap.size + 1, 1, none⟩ = some (.int .i64 y)) := (cell_same rr 1).trans KE1.out; clear rr; clear hown2 hgrow2)
                      refine hK _ _ ?_
                      clear hK K
                      refine wpAny_ready (rs := [10]) (by kernel_rfl) (by simp) (AllReady.cons rfl (fun K hK => ?_) (AllReady.nil))
                      (refine step_list (by rintro ⟨_, _, h⟩; obtain ⟨_, hv, _⟩ := h; cases hv) (by kernel_rfl) ?_; refine wpList_append_own_at _ rfl _ _ 39 rfl W.heap.size 26 i0 (.agg #[.int .i64 (0), .int .i64 (0)]) 2 16 Tryd.underlying39 hi0 hz0 hz1 hz2 rfl (by decide) _ _ _ rfl HOA.out _ 1 1 [.int .i64 x, .int .i64 y] rfl rfl (two_cells RR0.out RR1.out) (two_one _ _) (by unfold maxLen; simp <;> omega) (by simp <;> omega) HBA.out.size ?_; intro v3 w3 hown3 hgrow3 _ _; have HBC := Lib.hid (HBA.out.grown hgrow3 HBA.out.size (fun q hq => (World.ownsRow.lt HOA.out q hq).1)); have HOC := Lib.hid (Vecs.snoc (l := [] ++ (L.drop 0).take k) rfl hown3); clear hown3 hgrow3)
                      refine hK _ _ ?_
                      clear hK K
                      refine wpAny_ready (rs := [14]) (by kernel_rfl) (by simp) (AllReady.cons rfl (fun K hK => ?_) (AllReady.nil))
                      (refine step_list (by rintro ⟨_, _, h⟩; obtain ⟨_, hv, _⟩ := h; cases hv) (by kernel_rfl) ?_; refine wpList_append_own_at _ rfl _ _ 39 rfl W.heap.size 26 i0 (.agg #[.int .i64 (0), .int .i64 (0)]) 2 16 Tryd.underlying39 hi0 hz0 hz1 hz2 rfl (by decide) _ _ _ rfl HOC.out _ _ _ _ rfl (piece_len HT2.out) (piece0 (HCL.out _ HBC.out) HT2.out) (piece_one _) (by unfold maxLen; simp <;> omega) (by simp <;> omega) HBC.out.size ?_; intro v4 w4 hown4 hgrow4 _ _; have HBD := Lib.hid (HBC.out.grown hgrow4 HBC.out.size (fun q hq => (World.ownsRow.lt HOC.out q hq).1)); have HOD := Lib.hid (Vecs.join hown4 (by have := HLm.out; simp <;> omega)); clear hown4 hgrow4)
                      refine hK _ _ ?_
                      clear hK K
                      refine wpAny_seq 15 rfl (by kernel_rfl) ?_
                      simp only [List.drop_succ_cons, List.drop_zero]
                  rotate_left 2
                  focus
                    go_simp
                    refine hK _ _ ?_
                    clear hK K
                    refine wpAny_ready (rs := [0]) (by kernel_rfl) (by simp) (AllReady.cons rfl (fun K hK => ?_) (AllReady.nil))
                    go_simp
                    refine hK _ _ ?_
                    clear hK K
                    refine wpAny_ready (rs := [4]) (by kernel_rfl) (by simp) (AllReady.cons rfl (fun K hK => ?_) (AllReady.nil))
                    (refine step_list (by rintro ⟨_, _, h⟩; obtain ⟨_, hv, _⟩ := h; cases hv) (by kernel_rfl) ?_; refine wpList_append_own_at _ rfl _ _ 39 rfl W.heap.size 26 i0 (.agg #[.int .i64 (0), .int .i64 (0)]) 2 16 Tryd.underlying39 hi0 hz0 hz1 hz2 rfl (by decide) (.slice (some ⟨W.heap.size + 1, 0, none⟩) 0 0) _ _ rfl HO3.out _ _ _ _ rfl (piece_len HT1.out) (piece0 (HCL.out _ HB3.out) HT1.out) (piece_one _) (by unfold maxLen; simp <;> omega) (by simp <;> omega) HB3.out.size ?_; intro v2 w2 hown2 hgrow2 _ _; have HBA := Lib.hid (HB3.out.grown hgrow2 HB3.out.size (fun q hq => (World.ownsRow.lt HO3.out q hq).1)); have HOA := Lib.hid (Vecs.join (l := []) hown2 (by have := HLm.out; simp <;> omega)); have rr : w2.heap[W.heap.size]? = ((W.drew.alloc (.cells #[.int .i64 x, .int .i64 y] 26)).alloc (.cells #[] 26)).heap[W.heap.size]? := hgrow2.block _ (by simp <;> omega) (by simp [Value.ownBlock]); have RR0 : Hid (w2.cell? ⟨W.heap.size, 0, none⟩ = some (.int .i64 x)) := (cell_same rr 0).trans KR0.out; have RR1 : Hid (w2.cell? ⟨W.heap.size, 1, none⟩ = some (.int .i64 y)) := (cell_same rr 1).trans KR1.out; clear rr; clear hown2 hgrow2)
                    refine hK _ _ ?_
                    clear hK K
                    refine wpAny_ready (rs := [10]) (by kernel_rfl) (by simp) (AllReady.cons rfl (fun K hK => ?_) (AllReady.nil))
                    (refine step_list (by rintro ⟨_, _, h⟩; obtain ⟨_, hv, _⟩ := h; cases hv) (by kernel_rfl) ?_; refine wpList_append_own_at _ rfl _ _ 39 rfl W.heap.size 26 i0 (.agg #[.int .i64 (0), .int .i64 (0)]) 2 16 Tryd.underlying39 hi0 hz0 hz1 hz2 rfl (by decide) _ _ _ rfl HOA.out _ 1 1 [.int .i64 x, .int .i64 y] rfl rfl (two_cells RR0.out RR1.out) (two_one _ _) (by unfold maxLen; simp <;> omega) (by simp <;> omega) HBA.out.size ?_; intro v3 w3 hown3 hgrow3 _ _; have HBC := Lib.hid (HBA.out.grown hgrow3 HBA.out.size (fun q hq => (World.ownsRow.lt HOA.out q hq).1)); have HOC := Lib.hid (Vecs.snoc (l := [] ++ (L.drop 0).take k) rfl hown3); clear hown3 hgrow3)
                    refine hK _ _ ?_
                    clear hK K
                    refine wpAny_ready (rs := [14]) (by kernel_rfl) (by simp) (AllReady.cons rfl (fun K hK => ?_) (AllReady.nil))
                    (refine step_list (by rintro ⟨_, _, h⟩; obtain ⟨_, hv, _⟩ := h; cases hv) (by kernel_rfl) ?_; refine wpList_append_own_at _ rfl _ _ 39 rfl W.heap.size 26 i0 (.agg #[.int .i64 (0), .int .i64 (0)]) 2 16 Tryd.underlying39 hi0 hz0 hz1 hz2 rfl (by decide) _ _ _ rfl HOC.out _ _ _ _ rfl (piece_len HT2.out) (piece0 (HCL.out _ HBC.out) HT2.out) (piece_one _) (by unfold maxLen; simp <;> omega) (by simp <;> omega) HBC.out.size ?_; intro v4 w4 hown4 hgrow4 _ _; have HBD := Lib.hid (HBC.out.grown hgrow4 HBC.out.size (fun q hq => (World.ownsRow.lt HOC.out q hq).1)); have HOD := Lib.hid (Vecs.join hown4 (by have := HLm.out; simp <;> omega)); clear hown4 hgrow4)
                    refine hK _ _ ?_
                    clear hK K
                    refine wpAny_seq 15 rfl (by kernel_rfl) ?_
                    simp only [List.drop_succ_cons, List.drop_zero]
                all_goals
                  rw [HR.out] at HOD
                  have hV4 := HOD.out.lower (base' := w.heap.size) hwW
                  have hB4 := hWb.trans (HBD.out.mono hwW)
                  have HO4 : Hid (OutI w l (i + 1) (insL L k (x, y)) v4 w4) := ⟨HIn.out, Vecs.formOf hV4 (by rw [insL_len HKL.out]; omega), hV4⟩
                  clear hV4 HOD HBD HOC HBC HOA HBA
                  go_wp2
                  go_roundw
                  case rel => exact ⟨i + 1, _, by go_num, by omega, HO4, hB4⟩
                  case measure => simp [intOf]; omega
          have HIns : Hid ((0 < k → cyc L (k - 1) ≠ (x, y)) → Hid (Inns l (i + 1) (insL L k (x, y)))) := fun hne => by
            obtain ⟨h1, h2⟩ := HX.out
            have := h2.inns.ins (k := k) h1 HPz.out HSz.out (fun h => by
              rw [HZ.out]
              exact ⟨HKk.out h, hne h⟩)
            rwa [HZ.out] at this
          by_cases h0 : k = 0
          · have HIn := HIns.out (fun h => by omega)
            subst h0
            clear HKk HSz HPz HX HIns
            go_upto_region 10 with fail
            refine wp_region_any (by kernel_rfl) ?_
            try (change wpAny _ _ _ _ _ _ _ (World.drew _))
            refine wpAny_take (i := 0) (v := ?_) rfl (by kernel_rfl) (by kernel_rfl) (by kernel_rfl) (fun _ _ _ h => h) (Or.inl ⟨by rfl, ?_⟩) ?_
            rotate_left
            focus (intro w0; go_simp; try with_reducible rfl)
            refine wpAny_take (i := 1) (v := ?_) rfl (by kernel_rfl) (by kernel_rfl) (by kernel_rfl) (fun _ _ _ h => h) (Or.inl ⟨by rfl, ?_⟩) ?_
            rotate_left
            focus (intro w0; go_simp; try with_reducible rfl)
            refine wpAny_take (i := 2) (v := ?_) rfl (by kernel_rfl) (by kernel_rfl) (by kernel_rfl) (fun _ _ _ h => h) (Or.inl ⟨by rfl, ?_⟩) ?_
            rotate_left
            focus (intro w0; go_simp; try with_reducible rfl)
            refine wpAny_take (i := 3) (v := undef) rfl (by kernel_rfl) (by kernel_rfl) (by kernel_rfl) (fun _ _ _ h => h) (Or.inr ⟨by kernel_rfl, rfl⟩) ?_
            refine wpAny_take (i := 4) (v := undef) rfl (by kernel_rfl) (by kernel_rfl) (by kernel_rfl) (fun _ _ _ h => h) (Or.inr ⟨by kernel_rfl, rfl⟩) ?_
            refine wpAny_take (i := 5) (v := undef) rfl (by kernel_rfl) (by kernel_rfl) (by kernel_rfl) (fun _ _ _ h => h) (Or.inr ⟨by kernel_rfl, rfl⟩) ?_
            refine wpAny_take (i := 6) (v := undef) rfl (by kernel_rfl) (by kernel_rfl) (by kernel_rfl) (fun _ _ _ h => h) (Or.inr ⟨by kernel_rfl, rfl⟩) ?_
            refine wpAny_take (i := 8) (v := undef) rfl (by kernel_rfl) (by kernel_rfl) (by kernel_rfl) (fun _ _ _ h => h) (Or.inr ⟨by kernel_rfl, rfl⟩) ?_
            refine wpAny_take (i := 9) (v := undef) rfl (by kernel_rfl) (by kernel_rfl) (by kernel_rfl) (fun _ _ _ h => h) (Or.inr ⟨by kernel_rfl, rfl⟩) ?_
            refine wpAny_take (i := 10) (v := undef) rfl (by kernel_rfl) (by kernel_rfl) (by kernel_rfl) (fun _ _ _ h => h) (Or.inr ⟨by kernel_rfl, rfl⟩) ?_
            refine wpAny_ready (rs := [7, 11]) (by kernel_rfl) (by simp) (AllReady.cons rfl (fun K hK => ?_) (AllReady.cons rfl (fun K hK => ?_) (AllReady.nil)))
            focus
              go_simp
              refine hK _ _ ?_
              clear hK K
              refine wpAny_ready (rs := [11]) (by kernel_rfl) (by simp) (AllReady.cons rfl (fun K hK => ?_) (AllReady.nil))
              go_simp
              refine hK _ _ ?_
              clear hK K
              refine wpAny_seq 12 rfl (by kernel_rfl) ?_
              simp only [List.drop_succ_cons, List.drop_zero]
            rotate_left 1
            focus
              go_simp
              refine hK _ _ ?_
              clear hK K
              refine wpAny_ready (rs := [7]) (by kernel_rfl) (by simp) (AllReady.cons rfl (fun K hK => ?_) (AllReady.nil))
              go_simp
              refine hK _ _ ?_
              clear hK K
              refine wpAny_seq 12 rfl (by kernel_rfl) ?_
              simp only [List.drop_succ_cons, List.drop_zero]
            all_goals go_wp2
            all_goals exact HT.out _ _ _ _ _ _ _ _ _ _ _ _ _ _ _ _ _ _ _ _ _ _ _ _ _ _ _ _ _ _ _ _ _ _ _ _ _ _ _ _ _ _ _ _ _ _ _ _ _ _ _ _ _ _ _ _ _ _ _ _ _ _ HIn (by go_grown)
          · have hk0 : 0 < k := by omega
            have hk1 : k - 1 < L.length := by have := HM.out; omega
            obtain ⟨p1, p2⟩ := HRw.out wr' (Below.refl _ _) (k - 1) hk1
            have t2 : ¬ (k : Int) = 0 := by omega
            have t2' : ((k : Int) == 0) = false := by simpa using t2
            have t3 : (0 : Int) ≤ (k : Int) - 1 := by omega
            have t4 : (k : Int) - 1 < (m : Int) := by omega
            have t5 : ((k : Int) - 1).toNat = k - 1 := by omega
            have t6 : IntKind.i64.wrap ((k : Int) - 1) = (k : Int) - 1 := by rw [IntKind.wrap_i64]; omega
            have t7 : (1 : Int) ≤ (k : Int) := by omega
            have t8 : k - 1 < m := by omega
            have hq2 : aheadV (x, y) (cyc L (k - 1)) = false := HKk.out hk0
            have HKp : Hid (cyc L (k - 1) = (x, y) → Inns l (i + 1) L) := fun e => by
              obtain ⟨h1, h2⟩ := HX.out
              exact h2.inns.keep h1 HPz.out hk0 HSz.out (by rw [HZ.out]; exact e)
            clear hq2 HKk HSz HPz
            generalize cyc L (k - 1) = z' at *
            by_cases e : z' = (x, y)
            · subst e
              have hI := HKp.out rfl
              have HO4 : Hid (∀ wr, Below wr'.heap.size wr' wr → OutI w l (i + 1) L (.slice (some ⟨go, 0, none⟩) m cc) wr ∧ Below w.heap.size w wr) := fun wr h => by
                have hb2 := belowTo HWb.out h
                have hV := (HV.out.below hb).below h
                exact ⟨⟨hI, ⟨go, cc, by rw [HM.out], hgo, Nat.lt_of_lt_of_le gl h.size, by rw [← HM.out]; exact hcc⟩, by rw [HM.out]; exact hV⟩, hb2⟩
              have qe : ∀ w', (binOp .neq 26 (.agg #[.int .i64 (x), .int .i64 (y)]) (.agg #[.int .i64 (x), .int .i64 (y)])).run Tryd.prog w' = .ok (.bool false) w' := fun w' => by rw [run_neV]; simp
              clear HIns HT HKp hI HV HX
              dsimp only at p1 p2
              go_upto_region 10 with fail
              refine wp_region_any (by kernel_rfl) ?_
              try (change wpAny _ _ _ _ _ _ _ (World.drew _))
              refine wpAny_take (i := 0) (v := ?_) rfl (by kernel_rfl) (by kernel_rfl) (by kernel_rfl) (fun _ _ _ h => h) (Or.inl ⟨by rfl, ?_⟩) ?_
              rotate_left
              focus (intro w0; go_simp; try with_reducible rfl)
              refine wpAny_take (i := 1) (v := ?_) rfl (by kernel_rfl) (by kernel_rfl) (by kernel_rfl) (fun _ _ _ h => h) (Or.inl ⟨by rfl, ?_⟩) ?_
              rotate_left
              focus (intro w0; go_simp; try with_reducible rfl)
              refine wpAny_take (i := 2) (v := ?_) rfl (by kernel_rfl) (by kernel_rfl) (by kernel_rfl) (fun _ _ _ h => h) (Or.inl ⟨by rfl, ?_⟩) ?_
              rotate_left
              focus (intro w0; go_simp; try with_reducible rfl)
              refine wpAny_take (i := 3) (v := ?_) rfl (by kernel_rfl) (by kernel_rfl) (by kernel_rfl) (fun _ _ _ h => h) (Or.inl ⟨by kernel_rfl, ?_⟩) ?_
              rotate_left
              focus (intro w0; go_simp; try with_reducible rfl)
              refine wpAny_take (i := 4) (v := ?_) rfl (by kernel_rfl) (by kernel_rfl) (by kernel_rfl) (fun _ _ _ h => h) (Or.inl ⟨by kernel_rfl, ?_⟩) ?_
              rotate_left
              focus (intro w0; go_simp; try with_reducible rfl)
              refine wpAny_take (i := 5) (v := ?_) rfl (by kernel_rfl) (by kernel_rfl) (by kernel_rfl) (fun _ _ _ h => h) (Or.inl ⟨by kernel_rfl, ?_⟩) ?_
              rotate_left
              focus (intro w0; go_simp; try with_reducible rfl)
              refine wpAny_take (i := 6) (v := ?_) rfl (by kernel_rfl) (by kernel_rfl) (by kernel_rfl) (fun _ _ _ h => h) (Or.inl ⟨by kernel_rfl, ?_⟩) ?_
              rotate_left
              focus (intro w0; go_simp; try with_reducible rfl)
              refine wpAny_take (i := 8) (v := ?_) rfl (by kernel_rfl) (by kernel_rfl) (by kernel_rfl) (fun _ _ _ h => h) (Or.inl ⟨by kernel_rfl, ?_⟩) ?_
              rotate_left
              focus (intro w0; go_simp; try with_reducible rfl)
              refine wpAny_take (i := 9) (v := ?_) rfl (by kernel_rfl) (by kernel_rfl) (by kernel_rfl) (fun _ _ _ h => h) (Or.inl ⟨by kernel_rfl, ?_⟩) ?_
              rotate_left
              focus (intro w0; go_simp; try with_reducible rfl)
              refine wpAny_take (i := 10) (v := ?_) rfl (by kernel_rfl) (by kernel_rfl) (by kernel_rfl) (fun _ _ _ h => h) (Or.inl ⟨by kernel_rfl, ?_⟩) ?_
              rotate_left
              focus (intro w0; go_simp; try with_reducible rfl)
              refine wpAny_ready (rs := [7, 11]) (by kernel_rfl) (by simp) (AllReady.cons rfl (fun K hK => ?_) (AllReady.cons rfl (fun K hK => ?_) (AllReady.nil)))
              focus
                go_simp
                refine hK _ _ ?_
                clear hK K
                refine wpAny_ready (rs := [11]) (by kernel_rfl) (by simp) (AllReady.cons rfl (fun K hK => ?_) (AllReady.nil))
                go_simp
                refine hK _ _ ?_
                clear hK K
                refine wpAny_seq 12 rfl (by kernel_rfl) ?_
                simp only [List.drop_succ_cons, List.drop_zero]
              rotate_left 1
              focus
                go_simp
                refine hK _ _ ?_
                clear hK K
                refine wpAny_ready (rs := [7]) (by kernel_rfl) (by simp) (AllReady.cons rfl (fun K hK => ?_) (AllReady.nil))
                go_simp
                refine hK _ _ ?_
                clear hK K
                refine wpAny_seq 12 rfl (by kernel_rfl) ?_
                simp only [List.drop_succ_cons, List.drop_zero]
              all_goals go_wp2
              all_goals refine HK2.out _ _ ?_
              all_goals go_wp2
              all_goals go_roundw
              all_goals first
                | (case rel => exact ⟨i + 1, L, by go_num, by omega, (HO4.out _ (by go_grown)).1, (HO4.out _ (by go_grown)).2⟩)
                | skip
              all_goals (simp [intOf]; omega)
            · have HIn := HIns.out (fun _ => e)
              have qe : ∀ w', (binOp .neq 26 (.agg #[.int .i64 (z'.1), .int .i64 (z'.2)]) (.agg #[.int .i64 (x), .int .i64 (y)])).run Tryd.prog w' = .ok (.bool true) w' := fun w' => by
                rw [run_neV]
                have : (decide (z'.1 = x) && decide (z'.2 = y)) = false := by
                  apply Bool.eq_false_iff.2
                  intro h
                  rw [Bool.and_eq_true] at h
                  exact e (Prod.ext (of_decide_eq_true h.1) (of_decide_eq_true h.2))
                rw [this]
                rfl
              clear e HKp HIns HX HV
              obtain ⟨x', y'⟩ := z'
              dsimp only at p1 p2 qe
              go_upto_region 10 with fail
              refine wp_region_any (by kernel_rfl) ?_
              try (change wpAny _ _ _ _ _ _ _ (World.drew _))
              refine wpAny_take (i := 0) (v := ?_) rfl (by kernel_rfl) (by kernel_rfl) (by kernel_rfl) (fun _ _ _ h => h) (Or.inl ⟨by rfl, ?_⟩) ?_
              rotate_left
              focus (intro w0; go_simp; try with_reducible rfl)
              refine wpAny_take (i := 1) (v := ?_) rfl (by kernel_rfl) (by kernel_rfl) (by kernel_rfl) (fun _ _ _ h => h) (Or.inl ⟨by rfl, ?_⟩) ?_
              rotate_left
              focus (intro w0; go_simp; try with_reducible rfl)
              refine wpAny_take (i := 2) (v := ?_) rfl (by kernel_rfl) (by kernel_rfl) (by kernel_rfl) (fun _ _ _ h => h) (Or.inl ⟨by rfl, ?_⟩) ?_
              rotate_left
              focus (intro w0; go_simp; try with_reducible rfl)
              refine wpAny_take (i := 3) (v := ?_) rfl (by kernel_rfl) (by kernel_rfl) (by kernel_rfl) (fun _ _ _ h => h) (Or.inl ⟨by kernel_rfl, ?_⟩) ?_
              rotate_left
              focus (intro w0; go_simp; try with_reducible rfl)
              refine wpAny_take (i := 4) (v := ?_) rfl (by kernel_rfl) (by kernel_rfl) (by kernel_rfl) (fun _ _ _ h => h) (Or.inl ⟨by kernel_rfl, ?_⟩) ?_
              rotate_left
              focus (intro w0; go_simp; try with_reducible rfl)
              refine wpAny_take (i := 5) (v := ?_) rfl (by kernel_rfl) (by kernel_rfl) (by kernel_rfl) (fun _ _ _ h => h) (Or.inl ⟨by kernel_rfl, ?_⟩) ?_
              rotate_left
              focus (intro w0; go_simp; try with_reducible rfl)
              refine wpAny_take (i := 6) (v := ?_) rfl (by kernel_rfl) (by kernel_rfl) (by kernel_rfl) (fun _ _ _ h => h) (Or.inl ⟨by kernel_rfl, ?_⟩) ?_
              rotate_left
              focus (intro w0; go_simp; try with_reducible rfl)
              refine wpAny_take (i := 8) (v := ?_) rfl (by kernel_rfl) (by kernel_rfl) (by kernel_rfl) (fun _ _ _ h => h) (Or.inl ⟨by kernel_rfl, ?_⟩) ?_
              rotate_left
              focus (intro w0; go_simp; try with_reducible rfl)
              refine wpAny_take (i := 9) (v := ?_) rfl (by kernel_rfl) (by kernel_rfl) (by kernel_rfl) (fun _ _ _ h => h) (Or.inl ⟨by kernel_rfl, ?_⟩) ?_
              rotate_left
              focus (intro w0; go_simp; try with_reducible rfl)
              refine wpAny_take (i := 10) (v := ?_) rfl (by kernel_rfl) (by kernel_rfl) (by kernel_rfl) (fun _ _ _ h => h) (Or.inl ⟨by kernel_rfl, ?_⟩) ?_
              rotate_left
              focus (intro w0; go_simp; try with_reducible rfl)
              refine wpAny_ready (rs := [7, 11]) (by kernel_rfl) (by simp) (AllReady.cons rfl (fun K hK => ?_) (AllReady.cons rfl (fun K hK => ?_) (AllReady.nil)))
              focus
                go_simp
                refine hK _ _ ?_
                clear hK K
                refine wpAny_ready (rs := [11]) (by kernel_rfl) (by simp) (AllReady.cons rfl (fun K hK => ?_) (AllReady.nil))
                go_simp
                refine hK _ _ ?_
                clear hK K
                refine wpAny_seq 12 rfl (by kernel_rfl) ?_
                simp only [List.drop_succ_cons, List.drop_zero]
              rotate_left 1
              focus
                go_simp
                refine hK _ _ ?_
                clear hK K
                refine wpAny_ready (rs := [7]) (by kernel_rfl) (by simp) (AllReady.cons rfl (fun K hK => ?_) (AllReady.nil))
                go_simp
                refine hK _ _ ?_
                clear hK K
                refine wpAny_seq 12 rfl (by kernel_rfl) ?_
                simp only [List.drop_succ_cons, List.drop_zero]
              all_goals go_wp2
              all_goals exact HT.out _ _ _ _ _ _ _ _ _ _ _ _ _ _ _ _ _ _ _ _ _ _ _ _ _ _ _ _ _ _ _ _ _ _ _ _ _ _ _ _ _ _ _ _ _ _ _ _ _ _ _ _ _ _ _ _ _ _ _ _ _ _ HIn (by go_grown)
        clear hK
        have HA := Lib.hid (HX.out.2.inns.allP)
        go_loopw [6] (fun s6 wr' => ∃ k : Nat, s6 = .int .i64 k ∧ k ≤ m ∧ Hid (Spot L (x, y) k) ∧ Below w2.heap.size w2 wr') (fun s6 _ => (intOf s6).toNat)
        case atStart => exact ⟨m, rfl, Nat.le_refl _, by have h := Spot.top L ((x, y) : V2); rw [← HM.out] at h; exact h, Below.refl _ _⟩
        case round =>
          obtain ⟨k, rfl, hk, hS, hb⟩ := hrel
          have t1 : (0 : Int) ≤ (k : Int) := by omega
          by_cases h0 : k = 0
          · subst h0
            clear t1 HX HV
            go_upto_region 8 with fail
            refine wp_region_any (by kernel_rfl) ?_
            try (change wpAny _ _ _ _ _ _ _ (World.drew _))
            refine wpAny_take (i := 0) (v := ?_) rfl (by kernel_rfl) (by kernel_rfl) (by kernel_rfl) (fun _ _ _ h => h) (Or.inl ⟨by rfl, ?_⟩) ?_
            rotate_left
            focus (intro w0; go_simp; try with_reducible rfl)
            refine wpAny_take (i := 1) (v := ?_) rfl (by kernel_rfl) (by kernel_rfl) (by kernel_rfl) (fun _ _ _ h => h) (Or.inl ⟨by rfl, ?_⟩) ?_
            rotate_left
            focus (intro w0; go_simp; try with_reducible rfl)
            refine wpAny_take (i := 2) (v := ?_) rfl (by kernel_rfl) (by kernel_rfl) (by kernel_rfl) (fun _ _ _ h => h) (Or.inl ⟨by rfl, ?_⟩) ?_
            rotate_left
            focus (intro w0; go_simp; try with_reducible rfl)
            refine wpAny_take (i := 3) (v := undef) rfl (by kernel_rfl) (by kernel_rfl) (by kernel_rfl) (fun _ _ _ h => h) (Or.inr ⟨by kernel_rfl, rfl⟩) ?_
            refine wpAny_take (i := 4) (v := undef) rfl (by kernel_rfl) (by kernel_rfl) (by kernel_rfl) (fun _ _ _ h => h) (Or.inr ⟨by kernel_rfl, rfl⟩) ?_
            refine wpAny_take (i := 5) (v := undef) rfl (by kernel_rfl) (by kernel_rfl) (by kernel_rfl) (fun _ _ _ h => h) (Or.inr ⟨by kernel_rfl, rfl⟩) ?_
            refine wpAny_take (i := 7) (v := undef) rfl (by kernel_rfl) (by kernel_rfl) (by kernel_rfl) (fun _ _ _ h => h) (Or.inr ⟨by kernel_rfl, rfl⟩) ?_
            refine wpAny_take (i := 8) (v := undef) rfl (by kernel_rfl) (by kernel_rfl) (by kernel_rfl) (fun _ _ _ h => h) (Or.inr ⟨by kernel_rfl, rfl⟩) ?_
            refine wpAny_take (i := 9) (v := undef) rfl (by kernel_rfl) (by kernel_rfl) (by kernel_rfl) (fun _ _ _ h => h) (Or.inr ⟨by kernel_rfl, rfl⟩) ?_
            refine wpAny_take (i := 10) (v := undef) rfl (by kernel_rfl) (by kernel_rfl) (by kernel_rfl) (fun _ _ _ h => h) (Or.inr ⟨by kernel_rfl, rfl⟩) ?_
            refine wpAny_ready (rs := [6, 11]) (by kernel_rfl) (by simp) (AllReady.cons rfl (fun K hK => ?_) (AllReady.cons rfl (fun K hK => ?_) (AllReady.nil)))
            focus
              go_simp
              refine hK _ _ ?_
              clear hK K
              refine wpAny_ready (rs := [11]) (by kernel_rfl) (by simp) (AllReady.cons rfl (fun K hK => ?_) (AllReady.nil))
              go_simp
              refine hK _ _ ?_
              clear hK K
              refine wpAny_ready (rs := [12]) (by kernel_rfl) (by simp) (AllReady.cons rfl (fun K hK => ?_) (AllReady.nil))
              go_simp
              refine hK _ _ ?_
              clear hK K
              refine wpAny_seq 13 rfl (by kernel_rfl) ?_
              simp only [List.drop_succ_cons, List.drop_zero]
            rotate_left 1
            focus
              go_simp
              refine hK _ _ ?_
              clear hK K
              refine wpAny_ready (rs := [6]) (by kernel_rfl) (by simp) (AllReady.cons rfl (fun K hK => ?_) (AllReady.nil))
              go_simp
              refine hK _ _ ?_
              clear hK K
              refine wpAny_ready (rs := [12]) (by kernel_rfl) (by simp) (AllReady.cons rfl (fun K hK => ?_) (AllReady.nil))
              go_simp
              refine hK _ _ ?_
              clear hK K
              refine wpAny_seq 13 rfl (by kernel_rfl) ?_
              simp only [List.drop_succ_cons, List.drop_zero]
            all_goals go_wp2
            all_goals exact HK.out 0 _ _ _ _ _ _ _ _ _ _ _ _ _ _ _ _ _ _ _ _ _ _ _ _ _ _ _ _ _ _ _ _ _ _ _ _ _ _ _ _ _ _ _ _ _ _ _ _ _ _ _ _ _ _ _ _ _ _ _ _ _ _ _ hS.out (fun h => absurd h (by omega)) (by go_grown)
          · have hk0 : 0 < k := by omega
            have hk1 : k - 1 < L.length := by have := HM.out; omega
            have t2 : (0 : Int) < (k : Int) := by omega
            have t3 : (0 : Int) ≤ (k : Int) - 1 := by omega
            have t4 : (k : Int) - 1 < (m : Int) := by omega
            have t5 : ((k : Int) - 1).toNat = k - 1 := by omega
            have t6 : IntKind.i64.wrap ((k : Int) - 1) = (k : Int) - 1 := by rw [IntKind.wrap_i64]; omega
            have t7 : (1 : Int) ≤ (k : Int) := by omega
            have t8 : k - 1 < m := by omega
            have d1 := (hb.cell (p := ⟨bb, off + i * 2, none⟩) hbl).trans c1
            have d2 := (hb.cell (p := ⟨bb, off + i * 2 + 1, none⟩) hbl).trans c2
            have dl := Nat.lt_of_lt_of_le hbl hb.size
            have gl := Nat.lt_of_lt_of_le hgl hb.size
            obtain ⟨⟨p1, p2⟩, _⟩ := HRow.out (k - 1) hk1
            replace p1 := (hb.cell (p := ⟨go, (k - 1) * 2, none⟩) hgl).trans p1
            replace p2 := (hb.cell (p := ⟨go, (k - 1) * 2 + 1, none⟩) hgl).trans p2
            have hq := HA.out _ (cyc_mem (l := L) (by omega) (k - 1))
            have HL := Lib.hid (fun w' => l1Ahead_any x y (cyc L (k - 1)).1 (cyc L (k - 1)).2 w' (prim_in HPr.out).1 (prim_in hq).1 (one_nz (prim_in HPr.out).2) (one_nz (prim_in hq).2))
            have HDo2 : Hid (aheadB x y (cyc L (k - 1)).1 (cyc L (k - 1)).2 = true → Spot L (x, y) (k - 1)) := fun h => Spot.down hS.out hk0 h
            have HEx : Hid (aheadB x y (cyc L (k - 1)).1 (cyc L (k - 1)).2 = false → 0 < k → aheadV (x, y) (cyc L (k - 1)) = false) := fun h _ => h
            clear hq hk1
            generalize aheadB x y (cyc L (k - 1)).1 (cyc L (k - 1)).2 = b at HL HEx HDo2
            generalize hx' : (cyc L (k - 1)).1 = x' at HL p1
            generalize hy' : (cyc L (k - 1)).2 = y' at HL p2
            clear hx' hy' HX HV
            go_wp2
            refine wp_region_any (by kernel_rfl) ?_
            try (change wpAny _ _ _ _ _ _ _ (World.drew _))
            refine wpAny_take (i := 0) (v := ?_) rfl (by kernel_rfl) (by kernel_rfl) (by kernel_rfl) (fun _ _ _ h => h) (Or.inl ⟨by rfl, ?_⟩) ?_
            rotate_left
            focus (intro w0; go_simp; try with_reducible rfl)
            refine wpAny_take (i := 1) (v := ?_) rfl (by kernel_rfl) (by kernel_rfl) (by kernel_rfl) (fun _ _ _ h => h) (Or.inl ⟨by rfl, ?_⟩) ?_
            rotate_left
            focus (intro w0; go_simp; try with_reducible rfl)
            refine wpAny_take (i := 2) (v := ?_) rfl (by kernel_rfl) (by kernel_rfl) (by kernel_rfl) (fun _ _ _ h => h) (Or.inl ⟨by rfl, ?_⟩) ?_
            rotate_left
            focus (intro w0; go_simp; try with_reducible rfl)
            refine wpAny_take (i := 3) (v := ?_) rfl (by kernel_rfl) (by kernel_rfl) (by kernel_rfl) (fun _ _ _ h => h) (Or.inl ⟨by kernel_rfl, ?_⟩) ?_
            rotate_left
            focus (intro w0; go_simp; try with_reducible rfl)
            refine wpAny_take (i := 4) (v := ?_) rfl (by kernel_rfl) (by kernel_rfl) (by kernel_rfl) (fun _ _ _ h => h) (Or.inl ⟨by kernel_rfl, ?_⟩) ?_
            rotate_left
            focus (intro w0; go_simp; try with_reducible rfl)
            refine wpAny_take (i := 5) (v := ?_) rfl (by kernel_rfl) (by kernel_rfl) (by kernel_rfl) (fun _ _ _ h => h) (Or.inl ⟨by kernel_rfl, ?_⟩) ?_
            rotate_left
            focus (intro w0; go_simp; try with_reducible rfl)
            refine wpAny_take (i := 7) (v := ?_) rfl (by kernel_rfl) (by kernel_rfl) (by kernel_rfl) (fun _ _ _ h => h) (Or.inl ⟨by kernel_rfl, ?_⟩) ?_
            rotate_left
            focus (intro w0; go_simp; try with_reducible rfl)
            refine wpAny_take (i := 8) (v := ?_) rfl (by kernel_rfl) (by kernel_rfl) (by kernel_rfl) (fun _ _ _ h => h) (Or.inl ⟨by kernel_rfl, ?_⟩) ?_
            rotate_left
            focus (intro w0; go_simp; try with_reducible rfl)
            refine wpAny_take (i := 9) (v := ?_) rfl (by kernel_rfl) (by kernel_rfl) (by kernel_rfl) (fun _ _ _ h => h) (Or.inl ⟨by kernel_rfl, ?_⟩) ?_
            rotate_left
            focus (intro w0; go_simp; try with_reducible rfl)
            refine wpAny_take (i := 10) (v := ?_) rfl (by kernel_rfl) (by kernel_rfl) (by kernel_rfl) (fun _ _ _ h => h) (Or.inl ⟨by kernel_rfl, ?_⟩) ?_
            rotate_left
            focus (intro w0; go_simp; try with_reducible rfl)
            refine wpAny_ready (rs := [6, 11]) (by kernel_rfl) (by simp) (AllReady.cons rfl (fun K hK => ?_) (AllReady.cons rfl (fun K hK => ?_) (AllReady.nil)))
            focus
              go_simp
              refine hK _ _ ?_
              clear hK K
              refine wpAny_ready (rs := [11]) (by kernel_rfl) (by simp) (AllReady.cons rfl (fun K hK => ?_) (AllReady.nil))
              go_simp
              refine hK _ _ ?_
              clear hK K
              refine wpAny_ready (rs := [12]) (by kernel_rfl) (by simp) (AllReady.cons rfl (fun K hK => ?_) (AllReady.nil))
              go_simp
              (refine Calls.mono (HL.out _) ?_; rintro e w3 ⟨rfl, hb3⟩; (repeat replace hb3 := undrew hb3); replace hb := belowTo hb hb3; clear hb3)
              refine hK _ _ ?_
              clear hK K
              refine wpAny_seq 13 rfl (by kernel_rfl) ?_
              simp only [List.drop_succ_cons, List.drop_zero]
            rotate_left 1
            focus
              go_simp
              refine hK _ _ ?_
              clear hK K
              refine wpAny_ready (rs := [6]) (by kernel_rfl) (by simp) (AllReady.cons rfl (fun K hK => ?_) (AllReady.nil))
              go_simp
              refine hK _ _ ?_
              clear hK K
              refine wpAny_ready (rs := [12]) (by kernel_rfl) (by simp) (AllReady.cons rfl (fun K hK => ?_) (AllReady.nil))
              go_simp
              (refine Calls.mono (HL.out _) ?_; rintro e w3 ⟨rfl, hb3⟩; (repeat replace hb3 := undrew hb3); replace hb := belowTo hb hb3; clear hb3)
              refine hK _ _ ?_
              clear hK K
              refine wpAny_seq 13 rfl (by kernel_rfl) ?_
              simp only [List.drop_succ_cons, List.drop_zero]
            all_goals
              cases b
              · have HE2 := Lib.hid (HEx.out rfl)
                clear HEx HDo2
                go_wp2
                exact HK.out k _ _ _ _ _ _ _ _ _ _ _ _ _ _ _ _ _ _ _ _ _ _ _ _ _ _ _ _ _ _ _ _ _ _ _ _ _ _ _ _ _ _ _ _ _ _ _ _ _ _ _ _ _ _ _ _ _ _ _ _ _ _ _ hS.out HE2.out hb
              · have HS2 := Lib.hid (HDo2.out rfl)
                clear HEx HDo2
                go_wp2
                go_roundw
                case rel => exact ⟨k - 1, by simp; omega, by omega, HS2.out, hb⟩
                case measure => simp [intOf]; omega
    · obtain rfl : i = n := by omega
      have i2 : ¬ (i : Int) < (i : Int) := by omega
      obtain ⟨e1, e2⟩ := HDn.out L (by have := hO.out.inns; rwa [← HN.out])
      obtain ⟨go, cc, rfl, hgo, hgl, hcc⟩ := hO.out.val
      have hVr := hO.out.vecs
      have HFi := Lib.hid (HF.out _ L wr (hVr.reads (by have := hO.out.inns.small; omega)))
      have HV := Lib.hid hVr
      have HE1 := Lib.hid e1
      have HE2 := Lib.hid e2
      clear hVr e1 e2 hO HNo HCl HF HDn
      generalize L.length = m at *
      go_wp2_with fail
      refine Calls.mono HFi.out ?_
      rintro e w2 ⟨rfl, hb2⟩
      have hB2 := belowTo hB hb2
      have hs2 := hB2.size
      have HE := Lib.hid ((hE.out w2).lower hs2)
      have HV2 := Lib.hid (HV.out.below hb2)
      clear hb2 HV HFi
      cases hf : fanB L
      · have HO : Hid (ofB l = false) := by show ofB l = false; rw [HE2.out, ← HE1.out]; exact hf
        clear hf
        go_wp2
        go_returns
        rw [HO.out]
        exact ⟨_, rfl, HE.out, hB2.alloc hs2 _⟩
      · have HO : Hid (ofB l = true) := by show ofB l = true; rw [HE2.out, ← HE1.out]; exact hf
        clear hf
        go_wp2
        go_returns
        rw [HO.out, ← HE1.out]
        exact ⟨_, rfl, HV2.out, hB2⟩
end Go.Proofs.YtcieihbknfeddaaDoor
