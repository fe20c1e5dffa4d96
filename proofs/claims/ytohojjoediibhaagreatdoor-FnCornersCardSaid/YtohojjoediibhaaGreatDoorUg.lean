/- The draw of a fan and a divisor that is often nef. -/
import Derived.Test.YtohojjoediibhaaGreatDoorBd
import Derived.Test.YtohojjoediibhaaGreatDoorB2
import Derived.Test.YtohojjoediibhaaGreatDoorB5
namespace Go.Proofs.YtohojjoediibhaaGreatDoor
open Go.RowKit

theorem vec_cellsU (W : World) (X Y : Int) (t : TypeId) : ∀ j u, [Value.int .i64 X, Value.int .i64 Y][j]? = some u → (W.alloc (.cells #[.int .i64 X, .int .i64 Y] t)).cell? ((⟨W.heap.size, 0, none⟩ : Addr).add j) = some u := by
  intro j u hj
  match j, hj with
  | 0, hj => simp at hj; subst hj; simp [Addr.add]
  | 1, hj => simp at hj; subst hj; simp [Addr.add]
theorem vec_oneU (X Y : Int) : ∀ u ∈ [Value.int .i64 X, Value.int .i64 Y], u.oneCell' = true := by
  intro u hu
  simp at hu
  rcases hu with rfl | rfl <;> rfl
theorem int_cellsU (W : World) (X : Int) (t : TypeId) : ∀ j u, [Value.int .i64 X][j]? = some u → (W.alloc (.cells #[.int .i64 X] t)).cell? ((⟨W.heap.size, 0, none⟩ : Addr).add j) = some u := by
  intro j u hj
  match j, hj with
  | 0, hj => simp at hj; subst hj; simp [Addr.add]
theorem int_oneU (X : Int) : ∀ u ∈ [Value.int .i64 X], u.oneCell' = true := by
  intro u hu
  simp at hu
  subst hu
  rfl
/-- a variable of two numbers -/
def MAt (w : World) (M : Nat) (x y : Int) : Prop := w.cell? ⟨M, 0, none⟩ = some (.int .i64 x) ∧ w.cell? ⟨M, 1, none⟩ = some (.int .i64 y) ∧ M < w.heap.size
theorem MAt.below {w w' : World} {M : Nat} {x y : Int} (h : MAt w M x y) (hb : Below w.heap.size w w') : MAt w' M x y :=
  ⟨(hb.cell (p := ⟨M, 0, none⟩) h.2.2).trans h.1, (hb.cell (p := ⟨M, 1, none⟩) h.2.2).trans h.2.1, Nat.lt_of_lt_of_le h.2.2 hb.size⟩
theorem MAt.picked {w w' : World} {M B : Nat} {x y : Int} (h : MAt w M x y) (hg : w.grownBy w' (some B)) (hne : B ≠ M) : MAt w' M x y := by
  have e : w'.heap[M]? = w.heap[M]? := hg.block M h.2.2 (fun e => by cases e; exact hne rfl)
  exact ⟨(World.cell?_of_block (a := ⟨M, 0, none⟩) e).trans h.1, (World.cell?_of_block (a := ⟨M, 1, none⟩) e).trans h.2.1, Nat.lt_of_lt_of_le h.2.2 hg.size⟩
theorem MAt.keep {w w' : World} {M n : Nat} {x y : Int} (h : MAt w M x y) (hb : Below n w w') (hn : M < n) : MAt w' M x y :=
  ⟨(hb.cell (p := ⟨M, 0, none⟩) hn).trans h.1, (hb.cell (p := ⟨M, 1, none⟩) hn).trans h.2.1, Nat.lt_of_lt_of_le h.2.2 hb.size⟩
theorem VecsO.keep {w w' : World} {base bb off n c m : Nat} {l : List V2} (h : VecsO w base (.slice (some ⟨bb, off, none⟩) n c) l) (hb : Below m w w') (hm : bb < m) : VecsO w' base (.slice (some ⟨bb, off, none⟩) n c) l := by
  refine ⟨?_, h.2⟩
  obtain ⟨a, c', e, hc, hl, hcell⟩ := h.1
  refine ⟨a, c', e, hc, hl, fun h0 => ?_⟩
  obtain ⟨b2, o2, e2, hs, hcs⟩ := hcell h0
  subst e2
  cases e
  exact ⟨bb, off, rfl, Nat.lt_of_lt_of_le hs hb.size, fun j hj => ⟨(hb.cell (p := ⟨bb, off + j * 2, none⟩) hm).trans (hcs j hj).1, (hb.cell (p := ⟨bb, off + j * 2 + 1, none⟩) hm).trans (hcs j hj).2⟩⟩
/-- vectors that are small -/
def smallL (L : List V2) : Prop := ∀ j, j < L.length → vecB (cyc L j).1 (cyc L j).2 = true
theorem small_snoc {L : List V2} {x y : Int} (h : smallL L) (hx : vecB x y = true) : smallL (L ++ [(x, y)]) := by
  intro j hj
  rw [cyc_lt hj]
  by_cases hl : j < L.length
  · rw [List.getElem?_append_left hl, ← cyc_lt hl]
    exact h j hl
  · rw [List.getElem?_append_right (by omega)]
    have e : j - L.length = 0 := by simp at hj; omega
    rw [e]
    exact hx
/-- what is held while vectors are drawn: the reader in block B, the fan, the variable M, the vectors so far -/
def NefR (w : World) (B : Nat) (a : Option Addr) (len cap : Nat) (base : Nat) (v : Value) (l : List V2) (M : Nat) (x y : Int) (p : Int) (k : Nat) (s8 : Value) (W : World) : Prop :=
  ∃ (L : List V2) (q : Int), VecsO W base v l ∧ MAt W M x y ∧ Vecs W (M + 1) s8 L ∧ L.length = k ∧ smallL L ∧ Reads W B a len cap q ∧ q ≤ p + 2 * k ∧ Below B w W
/-- a list of vectors and as many numbers, both in new memory -/
def GivenO (w : World) (e : Ending) (w' : World) : Prop :=
  ∃ (v u : Value) (l : List V2) (d : List Int), e = .returned (.tuple #[v, u]) ∧ VecsO w' w.heap.size v l ∧ Ints w' w.heap.size u d ∧ 2 ≤ l.length ∧ l.length ≤ 20 ∧ d.length = l.length ∧ Below w.heap.size w w'
theorem GivenO.d {w w' : World} {e : Ending} (h : GivenO w e w') : GivenD w e w' := by
  obtain ⟨v, u, l, d, he, hV, hI, h2, h20, hd, hb⟩ := h
  exact ⟨v, u, l, d, he, hV.1, hI.reads (by omega), h2, h20, hd, hb⟩
set_option maxRecDepth 100000 in
set_option maxHeartbeats 32000000 in
theorem l92NefO_any (w : World) (a : Option Addr) (len cap : Nat) (h : Bytes w a len cap) :
    Calls Tryz.prog 76 #[.slice a len cap] w (GivenO w) := by
  obtain ⟨i0, hi, hz0, hz1, hz2⟩ := info_parts infoVec
  obtain ⟨k0, ki, kz0, kz1, kz2⟩ := info_parts infoInt
  have HO := Lib.hid (l6Open_any w a len cap h)
  clear h
  go_enter Tryz.func76, Tryz.ntmps76
  go_wp2_with fail
  refine Calls.mono HO.out ?_
  rintro e w1 ⟨l1, c1, rfl, r1, hb1, hs1⟩
  go_wp2_with fail
  refine Calls.mono (l91Smooth_any w1 w.heap.size a l1 c1 0 r1 (by omega)) ?_
  rintro e w2 ⟨v, l, q, rfl, hV, h2, h20, r2, hq, hb2⟩
  have hB2 := hb1.trans hb2
  have hwB : w.heap.size < w2.heap.size := r2.2.2.2.2.1
  obtain ⟨bb, off, c, rfl, hc, hbb, hbs, hcs⟩ := hV.open (by omega)
  have hs2 := hb2.size
  clear hcs hb2 hb1 r1
  go_wp2_with fail
  refine Calls.mono (l92Divisor_any w2 w.heap.size a l1 c1 q _ l.length c r2 (by omega) (by omega) (by omega)) ?_
  rintro e w3 ⟨u, d, q3, rfl, hI, hd, r3, hq3, hb3, hG3⟩
  have hV3 := hV.picked hG3 (by omega)
  have hB3 := hB2.trans hb3
  have hs3 := hb3.size
  have HFS := Lib.hid (specFanSmooth_any _ l w3 hV3.1)
  have HVo := Lib.hid hV3
  have HIo := Lib.hid hI
  have HD := Lib.hid hd
  have HR3 := Lib.hid r3
  have HB3 := Lib.hid hB3
  clear hV hV3 hI hd hb3 hG3 hB2 hB3 r2 r3
  cases hk : smoothB l
  · rw [hk] at HFS
    clear hk
    go_wp2_with fail
    refine Calls.mono HFS.out ?_
    rintro e w4 ⟨rfl, hb4⟩
    have HR := Lib.hid ((HVo.out.below hb4).lower (show w.heap.size ≤ w1.heap.size by omega))
    have HI := Lib.hid ((HIo.out.below hb4).lower (show w.heap.size ≤ w2.heap.size by omega))
    have hB := HB3.out.trans (hb4.mono (by omega))
    clear hb4 HVo HIo HFS
    go_wp2
    go_returns
    exact ⟨_, _, l, d, rfl, HR.out, HI.out, h2, h20, HD.out, hB⟩
  · have hsv : ∀ j, vecB (cyc l j).1 (cyc l j).2 = true := (smooth_all hk).1
    have HSV := Lib.hid hsv
    rw [hk] at HFS
    clear hk hsv
    go_wp2_with fail
    refine Calls.mono HFS.out ?_
    rintro e w4 ⟨rfl, hb4⟩
    have hs4 := hb4.size
    have V4 := HVo.out.below hb4
    have I4 := HIo.out.below hb4
    have R4 := HR3.out.below (hb4.mono (by omega))
    have B4 := HB3.out.trans (hb4.mono (by omega))
    clear hb4 HVo HIo HFS HR3 HB3
    go_wp2_with fail
    refine Calls.mono (pickG_any _ w.heap.size a l1 c1 q3 6 R4 (by omega) (by omega)) ?_
    rintro e w5 ⟨⟨x, rfl, x0, x6, R5, _, _, s5, b5⟩, g5⟩
    have V5 := V4.picked g5 (by omega)
    have I5 := I4.picked g5 (by omega)
    have B5 := B4.trans b5
    have hs5 := b5.size
    clear V4 I4 R4 B4 g5 b5
    by_cases hx : x = 0
    · subst hx
      have HR := Lib.hid (V5.lower (show w.heap.size ≤ w1.heap.size by omega))
      have HI := Lib.hid (I5.lower (show w.heap.size ≤ w2.heap.size by omega))
      have HB := Lib.hid B5
      clear V5 I5 B5 R5
      go_wp2
      go_returns
      exact ⟨_, _, l, d, rfl, HR.out, HI.out, h2, h20, HD.out, HB.out⟩
    · have hx' : (x == 0) = false := by simpa using hx
      have HV5 := Lib.hid V5
      have HB5 := Lib.hid B5
      clear V5 I5 B5 HD hx
      go_wp2_with fail
      refine Calls.mono (pickG_any _ w.heap.size a l1 c1 (q3 + 1) 5 R5 (by omega) (by omega)) ?_
      rintro e w6 ⟨⟨y, rfl, y0, y5, R6, _, _, s6, b6⟩, g6⟩
      have V6 := HV5.out.picked g6 (by omega)
      have B6 := HB5.out.trans b6
      have hs6 := b6.size
      clear R5 HV5 HB5 g6 b6
      have HV6 := Lib.hid V6
      have HB6 := Lib.hid B6
      clear V6 B6
      go_wp2_with fail
      refine Calls.mono (pickG_any _ w.heap.size a l1 c1 (q3 + 1 + 1) 5 R6 (by omega) (by omega)) ?_
      rintro e w7 ⟨⟨z, rfl, z0, z5, R7, _, _, s7, b7⟩, g7⟩
      have V7 := HV6.out.picked g7 (by omega)
      have B7 := HB6.out.trans b7
      have hs7 := b7.size
      clear R6 HV6 HB6 g7 b7
      have HV7 := Lib.hid V7
      have HB7 := Lib.hid B7
      have HR7 := Lib.hid R7
      have HE0 := Lib.hid (fun w' => Vecs.empty w')
      clear V7 B7 R7 s5 s6 s7
      go_upto_region 7 with fail
      go_cut [7, 8] (fun t7 t8 wx => ∃ M p8, t7 = .pointer (some ⟨M, 0, none⟩) ∧ t8 = p8 ∧ Hid (MAt wx M (y - 2) (z - 2)) ∧ Hid (Vecs wx (M + 1) p8 []) ∧ Hid (Below w7.heap.size w7 wx) ∧ w7.heap.size ≤ M)
      case first =>
        have HE := Lib.hid (HE0.out (w7.alloc (.cells #[.int .i64 (y - 2), .int .i64 (z - 2)] 25)))
        simp only [World.size_alloc] at HE
        clear HE0 HV7 HB7 HR7
        go_wp2
        go_meet
        refine ⟨w7.heap.size, _, rfl, rfl, Lib.hid ⟨?_, ?_, ?_⟩, HE, Lib.hid ?_, Nat.le_refl _⟩
        · first | (go_cell; done) | (simp; done)
        · first | (go_cell; done) | (simp; done)
        · simp; omega
        · go_grown
      case rest =>
      obtain ⟨M, p8, rfl, rfl, HM, HP, HBx, hM⟩ := hcut
      have hsx := HBx.out.size
      have V8 := HV7.out.below HBx.out
      have R8 := HR7.out.below (HBx.out.mono (by omega))
      have B8 := HB7.out.trans (HBx.out.mono (by omega))
      have HV8 := Lib.hid V8
      have HB8 := Lib.hid B8
      clear HV7 HB7 HR7 V8 B8 HBx HE0
      go_wp2_with fail
      refine Calls.mono (pickG_any _ w.heap.size a l1 c1 (q3 + 1 + 1 + 1) 4 R8 (by omega) (by omega)) ?_
      rintro e w9 ⟨⟨n0, rfl, n00, n04, R9, _, _, s9, b9⟩, g9⟩
      have HN0 : Hid (NefR w w.heap.size a l1 c1 w1.heap.size (.slice (some ⟨bb, off, none⟩) l.length c) l M (y - 2) (z - 2) (q3 + 1 + 1 + 1 + 1) 0 _ w9) :=
        ⟨[], q3 + 1 + 1 + 1 + 1, HV8.out.picked g9 (by omega), HM.out.picked g9 (by omega), HP.out.far g9 (fun k hk e => by have := (HP.out.block k hk).1; cases e; omega), rfl, fun j hj => by simp at hj, R9, by omega, HB8.out.trans b9⟩
      clear HV8 HB8 HM HP R8 R9 g9 b9 s9
      go_wp2
      go_loopw [8, 10] (fun s8 s10 wr => ∃ k : Nat, s10 = .int .i64 k ∧ (k : Int) ≤ 1 + n0 ∧ Hid (NefR w w.heap.size a l1 c1 w1.heap.size (.slice (some ⟨bb, off, none⟩) l.length c) l M (y - 2) (z - 2) (q3 + 1 + 1 + 1 + 1) k s8 wr)) (fun _ s10 _ => (1 + n0 - intOf s10).toNat)
      case atStart => exact ⟨0, rfl, by omega, HN0⟩
      case round =>
        obtain ⟨k, rfl, hkn, HS⟩ := hrel
        clear HN0
        obtain ⟨L, q', V, HMr, P, hL, hsm, R, hq', Bq⟩ := HS.out
        clear HS
        obtain ⟨wo, hwo⟩ : ∃ wo, wo = wr := ⟨_, rfl⟩
        subst hwo
        have hszo := Bq.size
        by_cases hlt : (k : Int) < 1 + n0
        · have HV := Lib.hid V
          have HBq := Lib.hid Bq
          have HSm := Lib.hid hsm
          have HP := Lib.hid P
          have HMo := Lib.hid HMr
          have HRo := Lib.hid R
          clear V P Bq hsm R HMr
          go_wp2
          refine wp_region_any (by kernel_rfl) ?_
          try (change wpAny _ _ _ _ _ _ _ (World.drew _))
          refine wpAny_of_held (S := fun w' => Below w.heap.size wo w' ∧ MAt w' M (y - 2) (z - 2)) _ _ _ _ ?_
          have hSw : (fun w' => Below w.heap.size wo w' ∧ MAt w' M (y - 2) (z - 2)) (World.drew wo) := ⟨by go_grown, HMo.out.below (by go_grown)⟩
          generalize hwd : World.drew wo = wd at hSw ⊢
          refine wpAnyH_take (i := 0) (v := ?_) rfl (by kernel_rfl) (by kernel_rfl) (by kernel_rfl) (fun _ _ _ h => h) (Or.inl ⟨by rfl, ?_⟩) hSw ?_
          rotate_left
          focus (intro w0 hS0; clear hS0; go_simp; try with_reducible rfl)
          refine wpAnyH_take (i := 1) (v := ?_) rfl (by kernel_rfl) (by kernel_rfl) (by kernel_rfl) (fun _ _ _ h => h) (Or.inl ⟨by rfl, ?_⟩) hSw ?_
          rotate_left
          focus (intro w0 hS0; clear hS0; go_simp; try with_reducible rfl)
          refine wpAnyH_take (i := 2) (v := ?_) rfl (by kernel_rfl) (by kernel_rfl) (by kernel_rfl) (fun _ _ _ h => h) (Or.inl ⟨by rfl, ?_⟩) hSw ?_
          rotate_left
          focus (intro w0 hS0; obtain ⟨_, e0, e1, _⟩ := hS0; go_simp; try with_reducible rfl)
          refine wpAnyH_take (i := 3) (v := ?_) rfl (by kernel_rfl) (by kernel_rfl) (by kernel_rfl) (fun _ _ _ h => h) (Or.inl ⟨by rfl, ?_⟩) hSw ?_
          rotate_left
          focus (intro w0 hS0; clear hS0; go_simp; try with_reducible rfl)
          refine wpAnyH_take (i := 6) (v := ?_) rfl (by kernel_rfl) (by kernel_rfl) (by kernel_rfl) (fun _ _ _ h => h) (Or.inl ⟨by rfl, ?_⟩) hSw ?_
          rotate_left
          focus (intro w0 hS0; clear hS0; go_simp; try with_reducible rfl)
          refine wpAnyH_take (i := 7) (v := ?_) rfl (by kernel_rfl) (by kernel_rfl) (by kernel_rfl) (fun _ _ _ h => h) (Or.inl ⟨by rfl, ?_⟩) hSw ?_
          rotate_left
          focus (intro w0 hS0; obtain ⟨_, e0, e1, _⟩ := hS0; go_simp; try with_reducible rfl)
          refine wpAnyH_take (i := 8) (v := ?_) rfl (by kernel_rfl) (by kernel_rfl) (by kernel_rfl) (fun _ _ _ h => h) (Or.inl ⟨by rfl, ?_⟩) hSw ?_
          rotate_left
          focus (intro w0 hS0; clear hS0; go_simp; try with_reducible rfl)
          refine wpAnyH_ready (rs := [4]) (by kernel_rfl) (by simp) (AllReadyH.cons rfl (fun K hK => ?_) (AllReadyH.nil))
          go_simp
          (refine Calls.mono (pickG_any _ w.heap.size a l1 c1 q' 4 (HRo.out.below (by rw [← hwd]; go_grown)) (by omega) (by omega)) ?_; rintro e wa ⟨⟨xa, rfl, xa0, xa4, Ra, -, -, -, ba⟩, ga⟩; have qx : IntKind.i64.wrap (y - 2 + xa) = y - 2 + xa := (by rw [IntKind.wrap_i64]; omega); have gA : wo.grownBy wa (some w.heap.size) := grown_trans (grown_then (grown_refl wo (some w.heap.size)) (by rw [← hwd]; go_grown)) ga; replace hSw := And.intro (hSw.1.trans ba) (hSw.2.picked ga (by omega)); refine hK.out _ _ hSw (fun _ => ?_); clear hK K ga ba)
          refine wpAnyH_take (i := 5) (v := ?_) rfl (by kernel_rfl) (by kernel_rfl) (by kernel_rfl) (fun _ _ _ h => h) (Or.inl ⟨by rfl, ?_⟩) hSw ?_
          rotate_left
          focus (intro w0 hS0; clear hS0; go_simp; try with_reducible rfl)
          refine wpAnyH_ready (rs := [9]) (by kernel_rfl) (by simp) (AllReadyH.cons rfl (fun K hK => ?_) (AllReadyH.nil))
          go_simp
          (refine Calls.mono (pickG_any _ w.heap.size a l1 c1 (q' + 1) 4 Ra (by omega) (by omega)) ?_; rintro e wb ⟨⟨xb, rfl, xb0, xb4, Rb, -, -, -, bb2⟩, gb⟩; have qy : IntKind.i64.wrap (z - 2 + xb) = z - 2 + xb := (by rw [IntKind.wrap_i64]; omega); have gB := grown_trans gA gb; replace hSw := And.intro (hSw.1.trans bb2) (hSw.2.picked gb (by omega)); refine hK.out _ _ hSw (fun _ => ?_); clear hK K gb bb2)
          refine wpAnyH_take (i := 10) (v := ?_) rfl (by kernel_rfl) (by kernel_rfl) (by kernel_rfl) (fun _ _ _ h => h) (Or.inl ⟨by rfl, ?_⟩) hSw ?_
          rotate_left
          focus (intro w0 hS0; clear hS0; go_simp; try with_reducible rfl)
          refine wpAnyH_take (i := 11) (v := ?_) rfl (by kernel_rfl) (by kernel_rfl) (by kernel_rfl) (fun _ _ _ h => h) (Or.inl ⟨by rfl, ?_⟩) hSw ?_
          rotate_left
          focus (intro w0 hS0; clear hS0; go_simp; try with_reducible rfl)
          refine wpAnyH_ready (rs := [12]) (by kernel_rfl) (by simp) (AllReadyH.cons rfl (fun K hK => ?_) (AllReadyH.nil))
          go_simp
          (have hwb : M + 1 ≤ wb.heap.size := hSw.2.2.2; have hown : wb.ownsRow (M + 1) 25 2 _ _ _ := HP.out.far gB (fun k hk e => by have := (HP.out.block k hk).1; cases e; omega); rw [hL] at hown; replace hSw := And.intro (hSw.1.trans (by go_grown : Below w.heap.size wb (wb.alloc (.cells #[.int .i64 (y - 2 + xa), .int .i64 (z - 2 + xb)] 25)))) (hSw.2.below (by go_grown : Below wb.heap.size wb (wb.alloc (.cells #[.int .i64 (y - 2 + xa), .int .i64 (z - 2 + xb)] 25)))); refine hK.out _ _ hSw (fun _ => ?_); clear hK K)
          refine wpAnyH_ready (rs := [13]) (by kernel_rfl) (by simp) (AllReadyH.cons rfl (fun K hK => ?_) (AllReadyH.nil))
          (refine step_list (by rintro ⟨_, _, h⟩; obtain ⟨_, _, _, _, hv, _⟩ := h; cases hv) (by kernel_rfl) ?_; refine wpList_append_own_at _ rfl _ _ 23 rfl (M + 1) 25 i0 (.agg #[.int .i64 (0), .int .i64 (0)]) 2 16 Tryz.underlying23 hi hz0 hz1 hz2 rfl (by decide) _ _ _ rfl (hown.alloc _) ⟨_, 0, none⟩ 1 1 [.int .i64 (y - 2 + xa), .int .i64 (z - 2 + xb)] rfl rfl (vec_cellsU _ (y - 2 + xa) (z - 2 + xb) _) (vec_oneU (y - 2 + xa) (z - 2 + xb)) (by unfold maxLen; omega) (by omega) (by simp; omega) ?_; intro wz' wz hown' hgrow _ _; have hB7 : Below (M + 1) wb wz := ((Below.refl (M + 1) wb).alloc hwb _).grown hgrow (by simp; omega) (fun k hk => (hown.lt k hk).1); have Mb := hSw.2; replace hSw := And.intro ((hSw.1.grown hgrow (by simp; omega) (fun k hk => by have := (hown.lt k hk).1; omega))) (MAt.keep hSw.2 ((Below.refl (M + 1) _).grown hgrow (by simp; omega) (fun k hk => (hown.lt k hk).1)) (Nat.lt_succ_self M)); refine hK.out _ _ hSw (fun _ => ?_); clear hK K)
          refine wpAnyH_take (i := 14) (v := ?_) rfl (by kernel_rfl) (by kernel_rfl) (by kernel_rfl) (fun _ _ _ h => h) (Or.inl ⟨by rfl, ?_⟩) hSw ?_
          rotate_left
          focus (intro w0 hS0; clear hS0; go_simp; try with_reducible rfl)
          refine wpAnyH_done (by kernel_rfl) ?_ _
          have Vb := Lib.hid (HV.out.picked gB (by omega))
          have hvb : vecB (y - 2 + xa) (z - 2 + xb) = true := by unfold vecB szB; simp; omega
          have HF : Hid (NefR w w.heap.size a l1 c1 w1.heap.size (.slice (some ⟨bb, off, none⟩) l.length c) l M (y - 2) (z - 2) (q3 + 1 + 1 + 1 + 1) (k + 1) wz' wz) :=
            ⟨L ++ [(y - 2 + xa, z - 2 + xb)], q' + 1 + 1, Vb.out.keep hB7 (by omega), hSw.2, Vecs.snoc hL.symm hown', by simp [hL], small_snoc HSm.out hvb, Rb.below (hB7.mono (by omega)), by omega, HBq.out.trans hSw.1⟩
          clear hown hown' hgrow hB7 Rb Ra Vb hSw HP HV HMo HRo HBq HSm gA gB
          go_wp2
          go_roundw
          case rel => exact ⟨k + 1, by go_num, by omega, HF⟩
          case measure => simp [intOf]; omega
        · have hL1 : 1 ≤ L.length := by omega
          have hLn : (L.length : Int) = 1 + n0 := by omega
          have hlb : L.length ≤ 4 := by omega
          obtain ⟨pb, po, pc, rfl, _, _, hpb, hps⟩ := (P.reads (by omega)).open (by omega)
          obtain ⟨vb, vo, vc, ev, _, _, hvb, hvs⟩ := V.1.open (by omega)
          cases ev
          have HPS := Lib.hid hps
          have HVS := Lib.hid hvs
          have HSm : Hid (∀ j, j < L.length → vecB (cyc L j).1 (cyc L j).2 = true) := hsm
          have HVo := Lib.hid V
          have HBo := Lib.hid Bq
          have HE1 := Lib.hid (fun w' => Ints.empty w')
          clear hps hvs hsm V Bq P HMr R hkn hq'
          generalize L.length = K at *
          clear hL
          have hln : (l.length : Int) ≤ 20 := by omega
          have HI0 := Lib.hid (HE1.out wo)
          go_wp2
          go_loopw [6, 11] (fun s6 s11 wr => ∃ (i : Nat) (D : List Int), s11 = .int .i64 i ∧ i ≤ l.length ∧ D.length = i ∧ Hid (Ints wr wo.heap.size s6 D) ∧ Hid (Below wo.heap.size wo wr)) (fun _ s11 _ => l.length - (intOf s11).toNat)
          case atStart => exact ⟨0, [], rfl, Nat.zero_le _, rfl, HI0, by show Below _ _ _; go_grown⟩
          case round =>
            obtain ⟨i, D, rfl, hil, hDl, HI, HBr⟩ := hrel
            clear HI0 HE1
            obtain ⟨wi, hwi⟩ : ∃ wi, wi = wr := ⟨_, rfl⟩
            subst hwi
            have i1 : (0 : Int) ≤ (i : Int) := by omega
            by_cases hlt : i < l.length
            · have i2 : (i : Int) < (l.length : Int) := by omega
              have i3 : (0 : Int) < (K : Int) := by omega
              have i3' : 0 < K := by omega
              have i6 : (0 : Int) < 1 + n0 := by omega
              obtain ⟨c0, c1'⟩ := HVS.out wi HBr.out i hlt
              obtain ⟨d0, d1⟩ := HPS.out wi HBr.out 0 (by omega)
              have v0 := HSV.out i
              have v1 := HSm.out 0 (by omega)
              have hbi := HBr.out.size
              generalize cyc l i = F at *
              generalize cyc L 0 = G at *
              obtain ⟨fx, fy⟩ := F
              obtain ⟨gx, gy⟩ := G
              dsimp only at c0 c1' d0 d1 v0 v1
              rw [Nat.zero_mul, Nat.add_zero] at d0 d1
              go_wp2
              refine wp_region_any (by kernel_rfl) ?_
              try (change wpAny _ _ _ _ _ _ _ (World.drew _))
              refine wpAny_take (i := 0) (v := ?_) rfl (by kernel_rfl) (by kernel_rfl) (by kernel_rfl) (fun _ _ _ h => h) (Or.inl ⟨by rfl, ?_⟩) ?_
              rotate_left
              focus (intro w0; go_simp; try with_reducible rfl)
              refine wpAny_take (i := 1) (v := ?_) rfl (by kernel_rfl) (by kernel_rfl) (by kernel_rfl) (fun _ _ _ h => h) (Or.inl ⟨by rfl, ?_⟩) ?_
              rotate_left
              focus (intro w0; go_simp; try with_reducible rfl)
              refine wpAny_take (i := 2) (v := ?_) rfl (by kernel_rfl) (by kernel_rfl) (by kernel_rfl) (fun _ _ _ h => h) (Or.inl ⟨by rfl, ?_⟩) ?_
              rotate_left
              focus (intro w0; go_simp; try with_reducible rfl)
              refine wpAny_take (i := 4) (v := ?_) rfl (by kernel_rfl) (by kernel_rfl) (by kernel_rfl) (fun _ _ _ h => h) (Or.inl ⟨by rfl, ?_⟩) ?_
              rotate_left
              focus (intro w0; go_simp; try with_reducible rfl)
              refine wpAny_take (i := 5) (v := ?_) rfl (by kernel_rfl) (by kernel_rfl) (by kernel_rfl) (fun _ _ _ h => h) (Or.inl ⟨by rfl, ?_⟩) ?_
              rotate_left
              focus (intro w0; go_simp; try with_reducible rfl)
              refine wpAny_ready (rs := [3, 6]) (by kernel_rfl) (by simp) (AllReady.cons rfl (fun K hK => ?_) (AllReady.cons rfl (fun K hK => ?_) (AllReady.nil)))
              focus
                go_simp
                refine hK _ _ ?_
                clear hK K
                refine wpAny_ready (rs := [6]) (by kernel_rfl) (by simp) (AllReady.cons rfl (fun K hK => ?_) (AllReady.nil))
                go_simp
                refine hK _ _ ?_
                clear hK K
                refine wpAny_ready (rs := [7]) (by kernel_rfl) (by simp) (AllReady.cons rfl (fun K hK => ?_) (AllReady.nil))
                go_simp
                (refine Calls.mono (l1Product_any fx fy gx gy _ v0 v1) ?_; rintro e wz ⟨rfl, hbz⟩; have hBz := belowTo (a := wi) (by go_grown) hbz; clear hbz)
                refine hK _ _ ?_
                clear hK K
                refine wpAny_seq 8 rfl (by kernel_rfl) ?_
                simp only [List.drop_succ_cons, List.drop_zero]
              rotate_left 1
              focus
                go_simp
                refine hK _ _ ?_
                clear hK K
                refine wpAny_ready (rs := [3]) (by kernel_rfl) (by simp) (AllReady.cons rfl (fun K hK => ?_) (AllReady.nil))
                go_simp
                refine hK _ _ ?_
                clear hK K
                refine wpAny_ready (rs := [7]) (by kernel_rfl) (by simp) (AllReady.cons rfl (fun K hK => ?_) (AllReady.nil))
                go_simp
                (refine Calls.mono (l1Product_any fx fy gx gy _ v0 v1) ?_; rintro e wz ⟨rfl, hbz⟩; have hBz := belowTo (a := wi) (by go_grown) hbz; clear hbz)
                refine hK _ _ ?_
                clear hK K
                refine wpAny_seq 8 rfl (by kernel_rfl) ?_
                simp only [List.drop_succ_cons, List.drop_zero]
              all_goals
                have HBz := Lib.hid (belowTo HBr.out hBz)
                have HIz := Lib.hid (HI.out.below hBz)
                clear hBz HI HBr c0 c1' d0 d1 v0 v1
                go_wp2
                go_loopw [12, 13] (fun s12 s13 wr => ∃ (m : Int) (u : Nat), s12 = .int .i64 m ∧ s13 = .int .i64 u ∧ (u : Int) ≤ 1 + n0 ∧ 1 ≤ u ∧ Hid (Below wz.heap.size wz wr)) (fun _ s13 _ => K - (intOf s13).toNat)
                case atStart => exact ⟨_, 1, rfl, rfl, by omega, by omega, Below.refl _ _⟩
                case round =>
                  obtain ⟨m, u, rfl, rfl, hun, hu1, HBu⟩ := hrel
                  have i4 : (0 : Int) ≤ (u : Int) := by omega
                  by_cases hlu : (u : Int) < 1 + n0
                  · have i5 : (u : Int) < (K : Int) := by omega
                    have hBu := belowTo HBz.out HBu.out
                    obtain ⟨c0, c1'⟩ := HVS.out wr hBu i hlt
                    obtain ⟨d0, d1⟩ := HPS.out wr hBu u (by omega)
                    have v0 := HSV.out i
                    have v1 := HSm.out u (by omega)
                    generalize cyc l i = F at *
                    generalize cyc L u = G at *
                    obtain ⟨fx', fy'⟩ := F
                    obtain ⟨gx', gy'⟩ := G
                    dsimp only at c0 c1' d0 d1 v0 v1
                    clear hBu
                    go_wp2
                    refine wp_region_any (by kernel_rfl) ?_
                    try (change wpAny _ _ _ _ _ _ _ (World.drew _))
                    refine wpAny_take (i := 0) (v := ?_) rfl (by kernel_rfl) (by kernel_rfl) (by kernel_rfl) (fun _ _ _ h => h) (Or.inl ⟨by rfl, ?_⟩) ?_
                    rotate_left
                    focus (intro w0; go_simp; try with_reducible rfl)
                    refine wpAny_take (i := 1) (v := ?_) rfl (by kernel_rfl) (by kernel_rfl) (by kernel_rfl) (fun _ _ _ h => h) (Or.inl ⟨by rfl, ?_⟩) ?_
                    rotate_left
                    focus (intro w0; go_simp; try with_reducible rfl)
                    refine wpAny_take (i := 2) (v := ?_) rfl (by kernel_rfl) (by kernel_rfl) (by kernel_rfl) (fun _ _ _ h => h) (Or.inl ⟨by rfl, ?_⟩) ?_
                    rotate_left
                    focus (intro w0; go_simp; try with_reducible rfl)
                    refine wpAny_take (i := 3) (v := ?_) rfl (by kernel_rfl) (by kernel_rfl) (by kernel_rfl) (fun _ _ _ h => h) (Or.inl ⟨by rfl, ?_⟩) ?_
                    rotate_left
                    focus (intro w0; go_simp; try with_reducible rfl)
                    refine wpAny_take (i := 5) (v := ?_) rfl (by kernel_rfl) (by kernel_rfl) (by kernel_rfl) (fun _ _ _ h => h) (Or.inl ⟨by rfl, ?_⟩) ?_
                    rotate_left
                    focus (intro w0; go_simp; try with_reducible rfl)
                    refine wpAny_take (i := 6) (v := ?_) rfl (by kernel_rfl) (by kernel_rfl) (by kernel_rfl) (fun _ _ _ h => h) (Or.inl ⟨by rfl, ?_⟩) ?_
                    rotate_left
                    focus (intro w0; go_simp; try with_reducible rfl)
                    refine wpAny_take (i := 7) (v := ?_) rfl (by kernel_rfl) (by kernel_rfl) (by kernel_rfl) (fun _ _ _ h => h) (Or.inl ⟨by rfl, ?_⟩) ?_
                    rotate_left
                    focus (intro w0; go_simp; try with_reducible rfl)
                    refine wpAny_ready (rs := [4, 8]) (by kernel_rfl) (by simp) (AllReady.cons rfl (fun K hK => ?_) (AllReady.cons rfl (fun K hK => ?_) (AllReady.nil)))
                    focus
                      go_simp
                      refine hK _ _ ?_
                      clear hK K
                      refine wpAny_ready (rs := [8]) (by kernel_rfl) (by simp) (AllReady.cons rfl (fun K hK => ?_) (AllReady.nil))
                      go_simp
                      refine hK _ _ ?_
                      clear hK K
                      refine wpAny_ready (rs := [9]) (by kernel_rfl) (by simp) (AllReady.cons rfl (fun K hK => ?_) (AllReady.nil))
                      go_simp
                      (refine Calls.mono (l1Product_any fx' fy' gx' gy' _ v0 v1) ?_; rintro e wy ⟨rfl, hby⟩; have hBy := belowTo (a := wr) (by go_grown) hby; clear hby)
                      refine hK _ _ ?_
                      clear hK K
                      refine wpAny_seq 10 rfl (by kernel_rfl) ?_
                      simp only [List.drop_succ_cons, List.drop_zero]
                    rotate_left 1
                    focus
                      go_simp
                      refine hK _ _ ?_
                      clear hK K
                      refine wpAny_ready (rs := [4]) (by kernel_rfl) (by simp) (AllReady.cons rfl (fun K hK => ?_) (AllReady.nil))
                      go_simp
                      refine hK _ _ ?_
                      clear hK K
                      refine wpAny_ready (rs := [9]) (by kernel_rfl) (by simp) (AllReady.cons rfl (fun K hK => ?_) (AllReady.nil))
                      go_simp
                      (refine Calls.mono (l1Product_any fx' fy' gx' gy' _ v0 v1) ?_; rintro e wy ⟨rfl, hby⟩; have hBy := belowTo (a := wr) (by go_grown) hby; clear hby)
                      refine hK _ _ ?_
                      clear hK K
                      refine wpAny_seq 10 rfl (by kernel_rfl) ?_
                      simp only [List.drop_succ_cons, List.drop_zero]
                    all_goals
                      have HBy := Lib.hid (belowTo HBu.out hBy)
                      clear hBy HBu c0 c1' d0 d1 v0 v1
                      go_wp2
                      go_roundw
                      case rel => exact ⟨_, u + 1, rfl, by go_num, by omega, by omega, HBy⟩
                      case measure => simp [intOf]; omega
                  · have hBu := belowTo HBz.out HBu.out
                    have hIu := HIz.out.below HBu.out
                    have hbu := hBu.size
                    have hown : wr.ownsRow wo.heap.size 3 1 _ _ _ := hIu
                    rw [hDl] at hown
                    clear hIu HIz HBz
                    go_wp2_with (at_builtin; refine wpList_append_own _ rfl _ _ 28 rfl wo.heap.size 3 k0 (.int .i64 0) 1 8 Tryz.underlying28 ki kz0 kz1 kz2 rfl (by decide) _ _ _ rfl (hown.alloc _) ⟨wr.heap.size, 0, none⟩ 1 1 [.int .i64 m] rfl rfl (int_cellsU _ m _) (int_oneU m) (by unfold maxLen; omega) (by omega) (by simp; omega) ?_)
                    intro v' w8' hown' hgrow _
                    have hB8 : Below wo.heap.size wo w8' := (hBu.alloc hbu _).grown hgrow (by simp; omega) (fun k hk => (hown.lt k hk).1)
                    have HF : Hid (Ints w8' wo.heap.size v' (D ++ [m])) := by
                      have e : intsV (D ++ [m]) = intsV D ++ [.int .i64 m] := by simp [intsV]
                      show w8'.ownsRow wo.heap.size 3 1 v' (D ++ [m]).length (intsV (D ++ [m]))
                      rw [e, List.length_append, hDl]
                      exact hown'
                    have HB8 := Lib.hid hB8
                    clear hown hown' hgrow hB8 hBu HBu
                    go_wp2
                    go_roundw
                    case rel => exact ⟨i + 1, D ++ [m], by go_num, by omega, by simp [hDl], HF, HB8⟩
                    case measure => simp [intOf]; omega
            · obtain rfl : i = l.length := by omega
              have HR := Lib.hid ((HVo.out.below HBr.out).lower (show w.heap.size ≤ w1.heap.size by omega))
              have HId := Lib.hid (HI.out.lower (show w.heap.size ≤ wo.heap.size by omega))
              have HB := Lib.hid (HBo.out.trans (HBr.out.mono hszo))
              clear HVo HI HBr HBo HVS HPS HSm HSV
              go_wp2
              go_returns
              exact ⟨_, _, l, D, rfl, HR.out, HId.out, h2, h20, hDl, HB.out⟩
theorem l92Nef_any (w : World) (a : Option Addr) (len cap : Nat) (h : Bytes w a len cap) :
    Calls Tryz.prog 76 #[.slice a len cap] w (GivenD w) := Calls.mono (l92NefO_any w a len cap h) (fun _ _ h => h.d)
end Go.Proofs.YtohojjoediibhaaGreatDoor
