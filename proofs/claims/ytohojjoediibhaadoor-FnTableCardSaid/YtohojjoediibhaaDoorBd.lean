import Derived.Test.YtohojjoediibhaaDoorBb
import Derived.Test.YtohojjoediibhaaDoorBc
/- The draws of chapters 3 and 4: a smooth fan, seldom another list: the list alone, and where it lies. -/
namespace Go.Proofs.YtohojjoediibhaaDoor
open Go.RowKit

/-- vectors in memory from block 'base' on: perhaps a part of a longer slice -/
def VecsO (w : World) (base : Nat) (v : Value) (l : List V2) : Prop := ReadsVecs w v l ∧ ∀ bb off n c, v = .slice (some ⟨bb, off, none⟩) n c → base ≤ bb
theorem VecsO.below {w w' : World} {base : Nat} {v : Value} {l : List V2} (h : VecsO w base v l) (hb : Below w.heap.size w w') : VecsO w' base v l := ⟨h.1.below hb, h.2⟩
theorem VecsO.lower {w : World} {base base' : Nat} {v : Value} {l : List V2} (h : VecsO w base v l) (hb : base' ≤ base) : VecsO w base' v l := ⟨h.1, fun bb off n c e => Nat.le_trans hb (h.2 bb off n c e)⟩
theorem VecsO.picked {w w' : World} {base B : Nat} {v : Value} {l : List V2} (h : VecsO w base v l) (hg : w.grownBy w' (some B)) (hB : B < base) : VecsO w' base v l := by
  obtain ⟨⟨a, c, rfl, hc, hm, hcell⟩, h2⟩ := h
  refine ⟨⟨a, c, rfl, hc, hm, fun h0 => ?_⟩, h2⟩
  obtain ⟨bb, off, rfl, hb, hcs⟩ := hcell h0
  have hbb := h2 bb off _ _ rfl
  have e : w'.heap[bb]? = w.heap[bb]? := hg.block bb hb (fun e => by cases e; omega)
  exact ⟨bb, off, rfl, Nat.lt_of_lt_of_le hb hg.size, fun j hj => ⟨(World.cell?_of_block (a := ⟨bb, off + j * 2, none⟩) e).trans (hcs j hj).1, (World.cell?_of_block (a := ⟨bb, off + j * 2 + 1, none⟩) e).trans (hcs j hj).2⟩⟩
theorem VecsO.of {w : World} {base : Nat} {v : Value} {l : List V2} (h : Vecs w base v l) (hl : l.length ≤ 1000) (h0 : 0 < l.length) : VecsO w base v l := by
  refine ⟨h.reads (by omega), fun bb off n c e => ?_⟩
  subst e
  have h' := h
  unfold Vecs at h'
  rcases h'.form with ⟨h1, _⟩ | ⟨_, g, c', e2, hg, _, _⟩
  · omega
  · injection e2 with e3
    injection e3 with e4
    injection e4 with e5
    subst e5
    exact hg
theorem VecsO.open {w : World} {base : Nat} {v : Value} {l : List V2} (h : VecsO w base v l) (h0 : 0 < l.length) : ∃ bb off c, v = .slice (some ⟨bb, off, none⟩) l.length c ∧ l.length ≤ c ∧ base ≤ bb ∧ bb < w.heap.size ∧
    ∀ j, j < l.length → w.cell? ⟨bb, off + j * 2, none⟩ = some (.int .i64 (cyc l j).1) ∧ w.cell? ⟨bb, off + j * 2 + 1, none⟩ = some (.int .i64 (cyc l j).2) := by
  obtain ⟨⟨a, c, rfl, hc, hm, hcell⟩, h2⟩ := h
  obtain ⟨bb, off, rfl, hb, hcs⟩ := hcell h0
  exact ⟨bb, off, c, rfl, hc, h2 bb off _ _ rfl, hb, hcs⟩
theorem VecsO.tail {w : World} {base : Nat} {bb off n c : Nat} {l : List V2} (hbb : base ≤ bb) (hb : bb < w.heap.size) (hn : l.length = n + 1) (hc : n + 1 ≤ c) (hm : n ≤ 1000)
    (hcs : ∀ j, j < l.length → w.cell? ⟨bb, off + j * 2, none⟩ = some (.int .i64 (cyc l j).1) ∧ w.cell? ⟨bb, off + j * 2 + 1, none⟩ = some (.int .i64 (cyc l j).2)) : VecsO w base (.slice (some ⟨bb, off + 2, none⟩) n (c - 1)) (l.drop 1) := by
  have hl : (l.drop 1).length = n := by simp; omega
  refine ⟨⟨some ⟨bb, off + 2, none⟩, c - 1, by rw [hl], by rw [hl]; omega, by rw [hl]; omega, fun _ => ⟨bb, off + 2, rfl, hb, fun j hj => ?_⟩⟩, fun bb' off' n' c' e => by cases e; exact hbb⟩
  rw [hl] at hj
  have e : cyc (l.drop 1) j = cyc l (j + 1) := by
    rw [cyc_lt (by omega), cyc_lt (by omega)]
    simp
  rw [e, show off + 2 + j * 2 = off + (j + 1) * 2 by omega]
  exact hcs (j + 1) (by omega)

def hirL (k : Int) : List V2 := [(1, 0), (0, 1), (-1, k), (0, -1)]
theorem Vecs.hir (w : World) (k : Int) : Vecs (w.alloc (.cells #[.int .i64 1, .int .i64 0, .int .i64 0, .int .i64 1, .int .i64 (-1), .int .i64 k, .int .i64 0, .int .i64 (-1)] 43)) w.heap.size (.slice (some ⟨w.heap.size, 0, none⟩) 4 4) (hirL k) :=
  ⟨rfl, .inr ⟨w.heap.size, 4, #[.int .i64 1, .int .i64 0, .int .i64 0, .int .i64 1, .int .i64 (-1), .int .i64 k, .int .i64 0, .int .i64 (-1)], rfl, Nat.le_refl _, heap_alloc_new w _, Nat.le_refl _, by decide, rfl, rfl⟩⟩
set_option maxHeartbeats 2000000 in
theorem specKind4_any (k : Int) (w : World) (h : 0 ≤ k ∧ k ≤ 100) :
    Calls Tryd.prog 62 #[.int .i64 k] w (GivesVecsOk w (hirL k) true) := by
  obtain ⟨h1, h2⟩ := h
  have i1 : ((0 : Int) ≤ k) = True := eq_true h1
  have HV := Lib.hid (fun w' => Vecs.hir w' k)
  have HL : Hid (∀ w', Calls Tryd.prog 81 #[.int .i64 k, .int .i64 0, .int .i64 100] w' fun e w'' => e = .returned (.bool true) ∧ w'' = w') := fun w' => by
    go_enter Tryd.func81, Tryd.ntmps81
    go_wp2
    go_returns
    exact ⟨rfl, rfl⟩
  clear i1
  go_enter Tryd.func62, Tryd.ntmps62
  go_wp2_with fail
  refine Calls.mono (HL.out _) ?_
  rintro e w1 ⟨rfl, rfl⟩
  go_wp2
  go_returns
  exact ⟨_, rfl, HV.out _, by go_grown⟩
theorem tri_built : builtB [] = true ∧ builtL [] = triL := ⟨rfl, rfl⟩
theorem blow_grew {l : List V2} {i : Int} (h : (smoothB l && blowB l i) = true) : (blowL l i.toNat (blowP l i.toNat)).length = l.length + 1 ∧ (blowL l i.toNat (blowP l i.toNat)).length ≤ 20 := by
  rw [Bool.and_eq_true] at h
  have h2 := h.2
  unfold blowB at h2
  rw [Bool.and_eq_true] at h2
  obtain ⟨m, hm, hlt⟩ := idx_in h2.1
  exact ⟨blowL_len (by omega), (fan_len h2.2).2⟩
/-- a list of vectors, from block w.heap.size on; the reader in block B goes on from some place -/
def DrewFan (w : World) (B : Nat) (a : Option Addr) (len cap : Nat) (p : Int) (e : Ending) (w' : World) : Prop :=
  ∃ (v : Value) (l : List V2) (q : Int), e = .returned v ∧ VecsO w' w.heap.size v l ∧ 2 ≤ l.length ∧ l.length ≤ 20 ∧ Reads w' B a len cap q ∧ q ≤ p + 10 ∧ Below B w w'
def SmoothR (w : World) (B : Nat) (a : Option Addr) (len cap : Nat) (p : Int) (v : Value) (wr : World) : Prop :=
  ∃ (l : List V2) (q : Int), VecsO wr w.heap.size v l ∧ 3 ≤ l.length ∧ l.length ≤ 20 ∧ Reads wr B a len cap q ∧ q ≤ p ∧ Below B w wr
theorem SmoothR.mono {w : World} {B : Nat} {a : Option Addr} {len cap : Nat} {p p' : Int} {v : Value} {wr : World} (h : SmoothR w B a len cap p v wr) (hp : p ≤ p') : SmoothR w B a len cap p' v wr := by
  obtain ⟨l, q, h1, h2, h3, h4, h5, h6⟩ := h
  exact ⟨l, q, h1, h2, h3, h4, by omega, h6⟩
set_option maxRecDepth 100000 in
set_option maxHeartbeats 16000000 in
theorem l91Smooth_any (w : World) (B : Nat) (a : Option Addr) (len cap : Nat) (p : Int) (h : Reads w B a len cap p) (hp : p ≤ 90000) :
    Calls Tryd.prog 99 #[.pointer (some ⟨B, 0, none⟩)] w (DrewFan w B a len cap p) := by
  obtain ⟨i0, hi, hz0, hz1, hz2'⟩ := info_parts infoVec
  have hB : B < w.heap.size := h.2.2.2.2.1
  have HB := Lib.hid hB
  have HE := Lib.hid ((Ints.empty w).reads (by simp))
  have HF := Lib.hid (fun w' v' h' => specFanBuild_any v' [] w' h')
  have HBl := Lib.hid (fun v' l i w' h' => specFanBlow_any v' l i w' h')
  have HR := Lib.hid h
  have HT : Hid (gV (builtB []) (builtL []) = triL ∧ builtB [] = true) := ⟨rfl, rfl⟩
  clear h hB
  go_enter Tryd.func99, Tryd.ntmps99
  go_wp2_with fail
  refine Calls.mono (HF.out _ _ HE.out) ?_
  rintro e w1 ⟨v1, rfl, hI, hb1⟩
  rw [HT.out.1] at hI
  rw [HT.out.2]
  have hA : Below w.heap.size w w1 := belowTo (by go_grown) hb1
  have R1 := HR.out.below (hA.mono (by have := HB.out; omega))
  have V1 : VecsO w1 w.heap.size v1 triL := (VecsO.of (hI.lower (by simp)) (by decide) (by decide))
  have HV1 := Lib.hid V1
  have Q1 := hA.mono (show B ≤ w.heap.size by have := HB.out; omega)
  clear hI hb1 V1 HE HF HR hA
  have hs1 := Q1.size
  go_upto_region 2 with fail
  go_cut [3, 16] (fun s3 s16 wx => (∃ b, s16 = .bool b) ∧ SmoothR w B a len cap (p + 1) s3 wx)
  case first =>
    go_wp2_with fail
    refine Calls.mono (pickG_any _ B a len cap p 3 R1 (by omega) (by omega)) ?_
    rintro e w2 ⟨⟨x, rfl, x0, x3, R2, _, _, s2, q2⟩, g2⟩
    have Q2 := Q1.trans q2
    have hf : SmoothR w B a len cap (p + 1) v1 w2 := ⟨triL, p + 1, HV1.out.picked g2 HB.out, by decide, by decide, R2, by omega, Q2⟩
    have HF := Lib.hid hf
    clear R1 HV1 g2 q2 Q1 hs1 s2 hf R2 Q2
    go_wp2_with fail
    go_meet
    exact ⟨⟨_, rfl⟩, HF.out⟩
  case rest =>
  have HC0 := Lib.hid hcut
  clear hcut R1 HV1 Q1
  go_wp2_with fail
  obtain ⟨⟨b, rfl⟩, hc⟩ := HC0.out
  have HC := Lib.hid hc
  clear hc HC0
  go_cut [3] (fun s3 wx => SmoothR w B a len cap (p + 2) s3 wx)
  case first =>
    cases b
    · have HF := Lib.hid (HC.out.mono (show p + 1 ≤ p + 2 by omega))
      go_wp2_with fail
      go_meet
      exact HF.out
    · obtain ⟨l, q, V, h3, h20, R2, hq, Q2⟩ := HC.out
      clear HC
      go_wp2_with fail
      refine Calls.mono (pickG_any _ B a len cap q 4 R2 (by omega) (by omega)) ?_
      rintro e w3 ⟨⟨y, rfl, y0, y4, R3, _, _, s3, q3⟩, g3⟩
      have Q3 := Q2.trans q3
      have HK := Lib.hid (fun w' => specKind4_any y w' (by omega))
      have hz3 : w.heap.size ≤ w3.heap.size := Q3.size
      clear R2 V g3 q3 Q2 s3
      go_wp2_with fail
      refine Calls.mono (HK.out _) ?_
      rintro e w4 ⟨v4, rfl, hI4, hb4⟩
      have hf : SmoothR w B a len cap (p + 2) v4 w4 := ⟨hirL y, q + 1, VecsO.of (hI4.lower hz3) (by simp [hirL]) (by simp [hirL]), by simp [hirL], by simp [hirL], R3.below (hb4.mono (by have := HB.out; omega)), by omega, Q3.trans (hb4.mono (by have := HB.out; omega))⟩
      have HF := Lib.hid hf
      clear hI4 hb4 hf HK R3
      go_wp2_with fail
      go_meet
      exact HF.out
  case rest =>
  have HCt := Lib.hid hcut
  clear hcut
  obtain ⟨l, q, V, h3, h20, R, hq, Q⟩ := HCt.out
  clear HCt
  go_wp2_with fail
  refine Calls.mono (pickG_any _ B a len cap q 5 R (by omega) (by omega)) ?_
  rintro e w2 ⟨⟨x, rfl, x0, x5, R2, _, _, s2, q2⟩, g2⟩
  have HS2 := Lib.hid (show SmoothR w B a len cap (p + 3) _ w2 from ⟨l, q + 1, V.picked g2 HB.out, h3, h20, R2, by omega, Q.trans q2⟩)
  clear V h3 h20 R2 g2 q2 R Q s2 hq
  go_wp2
  go_loopw [3, 6] (fun s3 s6 wr => ∃ k : Nat, s6 = .int .i64 k ∧ (k : Int) ≤ x ∧ Hid (SmoothR w B a len cap (p + 3 + k) s3 wr)) (fun _ s6 _ => (x - intOf s6).toNat)
  case atStart => exact ⟨0, rfl, by omega, Lib.hid (HS2.out.mono (by omega))⟩
  case round =>
    obtain ⟨k, rfl, hk, HS⟩ := hrel
    clear HS2
    obtain ⟨l, q, V, h3, h20, R, hq, Q⟩ := HS.out
    obtain ⟨bb, off, c, rfl, hc, hbb, hbs, hcs⟩ := V.open (by omega)
    by_cases hlt : (k : Int) < x
    · clear hcs
      go_wp2_with fail
      refine Calls.mono (pickG_any _ B a len cap q l.length R (by omega) (by omega)) ?_
      rintro e w2 ⟨⟨y, rfl, y0, y4, R2, _, _, s2, q2⟩, g2⟩
      have V2 := V.picked g2 HB.out
      have HBk := Lib.hid (HBl.out _ l y w2 V2.1)
      have Q2 := Q.trans q2
      have hz2 : w.heap.size ≤ w2.heap.size := Q2.size
      have HV2 := Lib.hid V2
      have HG := Lib.hid (fun (h : (smoothB l && blowB l y) = true) => blow_grew h)
      clear V V2 R g2 q2 Q HS
      generalize (smoothB l && blowB l y) = K at *
      generalize blowL l y.toNat (blowP l y.toNat) = L2 at *
      go_wp2_with fail
      refine Calls.mono HBk.out ?_
      rintro e w3 ⟨v3, rfl, hI, hb3⟩
      have R3 := R2.below (hb3.mono (by have := HB.out; omega))
      have Q3 := Q2.trans (hb3.mono (by have := HB.out; omega))
      cases K
      · have HF : Hid (SmoothR w B a len cap (p + 3 + ((k + 1 : Nat) : Int)) (.slice (some ⟨bb, off, none⟩) l.length c) w3) := ⟨l, q + 1, HV2.out.below hb3, h3, h20, R3, by omega, Q3⟩
        clear hI hb3 R2 R3 Q2 Q3 HG HV2 HBk
        go_wp2
        go_roundw
        case rel => exact ⟨k + 1, by go_num, by omega, HF.out⟩
        case measure => simp [intOf]; omega
      · obtain ⟨g1, g2⟩ := HG.out rfl
        have HF : Hid (SmoothR w B a len cap (p + 3 + ((k + 1 : Nat) : Int)) v3 w3) := ⟨L2, q + 1, VecsO.of (Vecs.lower hI hz2) (by omega) (by omega), by omega, g2, R3, by omega, Q3⟩
        clear hI hb3 R2 R3 Q2 Q3 HG HV2 HBk g1 g2
        go_wp2
        go_roundw
        case rel => exact ⟨k + 1, by go_num, by omega, HF.out⟩
        case measure => simp [intOf]; omega
    · go_wp2_with fail
      refine Calls.mono (pickG_any _ B a len cap q 24 R (by omega) (by omega)) ?_
      rintro e w2 ⟨⟨y, rfl, y0, y4, R2, _, _, s2, q2⟩, g2⟩
      have V2 := V.picked g2 HB.out
      have Q2 := Q.trans q2
      obtain ⟨bb', off', c', e', hc', hbb', hbs', hcs'⟩ := V2.open (by omega)
      injection e' with e1 e2 e3
      injection e1 with e4
      injection e4 with e5 e6
      subst e5 e6 e3
      have hq3 : q + 1 ≤ p + 10 := by omega
      have HV2 := Lib.hid V2
      have HQ2 := Lib.hid Q2
      have HR2 := Lib.hid R2
      have HCS := Lib.hid hcs'
      clear V V2 R R2 Q Q2 g2 q2 HS hcs hcs' hbb' hbs s2
      have hz2 : w.heap.size ≤ w2.heap.size := HQ2.out.size
      obtain hv | hv | ⟨hv0, hv1⟩ : y = 0 ∨ y = 1 ∨ ((y == 0) = false ∧ (y == 1) = false) := by
        by_cases h0 : y = 0
        · exact .inl h0
        by_cases h1 : y = 1
        · exact .inr (.inl h1)
        · exact .inr (.inr ⟨by simpa using h0, by simpa using h1⟩)
      · subst hv
        obtain ⟨n, hn⟩ : ∃ n, l.length = n + 1 := ⟨l.length - 1, by omega⟩
        have HF := Lib.hid (VecsO.tail (l := l) (c := c) (off := off) hbb hbs' hn (by omega) (by omega) HCS.out)
        have hl2 : (l.drop 1).length = n := by simp; omega
        have i1 : (1 : Int) ≤ (l.length : Int) := by omega
        have i3 : l.length - 1 = n := by omega
        go_wp2
        go_returns
        exact ⟨_, l.drop 1, q + 1, rfl, HF.out, by omega, by omega, HR2.out, hq3, HQ2.out⟩
      · subst hv
        obtain ⟨n, hn⟩ : ∃ n, l.length = n + 1 := ⟨l.length - 1, by omega⟩
        obtain ⟨c0, c1⟩ := HCS.out n (by omega)
        have HT0 : Hid (0 + n ≤ l.length) := by show _ ≤ _; omega
        have hl2 : ((l.drop 0).take n).length = n := by simp; omega
        have HO := Lib.hid (fun w' => Vecs.one w' (cyc l n).1 (cyc l n).2)
        have hb1 := hbs'
        have HCc := Lib.hid (fun wr (h : Below w2.heap.size w2 wr) j (hj : j < l.length) => (⟨(h.cell (p := ⟨bb, off + j * 2, none⟩) hb1).trans (HCS.out j hj).1, (h.cell (p := ⟨bb, off + j * 2 + 1, none⟩) hb1).trans (HCS.out j hj).2⟩ : wr.cell? ⟨bb, off + j * 2, none⟩ = some (.int .i64 (cyc l j).1) ∧ wr.cell? ⟨bb, off + j * 2 + 1, none⟩ = some (.int .i64 (cyc l j).2)))
        generalize cyc l n = Z at c0 c1 HO
        obtain ⟨zx, zy⟩ := Z
        dsimp only at c0 c1 HO
        have HOw := Lib.hid ((HO.out w2.drew).lower hz2)
        have HBd := Lib.hid (show Below w2.heap.size w2 (w2.drew.alloc (.cells #[.int .i64 zx, .int .i64 zy] 43)) by go_grown)
        have HBz := Lib.hid (show w.heap.size ≤ (w2.drew.alloc (.cells #[.int .i64 zx, .int .i64 zy] 43)).heap.size by simp; omega)
        have i0' : (0 : Int) ≤ (n : Int) := by omega
        have i1 : (n : Int) < (l.length : Int) := by omega
        have i2 : (n : Int) ≤ (c : Int) := by omega
        have i3 : n < l.length := by omega
        have q1 : IntKind.i64.wrap ((l.length : Int) - 1) = (n : Int) := by rw [IntKind.wrap_i64]; omega
        have hnl : n ≤ 19 := by omega
        have hn2 : 2 ≤ n := by omega
        have HL3 : Hid (([(zx, zy)] ++ (l.drop 0).take n).length = n + 1) := by show _ = _; rw [List.length_append, hl2]; simp; omega
        have HN := Lib.hid hn
        have HL20 := Lib.hid h20
        clear hn h3 h20 HV2
        go_wp2
        refine wp_region_any (by kernel_rfl) ?_
        try (change wpAny _ _ _ _ _ _ _ (World.drew _))
        refine wpAny_take (i := 0) (v := ?_) rfl (by kernel_rfl) (by kernel_rfl) (by kernel_rfl) (fun _ _ _ h => h) (Or.inl ⟨by rfl, ?_⟩) ?_
        rotate_left
        focus (intro w0; go_simp; try with_reducible rfl)
        refine wpAny_take (i := 1) (v := ?_) rfl (by kernel_rfl) (by kernel_rfl) (by kernel_rfl) (fun _ _ _ h => h) (Or.inl ⟨by rfl, ?_⟩) ?_
        rotate_left
        focus (intro w0; go_simp; try with_reducible rfl)
        refine wpAny_take (i := 2) (v := ?_) rfl (by kernel_rfl) (by kernel_rfl) (by kernel_rfl) (fun _ _ _ h => h) (Or.inl ⟨by rfl, ?_⟩) ?_
        rotate_left
        focus (intro w0; go_simp; try with_reducible rfl)
        refine wpAny_take (i := 3) (v := ?_) rfl (by kernel_rfl) (by kernel_rfl) (by kernel_rfl) (fun _ _ _ h => h) (Or.inl ⟨by rfl, ?_⟩) ?_
        rotate_left
        focus (intro w0; go_simp; try with_reducible rfl)
        refine wpAny_take (i := 4) (v := ?_) rfl (by kernel_rfl) (by kernel_rfl) (by kernel_rfl) (fun _ _ _ h => h) (Or.inl ⟨by rfl, ?_⟩) ?_
        rotate_left
        focus (intro w0; go_simp; try with_reducible rfl)
        refine wpAny_take (i := 7) (v := ?_) rfl (by kernel_rfl) (by kernel_rfl) (by kernel_rfl) (fun _ _ _ h => h) (Or.inl ⟨by rfl, ?_⟩) ?_
        rotate_left
        focus (intro w0; go_simp; try with_reducible rfl)
        refine wpAny_take (i := 8) (v := ?_) rfl (by kernel_rfl) (by kernel_rfl) (by kernel_rfl) (fun _ _ _ h => h) (Or.inl ⟨by rfl, ?_⟩) ?_
        rotate_left
        focus (intro w0; go_simp; try with_reducible rfl)
        refine wpAny_take (i := 9) (v := ?_) rfl (by kernel_rfl) (by kernel_rfl) (by kernel_rfl) (fun _ _ _ h => h) (Or.inl ⟨by rfl, ?_⟩) ?_
        rotate_left
        focus (intro w0; go_simp; try with_reducible rfl)
        refine wpAny_take (i := 10) (v := ?_) rfl (by kernel_rfl) (by kernel_rfl) (by kernel_rfl) (fun _ _ _ h => h) (Or.inl ⟨by rfl, ?_⟩) ?_
        rotate_left
        focus (intro w0; go_simp; try with_reducible rfl)
        refine wpAny_take (i := 11) (v := ?_) rfl (by kernel_rfl) (by kernel_rfl) (by kernel_rfl) (fun _ _ _ h => h) (Or.inl ⟨by rfl, ?_⟩) ?_
        rotate_left
        focus (intro w0; go_simp; try with_reducible rfl)
        refine wpAny_ready (rs := [5]) (by kernel_rfl) (by simp) (AllReady.cons rfl (fun K hK => ?_) (AllReady.nil))
        go_simp
        refine hK _ _ ?_
        clear hK K
        refine wpAny_ready (rs := [6]) (by kernel_rfl) (by simp) (AllReady.cons rfl (fun K hK => ?_) (AllReady.nil))
        go_simp
        refine hK _ _ ?_
        clear hK K
        refine wpAny_ready (rs := [12]) (by kernel_rfl) (by simp) (AllReady.cons rfl (fun K hK => ?_) (AllReady.nil))
        (refine step_list (by rintro ⟨_, _, h⟩; obtain ⟨_, _, _, hv, _⟩ := h; cases hv) (by kernel_rfl) ?_; refine wpList_append_own_at _ rfl _ _ 23 rfl w.heap.size 43 i0 (.agg #[.int .i64 (0), .int .i64 (0)]) 2 16 Tryd.underlying23 hi hz0 hz1 hz2' rfl (by decide) _ _ _ rfl HOw.out _ _ _ _ rfl (piece_len HT0.out) (piece_cells (HCc.out _ HBd.out) HT0.out) (piece_one _) (by unfold maxLen; simp; omega) (by simp; omega) HBz.out ?_; intro v2 w3 hown2 hgrow2 _ _; have HB3 := Lib.hid ((HBd.out.mono hz2).grown hgrow2 HBz.out (fun q hq => (World.ownsRow.lt HOw.out q hq).1)); have HO3 := Lib.hid (Vecs.join (l := [(zx, zy)]) hown2 (by rw [hl2])); clear hown2 hgrow2)
        refine hK _ _ ?_
        clear hK K
        refine wpAny_seq 13 rfl (by kernel_rfl) ?_
        simp only [List.drop_succ_cons, List.drop_zero]
        all_goals
          have HF := Lib.hid (VecsO.of HO3.out (by rw [HL3.out]; omega) (by rw [HL3.out]; omega))
          have HR3 := Lib.hid (HR2.out.below (HB3.out.mono (by have := HB.out; omega)))
          have HQ3 := Lib.hid (HQ2.out.trans (HB3.out.mono (by have := HB.out; omega)))
          go_wp2
          go_returns
          exact ⟨_, _, q + 1, rfl, HF.out, by rw [HL3.out]; omega, by rw [HL3.out]; omega, HR3.out, hq3, HQ3.out⟩
      · go_wp2
        go_returns
        exact ⟨_, l, q + 1, rfl, HV2.out, by omega, h20, HR2.out, hq3, HQ2.out⟩
end Go.Proofs.YtohojjoediibhaaDoor

/- The draws of chapter 4: a divisor, seldom another list: the list alone, and where it lies. -/
namespace Go.Proofs.YtohojjoediibhaaDoor
open Go.RowKit

theorem grown_refl (w : World) (row : Option Nat) : w.grownBy w row := ⟨rfl, rfl, rfl, Nat.le_refl _, fun _ _ _ => rfl⟩
theorem grown_trans {w w1 w2 : World} {row : Option Nat} (h1 : w.grownBy w1 row) (h2 : w1.grownBy w2 row) : w.grownBy w2 row :=
  ⟨h2.os.trans h1.os, h2.tape.trans h1.tape, h2.output.trans h1.output, Nat.le_trans h1.size h2.size, fun k hk hne => (h2.block k (Nat.lt_of_lt_of_le hk h1.size) hne).trans (h1.block k hk hne)⟩
theorem grown_then {w w1 w2 : World} {row : Option Nat} (h1 : w.grownBy w1 row) (h2 : Below w.heap.size w1 w2) : w.grownBy w2 row :=
  ⟨h2.os.trans h1.os, h2.tape.trans h1.tape, h2.output.trans h1.output, Nat.le_trans h1.size h2.size, fun k hk hne => (h2.block k hk).trans (h1.block k hk hne)⟩
def DrewDiv (w : World) (B : Nat) (a : Option Addr) (len cap : Nat) (n : Nat) (p : Int) (e : Ending) (w' : World) : Prop :=
  ∃ (u : Value) (d : List Int) (q : Int), e = .returned u ∧ Ints w' w.heap.size u d ∧ d.length = n ∧ Reads w' B a len cap q ∧ q ≤ p + 3 + n ∧ Below B w w' ∧ w.grownBy w' (some B)
def DivR (w : World) (B : Nat) (a : Option Addr) (len cap : Nat) (p : Int) (k : Nat) (u : Value) (wr : World) : Prop :=
  ∃ (d : List Int) (q : Int), Ints wr w.heap.size u d ∧ d.length = k ∧ Reads wr B a len cap q ∧ q ≤ p + 1 + k ∧ Below B w wr ∧ w.grownBy wr (some B)
theorem DivR.snoc {w : World} {B : Nat} {a : Option Addr} {len cap : Nat} {p q : Int} {k : Nat} {d : List Int} {x : Int} {w2 w3 : World} {v' : Value} (hk : d.length = k) (hB : B < w.heap.size) (r : Reads w2 B a len cap q) (hq : q ≤ p + 2 + k) (hQ : Below B w w2) (hG : w.grownBy w2 (some B))
    (hb : Below w.heap.size w2 w3) (hown : w3.ownsRow w.heap.size 3 1 v' (k + 1) (intsV d ++ [.int .i64 x])) : DivR w B a len cap p (k + 1) v' w3 := by
  refine ⟨d ++ [x], q, ?_, by simp [hk], r.below (hb.mono (by omega)), by omega, hQ.trans (hb.mono (by omega)), grown_then hG hb⟩
  have : intsV (d ++ [x]) = intsV d ++ [.int .i64 x] := by simp [intsV]
  unfold Ints
  rw [this, List.length_append, hk]
  exact hown
set_option maxRecDepth 100000 in
set_option maxHeartbeats 16000000 in
theorem l92Divisor_any (w : World) (B : Nat) (a : Option Addr) (len cap : Nat) (p : Int) (va : Option Addr) (n vc : Nat) (h : Reads w B a len cap p) (hp : p ≤ 90000) (hn : 1 ≤ n) (hn2 : n ≤ 1000) :
    Calls Tryd.prog 137 #[.pointer (some ⟨B, 0, none⟩), .slice va n vc] w (DrewDiv w B a len cap n p) := by
  obtain ⟨i0, hi, hz0, hz1, hz2⟩ := info_parts infoInt
  have hB : B < w.heap.size := h.2.2.2.2.1
  have hE := Ints.empty w
  go_enter Tryd.func137, Tryd.ntmps137
  go_wp2_with fail
  refine Calls.mono (pickG_any _ B a len cap p 3 (h.below (by go_grown)) (by omega) (by omega)) ?_
  rintro e w1 ⟨⟨x, rfl, x0, x3, r1, k1, f1, s1, q1⟩, g1⟩
  have Q1 : Below B w w1 := Below.trans (by go_grown) q1
  have I1 : DivR w B a len cap p 0 (.slice (some ⟨w.heap.size, 0, none⟩) 0 0) w1 := ⟨[], p + 1, hE.picked g1 hB, rfl, r1, by omega, Q1, grown_trans (grown_then (grown_refl w _) (by go_grown)) g1⟩
  have HI1 := Lib.hid I1
  have HB := Lib.hid hB
  clear k1 f1 s1 q1 h hE g1 r1 I1 Q1
  go_wp2
  go_loopw [5, 7] (fun s5 s7 wr => ∃ (k : Nat), s7 = .int .i64 k ∧ k ≤ n ∧ Hid (DivR w B a len cap p k s5 wr)) (fun _ s7 _ => n - (intOf s7).toNat)
  case atStart => exact ⟨0, rfl, by omega, HI1⟩
  case round =>
    obtain ⟨k, rfl, hk, HS⟩ := hrel
    clear HI1
    obtain ⟨d, q, hI, hdk, r, hq, hQ, hG⟩ := HS.out
    clear HS
    have i0' : (0 : Int) ≤ (k : Int) := by omega
    by_cases hlt : k < n
    · have i1 : (k : Int) < (n : Int) := by omega
      obtain hv | hv | ⟨hv0, hv1⟩ : x = 0 ∨ x = 1 ∨ ((x == 0) = false ∧ (x == 1) = false) := by
        by_cases h0 : x = 0
        · exact .inl h0
        by_cases h1 : x = 1
        · exact .inr (.inl h1)
        · exact .inr (.inr ⟨by simpa using h0, by simpa using h1⟩)
      · subst hv
        go_wp2_with fail
        refine Calls.mono (pickG_any _ B a len cap q 7 r (by omega) (by omega)) ?_
        rintro e w2 ⟨⟨y, rfl, y0, y4, r2, k2, f2, s2, q2⟩, g2⟩
        have hown : w2.ownsRow w.heap.size 3 1 _ _ _ := hI.picked g2 hB
        have HQ2 := Lib.hid (hQ.trans q2)
        have HG2 := Lib.hid (grown_trans hG g2)
        have hbs : w.heap.size ≤ w2.heap.size := HQ2.out.size
        have HR2 := Lib.hid r2
        rw [hdk] at hown
        clear k2 f2 s2 q2 g2 hI r hQ r2 hG
        go_wp2_with (at_builtin; refine wpList_append_own _ rfl _ _ 24 rfl w.heap.size 3 i0 (.int .i64 0) 1 8 Tryd.underlying24 hi hz0 hz1 hz2 rfl (by decide) _ _ _ rfl (hown.alloc _) ⟨w2.heap.size, 0, none⟩ 1 1 [.int .i64 (y - 3)] rfl rfl ?c1 ?c2 ?c3 ?c4 ?c5 ?_)
        case c1 =>
          intro j u hj
          match j, hj with
          | 0, hj => simp at hj; subst hj; simp [Addr.add]
        case c2 => intro u hu; simp at hu; subst hu; rfl
        case c3 => unfold maxLen; omega
        case c4 => omega
        case c5 => simp; omega
        intro v' w3 hown' hgrow _
        have hB3 : Below w.heap.size w2 w3 := ((Below.refl w.heap.size w2).alloc hbs _).grown hgrow (by simp; omega) (fun k hk => (hown.lt k hk).1)
        have HF := Lib.hid (DivR.snoc (p := p) hdk HB.out HR2.out (by omega) HQ2.out HG2.out hB3 hown')
        clear hown hown' hgrow hB3 hbs HR2 HQ2
        go_wp2
        go_roundw
        case rel => exact ⟨k + 1, by go_num, by omega, HF⟩
        case measure => simp [intOf]; omega
      · subst hv
        go_wp2_with fail
        refine Calls.mono (pickG_any _ B a len cap q 2 r (by omega) (by omega)) ?_
        rintro e w2 ⟨⟨y, rfl, y0, y4, r2, k2, f2, s2, q2⟩, g2⟩
        have hown : w2.ownsRow w.heap.size 3 1 _ _ _ := hI.picked g2 hB
        have HQ2 := Lib.hid (hQ.trans q2)
        have HG2 := Lib.hid (grown_trans hG g2)
        have hbs : w.heap.size ≤ w2.heap.size := HQ2.out.size
        have HR2 := Lib.hid r2
        rw [hdk] at hown
        clear k2 f2 s2 q2 g2 hI r hQ r2 hG
        go_wp2_with (at_builtin; refine wpList_append_own _ rfl _ _ 24 rfl w.heap.size 3 i0 (.int .i64 0) 1 8 Tryd.underlying24 hi hz0 hz1 hz2 rfl (by decide) _ _ _ rfl (hown.alloc _) ⟨w2.heap.size, 0, none⟩ 1 1 [.int .i64 (2 + y)] rfl rfl ?c1 ?c2 ?c3 ?c4 ?c5 ?_)
        case c1 =>
          intro j u hj
          match j, hj with
          | 0, hj => simp at hj; subst hj; simp [Addr.add]
        case c2 => intro u hu; simp at hu; subst hu; rfl
        case c3 => unfold maxLen; omega
        case c4 => omega
        case c5 => simp; omega
        intro v' w3 hown' hgrow _
        have hB3 : Below w.heap.size w2 w3 := ((Below.refl w.heap.size w2).alloc hbs _).grown hgrow (by simp; omega) (fun k hk => (hown.lt k hk).1)
        have HF := Lib.hid (DivR.snoc (p := p) hdk HB.out HR2.out (by omega) HQ2.out HG2.out hB3 hown')
        clear hown hown' hgrow hB3 hbs HR2 HQ2
        go_wp2
        go_roundw
        case rel => exact ⟨k + 1, by go_num, by omega, HF⟩
        case measure => simp [intOf]; omega
      · have hown : wr.ownsRow w.heap.size 3 1 _ _ _ := hI
        have HQ2 := Lib.hid hQ
        have HG2 := Lib.hid hG
        have hbs : w.heap.size ≤ wr.heap.size := HQ2.out.size
        have HR2 := Lib.hid r
        rw [hdk] at hown
        clear hI r hQ hG
        go_wp2_with (at_builtin; refine wpList_append_own _ rfl _ _ 24 rfl w.heap.size 3 i0 (.int .i64 0) 1 8 Tryd.underlying24 hi hz0 hz1 hz2 rfl (by decide) _ _ _ rfl (hown.alloc _) ⟨wr.heap.size, 0, none⟩ 1 1 [.int .i64 1] rfl rfl ?c1 ?c2 ?c3 ?c4 ?c5 ?_)
        case c1 =>
          intro j u hj
          match j, hj with
          | 0, hj => simp at hj; subst hj; simp [Addr.add]
        case c2 => intro u hu; simp at hu; subst hu; rfl
        case c3 => unfold maxLen; omega
        case c4 => omega
        case c5 => simp; omega
        intro v' w3 hown' hgrow _
        have hB3 : Below w.heap.size wr w3 := ((Below.refl w.heap.size wr).alloc hbs _).grown hgrow (by simp; omega) (fun k hk => (hown.lt k hk).1)
        have HF := Lib.hid (DivR.snoc (p := p) hdk HB.out HR2.out (by omega) HQ2.out HG2.out hB3 hown')
        clear hown hown' hgrow hB3 hbs HR2 HQ2
        go_wp2
        go_roundw
        case rel => exact ⟨k + 1, by go_num, by omega, HF⟩
        case measure => simp [intOf]; omega
    · obtain rfl : k = n := by omega
      rcases hI.form with ⟨h0, _⟩ | ⟨_, g, c, rfl, hgb, hgs, hlc⟩
      · rw [h0] at hdk; simp at hdk; omega
      · have hi2 : ¬ (k : Int) < (k : Int) := by omega
        have j0 : (0 : Int) < (d.length : Int) := by omega
        go_wp2_with fail
        refine Calls.mono (pickG_any _ B a len cap q 24 r (by omega) (by omega)) ?_
        rintro e w2 ⟨⟨y, rfl, y0, y4, r2, k2, f2, s2, q2⟩, g2⟩
        have hI2 := hI.picked g2 hB
        have hQ2 := hQ.trans q2
        have hG2 := grown_trans hG g2
        clear k2 f2 s2 q2 g2 hI r hQ hG
        by_cases hv : y = 0
        · subst hv
          go_wp2_with fail
          refine Calls.mono (pickG_any _ B a len cap (q + 1) 2 r2 (by omega) (by omega)) ?_
          rintro e w3 ⟨⟨z, rfl, z0, z4, r3, k3, f3, s3, q3⟩, g3⟩
          have hI3 := hI2.picked g3 hB
          have hQ3 := hQ2.trans q3
          have HG3 := Lib.hid (grown_then (grown_trans hG2 g3) ((Below.refl w.heap.size w3).setCell (p := ⟨g, 0, none⟩) hgb (.int .i64 (100 + z))))
          have hO : w3.ownsRow w.heap.size 3 1 (.slice (some ⟨g, 0, none⟩) d.length c) d.length (intsV d) := hI3
          have hst := hO.stored 0 (.int .i64 (100 + z))
          have F := World.ownsRow.frozenAt hO 0
          have hc := World.ownsRow.cellAt hO 0 (by omega)
          obtain ⟨u, hu⟩ : ∃ u, (intsV d)[0]? = some u := ⟨_, List.getElem?_eq_getElem (by have := hO.1; omega)⟩
          rw [hu] at hc
          have HS : Hid (Ints (w3.setCell ⟨g, 0, none⟩ (.int .i64 (100 + z))) w.heap.size (.slice (some ⟨g, 0, none⟩) d.length c) (d.set 0 (100 + z))) := by
            have : (intsV d).set 0 (.int .i64 (100 + z)) = intsV (d.set 0 (100 + z)) := by simp [intsV, List.map_set]
            rw [this] at hst
            exact Ints.as (by simp) hst.1
          have HR3 := Lib.hid (r3.below ((Below.refl (B + 1) w3).setCell (p := ⟨g, 0, none⟩) (by show B + 1 ≤ g; have := HB.out; omega) (.int .i64 (100 + z))))
          have HQ3 := Lib.hid (hQ3.setCell (p := ⟨g, 0, none⟩) (by show B ≤ g; have := HB.out; omega) (.int .i64 (100 + z)))
          have HDk : Hid ((d.set 0 (100 + z)).length = k) := by show _ = _; simp [hdk]
          have hq4 : q + 1 + 1 ≤ p + 3 + k := by omega
          have hS2 := HS.out
          rw [hdk] at hS2
          have HS2 := Lib.hid hS2
          have hd0 : 0 < d.length := by omega
          clear hS2
          clear k3 f3 s3 q3 g3 hI2 hI3 hQ2 hQ3 hO hst hu r2 r3 hdk hG2
          go_wp2
          go_returns
          exact ⟨_, _, q + 1 + 1, rfl, HS2.out, HDk.out, HR3.out, hq4, HQ3.out, HG3.out⟩
        · have hv' : (y == 0) = false := by simpa using hv
          rw [hdk] at hI2
          have HI2 := Lib.hid hI2
          have HD := Lib.hid hdk
          clear hI2 hdk
          go_wp2
          go_returns
          exact ⟨_, d, q + 1, rfl, HI2.out, HD.out, r2, by omega, hQ2, hG2⟩
/-- a list of vectors and as many numbers, in new memory -/
def GivenD (w : World) (e : Ending) (w' : World) : Prop :=
  ∃ (v u : Value) (l : List V2) (d : List Int), e = .returned (.tuple #[v, u]) ∧ ReadsVecs w' v l ∧ ReadsInts w' u d ∧ 2 ≤ l.length ∧ l.length ≤ 20 ∧ d.length = l.length ∧ Below w.heap.size w w'
set_option maxHeartbeats 4000000 in
theorem l92Given_any (w : World) (a : Option Addr) (len cap : Nat) (h : Bytes w a len cap) :
    Calls Tryd.prog 78 #[.slice a len cap] w (GivenD w) := by
  have HO := Lib.hid (l6Open_any w a len cap h)
  clear h
  go_enter Tryd.func78, Tryd.ntmps78
  go_wp2_with fail
  refine Calls.mono HO.out ?_
  rintro e w1 ⟨l1, c1, rfl, r1, hb1, hs1⟩
  go_wp2_with fail
  refine Calls.mono (l91Smooth_any w1 w.heap.size a l1 c1 0 r1 (by omega)) ?_
  rintro e w2 ⟨v, l, q, rfl, hV, h2, h20, r2, hq, hb2⟩
  have hB2 := hb1.trans hb2
  obtain ⟨bb, off, c, rfl, hc, hbb, hbs, hcs⟩ := hV.open (by omega)
  clear hcs hb2 hb1 r1
  go_wp2_with fail
  refine Calls.mono (l92Divisor_any w2 w.heap.size a l1 c1 q _ l.length c r2 (by omega) (by omega) (by omega)) ?_
  rintro e w3 ⟨u, d, q3, rfl, hI, hd, r3, hq3, hb3, hG3⟩
  have hV3 := hV.picked hG3 (by omega)
  have HR := Lib.hid hV3.1
  have HI := Lib.hid (hI.reads (by omega))
  have HD := Lib.hid hd
  have hB := hB2.trans hb3
  clear hV hV3 hI hb3 hG3 hB2 r2 r3 hd
  go_wp2
  go_returns
  exact ⟨_, _, l, d, rfl, HR.out, HI.out, h2, h20, HD.out, hB⟩
end Go.Proofs.YtohojjoediibhaaDoor
