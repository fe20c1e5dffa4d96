/- The draws of a fan whose spare cells are known too; the draw of FanOf. -/
import Derived.Test.YtcieihbknfeddaaDoorUl
import Derived.ArgAppend
import Derived.Laws.IdiomCopy
namespace Go.Proofs.YtcieihbknfeddaaDoor
open Go.RowKit

/-- vectors in memory from block 'base' on: perhaps a part of a longer slice, with room behind it -/
def VecsS (w : World) (base : Nat) (v : Value) (l : List V2) : Prop := ReadsVecs w v l ∧ (∀ bb off n c, v = .slice (some ⟨bb, off, none⟩) n c → base ≤ bb) ∧
  ∀ bb off n c, v = .slice (some ⟨bb, off, none⟩) n c → ∀ j, j < (c - n) * 2 → (w.cell? ⟨bb, off + n * 2 + j, none⟩).isSome = true ∧ w.frozen? ⟨bb, off + n * 2 + j, none⟩ = false
theorem VecsS.toO {w : World} {base : Nat} {v : Value} {l : List V2} (h : VecsS w base v l) : VecsO w base v l := ⟨h.1, h.2.1⟩
theorem spare_lt {w : World} {bb o : Nat} (h : (w.cell? ⟨bb, o, none⟩).isSome = true) : bb < w.heap.size := by
  obtain ⟨x, hx⟩ := Option.isSome_iff_exists.1 h
  exact cell_lt hx
theorem VecsS.below {w w' : World} {base : Nat} {v : Value} {l : List V2} (h : VecsS w base v l) (hb : Below w.heap.size w w') : VecsS w' base v l :=
  ⟨h.1.below hb, h.2.1, fun bb off n c e j hj => by
    obtain ⟨a, b⟩ := h.2.2 bb off n c e j hj
    have lt := spare_lt a
    exact ⟨by rw [hb.cell (p := ⟨bb, off + n * 2 + j, none⟩) lt]; exact a, (hb.frozen (p := ⟨bb, off + n * 2 + j, none⟩) lt).trans b⟩⟩
theorem VecsS.lower {w : World} {base base' : Nat} {v : Value} {l : List V2} (h : VecsS w base v l) (hb : base' ≤ base) : VecsS w base' v l := ⟨h.1, fun bb off n c e => Nat.le_trans hb (h.2.1 bb off n c e), h.2.2⟩
theorem VecsS.picked {w w' : World} {base B : Nat} {v : Value} {l : List V2} (h : VecsS w base v l) (hg : w.grownBy w' (some B)) (hB : B < base) : VecsS w' base v l :=
  ⟨(h.toO.picked hg hB).1, h.2.1, fun bb off n c e j hj => by
    obtain ⟨a, b⟩ := h.2.2 bb off n c e j hj
    have lt := spare_lt a
    have hbb := h.2.1 bb off n c e
    have eb : w'.heap[bb]? = w.heap[bb]? := hg.block bb lt (fun e => by cases e; omega)
    exact ⟨by rw [World.cell?_of_block (a := ⟨bb, off + n * 2 + j, none⟩) eb]; exact a, (World.frozen?_of_block (a := ⟨bb, off + n * 2 + j, none⟩) eb).trans b⟩⟩
theorem VecsS.of {w : World} {base : Nat} {v : Value} {l : List V2} (h : Vecs w base v l) (hl : l.length ≤ 1000) (h0 : 0 < l.length) : VecsS w base v l := by
  have hO := VecsO.of h hl h0
  refine ⟨hO.1, hO.2, fun bb off n c e j hj => ?_⟩
  have h' : w.ownsRow base 26 2 v l.length (intsV (flat l)) := h
  rcases h'.2 with ⟨_, hz⟩ | ⟨g, cap, cur, hv, _, hg, _, _, hsz, _⟩
  · omega
  · rw [hv] at e
    cases e
    have hlt : 0 + l.length * 2 + j < cur.size := by omega
    refine ⟨?_, ?_⟩
    · unfold World.cell?
      rw [hg]
      simp
      omega
    · unfold World.frozen?
      rw [hg]
      simp
theorem VecsS.open {w : World} {base : Nat} {v : Value} {l : List V2} (h : VecsS w base v l) (h0 : 0 < l.length) : ∃ bb off c, v = .slice (some ⟨bb, off, none⟩) l.length c ∧ l.length ≤ c ∧ base ≤ bb ∧ bb < w.heap.size ∧
    ∀ j, j < l.length → w.cell? ⟨bb, off + j * 2, none⟩ = some (.int .i64 (cyc l j).1) ∧ w.cell? ⟨bb, off + j * 2 + 1, none⟩ = some (.int .i64 (cyc l j).2) := h.toO.open h0
theorem VecsS.tail {w : World} {base : Nat} {bb off n c : Nat} {l : List V2} (hbb : base ≤ bb) (hb : bb < w.heap.size) (hn : l.length = n + 1) (hc : n + 1 ≤ c) (hm : n ≤ 1000)
    (hcs : ∀ j, j < l.length → w.cell? ⟨bb, off + j * 2, none⟩ = some (.int .i64 (cyc l j).1) ∧ w.cell? ⟨bb, off + j * 2 + 1, none⟩ = some (.int .i64 (cyc l j).2))
    (hsp : ∀ j, j < (c - l.length) * 2 → (w.cell? ⟨bb, off + l.length * 2 + j, none⟩).isSome = true ∧ w.frozen? ⟨bb, off + l.length * 2 + j, none⟩ = false) : VecsS w base (.slice (some ⟨bb, off + 2, none⟩) n (c - 1)) (l.drop 1) := by
  have hO := VecsO.tail (l := l) hbb hb hn hc hm hcs
  refine ⟨hO.1, hO.2, fun bb' off' n' c' e j hj => ?_⟩
  cases e
  have h := hsp j (by omega)
  rw [hn] at h
  rw [show off + 2 + n * 2 + j = off + (n + 1) * 2 + j by omega]
  exact h
/-- a list of vectors, from block w.heap.size on; the reader in block B goes on from some place -/
def DrewFanS (w : World) (B : Nat) (a : Option Addr) (len cap : Nat) (p : Int) (e : Ending) (w' : World) : Prop :=
  ∃ (v : Value) (l : List V2) (q : Int), e = .returned v ∧ VecsS w' w.heap.size v l ∧ 2 ≤ l.length ∧ l.length ≤ 20 ∧ Reads w' B a len cap q ∧ q ≤ p + 10 ∧ Below B w w'
def SmoothRS (w : World) (B : Nat) (a : Option Addr) (len cap : Nat) (p : Int) (v : Value) (wr : World) : Prop :=
  ∃ (l : List V2) (q : Int), VecsS wr w.heap.size v l ∧ 3 ≤ l.length ∧ l.length ≤ 20 ∧ Reads wr B a len cap q ∧ q ≤ p ∧ Below B w wr
theorem SmoothRS.mono {w : World} {B : Nat} {a : Option Addr} {len cap : Nat} {p p' : Int} {v : Value} {wr : World} (h : SmoothRS w B a len cap p v wr) (hp : p ≤ p') : SmoothRS w B a len cap p' v wr := by
  obtain ⟨l, q, h1, h2, h3, h4, h5, h6⟩ := h
  exact ⟨l, q, h1, h2, h3, h4, by omega, h6⟩
set_option maxRecDepth 100000 in
set_option maxHeartbeats 16000000 in
theorem l91SmoothS_any (w : World) (B : Nat) (a : Option Addr) (len cap : Nat) (p : Int) (h : Reads w B a len cap p) (hp : p ≤ 90000) :
    Calls Tryd.prog 141 #[.pointer (some ⟨B, 0, none⟩)] w (DrewFanS w B a len cap p) := by
  obtain ⟨i0, hi, hz0, hz1, hz2'⟩ := info_parts infoVec
  have hB : B < w.heap.size := h.2.2.2.2.1
  have HB := Lib.hid hB
  have HE := Lib.hid ((Ints.empty w).reads (by simp))
  have HF := Lib.hid (fun w' v' h' => specFanBuild_any v' [] w' h')
  have HBl := Lib.hid (fun v' l i w' h' => specFanBlow_any v' l i w' h')
  have HR := Lib.hid h
  have HT : Hid (gV (builtB []) (builtL []) = triL ∧ builtB [] = true) := ⟨rfl, rfl⟩
  clear h hB
  go_enter Tryd.func141, Tryd.ntmps141
  go_wp2_with fail
  refine Calls.mono (HF.out _ _ HE.out) ?_
  rintro e w1 ⟨v1, rfl, hI, hb1⟩
  rw [HT.out.1] at hI
  rw [HT.out.2]
  have hA : Below w.heap.size w w1 := belowTo (by go_grown) hb1
  have R1 := HR.out.below (hA.mono (by have := HB.out; omega))
  have V1 : VecsS w1 w.heap.size v1 triL := (VecsS.of (hI.lower (by simp)) (by decide) (by decide))
  have HV1 := Lib.hid V1
  have Q1 := hA.mono (show B ≤ w.heap.size by have := HB.out; omega)
  clear hI hb1 V1 HE HF HR hA
  have hs1 := Q1.size
  go_upto_region 2 with fail
  go_cut [3, 16] (fun s3 s16 wx => (∃ b, s16 = .bool b) ∧ SmoothRS w B a len cap (p + 1) s3 wx)
  case first =>
    go_wp2_with fail
    refine Calls.mono (pickG_any _ B a len cap p 3 R1 (by omega) (by omega)) ?_
    rintro e w2 ⟨⟨x, rfl, x0, x3, R2, _, _, s2, q2⟩, g2⟩
    have Q2 := Q1.trans q2
    have hf : SmoothRS w B a len cap (p + 1) v1 w2 := ⟨triL, p + 1, HV1.out.picked g2 HB.out, by decide, by decide, R2, by omega, Q2⟩
    have HF := Lib.hid hf
    clear R1 HV1 g2 q2 Q1 hs1 s2 hf R2 Q2
    go_wp2_with fail
    go_meet
    exact ⟨⟨_, rfl⟩, HF.out⟩
  case rest =>
  have HC0 := Lib.hid hcut
  clear hcut R1 HV1 Q1
  go_wp2_with fail
  obtain ⟨⟨b, rfl⟩, hc⟩ := HC0.out
  have HC := Lib.hid hc
  clear hc HC0
  go_cut [3] (fun s3 wx => SmoothRS w B a len cap (p + 2) s3 wx)
  case first =>
    cases b
    · have HF := Lib.hid (HC.out.mono (show p + 1 ≤ p + 2 by omega))
      go_wp2_with fail
      go_meet
      exact HF.out
    · obtain ⟨l, q, V, h3, h20, R2, hq, Q2⟩ := HC.out
      clear HC
      go_wp2_with fail
      refine Calls.mono (pickG_any _ B a len cap q 4 R2 (by omega) (by omega)) ?_
      rintro e w3 ⟨⟨y, rfl, y0, y4, R3, _, _, s3, q3⟩, g3⟩
      have Q3 := Q2.trans q3
      have HK := Lib.hid (fun w' => specKind4_any y w' (by omega))
      have hz3 : w.heap.size ≤ w3.heap.size := Q3.size
      clear R2 V g3 q3 Q2 s3
      go_wp2_with fail
      refine Calls.mono (HK.out _) ?_
      rintro e w4 ⟨v4, rfl, hI4, hb4⟩
      have hf : SmoothRS w B a len cap (p + 2) v4 w4 := ⟨hirL y, q + 1, VecsS.of (hI4.lower hz3) (by simp [hirL]) (by simp [hirL]), by simp [hirL], by simp [hirL], R3.below (hb4.mono (by have := HB.out; omega)), by omega, Q3.trans (hb4.mono (by have := HB.out; omega))⟩
      have HF := Lib.hid hf
      clear hI4 hb4 hf HK R3
      go_wp2_with fail
      go_meet
      exact HF.out
  case rest =>
  have HCt := Lib.hid hcut
  clear hcut
  obtain ⟨l, q, V, h3, h20, R, hq, Q⟩ := HCt.out
  clear HCt
  go_wp2_with fail
  refine Calls.mono (pickG_any _ B a len cap q 5 R (by omega) (by omega)) ?_
  rintro e w2 ⟨⟨x, rfl, x0, x5, R2, _, _, s2, q2⟩, g2⟩
  have HS2 := Lib.hid (show SmoothRS w B a len cap (p + 3) _ w2 from ⟨l, q + 1, V.picked g2 HB.out, h3, h20, R2, by omega, Q.trans q2⟩)
  clear V h3 h20 R2 g2 q2 R Q s2 hq
  go_wp2
  go_loopw [3, 6] (fun s3 s6 wr => ∃ k : Nat, s6 = .int .i64 k ∧ (k : Int) ≤ x ∧ Hid (SmoothRS w B a len cap (p + 3 + k) s3 wr)) (fun _ s6 _ => (x - intOf s6).toNat)
  case atStart => exact ⟨0, rfl, by omega, Lib.hid (HS2.out.mono (by omega))⟩
  case round =>
    obtain ⟨k, rfl, hk, HS⟩ := hrel
    clear HS2
    obtain ⟨l, q, V, h3, h20, R, hq, Q⟩ := HS.out
    obtain ⟨bb, off, c, rfl, hc, hbb, hbs, hcs⟩ := V.open (by omega)
    by_cases hlt : (k : Int) < x
    · clear hcs
      go_wp2_with fail
      refine Calls.mono (pickG_any _ B a len cap q l.length R (by omega) (by omega)) ?_
      rintro e w2 ⟨⟨y, rfl, y0, y4, R2, _, _, s2, q2⟩, g2⟩
      have V2 := V.picked g2 HB.out
      have HBk := Lib.hid (HBl.out _ l y w2 V2.1)
      have Q2 := Q.trans q2
      have hz2 : w.heap.size ≤ w2.heap.size := Q2.size
      have HV2 := Lib.hid V2
      have HG := Lib.hid (fun (h : (smoothB l && blowB l y) = true) => blow_grew h)
      clear V V2 R g2 q2 Q HS
      generalize (smoothB l && blowB l y) = K at *
      generalize blowL l y.toNat (blowP l y.toNat) = L2 at *
      go_wp2_with fail
      refine Calls.mono HBk.out ?_
      rintro e w3 ⟨v3, rfl, hI, hb3⟩
      have R3 := R2.below (hb3.mono (by have := HB.out; omega))
      have Q3 := Q2.trans (hb3.mono (by have := HB.out; omega))
      cases K
      · have HF : Hid (SmoothRS w B a len cap (p + 3 + ((k + 1 : Nat) : Int)) (.slice (some ⟨bb, off, none⟩) l.length c) w3) := ⟨l, q + 1, HV2.out.below hb3, h3, h20, R3, by omega, Q3⟩
        clear hI hb3 R2 R3 Q2 Q3 HG HV2 HBk
        go_wp2
        go_roundw
        case rel => exact ⟨k + 1, by go_num, by omega, HF.out⟩
        case measure => simp [intOf]; omega
      · obtain ⟨g1, g2⟩ := HG.out rfl
        have HF : Hid (SmoothRS w B a len cap (p + 3 + ((k + 1 : Nat) : Int)) v3 w3) := ⟨L2, q + 1, VecsS.of (Vecs.lower hI hz2) (by omega) (by omega), by omega, g2, R3, by omega, Q3⟩
        clear hI hb3 R2 R3 Q2 Q3 HG HV2 HBk g1 g2
        go_wp2
        go_roundw
        case rel => exact ⟨k + 1, by go_num, by omega, HF.out⟩
        case measure => simp [intOf]; omega
    · go_wp2_with fail
      refine Calls.mono (pickG_any _ B a len cap q 24 R (by omega) (by omega)) ?_
      rintro e w2 ⟨⟨y, rfl, y0, y4, R2, _, _, s2, q2⟩, g2⟩
      have V2 := V.picked g2 HB.out
      have Q2 := Q.trans q2
      obtain ⟨bb', off', c', e', hc', hbb', hbs', hcs'⟩ := V2.open (by omega)
      injection e' with e1 e2 e3
      injection e1 with e4
      injection e4 with e5 e6
      subst e5 e6 e3
      have hq3 : q + 1 ≤ p + 10 := by omega
      have HV2 := Lib.hid V2
      have HQ2 := Lib.hid Q2
      have HR2 := Lib.hid R2
      have HCS := Lib.hid hcs'
      clear V V2 R R2 Q Q2 g2 q2 HS hcs hcs' hbb' hbs s2
      have hz2 : w.heap.size ≤ w2.heap.size := HQ2.out.size
      obtain hv | hv | ⟨hv0, hv1⟩ : y = 0 ∨ y = 1 ∨ ((y == 0) = false ∧ (y == 1) = false) := by
        by_cases h0 : y = 0
        · exact .inl h0
        by_cases h1 : y = 1
        · exact .inr (.inl h1)
        · exact .inr (.inr ⟨by simpa using h0, by simpa using h1⟩)
      · subst hv
        obtain ⟨n, hn⟩ : ∃ n, l.length = n + 1 := ⟨l.length - 1, by omega⟩
        have HF := Lib.hid (VecsS.tail (l := l) (c := c) (off := off) hbb hbs' hn (by omega) (by omega) HCS.out (HV2.out.2.2 _ _ _ _ rfl))
        have hl2 : (l.drop 1).length = n := by simp; omega
        have i1 : (1 : Int) ≤ (l.length : Int) := by omega
        have i3 : l.length - 1 = n := by omega
        go_wp2
        go_returns
        exact ⟨_, l.drop 1, q + 1, rfl, HF.out, by omega, by omega, HR2.out, hq3, HQ2.out⟩
      · subst hv
        obtain ⟨n, hn⟩ : ∃ n, l.length = n + 1 := ⟨l.length - 1, by omega⟩
        obtain ⟨c0, c1⟩ := HCS.out n (by omega)
        have HT0 : Hid (0 + n ≤ l.length) := by show _ ≤ _; omega
        have hl2 : ((l.drop 0).take n).length = n := by simp; omega
        have HO := Lib.hid (fun w' => Vecs.one w' (cyc l n).1 (cyc l n).2)
        have hb1 := hbs'
        have HCc := Lib.hid (fun wr (h : Below w2.heap.size w2 wr) j (hj : j < l.length) => (⟨(h.cell (p := ⟨bb, off + j * 2, none⟩) hb1).trans (HCS.out j hj).1, (h.cell (p := ⟨bb, off + j * 2 + 1, none⟩) hb1).trans (HCS.out j hj).2⟩ : wr.cell? ⟨bb, off + j * 2, none⟩ = some (.int .i64 (cyc l j).1) ∧ wr.cell? ⟨bb, off + j * 2 + 1, none⟩ = some (.int .i64 (cyc l j).2)))
        generalize cyc l n = Z at c0 c1 HO
        obtain ⟨zx, zy⟩ := Z
        dsimp only at c0 c1 HO
        have HOw := Lib.hid ((HO.out w2.drew).lower hz2)
        have HBd := Lib.hid (show Below w2.heap.size w2 (w2.drew.alloc (.cells #[.int .i64 zx, .int .i64 zy] 26)) by go_grown)
        have HBz := Lib.hid (show w.heap.size ≤ (w2.drew.alloc (.cells #[.int .i64 zx, .int .i64 zy] 26)).heap.size by simp; omega)
        have i0' : (0 : Int) ≤ (n : Int) := by omega
        have i1 : (n : Int) < (l.length : Int) := by omega
        have i2 : (n : Int) ≤ (c : Int) := by omega
        have i3 : n < l.length := by omega
        have q1 : IntKind.i64.wrap ((l.length : Int) - 1) = (n : Int) := by rw [IntKind.wrap_i64]; omega
        have hnl : n ≤ 19 := by omega
        have hn2 : 2 ≤ n := by omega
        have HL3 : Hid (([(zx, zy)] ++ (l.drop 0).take n).length = n + 1) := by show _ = _; rw [List.length_append, hl2]; simp; omega
        have HN := Lib.hid hn
        have HL20 := Lib.hid h20
        clear hn h3 h20 HV2
        go_wp2
        refine wp_region_any (by kernel_rfl) ?_
        try (change wpAny _ _ _ _ _ _ _ (World.drew _))
        refine wpAny_take (i := 0) (v := ?_) rfl (by kernel_rfl) (by kernel_rfl) (by kernel_rfl) (fun _ _ _ h => h) (Or.inl ⟨by rfl, ?_⟩) ?_
        rotate_left
        focus (intro w0; go_simp; try with_reducible rfl)
        refine wpAny_take (i := 1) (v := ?_) rfl (by kernel_rfl) (by kernel_rfl) (by kernel_rfl) (fun _ _ _ h => h) (Or.inl ⟨by rfl, ?_⟩) ?_
        rotate_left
        focus (intro w0; go_simp; try with_reducible rfl)
        refine wpAny_take (i := 2) (v := ?_) rfl (by kernel_rfl) (by kernel_rfl) (by kernel_rfl) (fun _ _ _ h => h) (Or.inl ⟨by rfl, ?_⟩) ?_
        rotate_left
        focus (intro w0; go_simp; try with_reducible rfl)
        refine wpAny_take (i := 3) (v := ?_) rfl (by kernel_rfl) (by kernel_rfl) (by kernel_rfl) (fun _ _ _ h => h) (Or.inl ⟨by rfl, ?_⟩) ?_
        rotate_left
        focus (intro w0; go_simp; try with_reducible rfl)
        refine wpAny_take (i := 4) (v := ?_) rfl (by kernel_rfl) (by kernel_rfl) (by kernel_rfl) (fun _ _ _ h => h) (Or.inl ⟨by rfl, ?_⟩) ?_
        rotate_left
        focus (intro w0; go_simp; try with_reducible rfl)
        refine wpAny_take (i := 7) (v := ?_) rfl (by kernel_rfl) (by kernel_rfl) (by kernel_rfl) (fun _ _ _ h => h) (Or.inl ⟨by rfl, ?_⟩) ?_
        rotate_left
        focus (intro w0; go_simp; try with_reducible rfl)
        refine wpAny_take (i := 8) (v := ?_) rfl (by kernel_rfl) (by kernel_rfl) (by kernel_rfl) (fun _ _ _ h => h) (Or.inl ⟨by rfl, ?_⟩) ?_
        rotate_left
        focus (intro w0; go_simp; try with_reducible rfl)
        refine wpAny_take (i := 9) (v := ?_) rfl (by kernel_rfl) (by kernel_rfl) (by kernel_rfl) (fun _ _ _ h => h) (Or.inl ⟨by rfl, ?_⟩) ?_
        rotate_left
        focus (intro w0; go_simp; try with_reducible rfl)
        refine wpAny_take (i := 10) (v := ?_) rfl (by kernel_rfl) (by kernel_rfl) (by kernel_rfl) (fun _ _ _ h => h) (Or.inl ⟨by rfl, ?_⟩) ?_
        rotate_left
        focus (intro w0; go_simp; try with_reducible rfl)
        refine wpAny_take (i := 11) (v := ?_) rfl (by kernel_rfl) (by kernel_rfl) (by kernel_rfl) (fun _ _ _ h => h) (Or.inl ⟨by rfl, ?_⟩) ?_
        rotate_left
        focus (intro w0; go_simp; try with_reducible rfl)
        refine wpAny_ready (rs := [5]) (by kernel_rfl) (by simp) (AllReady.cons rfl (fun K hK => ?_) (AllReady.nil))
        go_simp
        refine hK _ _ ?_
        clear hK K
        refine wpAny_ready (rs := [6]) (by kernel_rfl) (by simp) (AllReady.cons rfl (fun K hK => ?_) (AllReady.nil))
        go_simp
        refine hK _ _ ?_
        clear hK K
        refine wpAny_ready (rs := [12]) (by kernel_rfl) (by simp) (AllReady.cons rfl (fun K hK => ?_) (AllReady.nil))
        (refine step_list (by rintro ⟨_, _, h⟩; obtain ⟨_, _, _, hv, _⟩ := h; cases hv) (by kernel_rfl) ?_; refine wpList_append_own_at _ rfl _ _ 39 rfl w.heap.size 26 i0 (.agg #[.int .i64 (0), .int .i64 (0)]) 2 16 Tryd.underlying39 hi hz0 hz1 hz2' rfl (by decide) _ _ _ rfl HOw.out _ _ _ _ rfl (piece_len HT0.out) (piece_cells (HCc.out _ HBd.out) HT0.out) (piece_one _) (by unfold maxLen; simp; omega) (by simp; omega) HBz.out ?_; intro v2 w3 hown2 hgrow2 _ _; have HB3 := Lib.hid ((HBd.out.mono hz2).grown hgrow2 HBz.out (fun q hq => (World.ownsRow.lt HOw.out q hq).1)); have HO3 := Lib.hid (Vecs.join (l := [(zx, zy)]) hown2 (by rw [hl2])); clear hown2 hgrow2)
        refine hK _ _ ?_
        clear hK K
        refine wpAny_seq 13 rfl (by kernel_rfl) ?_
        simp only [List.drop_succ_cons, List.drop_zero]
        all_goals
          have HF := Lib.hid (VecsS.of HO3.out (by rw [HL3.out]; omega) (by rw [HL3.out]; omega))
          have HR3 := Lib.hid (HR2.out.below (HB3.out.mono (by have := HB.out; omega)))
          have HQ3 := Lib.hid (HQ2.out.trans (HB3.out.mono (by have := HB.out; omega)))
          go_wp2
          go_returns
          exact ⟨_, _, q + 1, rfl, HF.out, by rw [HL3.out]; omega, by rw [HL3.out]; omega, HR3.out, hq3, HQ3.out⟩
      · go_wp2
        go_returns
        exact ⟨_, l, q + 1, rfl, HV2.out, by omega, h20, HR2.out, hq3, HQ2.out⟩
/-- a list of vectors, from block w.heap.size on; the reader in block B goes on from some place -/
def DrewFanLS (w : World) (B : Nat) (a : Option Addr) (len cap : Nat) (p : Int) (e : Ending) (w' : World) : Prop :=
  ∃ (v : Value) (l : List V2) (q : Int), e = .returned v ∧ VecsS w' w.heap.size v l ∧ 2 ≤ l.length ∧ l.length ≤ 20 ∧ Reads w' B a len cap q ∧ q ≤ p + 100 ∧ Below B w w'
set_option maxRecDepth 100000 in
set_option maxHeartbeats 16000000 in
theorem l91FanS_any (w : World) (B : Nat) (a : Option Addr) (len cap : Nat) (p : Int) (h : Reads w B a len cap p) (hp : p ≤ 80000) :
    Calls Tryd.prog 113 #[.pointer (some ⟨B, 0, none⟩)] w (DrewFanLS w B a len cap p) := by
  obtain ⟨i0, hi, hz0, hz1, hz2⟩ := info_parts infoVec
  have hB : B < w.heap.size := h.2.2.2.2.1
  have HR := Lib.hid h
  have HSm := Lib.hid (fun w' q (h : Reads w' B a len cap q) (hq : q ≤ 90000) => l91SmoothS_any w' B a len cap q h hq)
  have HPr := Lib.hid (fun w' q (h : Reads w' B a len cap q) (hq : q ≤ 90000) => l91PrimG_any w' B a len cap q h hq)
  have HFo := Lib.hid (fun v' l' w' hV (hm : l'.length ≤ 1048576) => specFanOf_any v' l' w' hV hm)
  have HE := Lib.hid (fun w' => Vecs.empty w')
  have HN : Hid (∀ L : List V2, ofB L = true → 3 ≤ (sortL L).length ∧ (sortL L).length ≤ 20) := fun L hL => by
    unfold ofB at hL
    rw [Bool.and_eq_true] at hL
    exact fan_len hL.2
  clear h
  go_enter Tryd.func113, Tryd.ntmps113
  go_wp2_with fail
  refine Calls.mono (pickG_any _ B a len cap p 3 HR.out (by omega) (by omega)) ?_
  rintro e w1 ⟨⟨x, rfl, x0, x3, R1, -, -, -, q1⟩, -⟩
  have hs1 := q1.size
  have HR1 := Lib.hid R1
  have HQ1 := Lib.hid q1
  clear R1 q1 HR
  by_cases hx : x = 0
  · subst hx
    go_wp2_with fail
    refine Calls.mono (HSm.out _ _ HR1.out (by omega)) ?_
    rintro e w2 ⟨v, l, q, rfl, hV, h2, h20, r2, hq, hb2⟩
    have HV := Lib.hid (hV.lower hs1)
    have HR2 := Lib.hid r2
    have HB2 := Lib.hid (HQ1.out.trans hb2)
    clear hV r2 hb2
    go_wp2
    go_returns
    exact ⟨_, l, q, rfl, HV.out, h2, h20, HR2.out, by omega, HB2.out⟩
  · have hx' : (x == 0) = false := by simpa using hx
    have HE1 := Lib.hid (HE.out w1)
    have hBs : B < w1.heap.size := by omega
    clear hx HE
    go_wp2_with fail
    refine Calls.mono (pickG_any _ B a len cap (p + 1) 4 (HR1.out.below (by go_grown)) (by omega) (by omega)) ?_
    rintro e w2 ⟨⟨y, rfl, y0, y4, R2, -, -, -, q2⟩, g2⟩
    have HV2 := Lib.hid (HE1.out.pickedL g2 hBs)
    have HQ2 := Lib.hid (HQ1.out.trans (Below.trans (by go_grown) q2))
    have HR2 := Lib.hid R2
    have hs2 : w1.heap.size ≤ w2.heap.size := by have := q2.size; simp at this; omega
    obtain ⟨n, hn⟩ : ∃ n, n = 3 + y := ⟨_, rfl⟩
    have qn : IntKind.i64.wrap (3 + y) = n := by rw [IntKind.wrap_i64]; omega
    have n3 : 3 ≤ n := by omega
    have n6 : n ≤ 6 := by omega
    clear HE1 g2 q2 R2 HR1 HQ1 hn
    go_wp2
    go_loopw [3, 5] (fun s3 s5 wr => ∃ (k : Nat) (L : List V2) (q : Int), s5 = .int .i64 k ∧ (k : Int) ≤ n ∧ L.length = k ∧ Hid (Vecs wr w1.heap.size s3 L) ∧ Hid (Reads wr B a len cap q) ∧ q ≤ p + 2 + 10 * k ∧ Hid (Below B w wr) ∧ w1.heap.size ≤ wr.heap.size) (fun _ s5 _ => (n - intOf s5).toNat)
    case atStart => exact ⟨0, [], p + 1 + 1, rfl, by omega, rfl, HV2, HR2, by omega, HQ2, hs2⟩
    case round =>
      clear HV2 HR2 HQ2
      obtain ⟨k, L, q, rfl, hk, hL, HV, HR, hq, HQ, hsr⟩ := hrel
      have i1 : (0 : Int) ≤ (k : Int) := by omega
      by_cases hlt : (k : Int) < n
      · go_wp2_with fail
        refine Calls.mono (HPr.out _ q HR.out (by omega)) ?_
        rintro e w3 ⟨⟨X, Y, p', rfl, -, -, p1, p2, r3, b3, -⟩, g3⟩
        have hown := HV.out.pickedL g3 hBs
        have hb3 := HQ.out.trans b3
        have hs3 : w1.heap.size ≤ w3.heap.size := Nat.le_trans hsr b3.size
        have HR3 := Lib.hid r3
        have HB3 := Lib.hid hb3
        unfold Vecs VRow at hown
        rw [hL] at hown
        clear r3 b3 hb3 g3 HV HR HQ
        go_wp2_with (at_builtin; refine wpList_append_own_at _ rfl _ _ 39 rfl w1.heap.size 26 i0 (.agg #[.int .i64 (0), .int .i64 (0)]) 2 16 Tryd.underlying39 hi hz0 hz1 hz2 rfl (by decide) _ _ _ rfl (hown.alloc _) ⟨w3.heap.size, 0, none⟩ 1 1 [.int .i64 X, .int .i64 Y] rfl rfl (vec_cellsL _ X Y _) (vec_oneL X Y) ?c3 ?c4 ?c5 ?_)
        case c3 => unfold maxLen; omega
        case c4 => omega
        case c5 => simp; omega
        intro v' w4 hown' hgrow _ _
        have hg4 : Below w1.heap.size w3 w4 := ((Below.refl w1.heap.size w3).alloc hs3 _).grown hgrow (by simp; omega) (fun k hk => (hown.lt k hk).1)
        have HVv := Lib.hid (Vecs.snoc (l := L) hL.symm hown')
        have hs4 : w1.heap.size ≤ w4.heap.size := Nat.le_trans hs3 hg4.size
        have HR4 := Lib.hid (HR3.out.below (hg4.mono (by omega)))
        have HB4 := Lib.hid (HB3.out.trans (hg4.mono (by omega)))
        have hLl : (L ++ [(X, Y)]).length = k + 1 := by simp [hL]
        have HLl := Lib.hid hLl
        clear hown hown' hgrow hg4 HR3 HB3 hL hLl
        go_wp2
        go_roundw
        case rel => exact ⟨k + 1, L ++ [(X, Y)], p', by go_num, by omega, HLl.out, HVv, HR4, by omega, HB4, hs4⟩
        case measure => simp [intOf]; omega
      · have hkn : (k : Int) = n := by omega
        have HFL := Lib.hid (HFo.out _ L wr (HV.out.reads (by omega)) (by omega))
        have HNL := Lib.hid (HN.out L)
        have hs3 : w.heap.size ≤ wr.heap.size := HQ.out.size
        clear HV HFo HN hL
        generalize ofB L = K at *
        generalize sortL L = S at *
        go_wp2_with fail
        refine Calls.mono HFL.out ?_
        rintro e w5 ⟨v5, rfl, hV5, hb5⟩
        have hR5 := HR.out.below (hb5.mono (by omega))
        have hB5 := HQ.out.trans (hb5.mono (by omega))
        have hs5 := hb5.size
        have HR5 := Lib.hid hR5
        have HB5 := Lib.hid hB5
        cases K
        · clear hV5 hb5 HFL HR HQ hR5 hB5
          go_wp2_with fail
          refine Calls.mono (HSm.out _ q HR5.out (by omega)) ?_
          rintro e w6 ⟨v, l, q6, rfl, hV, h2, h20, r6, hq6, hb6⟩
          have HV6 := Lib.hid (hV.lower (show w.heap.size ≤ w5.heap.size by omega))
          have HR6 := Lib.hid r6
          have HB6 := Lib.hid (HB5.out.trans hb6)
          clear hV r6 hb6
          go_wp2
          go_returns
          exact ⟨_, l, q6, rfl, HV6.out, h2, h20, HR6.out, by omega, HB6.out⟩
        · obtain ⟨s1, s2⟩ := HNL.out rfl
          have HV5 : Hid (VecsS w5 w.heap.size v5 S) := VecsS.of (Vecs.lower hV5 hs3) (by omega) (by omega)
          clear hV5 hb5 HFL HR HQ hR5 hB5 HNL
          go_wp2
          go_returns
          exact ⟨_, S, q, rfl, HV5.out, by omega, by omega, HR5.out, by omega, HB5.out⟩
theorem VecsS.keptL {w w' : World} {base B : Nat} {v : Value} {l : List V2} (h : VecsS w base v l) (hK : Kept w.heap.size B w w') (hB : B < base) : VecsS w' base v l :=
  ⟨(h.toO.keptL hK hB).1, h.2.1, fun bb off n c e j hj => by
    obtain ⟨a, b⟩ := h.2.2 bb off n c e j hj
    have lt := spare_lt a
    have hbb := h.2.1 bb off n c e
    obtain ⟨k1, k2⟩ := hK.1 bb (off + n * 2 + j) lt (by omega)
    exact ⟨by rw [k1]; exact a, k2.trans b⟩⟩
theorem belowSC (B g : Nat) (hg : B ≤ g) : ∀ (vs : List Value) (o : Nat) (w : World), Below B w (w.setCells g o vs)
  | [], _, w => Below.refl _ _
  | v :: r, o, w => by
    rw [World.setCells]
    exact ((Below.refl B w).setCell (p := ⟨g, o, none⟩) hg v).trans (belowSC B g hg r (o + 1) _)
theorem cyc_left {l m : List V2} {j : Nat} (h : j < l.length) : cyc (l ++ m) j = cyc l j := by
  rw [cyc_lt (by rw [List.length_append]; omega), cyc_lt h, List.getElem?_append_left h]
theorem cyc_right {l m : List V2} {k : Nat} (h : k < m.length) : cyc (l ++ m) (l.length + k) = cyc m k := by
  rw [cyc_lt (by rw [List.length_append]; omega), cyc_lt h, List.getElem?_append_right (by omega)]
  congr 2
  omega
/-- what is put into the spare cells of a slice that is read -/
theorem reads_room {w : World} {bb off n c : Nat} {l m : List V2} (h : ReadsVecs w (.slice (some ⟨bb, off, none⟩) n c) l) (h0 : 0 < l.length) (hm : n + m.length ≤ 1000) (hc : n + m.length ≤ c)
    (hsp : ∀ j, j < m.length * 2 → (w.cell? ⟨bb, off + n * 2 + j, none⟩).isSome = true) :
    ReadsVecs (w.setCells bb (off + n * 2) (intsV (flat m))) (.slice (some ⟨bb, off, none⟩) (n + m.length) c) (l ++ m) := by
  obtain ⟨a, c', e, hcl, hml, hcs⟩ := h
  cases e
  obtain ⟨bb', off', e', hbb, hcell⟩ := hcs h0
  cases e'
  have hlen : (intsV (flat m)).length = m.length * 2 := by simp [intsV, flat_len]; omega
  refine ⟨_, c, by rw [List.length_append], by rw [List.length_append]; exact hc, by rw [List.length_append]; omega, fun _ => ⟨bb, off, rfl, Nat.lt_of_lt_of_le hbb (belowSC bb bb (Nat.le_refl _) _ _ w).size, fun j hj => ?_⟩⟩
  rw [List.length_append] at hj
  by_cases hl : j < l.length
  · rw [cyc_left hl, World.cell?_setCells_out _ _ _ _ _ (fun _ _ => Or.inl (by show off + j * 2 < _; omega)), World.cell?_setCells_out _ _ _ _ _ (fun _ _ => Or.inl (by show off + j * 2 + 1 < _; omega))]
    exact hcell j hl
  · obtain ⟨k, rfl⟩ : ∃ k, j = l.length + k := ⟨j - l.length, by omega⟩
    have hk : k < m.length := by omega
    obtain ⟨f1, f2⟩ := flat_get m k hk
    have g := World.cell?_setCells_in bb (intsV (flat m)) (off + l.length * 2) w (fun j hj => hsp j (by omega))
    have g0 := g (k * 2) (by omega)
    have g1 := g (k * 2 + 1) (by omega)
    have i0 := intsV_get (flat m) (k * 2) (by rw [flat_len]; omega)
    have i1 := intsV_get (flat m) (k * 2 + 1) (by rw [flat_len]; omega)
    rw [List.getElem?_eq_getElem (by omega)] at i0 i1
    rw [f1] at i0
    rw [f2] at i1
    rw [cyc_right hk, show off + (l.length + k) * 2 = off + l.length * 2 + k * 2 by omega]
    exact ⟨g0.trans i0, by rw [show off + l.length * 2 + k * 2 + 1 = off + l.length * 2 + (k * 2 + 1) by omega]; exact g1.trans i1⟩
theorem flatS_len (l : List V2) : (intsV (flat l)).length = l.length * 2 := by
  simp [intsV, flat_len]
  omega
theorem flatS_cells {w : World} {bb off : Nat} {l : List V2} (h : ∀ j, j < l.length → w.cell? ⟨bb, off + j * 2, none⟩ = some (.int .i64 (cyc l j).1) ∧ w.cell? ⟨bb, off + j * 2 + 1, none⟩ = some (.int .i64 (cyc l j).2)) :
    ∀ j u, (intsV (flat l))[j]? = some u → w.cell? ⟨bb, off + j, none⟩ = some u := by
  intro j u hj
  have hlt : j < l.length * 2 := by
    have := (List.getElem?_eq_some_iff.1 hj).1
    rw [flatS_len] at this
    exact this
  rw [intsV_get _ _ (by rw [flat_len]; omega)] at hj
  obtain ⟨f1, f2⟩ := flat_get l (j / 2) (by omega)
  obtain ⟨c1, c2⟩ := h (j / 2) (by omega)
  by_cases hp : j % 2 = 0
  · rw [show j = j / 2 * 2 by omega] at hj ⊢
    rw [f1] at hj
    cases hj
    exact c1
  · rw [show j = j / 2 * 2 + 1 by omega] at hj ⊢
    rw [f2] at hj
    cases hj
    exact c2
theorem VecsS.cells {w : World} {base bb off n c : Nat} {l : List V2} (h : VecsS w base (.slice (some ⟨bb, off, none⟩) n c) l) (h0 : 0 < l.length) : ∀ j u, (intsV (flat l))[j]? = some u → w.cell? ⟨bb, off + j, none⟩ = some u := by
  obtain ⟨a, c', e, -, -, hcs⟩ := h.1
  cases e
  obtain ⟨bb', off', e', -, hcell⟩ := hcs h0
  cases e'
  exact flatS_cells hcell
theorem joinUw {w : World} {base n : Nat} {v : Value} {l m : List V2} (h : w.ownsRow base 26 2 v n (intsV (flat l) ++ intsV (flat m))) (hn : n = l.length + m.length) : Vecs w base v (l ++ m) := by
  unfold Vecs VRow
  rw [flat_app, List.length_append, ← hn]
  have : intsV (flat l ++ flat m) = intsV (flat l) ++ intsV (flat m) := by simp [intsV]
  rw [this]
  exact h
theorem vec_cells2 (W : World) (X Y Z T : Int) (t : TypeId) : ∀ j u, [Value.int .i64 X, Value.int .i64 Y, Value.int .i64 Z, Value.int .i64 T][j]? = some u → (W.alloc (.cells #[.int .i64 X, .int .i64 Y, .int .i64 Z, .int .i64 T] t)).cell? ((⟨W.heap.size, 0, none⟩ : Addr).add j) = some u := by
  intro j u hj
  match j, hj with
  | 0, hj => simp at hj; subst hj; simp [Addr.add]
  | 1, hj => simp at hj; subst hj; simp [Addr.add]
  | 2, hj => simp at hj; subst hj; simp [Addr.add]
  | 3, hj => simp at hj; subst hj; simp [Addr.add]
theorem vec_one2 (X Y Z T : Int) : ∀ u ∈ [Value.int .i64 X, Value.int .i64 Y, Value.int .i64 Z, Value.int .i64 T], u.oneCell' = true := by
  intro u hu
  simp at hu
  rcases hu with rfl | rfl | rfl | rfl <;> rfl
def GivenFo (w : World) (e : Ending) (w' : World) : Prop := ∃ (v : Value) (l : List V2), e = .returned v ∧ ReadsVecs w' v l ∧ 2 ≤ l.length ∧ l.length ≤ 30 ∧ Below w.heap.size w w'
set_option maxRecDepth 100000 in
set_option maxHeartbeats 16000000 in
theorem drawFanOf_any (w : World) (a : Option Addr) (len cap : Nat) (h : Bytes w a len cap) :
    Calls Tryd.prog 64 #[.slice a len cap] w (GivenFo w) := by
  obtain ⟨i0, hi, hz0, hz1, hz2⟩ := info_parts infoVec
  have HO := Lib.hid (l6Open_any w a len cap h)
  clear h
  go_enter Tryd.func64, Tryd.ntmps64
  go_wp2_with fail
  refine Calls.mono HO.out ?_
  rintro e w1 ⟨l1, c1, rfl, r1, hb1, hs1⟩
  have hB1 : w.heap.size < w1.heap.size := r1.2.2.2.2.1
  go_wp2_with fail
  refine Calls.mono (l91FanS_any w1 w.heap.size a l1 c1 0 r1 (by omega)) ?_
  rintro e w2 ⟨v, l, q, rfl, hV, h2, h20, r2, hq, hb2⟩
  have HB2 := Lib.hid (hb1.trans hb2)
  obtain ⟨bb, off, c, rfl, hc, hbl, hbb, -⟩ := hV.open (by omega)
  have HV2 := Lib.hid hV
  have HR2 := Lib.hid r2
  clear hV hb1 hb2 r1 r2 hs1 HO
  go_wp2_with fail
  refine Calls.mono (pickG_any _ w.heap.size a l1 c1 q 2 HR2.out (by omega) (by omega)) ?_
  rintro e w3 ⟨⟨x, rfl, x0, x2, R3, -, -, -, q3⟩, g3⟩
  have HV3 := Lib.hid (HV2.out.picked g3 hB1)
  have HR3 := Lib.hid R3
  have HB3 := Lib.hid (HB2.out.trans q3)
  clear R3 q3 g3 HV2 HR2 HB2 hbb
  by_cases hx : x = 0
  · subst hx
    go_wp2_with fail
    refine Calls.mono (l91Primitive_any _ w.heap.size a l1 c1 _ HR3.out (by omega)) ?_
    rintro e w4 ⟨X, Y, p4, rfl, -, -, p4a, p4b, r4, b4, K4⟩
    have HV4 := Lib.hid (HV3.out.keptL K4 hB1)
    have HR4 := Lib.hid r4
    have HB4 := Lib.hid (HB3.out.trans b4)
    clear r4 b4 K4 HV3 HR3 HB3
    go_wp2_with fail
    refine Calls.mono (l91Primitive_any _ w.heap.size a l1 c1 p4 HR4.out (by omega)) ?_
    rintro e w5 ⟨Z, T, p5, rfl, -, -, -, -, r5, b5, K5⟩
    have hV5 := HV4.out.keptL K5 hB1
    have hB5 := HB4.out.trans b5
    have hs5 := hB5.size
    have hV6 : VecsS (w5.alloc (.cells #[.int .i64 X, .int .i64 Y, .int .i64 Z, .int .i64 T] 26)) w1.heap.size (.slice (some ⟨bb, off, none⟩) l.length c) l := hV5.below (by go_grown)
    have hB6 : Below w.heap.size w (w5.alloc (.cells #[.int .i64 X, .int .i64 Y, .int .i64 Z, .int .i64 T] 26)) := by go_grown
    have HV6 := Lib.hid hV6
    have HB6 := Lib.hid hB6
    clear hV5 r5 b5 K5 hV6 hB6
    go_wp2_with (at_builtin; refine wpList_append_arg _ rfl _ _ 39 rfl 26 i0 (.agg #[.int .i64 (0), .int .i64 (0)]) 2 16 Tryd.underlying39 hi hz0 hz1 hz2 rfl (by decide) bb off l.length c (intsV (flat l)) rfl (flatS_len l) (HV6.out.cells (by omega)) ⟨w5.heap.size, 0, none⟩ 2 2 [.int .i64 X, .int .i64 Y, .int .i64 Z, .int .i64 T] rfl rfl (vec_cells2 _ X Y Z T _) (vec_one2 X Y Z T) ?c3 ?c4 ?c5 ?c6 ?c7)
    case c3 => exact fun hr j hj => HV6.out.2.2 bb off _ _ rfl j (by simp at hj; omega)
    case c4 => unfold maxLen; omega
    case c5 => omega
    case c6 =>
      intro hr
      have hV7 : ReadsVecs ((w5.alloc (.cells #[.int .i64 X, .int .i64 Y, .int .i64 Z, .int .i64 T] 26)).setCells bb (off + l.length * 2) [.int .i64 X, .int .i64 Y, .int .i64 Z, .int .i64 T]) (.slice (some ⟨bb, off, none⟩) (l.length + 2) c) (l ++ [(X, Y), (Z, T)]) := reads_room (m := [(X, Y), (Z, T)]) HV6.out.1 (by omega) (by simp; omega) hr (fun j hj => (HV6.out.2.2 bb off _ _ rfl j (by simp at hj; omega)).1)
      have hB7 : Below w.heap.size w ((w5.alloc (.cells #[.int .i64 X, .int .i64 Y, .int .i64 Z, .int .i64 T] 26)).setCells bb (off + l.length * 2) [.int .i64 X, .int .i64 Y, .int .i64 Z, .int .i64 T]) := HB6.out.trans (belowSC _ _ (by omega) _ _ _)
      generalize (w5.alloc (.cells #[.int .i64 X, .int .i64 Y, .int .i64 Z, .int .i64 T] 26)).setCells bb (off + l.length * 2) [.int .i64 X, .int .i64 Y, .int .i64 Z, .int .i64 T] = w7 at hV7 hB7 ⊢
      have HV7 := Lib.hid hV7
      have HB7 := Lib.hid hB7
      clear hV7 hB7 HV6 HB6
      go_wp2
      go_returns
      exact ⟨_, l ++ [(X, Y), (Z, T)], rfl, HV7.out, by rw [List.length_append]; omega, by rw [List.length_append]; simp only [List.length_cons, List.length_nil]; omega, HB7.out⟩
    case c7 =>
      intro hr v' w7 hown hgrow
      have hV7 : Vecs w7 (w5.heap.size + 1) v' (l ++ [(X, Y), (Z, T)]) := joinUw (m := [(X, Y), (Z, T)]) hown rfl
      have HV7 := Lib.hid (hV7.reads (by simp; omega))
      have HB7 := Lib.hid (HB6.out.grown hgrow (by simp; omega) (fun k hk => by cases hk))
      clear hown hgrow hV7 HV6 HB6
      go_wp2
      go_returns
      exact ⟨_, l ++ [(X, Y), (Z, T)], rfl, HV7.out, by rw [List.length_append]; omega, by rw [List.length_append]; simp only [List.length_cons, List.length_nil]; omega, HB7.out⟩
  · have hx' : (x == 0) = false := by simpa using hx
    go_wp2_with fail
    refine Calls.mono (l91Vec_any _ w.heap.size a l1 c1 _ HR3.out (by omega)) ?_
    rintro e w5 ⟨X, Y, p4, rfl, -, -, -, -, r5, b5, K5⟩
    have hV5 := HV3.out.keptL K5 hB1
    have hB5 := HB3.out.trans b5
    have hs5 := hB5.size
    have hV6 : VecsS (w5.alloc (.cells #[.int .i64 X, .int .i64 Y] 26)) w1.heap.size (.slice (some ⟨bb, off, none⟩) l.length c) l := hV5.below (by go_grown)
    have hB6 : Below w.heap.size w (w5.alloc (.cells #[.int .i64 X, .int .i64 Y] 26)) := by go_grown
    have HV6 := Lib.hid hV6
    have HB6 := Lib.hid hB6
    clear hV5 r5 b5 K5 hV6 hB6
    go_wp2_with (at_builtin; refine wpList_append_arg _ rfl _ _ 39 rfl 26 i0 (.agg #[.int .i64 (0), .int .i64 (0)]) 2 16 Tryd.underlying39 hi hz0 hz1 hz2 rfl (by decide) bb off l.length c (intsV (flat l)) rfl (flatS_len l) (HV6.out.cells (by omega)) ⟨w5.heap.size, 0, none⟩ 1 1 [.int .i64 X, .int .i64 Y] rfl rfl (vec_cellsL _ X Y _) (vec_oneL X Y) ?c3 ?c4 ?c5 ?c6 ?c7)
    case c3 => exact fun hr j hj => HV6.out.2.2 bb off _ _ rfl j (by simp at hj; omega)
    case c4 => unfold maxLen; omega
    case c5 => omega
    case c6 =>
      intro hr
      have hV7 : ReadsVecs ((w5.alloc (.cells #[.int .i64 X, .int .i64 Y] 26)).setCells bb (off + l.length * 2) [.int .i64 X, .int .i64 Y]) (.slice (some ⟨bb, off, none⟩) (l.length + 1) c) (l ++ [(X, Y)]) := reads_room (m := [(X, Y)]) HV6.out.1 (by omega) (by simp; omega) hr (fun j hj => (HV6.out.2.2 bb off _ _ rfl j (by simp at hj; omega)).1)
      have hB7 : Below w.heap.size w ((w5.alloc (.cells #[.int .i64 X, .int .i64 Y] 26)).setCells bb (off + l.length * 2) [.int .i64 X, .int .i64 Y]) := HB6.out.trans (belowSC _ _ (by omega) _ _ _)
      generalize (w5.alloc (.cells #[.int .i64 X, .int .i64 Y] 26)).setCells bb (off + l.length * 2) [.int .i64 X, .int .i64 Y] = w7 at hV7 hB7 ⊢
      have HV7 := Lib.hid hV7
      have HB7 := Lib.hid hB7
      clear hV7 hB7 HV6 HB6
      go_wp2
      go_returns
      exact ⟨_, l ++ [(X, Y)], rfl, HV7.out, by rw [List.length_append]; omega, by rw [List.length_append]; simp only [List.length_cons, List.length_nil]; omega, HB7.out⟩
    case c7 =>
      intro hr v' w7 hown hgrow
      have hV7 : Vecs w7 (w5.heap.size + 1) v' (l ++ [(X, Y)]) := joinUw (m := [(X, Y)]) hown rfl
      have HV7 := Lib.hid (hV7.reads (by simp; omega))
      have HB7 := Lib.hid (HB6.out.grown hgrow (by simp; omega) (fun k hk => by cases hk))
      clear hown hgrow hV7 HV6 HB6
      go_wp2
      go_returns
      exact ⟨_, l ++ [(X, Y)], rfl, HV7.out, by rw [List.length_append]; omega, by rw [List.length_append]; simp only [List.length_cons, List.length_nil]; omega, HB7.out⟩
end Go.Proofs.YtcieihbknfeddaaDoor
