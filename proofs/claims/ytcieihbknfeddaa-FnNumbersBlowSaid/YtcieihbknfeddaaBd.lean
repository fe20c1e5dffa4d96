import Derived.Test.YtcieihbknfeddaaKb
import Derived.Test.YtcieihbknfeddaaBb
import Derived.Test.YtcieihbknfeddaaB3
import Derived.Test.YtcieihbknfeddaaBc
import Derived.Test.YtcieihbknfeddaaBs
/- Fans: built from a list of cones: both sides. -/
namespace Go.Proofs.Ytcieihbknfeddaa
open Go.RowKit

def buildS : List Int → List V2 → Option (List V2)
  | [], l => some l
  | i :: r, l => if smoothB l && blowB l i then buildS r (blowL l i.toNat (blowP l i.toNat)) else none
def triL : List V2 := [(1, 0), (0, 1), (-1, -1)]
theorem tri_smooth : smoothB triL = true := by decide +kernel
def builtB (is : List Int) : Bool := (buildS is triL).isSome
def builtL (is : List Int) : List V2 := (buildS is triL).getD []
theorem build_step {is : List Int} {k : Nat} {l : List V2} (hk : k < is.length) : buildS (is.drop k) l = if smoothB l && blowB l (is[k]?.getD 0) then buildS (is.drop (k + 1)) (blowL l (is[k]?.getD 0).toNat (blowP l (is[k]?.getD 0).toNat)) else none := by
  rw [List.drop_eq_getElem_cons hk, List.getElem?_eq_getElem hk]
  rfl
theorem build_len (is : List Int) : ∀ l l', l.length ≤ 20 → buildS is l = some l' → l'.length ≤ 20 := by
  induction is with
  | nil => intro l l' h e; cases e; exact h
  | cons i r ih =>
    intro l l' h e
    unfold buildS at e
    split at e
    · next hc =>
      rw [Bool.and_eq_true] at hc
      have h2 := hc.2
      unfold blowB at h2
      rw [Bool.and_eq_true] at h2
      exact ih _ _ (fan_len h2.2).2 e
    · cases e
theorem built_len {is : List Int} (h : builtB is = true) : (builtL is).length ≤ 20 := by
  unfold builtB at h
  obtain ⟨l', hl⟩ := Option.isSome_iff_exists.1 h
  unfold builtL
  rw [hl]
  exact build_len is triL l' (by decide) hl
theorem smooth_snoc {l : List V2} {p : V2} (h : Smooth l) (h0 : 0 < l.length) (hp : vecB p.1 p.2 = true) (h1 : detV (cyc l (l.length - 1)) p = 1) (h2 : detV p (cyc l 0) = 1) : Smooth (l ++ [p]) := by
  refine smooth_of (by simp) (fun i hi => ?_) (fun i hi => ?_)
  · simp at hi
    by_cases e : i < l.length
    · rw [cyc_app_lt e]; exact h.1 i
    · rw [show i = l.length by omega, cyc_app_last]; exact hp
  · simp at hi
    by_cases e : i + 1 < l.length
    · rw [cyc_app_lt (by omega), cyc_app_lt e]; exact h.2 i
    · by_cases e2 : i + 1 = l.length
      · rw [cyc_app_lt (by omega), e2, cyc_app_last, show i = l.length - 1 by omega]; exact h1
      · obtain rfl : i = l.length := by omega
        rw [cyc_app_last]
        have : cyc (l ++ [p]) (l.length + 1) = cyc (l ++ [p]) 0 := by
          have := cyc_add (l ++ [p]) 0
          rwa [show 0 + (l ++ [p]).length = l.length + 1 by simp] at this
        rw [this, cyc_app_lt h0]
        exact h2
theorem rot_blowV {l : List V2} {i : Nat} {p : V2} : rot (l.length - (i + 1)) (rot (i + 1) l ++ [p]) = blowL l i p := by
  unfold rot blowL
  rw [List.append_assoc, ← List.length_drop, List.drop_left, List.take_left]
theorem blow_cyc {l : List V2} {i : Nat} {p : V2} (h : i < l.length) : cyc (blowL l i p) (i + 1) = p := by
  rw [cyc_lt (by rw [blowL_len h]; omega)]
  unfold blowL
  have e : (l.take (i + 1)).length = i + 1 := by simp; omega
  rw [List.append_assoc, List.getElem?_append_right (by omega), e, Nat.sub_self]
  rfl
theorem smooth_blow {l : List V2} {i : Nat} (h : Smooth l) (hi : i < l.length) (hf : fanB (blowL l i (blowP l i)) = true) : smoothB (blowL l i (blowP l i)) = true := by
  have hv := fan_vec hf (i + 1)
  rw [blow_cyc hi] at hv
  have hr := smooth_rot (k := i + 1) h (by omega)
  have hd := h.2 i
  have hlast : cyc (rot (i + 1) l) ((rot (i + 1) l).length - 1) = cyc l i := by
    rw [rot_len, cyc_rot (by omega), show i + 1 + (l.length - 1) = i + l.length by omega, cyc_add]
  have hfirst : cyc (rot (i + 1) l) 0 = cyc l (i + 1) := by rw [cyc_rot (by omega), Nat.add_zero]
  have hS : Smooth (blowL l i (blowP l i)) := by
    rw [← rot_blowV]
    refine smooth_rot (smooth_snoc hr (by rw [rot_len]; omega) hv ?_ ?_) (by simp [rot_len]; omega)
    · rw [hlast]
      unfold detV detZ blowP at *
      rw [Int.mul_add, Int.mul_add, Int.mul_comm (cyc l i).1 (cyc l i).2]
      omega
    · rw [hfirst]
      unfold detV detZ blowP at *
      rw [Int.add_mul, Int.add_mul, Int.mul_comm (cyc l (i + 1)).1 (cyc l (i + 1)).2]
      omega
  unfold smoothB
  rw [hf, Bool.true_and]
  exact List.all_eq_true.2 (fun j _ => by simpa [smB] using hS.2 j)
theorem Vecs.tri (w : World) : Vecs (w.alloc (.cells #[.int .i64 1, .int .i64 0, .int .i64 0, .int .i64 1, .int .i64 (-1), .int .i64 (-1)] 51)) w.heap.size (.slice (some ⟨w.heap.size, 0, none⟩) 3 3) triL :=
  ⟨rfl, .inr ⟨w.heap.size, 3, #[.int .i64 1, .int .i64 0, .int .i64 0, .int .i64 1, .int .i64 (-1), .int .i64 (-1)], rfl, Nat.le_refl _, heap_alloc_new w _, Nat.le_refl _, by decide, rfl, rfl⟩⟩
def BuildI (w : World) (is : List Int) (s4 s5 : Value) (wr : World) : Prop :=
  ∃ (L : List V2) (k : Nat), Vecs wr w.heap.size s4 L ∧ s5 = .int .i64 k ∧ k ≤ is.length ∧ L.length ≤ 20 ∧ buildS (is.drop k) L = buildS is triL ∧ Below w.heap.size w wr
set_option maxHeartbeats 8000000 in
theorem specFanBuild_any (v : Value) (is : List Int) (w : World) (hl : ReadsInts w v is) :
    Calls Try.prog 21 #[v] w (GivesVecsOk w (gV (builtB is) (builtL is)) (builtB is)) := by
  obtain ⟨a, c, rfl, hm, hcell⟩ := hl
  have HC := Lib.hid hcell
  have hE := Lib.hid (fun w' => Vecs.empty w')
  have HI0 : Hid (BuildI w is (.slice (some ⟨w.heap.size, 0, none⟩) 3 3) (.int .i64 0) (w.alloc (.cells #[.int .i64 1, .int .i64 0, .int .i64 0, .int .i64 1, .int .i64 (-1), .int .i64 (-1)] 51))) :=
    ⟨triL, 0, Vecs.tri w, rfl, Nat.zero_le _, by decide, rfl, by go_grown⟩
  have HS := Lib.hid (fun k (l : List V2) (hk : k < is.length) => build_step (l := l) hk)
  clear hcell
  go_enter Try.func21, Try.ntmps21
  go_wp2
  go_loopw [4, 5] (fun s4 s5 wr => Hid (BuildI w is s4 s5 wr)) (fun _ s5 _ => is.length - (intOf s5).toNat)
  case atStart => exact HI0
  case round =>
    obtain ⟨L, k, hV, he, hk, h20, hbd, hB⟩ := hrel.out
    clear hrel HI0
    subst he
    have i1 : (0 : Int) ≤ (k : Int) := by omega
    have HV := Lib.hid hV
    have HBd := Lib.hid hbd
    clear hV hbd
    by_cases hlt : k < is.length
    · obtain ⟨bb, off, rfl, hbb, hcs⟩ := HC.out (by omega)
      have i2 : (k : Int) < (is.length : Int) := by omega
      have c0 := (hB.cell (p := ⟨bb, off + k, none⟩) hbb).trans (hcs k hlt)
      have hbl := Nat.lt_of_lt_of_le hbb hB.size
      have HSk := Lib.hid (HS.out k L hlt)
      clear hcs
      generalize is[k]?.getD 0 = i at *
      have HW := Lib.hid (specFanBlow_any _ L i wr (HV.out.reads (by omega)))
      have hs := hB.size
      cases hK : smoothB L && blowB L i
      · rw [hK] at HW
        have HN : Hid (buildS is triL = none) := by
          have := HSk.out
          rw [hK] at this
          exact HBd.out.symm.trans this
        clear hK HSk HBd HV
        go_wp2_with fail
        refine Calls.mono HW.out ?_
        rintro e w2 ⟨v2, rfl, _, hb2⟩
        have hB2 := belowTo hB hb2
        have HE := Lib.hid ((hE.out w2).lower hB2.size)
        clear hb2
        go_wp2
        go_returns
        have h1 : builtB is = false := by unfold builtB; rw [HN.out]; rfl
        rw [h1]
        exact ⟨_, rfl, HE.out, hB2.alloc hB2.size _⟩
      · rw [hK] at HW
        have hLn : (blowL L i.toNat (blowP L i.toNat)).length ≤ 20 := by
          rw [Bool.and_eq_true] at hK
          have h2 := hK.2
          unfold blowB at h2
          rw [Bool.and_eq_true] at h2
          exact (fan_len h2.2).2
        have HN : Hid (buildS (is.drop (k + 1)) (blowL L i.toNat (blowP L i.toNat)) = buildS is triL) := by
          have := HSk.out
          rw [hK] at this
          exact this.symm.trans HBd.out
        have HLn := Lib.hid hLn
        clear hK HSk HBd HV hLn
        go_wp2_with fail
        refine Calls.mono HW.out ?_
        rintro e w2 ⟨v2, rfl, hV2, hb2⟩
        have hB2 := belowTo hB hb2
        have HI2 : Hid (BuildI w is v2 (.int .i64 ((k : Int) + 1)) w2) := ⟨_, k + 1, hV2.lower hs, by simp, by omega, HLn.out, HN.out, hB2⟩
        clear hb2 hV2 hB2
        go_wp2
        go_roundw
        case rel => exact HI2
        case measure => simp [intOf]; omega
    · obtain rfl : k = is.length := by omega
      have i2 : ¬ (is.length : Int) < (is.length : Int) := by omega
      have HN : Hid (buildS is triL = some L) := by
        have := HBd.out
        rw [List.drop_length] at this
        exact this.symm
      clear HBd
      go_wp2
      go_returns
      have h1 : builtB is = true := by unfold builtB; rw [HN.out]; rfl
      have h2 : builtL is = L := by unfold builtL; rw [HN.out]; rfl
      rw [h1, h2]
      exact ⟨_, rfl, HV.out, hB⟩
end Go.Proofs.Ytcieihbknfeddaa

/- The draws of chapters 3 and 4: a smooth fan, seldom another list: the list alone, and where it lies. -/
namespace Go.Proofs.Ytcieihbknfeddaa
open Go.RowKit

/-- vectors in memory from block 'base' on: perhaps a part of a longer slice -/
def VecsO (w : World) (base : Nat) (v : Value) (l : List V2) : Prop := ReadsVecs w v l ∧ ∀ bb off n c, v = .slice (some ⟨bb, off, none⟩) n c → base ≤ bb
theorem VecsO.below {w w' : World} {base : Nat} {v : Value} {l : List V2} (h : VecsO w base v l) (hb : Below w.heap.size w w') : VecsO w' base v l := ⟨h.1.below hb, h.2⟩
theorem VecsO.lower {w : World} {base base' : Nat} {v : Value} {l : List V2} (h : VecsO w base v l) (hb : base' ≤ base) : VecsO w base' v l := ⟨h.1, fun bb off n c e => Nat.le_trans hb (h.2 bb off n c e)⟩
theorem VecsO.picked {w w' : World} {base B : Nat} {v : Value} {l : List V2} (h : VecsO w base v l) (hg : w.grownBy w' (some B)) (hB : B < base) : VecsO w' base v l := by
  obtain ⟨⟨a, c, rfl, hc, hm, hcell⟩, h2⟩ := h
  refine ⟨⟨a, c, rfl, hc, hm, fun h0 => ?_⟩, h2⟩
  obtain ⟨bb, off, rfl, hb, hcs⟩ := hcell h0
  have hbb := h2 bb off _ _ rfl
  have e : w'.heap[bb]? = w.heap[bb]? := hg.block bb hb (fun e => by cases e; omega)
  exact ⟨bb, off, rfl, Nat.lt_of_lt_of_le hb hg.size, fun j hj => ⟨(World.cell?_of_block (a := ⟨bb, off + j * 2, none⟩) e).trans (hcs j hj).1, (World.cell?_of_block (a := ⟨bb, off + j * 2 + 1, none⟩) e).trans (hcs j hj).2⟩⟩
theorem VecsO.of {w : World} {base : Nat} {v : Value} {l : List V2} (h : Vecs w base v l) (hl : l.length ≤ 1000) (h0 : 0 < l.length) : VecsO w base v l := by
  refine ⟨h.reads (by omega), fun bb off n c e => ?_⟩
  subst e
  have h' := h
  unfold Vecs at h'
  rcases h'.form with ⟨h1, _⟩ | ⟨_, g, c', e2, hg, _, _⟩
  · omega
  · injection e2 with e3
    injection e3 with e4
    injection e4 with e5
    subst e5
    exact hg
theorem VecsO.open {w : World} {base : Nat} {v : Value} {l : List V2} (h : VecsO w base v l) (h0 : 0 < l.length) : ∃ bb off c, v = .slice (some ⟨bb, off, none⟩) l.length c ∧ l.length ≤ c ∧ base ≤ bb ∧ bb < w.heap.size ∧
    ∀ j, j < l.length → w.cell? ⟨bb, off + j * 2, none⟩ = some (.int .i64 (cyc l j).1) ∧ w.cell? ⟨bb, off + j * 2 + 1, none⟩ = some (.int .i64 (cyc l j).2) := by
  obtain ⟨⟨a, c, rfl, hc, hm, hcell⟩, h2⟩ := h
  obtain ⟨bb, off, rfl, hb, hcs⟩ := hcell h0
  exact ⟨bb, off, c, rfl, hc, h2 bb off _ _ rfl, hb, hcs⟩
theorem VecsO.tail {w : World} {base : Nat} {bb off n c : Nat} {l : List V2} (hbb : base ≤ bb) (hb : bb < w.heap.size) (hn : l.length = n + 1) (hc : n + 1 ≤ c) (hm : n ≤ 1000)
    (hcs : ∀ j, j < l.length → w.cell? ⟨bb, off + j * 2, none⟩ = some (.int .i64 (cyc l j).1) ∧ w.cell? ⟨bb, off + j * 2 + 1, none⟩ = some (.int .i64 (cyc l j).2)) : VecsO w base (.slice (some ⟨bb, off + 2, none⟩) n (c - 1)) (l.drop 1) := by
  have hl : (l.drop 1).length = n := by simp; omega
  refine ⟨⟨some ⟨bb, off + 2, none⟩, c - 1, by rw [hl], by rw [hl]; omega, by rw [hl]; omega, fun _ => ⟨bb, off + 2, rfl, hb, fun j hj => ?_⟩⟩, fun bb' off' n' c' e => by cases e; exact hbb⟩
  rw [hl] at hj
  have e : cyc (l.drop 1) j = cyc l (j + 1) := by
    rw [cyc_lt (by omega), cyc_lt (by omega)]
    simp
  rw [e, show off + 2 + j * 2 = off + (j + 1) * 2 by omega]
  exact hcs (j + 1) (by omega)

def hirL (k : Int) : List V2 := [(1, 0), (0, 1), (-1, k), (0, -1)]
theorem Vecs.hir (w : World) (k : Int) : Vecs (w.alloc (.cells #[.int .i64 1, .int .i64 0, .int .i64 0, .int .i64 1, .int .i64 (-1), .int .i64 k, .int .i64 0, .int .i64 (-1)] 51)) w.heap.size (.slice (some ⟨w.heap.size, 0, none⟩) 4 4) (hirL k) :=
  ⟨rfl, .inr ⟨w.heap.size, 4, #[.int .i64 1, .int .i64 0, .int .i64 0, .int .i64 1, .int .i64 (-1), .int .i64 k, .int .i64 0, .int .i64 (-1)], rfl, Nat.le_refl _, heap_alloc_new w _, Nat.le_refl _, by decide, rfl, rfl⟩⟩
set_option maxHeartbeats 2000000 in
theorem specKind4_any (k : Int) (w : World) (h : 0 ≤ k ∧ k ≤ 100) :
    Calls Try.prog 22 #[.int .i64 k] w (GivesVecsOk w (hirL k) true) := by
  obtain ⟨h1, h2⟩ := h
  have i1 : ((0 : Int) ≤ k) = True := eq_true h1
  have HV := Lib.hid (fun w' => Vecs.hir w' k)
  have HL : Hid (∀ w', Calls Try.prog 14 #[.int .i64 k, .int .i64 0, .int .i64 100] w' fun e w'' => e = .returned (.bool true) ∧ w'' = w') := fun w' => by
    go_enter Try.func14, Try.ntmps14
    go_wp2
    go_returns
    exact ⟨rfl, rfl⟩
  clear i1
  go_enter Try.func22, Try.ntmps22
  go_wp2_with fail
  refine Calls.mono (HL.out _) ?_
  rintro e w1 ⟨rfl, rfl⟩
  go_wp2
  go_returns
  exact ⟨_, rfl, HV.out _, by go_grown⟩
theorem tri_built : builtB [] = true ∧ builtL [] = triL := ⟨rfl, rfl⟩
theorem blow_grew {l : List V2} {i : Int} (h : (smoothB l && blowB l i) = true) : (blowL l i.toNat (blowP l i.toNat)).length = l.length + 1 ∧ (blowL l i.toNat (blowP l i.toNat)).length ≤ 20 := by
  rw [Bool.and_eq_true] at h
  have h2 := h.2
  unfold blowB at h2
  rw [Bool.and_eq_true] at h2
  obtain ⟨m, hm, hlt⟩ := idx_in h2.1
  exact ⟨blowL_len (by omega), (fan_len h2.2).2⟩
/-- a list of vectors, from block w.heap.size on; the reader in block B goes on from some place -/
def DrewFan (w : World) (B : Nat) (a : Option Addr) (len cap : Nat) (p : Int) (e : Ending) (w' : World) : Prop :=
  ∃ (v : Value) (l : List V2) (q : Int), e = .returned v ∧ VecsO w' w.heap.size v l ∧ 2 ≤ l.length ∧ l.length ≤ 20 ∧ Reads w' B a len cap q ∧ q ≤ p + 10 ∧ Below B w w'
def SmoothR (w : World) (B : Nat) (a : Option Addr) (len cap : Nat) (p : Int) (v : Value) (wr : World) : Prop :=
  ∃ (l : List V2) (q : Int), VecsO wr w.heap.size v l ∧ 3 ≤ l.length ∧ l.length ≤ 20 ∧ Reads wr B a len cap q ∧ q ≤ p ∧ Below B w wr
theorem SmoothR.mono {w : World} {B : Nat} {a : Option Addr} {len cap : Nat} {p p' : Int} {v : Value} {wr : World} (h : SmoothR w B a len cap p v wr) (hp : p ≤ p') : SmoothR w B a len cap p' v wr := by
  obtain ⟨l, q, h1, h2, h3, h4, h5, h6⟩ := h
  exact ⟨l, q, h1, h2, h3, h4, by omega, h6⟩
set_option maxRecDepth 100000 in
set_option maxHeartbeats 16000000 in
theorem l91Smooth_any (w : World) (B : Nat) (a : Option Addr) (len cap : Nat) (p : Int) (h : Reads w B a len cap p) (hp : p ≤ 90000) :
    Calls Try.prog 15 #[.pointer (some ⟨B, 0, none⟩)] w (DrewFan w B a len cap p) := by
  obtain ⟨i0, hi, hz0, hz1, hz2'⟩ := info_parts infoVec
  have hB : B < w.heap.size := h.2.2.2.2.1
  have HB := Lib.hid hB
  have HE := Lib.hid ((Ints.empty w).reads (by simp))
  have HF := Lib.hid (fun w' v' h' => specFanBuild_any v' [] w' h')
  have HBl := Lib.hid (fun v' l i w' h' => specFanBlow_any v' l i w' h')
  have HR := Lib.hid h
  have HT : Hid (gV (builtB []) (builtL []) = triL ∧ builtB [] = true) := ⟨rfl, rfl⟩
  clear h hB
  go_enter Try.func15, Try.ntmps15
  go_wp2_with fail
  refine Calls.mono (HF.out _ _ HE.out) ?_
  rintro e w1 ⟨v1, rfl, hI, hb1⟩
  rw [HT.out.1] at hI
  rw [HT.out.2]
  have hA : Below w.heap.size w w1 := belowTo (by go_grown) hb1
  have R1 := HR.out.below (hA.mono (by have := HB.out; omega))
  have V1 : VecsO w1 w.heap.size v1 triL := (VecsO.of (hI.lower (by simp)) (by decide) (by decide))
  have HV1 := Lib.hid V1
  have Q1 := hA.mono (show B ≤ w.heap.size by have := HB.out; omega)
  clear hI hb1 V1 HE HF HR hA
  have hs1 := Q1.size
  go_upto_region 2 with fail
  go_cut [3, 16] (fun s3 s16 wx => (∃ b, s16 = .bool b) ∧ SmoothR w B a len cap (p + 1) s3 wx)
  case first =>
    go_wp2_with fail
    refine Calls.mono (pickG_any _ B a len cap p 3 R1 (by omega) (by omega)) ?_
    rintro e w2 ⟨⟨x, rfl, x0, x3, R2, _, _, s2, q2⟩, g2⟩
    have Q2 := Q1.trans q2
    have hf : SmoothR w B a len cap (p + 1) v1 w2 := ⟨triL, p + 1, HV1.out.picked g2 HB.out, by decide, by decide, R2, by omega, Q2⟩
    have HF := Lib.hid hf
    clear R1 HV1 g2 q2 Q1 hs1 s2 hf R2 Q2
    go_wp2_with fail
    go_meet
    exact ⟨⟨_, rfl⟩, HF.out⟩
  case rest =>
  have HC0 := Lib.hid hcut
  clear hcut R1 HV1 Q1
  go_wp2_with fail
  obtain ⟨⟨b, rfl⟩, hc⟩ := HC0.out
  have HC := Lib.hid hc
  clear hc HC0
  go_cut [3] (fun s3 wx => SmoothR w B a len cap (p + 2) s3 wx)
  case first =>
    cases b
    · have HF := Lib.hid (HC.out.mono (show p + 1 ≤ p + 2 by omega))
      go_wp2_with fail
      go_meet
      exact HF.out
    · obtain ⟨l, q, V, h3, h20, R2, hq, Q2⟩ := HC.out
      clear HC
      go_wp2_with fail
      refine Calls.mono (pickG_any _ B a len cap q 4 R2 (by omega) (by omega)) ?_
      rintro e w3 ⟨⟨y, rfl, y0, y4, R3, _, _, s3, q3⟩, g3⟩
      have Q3 := Q2.trans q3
      have HK := Lib.hid (fun w' => specKind4_any y w' (by omega))
      have hz3 : w.heap.size ≤ w3.heap.size := Q3.size
      clear R2 V g3 q3 Q2 s3
      go_wp2_with fail
      refine Calls.mono (HK.out _) ?_
      rintro e w4 ⟨v4, rfl, hI4, hb4⟩
      have hf : SmoothR w B a len cap (p + 2) v4 w4 := ⟨hirL y, q + 1, VecsO.of (hI4.lower hz3) (by simp [hirL]) (by simp [hirL]), by simp [hirL], by simp [hirL], R3.below (hb4.mono (by have := HB.out; omega)), by omega, Q3.trans (hb4.mono (by have := HB.out; omega))⟩
      have HF := Lib.hid hf
      clear hI4 hb4 hf HK R3
      go_wp2_with fail
      go_meet
      exact HF.out
  case rest =>
  have HCt := Lib.hid hcut
  clear hcut
  obtain ⟨l, q, V, h3, h20, R, hq, Q⟩ := HCt.out
  clear HCt
  go_wp2_with fail
  refine Calls.mono (pickG_any _ B a len cap q 5 R (by omega) (by omega)) ?_
  rintro e w2 ⟨⟨x, rfl, x0, x5, R2, _, _, s2, q2⟩, g2⟩
  have HS2 := Lib.hid (show SmoothR w B a len cap (p + 3) _ w2 from ⟨l, q + 1, V.picked g2 HB.out, h3, h20, R2, by omega, Q.trans q2⟩)
  clear V h3 h20 R2 g2 q2 R Q s2 hq
  go_wp2
  go_loopw [3, 6] (fun s3 s6 wr => ∃ k : Nat, s6 = .int .i64 k ∧ (k : Int) ≤ x ∧ Hid (SmoothR w B a len cap (p + 3 + k) s3 wr)) (fun _ s6 _ => (x - intOf s6).toNat)
  case atStart => exact ⟨0, rfl, by omega, Lib.hid (HS2.out.mono (by omega))⟩
  case round =>
    obtain ⟨k, rfl, hk, HS⟩ := hrel
    clear HS2
    obtain ⟨l, q, V, h3, h20, R, hq, Q⟩ := HS.out
    obtain ⟨bb, off, c, rfl, hc, hbb, hbs, hcs⟩ := V.open (by omega)
    by_cases hlt : (k : Int) < x
    · clear hcs
      go_wp2_with fail
      refine Calls.mono (pickG_any _ B a len cap q l.length R (by omega) (by omega)) ?_
      rintro e w2 ⟨⟨y, rfl, y0, y4, R2, _, _, s2, q2⟩, g2⟩
      have V2 := V.picked g2 HB.out
      have HBk := Lib.hid (HBl.out _ l y w2 V2.1)
      have Q2 := Q.trans q2
      have hz2 : w.heap.size ≤ w2.heap.size := Q2.size
      have HV2 := Lib.hid V2
      have HG := Lib.hid (fun (h : (smoothB l && blowB l y) = true) => blow_grew h)
      clear V V2 R g2 q2 Q HS
      generalize (smoothB l && blowB l y) = K at *
      generalize blowL l y.toNat (blowP l y.toNat) = L2 at *
      go_wp2_with fail
      refine Calls.mono HBk.out ?_
      rintro e w3 ⟨v3, rfl, hI, hb3⟩
      have R3 := R2.below (hb3.mono (by have := HB.out; omega))
      have Q3 := Q2.trans (hb3.mono (by have := HB.out; omega))
      cases K
      · have HF : Hid (SmoothR w B a len cap (p + 3 + ((k + 1 : Nat) : Int)) (.slice (some ⟨bb, off, none⟩) l.length c) w3) := ⟨l, q + 1, HV2.out.below hb3, h3, h20, R3, by omega, Q3⟩
        clear hI hb3 R2 R3 Q2 Q3 HG HV2 HBk
        go_wp2
        go_roundw
        case rel => exact ⟨k + 1, by go_num, by omega, HF.out⟩
        case measure => simp [intOf]; omega
      · obtain ⟨g1, g2⟩ := HG.out rfl
        have HF : Hid (SmoothR w B a len cap (p + 3 + ((k + 1 : Nat) : Int)) v3 w3) := ⟨L2, q + 1, VecsO.of (Vecs.lower hI hz2) (by omega) (by omega), by omega, g2, R3, by omega, Q3⟩
        clear hI hb3 R2 R3 Q2 Q3 HG HV2 HBk g1 g2
        go_wp2
        go_roundw
        case rel => exact ⟨k + 1, by go_num, by omega, HF.out⟩
        case measure => simp [intOf]; omega
    · go_wp2_with fail
      refine Calls.mono (pickG_any _ B a len cap q 24 R (by omega) (by omega)) ?_
      rintro e w2 ⟨⟨y, rfl, y0, y4, R2, _, _, s2, q2⟩, g2⟩
      have V2 := V.picked g2 HB.out
      have Q2 := Q.trans q2
      obtain ⟨bb', off', c', e', hc', hbb', hbs', hcs'⟩ := V2.open (by omega)
      injection e' with e1 e2 e3
      injection e1 with e4
      injection e4 with e5 e6
      subst e5 e6 e3
      have hq3 : q + 1 ≤ p + 10 := by omega
      have HV2 := Lib.hid V2
      have HQ2 := Lib.hid Q2
      have HR2 := Lib.hid R2
      have HCS := Lib.hid hcs'
      clear V V2 R R2 Q Q2 g2 q2 HS hcs hcs' hbb' hbs s2
      have hz2 : w.heap.size ≤ w2.heap.size := HQ2.out.size
      obtain hv | hv | ⟨hv0, hv1⟩ : y = 0 ∨ y = 1 ∨ ((y == 0) = false ∧ (y == 1) = false) := by
        by_cases h0 : y = 0
        · exact .inl h0
        by_cases h1 : y = 1
        · exact .inr (.inl h1)
        · exact .inr (.inr ⟨by simpa using h0, by simpa using h1⟩)
      · subst hv
        obtain ⟨n, hn⟩ : ∃ n, l.length = n + 1 := ⟨l.length - 1, by omega⟩
        have HF := Lib.hid (VecsO.tail (l := l) (c := c) (off := off) hbb hbs' hn (by omega) (by omega) HCS.out)
        have hl2 : (l.drop 1).length = n := by simp; omega
        have i1 : (1 : Int) ≤ (l.length : Int) := by omega
        have i3 : l.length - 1 = n := by omega
        go_wp2
        go_returns
        exact ⟨_, l.drop 1, q + 1, rfl, HF.out, by omega, by omega, HR2.out, hq3, HQ2.out⟩
      · subst hv
        obtain ⟨n, hn⟩ : ∃ n, l.length = n + 1 := ⟨l.length - 1, by omega⟩
        obtain ⟨c0, c1⟩ := HCS.out n (by omega)
        have HT0 : Hid (0 + n ≤ l.length) := by show _ ≤ _; omega
        have hl2 : ((l.drop 0).take n).length = n := by simp; omega
        have HO := Lib.hid (fun w' => Vecs.one w' (cyc l n).1 (cyc l n).2)
        have hb1 := hbs'
        have HCc := Lib.hid (fun wr (h : Below w2.heap.size w2 wr) j (hj : j < l.length) => (⟨(h.cell (p := ⟨bb, off + j * 2, none⟩) hb1).trans (HCS.out j hj).1, (h.cell (p := ⟨bb, off + j * 2 + 1, none⟩) hb1).trans (HCS.out j hj).2⟩ : wr.cell? ⟨bb, off + j * 2, none⟩ = some (.int .i64 (cyc l j).1) ∧ wr.cell? ⟨bb, off + j * 2 + 1, none⟩ = some (.int .i64 (cyc l j).2)))
        generalize cyc l n = Z at c0 c1 HO
        obtain ⟨zx, zy⟩ := Z
        dsimp only at c0 c1 HO
        have HOw := Lib.hid ((HO.out w2.drew).lower hz2)
        have HBd := Lib.hid (show Below w2.heap.size w2 (w2.drew.alloc (.cells #[.int .i64 zx, .int .i64 zy] 51)) by go_grown)
        have HBz := Lib.hid (show w.heap.size ≤ (w2.drew.alloc (.cells #[.int .i64 zx, .int .i64 zy] 51)).heap.size by simp; omega)
        have i0' : (0 : Int) ≤ (n : Int) := by omega
        have i1 : (n : Int) < (l.length : Int) := by omega
        have i2 : (n : Int) ≤ (c : Int) := by omega
        have i3 : n < l.length := by omega
        have q1 : IntKind.i64.wrap ((l.length : Int) - 1) = (n : Int) := by rw [IntKind.wrap_i64]; omega
        have hnl : n ≤ 19 := by omega
        have hn2 : 2 ≤ n := by omega
        have HL3 : Hid (([(zx, zy)] ++ (l.drop 0).take n).length = n + 1) := by show _ = _; rw [List.length_append, hl2]; simp; omega
        have HN := Lib.hid hn
        have HL20 := Lib.hid h20
        clear hn h3 h20 HV2
        go_wp2
        refine wp_region_any (by kernel_rfl) ?_
        try (change wpAny _ _ _ _ _ _ _ (World.drew _))
        refine wpAny_take (i := 0) (v := ?_) rfl (by kernel_rfl) (by kernel_rfl) (by kernel_rfl) (fun _ _ _ h => h) (Or.inl ⟨by rfl, ?_⟩) ?_
        rotate_left
        focus (intro w0; go_simp; try with_reducible rfl)
        refine wpAny_take (i := 1) (v := ?_) rfl (by kernel_rfl) (by kernel_rfl) (by kernel_rfl) (fun _ _ _ h => h) (Or.inl ⟨by rfl, ?_⟩) ?_
        rotate_left
        focus (intro w0; go_simp; try with_reducible rfl)
        refine wpAny_take (i := 2) (v := ?_) rfl (by kernel_rfl) (by kernel_rfl) (by kernel_rfl) (fun _ _ _ h => h) (Or.inl ⟨by rfl, ?_⟩) ?_
        rotate_left
        focus (intro w0; go_simp; try with_reducible rfl)
        refine wpAny_take (i := 3) (v := ?_) rfl (by kernel_rfl) (by kernel_rfl) (by kernel_rfl) (fun _ _ _ h => h) (Or.inl ⟨by rfl, ?_⟩) ?_
        rotate_left
        focus (intro w0; go_simp; try with_reducible rfl)
        refine wpAny_take (i := 4) (v := ?_) rfl (by kernel_rfl) (by kernel_rfl) (by kernel_rfl) (fun _ _ _ h => h) (Or.inl ⟨by rfl, ?_⟩) ?_
        rotate_left
        focus (intro w0; go_simp; try with_reducible rfl)
        refine wpAny_take (i := 7) (v := ?_) rfl (by kernel_rfl) (by kernel_rfl) (by kernel_rfl) (fun _ _ _ h => h) (Or.inl ⟨by rfl, ?_⟩) ?_
        rotate_left
        focus (intro w0; go_simp; try with_reducible rfl)
        refine wpAny_take (i := 8) (v := ?_) rfl (by kernel_rfl) (by kernel_rfl) (by kernel_rfl) (fun _ _ _ h => h) (Or.inl ⟨by rfl, ?_⟩) ?_
        rotate_left
        focus (intro w0; go_simp; try with_reducible rfl)
        refine wpAny_take (i := 9) (v := ?_) rfl (by kernel_rfl) (by kernel_rfl) (by kernel_rfl) (fun _ _ _ h => h) (Or.inl ⟨by rfl, ?_⟩) ?_
        rotate_left
        focus (intro w0; go_simp; try with_reducible rfl)
        refine wpAny_take (i := 10) (v := ?_) rfl (by kernel_rfl) (by kernel_rfl) (by kernel_rfl) (fun _ _ _ h => h) (Or.inl ⟨by rfl, ?_⟩) ?_
        rotate_left
        focus (intro w0; go_simp; try with_reducible rfl)
        refine wpAny_take (i := 11) (v := ?_) rfl (by kernel_rfl) (by kernel_rfl) (by kernel_rfl) (fun _ _ _ h => h) (Or.inl ⟨by rfl, ?_⟩) ?_
        rotate_left
        focus (intro w0; go_simp; try with_reducible rfl)
        refine wpAny_ready (rs := [5]) (by kernel_rfl) (by simp) (AllReady.cons rfl (fun K hK => ?_) (AllReady.nil))
        go_simp
        refine hK _ _ ?_
        clear hK K
        refine wpAny_ready (rs := [6]) (by kernel_rfl) (by simp) (AllReady.cons rfl (fun K hK => ?_) (AllReady.nil))
        go_simp
        refine hK _ _ ?_
        clear hK K
        refine wpAny_ready (rs := [12]) (by kernel_rfl) (by simp) (AllReady.cons rfl (fun K hK => ?_) (AllReady.nil))
        (refine step_list (by rintro ⟨_, _, h⟩; obtain ⟨_, _, _, hv, _⟩ := h; cases hv) (by kernel_rfl) ?_; refine wpList_append_own_at _ rfl _ _ 40 rfl w.heap.size 51 i0 (.agg #[.int .i64 (0), .int .i64 (0)]) 2 16 Try.underlying40 hi hz0 hz1 hz2' rfl (by decide) _ _ _ rfl HOw.out _ _ _ _ rfl (piece_len HT0.out) (piece_cells (HCc.out _ HBd.out) HT0.out) (piece_one _) (by unfold maxLen; simp; omega) (by simp; omega) HBz.out ?_; intro v2 w3 hown2 hgrow2 _ _; have HB3 := Lib.hid ((HBd.out.mono hz2).grown hgrow2 HBz.out (fun q hq => (World.ownsRow.lt HOw.out q hq).1)); have HO3 := Lib.hid (Vecs.join (l := [(zx, zy)]) hown2 (by rw [hl2])); clear hown2 hgrow2)
        refine hK _ _ ?_
        clear hK K
        refine wpAny_seq 13 rfl (by kernel_rfl) ?_
        simp only [List.drop_succ_cons, List.drop_zero]
        all_goals
          have HF := Lib.hid (VecsO.of HO3.out (by rw [HL3.out]; omega) (by rw [HL3.out]; omega))
          have HR3 := Lib.hid (HR2.out.below (HB3.out.mono (by have := HB.out; omega)))
          have HQ3 := Lib.hid (HQ2.out.trans (HB3.out.mono (by have := HB.out; omega)))
          go_wp2
          go_returns
          exact ⟨_, _, q + 1, rfl, HF.out, by rw [HL3.out]; omega, by rw [HL3.out]; omega, HR3.out, hq3, HQ3.out⟩
      · go_wp2
        go_returns
        exact ⟨_, l, q + 1, rfl, HV2.out, by omega, h20, HR2.out, hq3, HQ2.out⟩
end Go.Proofs.Ytcieihbknfeddaa

/- The draws of chapter 4: a divisor, seldom another list: the list alone, and where it lies. -/
namespace Go.Proofs.Ytcieihbknfeddaa
open Go.RowKit

theorem grown_refl (w : World) (row : Option Nat) : w.grownBy w row := ⟨rfl, rfl, rfl, Nat.le_refl _, fun _ _ _ => rfl⟩
theorem grown_trans {w w1 w2 : World} {row : Option Nat} (h1 : w.grownBy w1 row) (h2 : w1.grownBy w2 row) : w.grownBy w2 row :=
  ⟨h2.os.trans h1.os, h2.tape.trans h1.tape, h2.output.trans h1.output, Nat.le_trans h1.size h2.size, fun k hk hne => (h2.block k (Nat.lt_of_lt_of_le hk h1.size) hne).trans (h1.block k hk hne)⟩
theorem grown_then {w w1 w2 : World} {row : Option Nat} (h1 : w.grownBy w1 row) (h2 : Below w.heap.size w1 w2) : w.grownBy w2 row :=
  ⟨h2.os.trans h1.os, h2.tape.trans h1.tape, h2.output.trans h1.output, Nat.le_trans h1.size h2.size, fun k hk hne => (h2.block k hk).trans (h1.block k hk hne)⟩
def DrewDiv (w : World) (B : Nat) (a : Option Addr) (len cap : Nat) (n : Nat) (p : Int) (e : Ending) (w' : World) : Prop :=
  ∃ (u : Value) (d : List Int) (q : Int), e = .returned u ∧ Ints w' w.heap.size u d ∧ d.length = n ∧ Reads w' B a len cap q ∧ q ≤ p + 3 + n ∧ Below B w w' ∧ w.grownBy w' (some B)
def DivR (w : World) (B : Nat) (a : Option Addr) (len cap : Nat) (p : Int) (k : Nat) (u : Value) (wr : World) : Prop :=
  ∃ (d : List Int) (q : Int), Ints wr w.heap.size u d ∧ d.length = k ∧ Reads wr B a len cap q ∧ q ≤ p + 1 + k ∧ Below B w wr ∧ w.grownBy wr (some B)
theorem DivR.snoc {w : World} {B : Nat} {a : Option Addr} {len cap : Nat} {p q : Int} {k : Nat} {d : List Int} {x : Int} {w2 w3 : World} {v' : Value} (hk : d.length = k) (hB : B < w.heap.size) (r : Reads w2 B a len cap q) (hq : q ≤ p + 2 + k) (hQ : Below B w w2) (hG : w.grownBy w2 (some B))
    (hb : Below w.heap.size w2 w3) (hown : w3.ownsRow w.heap.size 3 1 v' (k + 1) (intsV d ++ [.int .i64 x])) : DivR w B a len cap p (k + 1) v' w3 := by
  refine ⟨d ++ [x], q, ?_, by simp [hk], r.below (hb.mono (by omega)), by omega, hQ.trans (hb.mono (by omega)), grown_then hG hb⟩
  have : intsV (d ++ [x]) = intsV d ++ [.int .i64 x] := by simp [intsV]
  unfold Ints
  rw [this, List.length_append, hk]
  exact hown
/-- a list of vectors and as many numbers, in new memory -/
def GivenD (w : World) (e : Ending) (w' : World) : Prop :=
  ∃ (v u : Value) (l : List V2) (d : List Int), e = .returned (.tuple #[v, u]) ∧ ReadsVecs w' v l ∧ ReadsInts w' u d ∧ 2 ≤ l.length ∧ l.length ≤ 20 ∧ d.length = l.length ∧ Below w.heap.size w w'
end Go.Proofs.Ytcieihbknfeddaa

/- Lists of vectors and the reader: what a draw keeps. -/
namespace Go.Proofs.Ytcieihbknfeddaa
open Go.RowKit

/-- a list of vectors is not the reader -/
theorem Vecs.pickedL {w w' : World} {base B : Nat} {v : Value} {l : List V2} (h : Vecs w base v l) (hg : w.grownBy w' (some B)) (hB : B < base) : Vecs w' base v l := by
  have h' : w.ownsRow base 51 2 v l.length (intsV (flat l)) := h
  refine World.ownsRow.kept h' hg ?_
  cases hv : v.ownBlock with
  | none => exact .inl rfl
  | some k => exact .inr (fun e => by have := (World.ownsRow.lt h' k hv).1; cases e; omega)
theorem VecsO.keptL {w w' : World} {base B : Nat} {v : Value} {l : List V2} (h : VecsO w base v l) (hK : Kept w.heap.size B w w') (hB : B < base) : VecsO w' base v l := by
  obtain ⟨⟨a, c, rfl, hc, hm, hcell⟩, h2⟩ := h
  refine ⟨⟨a, c, rfl, hc, hm, fun h0 => ?_⟩, h2⟩
  obtain ⟨bb, off, rfl, hb, hcs⟩ := hcell h0
  have hbb := h2 bb off _ _ rfl
  exact ⟨bb, off, rfl, Nat.lt_of_lt_of_le hb hK.2, fun j hj => ⟨(hK.1 bb _ hb (by omega)).1.trans (hcs j hj).1, (hK.1 bb _ hb (by omega)).1.trans (hcs j hj).2⟩⟩
theorem VecsO.setB {w : World} {base g o : Nat} {v : Value} {l : List V2} (h : VecsO w base v l) (hg : g < base) (x : Value) : VecsO (w.setCell ⟨g, o, none⟩ x) base v l := by
  obtain ⟨⟨a, c, rfl, hc, hm, hcell⟩, h2⟩ := h
  refine ⟨⟨a, c, rfl, hc, hm, fun h0 => ?_⟩, h2⟩
  obtain ⟨bb, off, rfl, hb, hcs⟩ := hcell h0
  have hbb := h2 bb off _ _ rfl
  exact ⟨bb, off, rfl, by simpa using hb, fun j hj => ⟨by rw [World.cell?_setCell_other _ _ _ _ (by simp <;> omega)]; exact (hcs j hj).1, by rw [World.cell?_setCell_other _ _ _ _ (by simp <;> omega)]; exact (hcs j hj).2⟩⟩
theorem vec_cellsL (W : World) (X Y : Int) (t : TypeId) : ∀ j u, [Value.int .i64 X, Value.int .i64 Y][j]? = some u → (W.alloc (.cells #[.int .i64 X, .int .i64 Y] t)).cell? ((⟨W.heap.size, 0, none⟩ : Addr).add j) = some u := by
  intro j u hj
  match j, hj with
  | 0, hj => simp at hj; subst hj; simp [Addr.add]
  | 1, hj => simp at hj; subst hj; simp [Addr.add]
theorem vec_oneL (X Y : Int) : ∀ u ∈ [Value.int .i64 X, Value.int .i64 Y], u.oneCell' = true := by
  intro u hu
  simp at hu
  rcases hu with rfl | rfl <;> rfl
end Go.Proofs.Ytcieihbknfeddaa
