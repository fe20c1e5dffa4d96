import Derived.Test.YtgaeibibeekclabGreatDoorProg
import Derived.Test.YtgaeibibeekclabGreatDoorS01
import Derived.Test.YtgaeibibeekclabGreatDoorS03
import Derived.Test.YtgaeibibeekclabGreatDoorS04
import Derived.Test.YtgaeibibeekclabGreatDoorS06
import Derived.Test.YtgaeibibeekclabGreatDoorS07
import Derived.Test.YtgaeibibeekclabGreatDoorS13
import Derived.Test.YtgaeibibeekclabGreatDoorS14
import Derived.Test.YtgaeibibeekclabGreatDoorS15
import Derived.Test.YtgaeibibeekclabGreatDoorS19
import Derived.WalkKit
import Derived.LaidEql
import Derived.Stop.Asserts
import Derived.RowKitTokens
import Derived.Handy
import Derived.WalkSpells
import Derived.WalkLawsBesides
import Derived.Deep.QuietTactic
import Derived.BigQuiet
import Derived.Lib.Hide
import Derived.Deep.RegionHeld3
import Derived.Deep.DeepCutAuto
import Derived.Deep.AppendLies
import Derived.Laws.OwnMore
import Derived.Laws.MakeOwn
import Derived.OwnWalk
import Derived.Maps.AppendAt
import Derived.RangeFuncBox
import Derived.RegionTactic
import Derived.ChangeAlike
import Derived.RangeFuncNested
import Derived.StillTail
import Derived.OrdersIn
import Derived.AtR
import Derived.RangeFuncBound
import Derived.RangeFuncCalls
import Derived.RangeFuncLeaves
import Derived.Shelf.Abstract
import Derived.OwnWalkIn
import Derived.TacticsInMore
import Derived.LoopNIn
import Derived.LoopIn
import Derived.LaidEqlPtr
import Derived.BigRegion
import Derived.Shelf.SlSortCmp.WholeK
import Derived.Laws.StructEq
import Derived.Laws.IdiomCopy
import Derived.Shelf.SlGeneric
import Derived.Shelf.SlSortCmp.NoneTotal
import Derived.Shelf.SlicesE.Clone
import Derived.Shelf.SlicesQ.Reverse
import Derived.Ground.SlsfProg
import Derived.Ground.SlgnProg
import Derived.Deep.RegionLaw
import Derived.ArgAppend
import Derived.Laws.EntriesVeiled
namespace Go.Proofs.YtgaeibibeekclabGreatDoor
open Go.RowKit
/-- the determinant of a corner and the next one is the common divisor of the way -/
def reflK (l : List V2) (i : Nat) : Bool := decide (detV (cyc l i) (cyc l (i + 1)) = gcdZ (wayZ l i).1 (wayZ l i).2)
def allR (l : List V2) : Bool := (List.range l.length).all (reflK l)
def reflB (l : List V2) : Bool := polyB l && allR l
theorem refl_in {l : List V2} (h : reflB l = true) : polyB l = true ∧ allR l = true := by simpa [reflB] using h
theorem allR_not {l : List V2} {i : Nat} (hi : i < l.length) (h : reflK l i = false) : allR l = false := by
  unfold allR
  rw [List.all_eq_false]
  exact ⟨i, List.mem_range.2 hi, by rw [h]; decide⟩
theorem allR_of {l : List V2} (h : ∀ i, i < l.length → reflK l i = true) : allR l = true := List.all_eq_true.2 (fun i hi => h i (List.mem_range.1 hi))
theorem reflK_mod (l : List V2) (i : Nat) : reflK l (i % l.length) = reflK l i := by
  unfold reflK
  have e : cyc l (i % l.length + 1) = cyc l (i + 1) := by
    rw [← cyc_mod l (i % l.length + 1), ← cyc_mod l (i + 1), Nat.add_mod, Nat.mod_mod, ← Nat.add_mod]
  rw [wayZ_mod, cyc_mod, e]
theorem allR_at {l : List V2} (h : allR l = true) (h0 : 0 < l.length) (i : Nat) : detV (cyc l i) (cyc l (i + 1)) = gcdZ (wayZ l i).1 (wayZ l i).2 := by
  have := List.all_eq_true.1 h (i % l.length) (List.mem_range.2 (Nat.mod_lt _ h0))
  rw [reflK_mod] at this
  exact of_decide_eq_true this
def stepV (l : List V2) (i : Nat) : V2 := primW (wayZ l i)
def gN (l : List V2) (i : Nat) : Nat := (gcdZ (wayZ l i).1 (wayZ l i).2).toNat
theorem refl_V {l : List V2} (h : reflB l = true) : ReflV l.length (cyc l) (stepV l) (gN l) := by
  obtain ⟨hp, hr⟩ := refl_in h
  have h0 : 0 < l.length := by have := poly_len hp; omega
  have hd := allR_at hr h0
  have hz := way_nz' hp
  have per : ∀ i, wayZ l (i + l.length) = wayZ l i := way_per l
  have ways : ∀ i, 1 ≤ gN l i ∧ (gN l i : Int) = gcdZ (wayZ l i).1 (wayZ l i).2 ∧ (wayZ l i).1 = gN l i * (stepV l i).1 ∧ (wayZ l i).2 = gN l i * (stepV l i).2 := by
    intro i
    obtain ⟨a, b, c, _⟩ := prim_parts (hz i)
    have e : (gN l i : Int) = gcdZ (wayZ l i).1 (wayZ l i).2 := by unfold gN; omega
    refine ⟨by omega, e, ?_, ?_⟩
    · rw [e]; exact b
    · rw [e]; exact c
  refine ⟨poly_conv hp, fun i => (ways i).1, fun i => by unfold gN; rw [per], fun i => by unfold stepV; rw [per], fun i => ?_, fun i => ?_, fun i => ?_⟩
  · have := (ways i).2.2.1
    unfold wayZ at this
    dsimp only at this
    omega
  · have := (ways i).2.2.2
    unfold wayZ at this
    dsimp only at this
    omega
  · obtain ⟨g1, ge, e1, e2⟩ := ways i
    have d := hd i
    rw [← ge] at d
    have x1 : (cyc l (i + 1)).1 = (cyc l i).1 + gN l i * (stepV l i).1 := by unfold wayZ at e1; dsimp only at e1; omega
    have x2 : (cyc l (i + 1)).2 = (cyc l i).2 + gN l i * (stepV l i).2 := by unfold wayZ at e2; dsimp only at e2; omega
    have q : detV (cyc l i) (cyc l (i + 1)) = dtV (cyc l i) (stepV l i) * gN l i := by
      unfold detV detZ dtV
      rw [x1, x2]
      clear e1 e2 x1 x2 d ge ways per hz hd
      grind
    have : dtV (cyc l i) (stepV l i) * gN l i = 1 * gN l i := by rw [← q, d, Int.one_mul]
    exact Int.eq_of_mul_eq_mul_right (by omega) this
def bsN {α : Type} (f : Nat → List α) : Nat → Nat
  | 0 => 0
  | i + 1 => bsN f i + (f i).length
theorem fmap_len {α : Type} (f : Nat → List α) : ∀ n, ((List.range n).flatMap f).length = bsN f n := by
  intro n
  induction n with
  | zero => rfl
  | succ n ih => rw [List.range_succ, List.flatMap_append, List.length_append, ih]; simp [bsN]
theorem fmap_at {α : Type} (f : Nat → List α) : ∀ n i x, i < n → x < (f i).length → ((List.range n).flatMap f)[bsN f i + x]? = (f i)[x]? := by
  intro n
  induction n with
  | zero => intro i x h; omega
  | succ n ih =>
    intro i x hi hx
    rw [List.range_succ, List.flatMap_append]
    by_cases e : i = n
    · subst e
      rw [List.getElem?_append_right (by rw [fmap_len]; omega), fmap_len, show bsN f i + x - bsN f i = x by omega]
      simp
    · have hlt := ih i x (by omega) hx
      rw [List.getElem?_append_left, hlt]
      rw [List.getElem?_eq_getElem hx] at hlt
      exact (List.getElem?_eq_some_iff.1 hlt).1
/-- the edge vectors -/
def ptZ (l : List V2) (i k : Nat) : V2 := ((cyc l i).1 + (stepV l i).1 * k, (cyc l i).2 + (stepV l i).2 * k)
def blkL (l : List V2) (i : Nat) : List V2 := (List.range (gN l i)).map (ptZ l i)
def edgL (l : List V2) : List V2 := (List.range l.length).flatMap (blkL l)
theorem blk_len (l : List V2) (i : Nat) : (blkL l i).length = gN l i := by simp [blkL]
def bsE (l : List V2) : Nat → Nat := bsN (blkL l)
theorem edg_E {l : List V2} (h : reflB l = true) : EdgeV l.length (cyc l) (stepV l) (gN l) (edgL l).length (cyc (edgL l)) (bsE l) := by
  have hV := refl_V h
  have h0 : 0 < l.length := by have := hV.conv.three; omega
  have hlen : (edgL l).length = bsE l l.length := fmap_len _ _
  have succ : ∀ i, bsE l (i + 1) = bsE l i + gN l i := fun i => by unfold bsE; show bsN (blkL l) i + (blkL l i).length = _; rw [blk_len]
  have bper : ∀ i, bsE l (i + l.length) = bsE l i + (edgL l).length := by
    intro i
    induction i with
    | zero => rw [Nat.zero_add, hlen]; show _ = 0 + _; omega
    | succ i ih => rw [show i + 1 + l.length = i + l.length + 1 by omega, succ, ih, hV.gper, succ]; omega
  have mono : ∀ d i, bsE l i ≤ bsE l (i + d) := by
    intro d
    induction d with
    | zero => intro i; exact Nat.le_refl _
    | succ d ih => intro i; rw [← Nat.add_assoc, succ]; have := ih i; omega
  have at0 : ∀ i x, i < l.length → x < gN l i → cyc (edgL l) (bsE l i + x) = ptZ l i x := by
    intro i x hi hx
    have q := fmap_at (blkL l) l.length i x hi (by rw [blk_len]; exact hx)
    have lt : bsE l i + x < (edgL l).length := by
      have := mono (l.length - (i + 1)) (i + 1)
      rw [show i + 1 + (l.length - (i + 1)) = l.length by omega, succ, ← hlen] at this
      omega
    rw [cyc_lt lt]
    show (((List.range l.length).flatMap (blkL l))[bsN (blkL l) i + x]?).getD default = _
    rw [q]
    simp [blkL, hx]
  have at' : ∀ k i x, i < l.length → x < gN l (i + l.length * k) → cyc (edgL l) (bsE l (i + l.length * k) + x) = ptZ l (i + l.length * k) x := by
    intro k
    induction k with
    | zero => intro i x hi hx; exact at0 i x hi hx
    | succ k ih =>
      intro i x hi hx
      rw [Nat.mul_succ, ← Nat.add_assoc] at hx ⊢
      rw [hV.gper] at hx
      rw [bper, show bsE l (i + l.length * k) + (edgL l).length + x = bsE l (i + l.length * k) + x + (edgL l).length by omega, cyc_add, ih i x hi hx]
      unfold ptZ
      rw [cyc_add, hV.sper]
  have at1 : ∀ i x, x < gN l i → cyc (edgL l) (bsE l i + x) = ptZ l i x := by
    intro i x hx
    have := at' (i / l.length) (i % l.length) x (Nat.mod_lt _ h0) (by rw [Nat.mod_add_div]; exact hx)
    rwa [Nat.mod_add_div] at this
  have at2 : ∀ i x, x ≤ gN l i → cyc (edgL l) (bsE l i + x) = ptZ l i x := by
    intro i x hx
    by_cases c : x < gN l i
    · exact at1 i x c
    · obtain rfl : x = gN l i := by omega
      have q := at1 (i + 1) 0 (hV.pos _)
      rw [Nat.add_zero, succ] at q
      rw [q]
      have a := hV.way1 i
      have b := hV.way2 i
      unfold ptZ
      rw [a, b]
      refine Prod.ext ?_ ?_
      · dsimp only; rw [Int.mul_comm]; simp
      · dsimp only; rw [Int.mul_comm]; simp
  refine ⟨rfl, succ, hlen.symm, fun e => cyc_add _ _, fun i x hx => ?_, fun i x hx => ?_⟩
  · rw [at2 i x hx, Int.mul_comm]; rfl
  · rw [at2 i x hx, Int.mul_comm]; rfl
/-- twelve, and so there are few edge vectors -/
theorem edg_twelve {l : List V2} (h : reflB l = true) : (edgL l).length + sumI (fun i => dtV (stepV l i) (stepV l (i + 1))) l.length = 12 := (edg_E h).twelve (refl_V h)
theorem gcd_det {a b : V2} (h : detV a b = 1) : gcdZ a.1 a.2 = 1 := by
  unfold gcdZ
  have d1 : ((Nat.gcd a.1.natAbs a.2.natAbs : Nat) : Int) ∣ a.1 := Int.ofNat_dvd_left.2 (Nat.gcd_dvd_left _ _)
  have d2 : ((Nat.gcd a.1.natAbs a.2.natAbs : Nat) : Int) ∣ a.2 := Int.ofNat_dvd_left.2 (Nat.gcd_dvd_right _ _)
  have d3 : ((Nat.gcd a.1.natAbs a.2.natAbs : Nat) : Int) ∣ 1 := by
    rw [← h]
    unfold detV detZ
    exact Int.dvd_sub (Int.dvd_mul_of_dvd_left d1) (Int.dvd_mul_of_dvd_left d2)
  have := Int.eq_one_of_dvd_one (by omega) d3
  exact this
theorem hull_convS {l : List V2} (hc : ConvS l.length (cyc l)) : hullD l = tidyP l := by
  have h3 := hc.three
  have hK : leastAt l (l.length - 1) < l.length := Nat.lt_of_le_of_lt (leastAt_le _ _) (by omega)
  unfold hullD tidyP
  rw [hull_conv (hc.rot (leastAt l (l.length - 1))) (sortD_asc l) (fun q => ?_) (fun q hq => ?_)]
  · exact range_cyc (by omega)
  · rw [sortD_mem]
    constructor
    · intro hq
      rw [← rot_mem (K := leastAt l (l.length - 1))] at hq
      obtain ⟨j, hj, rfl⟩ := List.mem_iff_getElem.1 hq
      have e : (rot (leastAt l (l.length - 1)) l)[j] = cyc (rot (leastAt l (l.length - 1)) l) j := by rw [cyc_lt hj, List.getElem?_eq_getElem hj]; rfl
      rw [e, cyc_rot (by omega)]
      rw [rot_len] at hj
      exact ⟨j, hj, rfl⟩
    · rintro ⟨j, _, rfl⟩
      exact cyc_mem (by omega) _
  · rw [sortD_mem] at hq
    rw [Nat.add_zero]
    obtain ⟨j, hj, rfl⟩ := List.mem_iff_getElem.1 hq
    have e : l[j] = cyc l j := by rw [cyc_lt hj, List.getElem?_eq_getElem hj]; rfl
    rw [e]
    exact leastAt_min l _ j (by omega)
theorem tidy_convS {l : List V2} (hc : ConvS l.length (cyc l)) : ConvS (tidyP l).length (cyc (tidyP l)) ∧ tidyP (tidyP l) = tidyP l := by
  have h3 := hc.three
  have hK : leastAt l (l.length - 1) ≤ l.length := Nat.le_trans (leastAt_le _ _) (by omega)
  have e : cyc (tidyP l) = fun i => cyc l (leastAt l (l.length - 1) + i) := funext fun i => cyc_rot hK i
  have hc2 : ConvS (tidyP l).length (cyc (tidyP l)) := by rw [tidyP_len, e]; exact hc.rot _
  refine ⟨hc2, ?_⟩
  rw [← hull_convS hc2, ← hull_convS hc]
  unfold hullD
  rw [asc_ext (sortD_asc (hullZ (sortD l))) (sortD_asc l) (fun q => ?_)]
  rw [sortD_mem, sortD_mem]
  rw [show hullZ (sortD l) = tidyP l from hull_convS hc]
  exact rot_mem q
theorem dual_conv {l : List V2} (h : reflB l = true) : ConvS (nrmL l).length (cyc (nrmL l)) := by
  have hV := (refl_V h).dual
  have h0 : 0 < l.length := by have := hV.three; omega
  have e : cyc (nrmL l) = fun i => tnV (stepV l i) := funext fun i => by rw [cyc_nrm h0]; rfl
  rw [nrm_len, e]
  exact hV
theorem dual_hull {l : List V2} (h : reflB l = true) : hullD (nrmL l) = tidyP (nrmL l) := hull_convS (dual_conv h)
/-- 0 is an inner vector -/
theorem refl_inner {l : List V2} (h : reflB l = true) (i : Nat) : 0 < detV (cyc l i) (cyc l (i + 1)) := by
  obtain ⟨hp, hr⟩ := refl_in h
  rw [allR_at hr (by have := poly_len hp; omega) i]
  have := gcdZ_pos (way_nz' hp i)
  omega
end Go.Proofs.YtgaeibibeekclabGreatDoor
namespace Go.Proofs.YtgaeibibeekclabGreatDoor
open Go.RowKit
set_option maxRecDepth 100000 in
set_option maxHeartbeats 16000000 in
theorem isReflexive_any (v : Value) (l : List V2) (w : World) (h : ReadsVecs w v l) (hp : polyB l = true) :
    Calls Tryz.prog 103 #[v] w fun e w' => e = .returned (.bool (allR l)) ∧ Below w.heap.size w w' := by
  have h30 := poly_len hp
  have h0 : 0 < l.length := by omega
  have HAt := Lib.hid (fun i w' (hb : Below w.heap.size w w') => at_any' v l i w' (h.below hb) h0)
  have HWy := Lib.hid (fun w' (hb : Below w.heap.size w w') => ways_any v l w' (h.below hb) h0 (by omega) (fun i => by have := poly_small hp i; unfold big; omega))
  obtain ⟨bv, ov, vc, rfl, _, _, hbv, hvs⟩ := h.open h0
  have HVS := Lib.hid hvs
  have HWc := Lib.hid (fun i => cyc_ways h0 i)
  have HN := Lib.hid (fun i h1 h2 => allR_not (l := l) (i := i) h1 h2)
  have HY := Lib.hid (fun h1 => allR_of (l := l) h1)
  have HMb := Lib.hid (fun i => poly_small hp i)
  have HWs := Lib.hid (fun i => way_small (allK_all (poly_in hp).2.1 h0) i)
  have HWl := Lib.hid (waysL_len l)
  have HSi : Hid (∀ i, reflK l i = decide (detZ (cyc l i).1 (cyc l i).2 (cyc l (i + 1)).1 (cyc l (i + 1)).2 = gcdZ (wayZ l i).1 (wayZ l i).2)) := fun _ => rfl
  generalize allR l = K at *
  clear h hvs hp
  go_enter Tryz.func103, Tryz.ntmps103
  go_wp2_with fail
  refine Calls.mono (HWy.out _ (by go_grown)) ?_
  rintro e W1 ⟨v1, rfl, hI, hb1⟩
  have HB1 := Lib.hid (show Below w.heap.size w W1 from belowTo (by go_grown) hb1)
  obtain ⟨bw, ow, wc, rfl, _, _, hbw, hws⟩ := (hI.reads (by rw [waysL_len]; omega)).open (by rw [waysL_len]; exact h0)
  have HWS := Lib.hid hws
  clear hb1 hI hws HWy
  have hsW := HB1.out.size
  have hwl := HWl.out
  generalize hn : (waysL l).length = n at *
  subst hwl
  clear hn
  go_wp2
  go_loopw [8] (fun s wr => ∃ k : Nat, k ≤ l.length ∧ s = .int .i64 k ∧ Hid (∀ j, j < k → reflK l j = true) ∧ Below W1.heap.size W1 wr) (fun s _ => l.length - (intOf s).toNat)
  case atStart => exact ⟨0, Nat.zero_le _, rfl, fun j hj => by omega, Below.refl _ _⟩
  case round =>
    obtain ⟨k, hk, rfl, HE, hB⟩ := hrel
    have i1 : (0 : Int) ≤ (k : Int) := by omega
    by_cases hlt : k < l.length
    · have i2 : (k : Int) < (l.length : Int) := by omega
      obtain ⟨c0, c1⟩ := HVS.out wr (HB1.out.trans (hB.mono hsW)) k hlt
      obtain ⟨d0, d1⟩ := HWS.out wr hB k hlt
      rw [HWc.out k] at d0 d1
      have HNk := Lib.hid (fun h => HN.out k hlt h)
      have HE2 : Hid (reflK l k = true → ∀ j, j < k + 1 → reflK l j = true) := fun h j h2 => by
        by_cases e : j = k
        · subst e; exact h
        · exact HE.out j (by omega)
      have b0 := HMb.out k
      have b2 := HMb.out (k + 1)
      have b1 := HWs.out k
      have HSk := Lib.hid (HSi.out k)
      have HAk := Lib.hid (fun w' (hb : Below W1.heap.size W1 w') => HAt.out (k + 1) w' (HB1.out.trans (hb.mono hsW)))
      have q0 : IntKind.i64.wrap ((k : Int) + 1) = ((k + 1 : Nat) : Int) := by rw [IntKind.wrap_i64]; omega
      generalize hz : reflK l k = z at HNk HE2 HSk
      clear hz
      generalize cyc l k = V at *
      generalize cyc l (k + 1) = T at *
      generalize wayZ l k = U at *
      obtain ⟨p1, p2⟩ := V
      obtain ⟨t1, t2⟩ := T
      obtain ⟨u1, u2⟩ := U
      dsimp only at c0 c1 d0 d1 b0 b1 b2 HSk HAk
      have HD := Lib.hid (fun w' => detBig_any p1 p2 t1 t2 w' (by unfold big; omega) (by unfold big; omega))
      have HG := Lib.hid (fun w' => commonDivisor_any u1 u2 w' (by omega) (by omega))
      generalize detZ p1 p2 t1 t2 = D at *
      generalize gcdZ u1 u2 = G at *
      have hs := hB.size
      clear HE HN HY HMb HWs HSi HWc HVS HWS HAt b0 b1 b2
      go_wp2_with fail
      have hA2 : Below wr.heap.size wr (wr.alloc (.cells #[.int .i64 u1, .int .i64 u2] 55)) := by go_grown
      have e0 : (wr.alloc (.cells #[.int .i64 u1, .int .i64 u2] 55)).cell? ⟨wr.heap.size, 0, none⟩ = some (.int .i64 u1) := by simp
      have e1 : (wr.alloc (.cells #[.int .i64 u1, .int .i64 u2] 55)).cell? ⟨wr.heap.size, 1, none⟩ = some (.int .i64 u2) := by simp
      replace c1 := (hA2.cell (p := ⟨bv, ov + k * 2 + 1, none⟩) (cell_lt c0)).trans c1
      replace c0 := (hA2.cell (p := ⟨bv, ov + k * 2, none⟩) (cell_lt c0)).trans c0
      have hB2 := hB.trans (hA2.mono hs)
      obtain ⟨B3, hB3⟩ : ∃ B3, B3 = wr.heap.size := ⟨_, rfl⟩
      rw [← hB3] at e0 e1 ⊢
      generalize (wr.alloc (.cells #[.int .i64 u1, .int .i64 u2] 55)) = W3 at *
      clear hA2 hB3 d0 d1 hs
      have hs3 := hB2.size
      have t0 := cell_lt e0
      have t2 := cell_lt c0
      have HA3 := Lib.hid (fun w' (hb : Below W1.heap.size W3 w') => HAk.out w' (hB2.trans hb))
      go_region_held3 (fun w' => w'.cell? ⟨B3, 0, none⟩ = some (.int .i64 (u1)) ∧ w'.cell? ⟨B3, 1, none⟩ = some (.int .i64 (u2)) ∧ w'.cell? ⟨bv, ov + k * 2, none⟩ = some (.int .i64 (p1)) ∧ w'.cell? ⟨bv, ov + k * 2 + 1, none⟩ = some (.int .i64 (p2)) ∧ Below (W1.heap.size) W3 w') ((go_split_ands; refine ⟨by (first | (with_reducible assumption) | (go_keep; done) | (go_cell; done) | (go_simp; done) | (simp [*]; done)), by (first | (with_reducible assumption) | (go_keep; done) | (go_cell; done) | (go_simp; done) | (simp [*]; done)), by (first | (with_reducible assumption) | (go_keep; done) | (go_cell; done) | (go_simp; done) | (simp [*]; done)), by (first | (with_reducible assumption) | (go_keep; done) | (go_cell; done) | (go_simp; done) | (simp [*]; done)), by first | (with_reducible assumption) | (go_grown; done)⟩)) (first | (go_at_call 74; go_call (HA3.out _ (by first | (with_reducible assumption) | (go_grown; done))) as e w1 ⟨rfl, hb0⟩; go_split_ands; have q0 : w1.cell? ⟨B3, 0, none⟩ = some (.int .i64 (u1)) := (hb0.cell (p := ⟨B3, 0, none⟩) (by first | (with_reducible assumption) | (go_size; done) | (simp; omega))).trans (by first | (with_reducible assumption) | (go_keep; done) | (go_cell; done) | (go_simp; done) | (simp [*]; done)); have q1 : w1.cell? ⟨B3, 1, none⟩ = some (.int .i64 (u2)) := (hb0.cell (p := ⟨B3, 1, none⟩) (by first | (with_reducible assumption) | (go_size; done) | (simp; omega))).trans (by first | (with_reducible assumption) | (go_keep; done) | (go_cell; done) | (go_simp; done) | (simp [*]; done)); have q2 : w1.cell? ⟨bv, ov + k * 2, none⟩ = some (.int .i64 (p1)) := (hb0.cell (p := ⟨bv, ov + k * 2, none⟩) (by first | (with_reducible assumption) | (go_size; done) | (simp; omega))).trans (by first | (with_reducible assumption) | (go_keep; done) | (go_cell; done) | (go_simp; done) | (simp [*]; done)); have q3 : w1.cell? ⟨bv, ov + k * 2 + 1, none⟩ = some (.int .i64 (p2)) := (hb0.cell (p := ⟨bv, ov + k * 2 + 1, none⟩) (by first | (with_reducible assumption) | (go_size; done) | (simp; omega))).trans (by first | (with_reducible assumption) | (go_keep; done) | (go_cell; done) | (go_simp; done) | (simp [*]; done)); have hs0 : B3 < w1.heap.size := Nat.lt_of_lt_of_le (by first | (with_reducible assumption) | (go_size; done) | (simp; omega)) hb0.size; have hs1 : bv < w1.heap.size := Nat.lt_of_lt_of_le (by first | (with_reducible assumption) | (go_size; done) | (simp; omega)) hb0.size; have hT : Below (W1.heap.size) W3 w1 := Below.trans (by first | (with_reducible assumption) | (go_grown; done)) (hb0.mono (by first | (with_reducible assumption) | (go_size; done) | (simp; omega) | omega)); have hTs := hT.size; (try have hT2 : Below W3.heap.size W3 w1 := belowTo (by first | (with_reducible assumption) | (go_grown; done)) hb0); clear hb0) | (go_at_call 111; go_call (HD.out _) as e w1 ⟨rfl, hb0⟩; go_split_ands; have q0 : w1.cell? ⟨B3, 0, none⟩ = some (.int .i64 (u1)) := (hb0.cell (p := ⟨B3, 0, none⟩) (by first | (with_reducible assumption) | (go_size; done) | (simp; omega))).trans (by first | (with_reducible assumption) | (go_keep; done) | (go_cell; done) | (go_simp; done) | (simp [*]; done)); have q1 : w1.cell? ⟨B3, 1, none⟩ = some (.int .i64 (u2)) := (hb0.cell (p := ⟨B3, 1, none⟩) (by first | (with_reducible assumption) | (go_size; done) | (simp; omega))).trans (by first | (with_reducible assumption) | (go_keep; done) | (go_cell; done) | (go_simp; done) | (simp [*]; done)); have q2 : w1.cell? ⟨bv, ov + k * 2, none⟩ = some (.int .i64 (p1)) := (hb0.cell (p := ⟨bv, ov + k * 2, none⟩) (by first | (with_reducible assumption) | (go_size; done) | (simp; omega))).trans (by first | (with_reducible assumption) | (go_keep; done) | (go_cell; done) | (go_simp; done) | (simp [*]; done)); have q3 : w1.cell? ⟨bv, ov + k * 2 + 1, none⟩ = some (.int .i64 (p2)) := (hb0.cell (p := ⟨bv, ov + k * 2 + 1, none⟩) (by first | (with_reducible assumption) | (go_size; done) | (simp; omega))).trans (by first | (with_reducible assumption) | (go_keep; done) | (go_cell; done) | (go_simp; done) | (simp [*]; done)); have hs0 : B3 < w1.heap.size := Nat.lt_of_lt_of_le (by first | (with_reducible assumption) | (go_size; done) | (simp; omega)) hb0.size; have hs1 : bv < w1.heap.size := Nat.lt_of_lt_of_le (by first | (with_reducible assumption) | (go_size; done) | (simp; omega)) hb0.size; have hT : Below (W1.heap.size) W3 w1 := Below.trans (by first | (with_reducible assumption) | (go_grown; done)) (hb0.mono (by first | (with_reducible assumption) | (go_size; done) | (simp; omega) | omega)); have hTs := hT.size; (try have hT2 : Below W3.heap.size W3 w1 := belowTo (by first | (with_reducible assumption) | (go_grown; done)) hb0); clear hb0) | (go_at_call 82; go_call (HG.out _) as e w1 ⟨rfl, hb0⟩; go_split_ands; have q0 : w1.cell? ⟨B3, 0, none⟩ = some (.int .i64 (u1)) := (hb0.cell (p := ⟨B3, 0, none⟩) (by first | (with_reducible assumption) | (go_size; done) | (simp; omega))).trans (by first | (with_reducible assumption) | (go_keep; done) | (go_cell; done) | (go_simp; done) | (simp [*]; done)); have q1 : w1.cell? ⟨B3, 1, none⟩ = some (.int .i64 (u2)) := (hb0.cell (p := ⟨B3, 1, none⟩) (by first | (with_reducible assumption) | (go_size; done) | (simp; omega))).trans (by first | (with_reducible assumption) | (go_keep; done) | (go_cell; done) | (go_simp; done) | (simp [*]; done)); have q2 : w1.cell? ⟨bv, ov + k * 2, none⟩ = some (.int .i64 (p1)) := (hb0.cell (p := ⟨bv, ov + k * 2, none⟩) (by first | (with_reducible assumption) | (go_size; done) | (simp; omega))).trans (by first | (with_reducible assumption) | (go_keep; done) | (go_cell; done) | (go_simp; done) | (simp [*]; done)); have q3 : w1.cell? ⟨bv, ov + k * 2 + 1, none⟩ = some (.int .i64 (p2)) := (hb0.cell (p := ⟨bv, ov + k * 2 + 1, none⟩) (by first | (with_reducible assumption) | (go_size; done) | (simp; omega))).trans (by first | (with_reducible assumption) | (go_keep; done) | (go_cell; done) | (go_simp; done) | (simp [*]; done)); have hs0 : B3 < w1.heap.size := Nat.lt_of_lt_of_le (by first | (with_reducible assumption) | (go_size; done) | (simp; omega)) hb0.size; have hs1 : bv < w1.heap.size := Nat.lt_of_lt_of_le (by first | (with_reducible assumption) | (go_size; done) | (simp; omega)) hb0.size; have hT : Below (W1.heap.size) W3 w1 := Below.trans (by first | (with_reducible assumption) | (go_grown; done)) (hb0.mono (by first | (with_reducible assumption) | (go_size; done) | (simp; omega) | omega)); have hTs := hT.size; (try have hT2 : Below W3.heap.size W3 w1 := belowTo (by first | (with_reducible assumption) | (go_grown; done)) hb0); clear hb0))
      have hBk := hB2.trans hT
      by_cases hq : D = G
      · have HF := Lib.hid (HE2.out (by rw [HSk.out]; simpa using hq))
        clear HSk HNk HE2
        go_wp2
        go_roundw
        case rel => exact ⟨k + 1, by omega, by go_num, HF.out, hBk⟩
        case measure => simp [intOf]; omega
      · have HF := Lib.hid (HNk.out (by rw [HSk.out]; simpa using hq))
        clear HSk HNk HE2
        go_wp2
        go_returns
        exact ⟨by rw [HF.out]; rfl, HB1.out.trans (hBk.mono hsW)⟩
    · obtain rfl : k = l.length := by omega
      have i2 : ¬ ((l.length : Nat) : Int) < (l.length : Int) := by omega
      have HF := Lib.hid (HY.out HE.out)
      go_wp2
      go_returns
      exact ⟨by rw [HF.out]; rfl, HB1.out.trans (hB.mono hsW)⟩
end Go.Proofs.YtgaeibibeekclabGreatDoor
namespace Go.Proofs.YtgaeibibeekclabGreatDoor
open Go.RowKit
/-- what shapeOf gives -/
def ShapeE (P R : Bool) (v : Value) (w : World) (e : Ending) (w' : World) : Prop :=
  ((P = false ∧ e = .returned .nilIface) ∨ (P = true ∧ R = false ∧ e = .returned (.iface 44 v)) ∨
   (P = true ∧ R = true ∧ ∃ b, w.heap.size ≤ b ∧ b < w'.heap.size ∧ w'.cell? ⟨b, 0, none⟩ = some (.iface 44 v) ∧ e = .returned (.iface 47 (.agg #[v, .func (.func 134) #[] #[.pointer (some ⟨b, 0, none⟩)]])))) ∧ Below w.heap.size w w'
set_option maxHeartbeats 8000000 in
theorem dualOf_any (v : Value) (w : World) :
    Calls Tryz.prog 104 #[.iface 44 v] w fun e w' => e = .returned (.func (.func 134) #[] #[.pointer (some ⟨w.heap.size, 0, none⟩)]) ∧ w' = w.alloc (.cells #[.iface 44 v] 78) := by
  go_enter Tryz.func104, Tryz.ntmps104
  go_wp2
  go_returns
  exact ⟨rfl, rfl⟩
set_option maxHeartbeats 8000000 in
theorem shapeOf_any (v : Value) (l : List V2) (w : World) (h : ReadsVecs w v l) (hg : EtOk w) :
    Calls Tryz.prog 66 #[v] w (ShapeE (polyB l) (allR l) v w) := by
  have HC := Lib.hid (polyCheck_any v l w h)
  have HR := Lib.hid (fun w' (hb : Below w.heap.size w w') hp => isReflexive_any v l w' (h.below hb) hp)
  have HD := Lib.hid (fun w' => dualOf_any v w')
  obtain ⟨a, c, rfl, _⟩ := h
  generalize allR l = R at *
  cases hk : polyB l
  · rw [hk] at HC
    clear hk HR HD
    go_enter Tryz.func66, Tryz.ntmps66
    go_wp2_with fail
    refine Calls.mono HC.out ?_
    rintro e w1 ⟨⟨s, rfl⟩, hb1⟩
    go_wp2_with fail
    refine Calls.mono (none_hit s _ (hg.below hb1)) ?_
    rintro e w2 ⟨rfl, hb2⟩
    have hb := belowTo hb1 hb2
    clear hb1 hb2
    go_wp2
    go_returns
    unfold ShapeE
    exact ⟨.inl ⟨rfl, rfl⟩, hb⟩
  · rw [hk] at HC
    have HR2 := Lib.hid (fun w' hb => HR.out w' hb hk)
    have HC2 := Lib.hid (HC.out.mono (fun e w' h => (⟨h.1, h.2⟩ : e = .returned .nilIface ∧ Below w.heap.size w w')))
    clear HC hk HR
    go_enter Tryz.func66, Tryz.ntmps66
    go_wp2_with fail
    refine Calls.mono HC2.out ?_
    rintro e w1 ⟨rfl, hb⟩
    go_wp2_with fail
    refine Calls.mono (none_nil _) ?_
    rintro e w2 ⟨rfl, hb2⟩
    replace hb := belowTo hb hb2
    clear hb2
    go_wp2_with fail
    refine Calls.mono (HR2.out _ hb) ?_
    rintro e w3 ⟨rfl, hb3⟩
    replace hb := belowTo hb hb3
    clear hb3
    cases R
    · go_wp2
      go_returns
      unfold ShapeE
      exact ⟨.inr (.inl ⟨rfl, rfl, rfl⟩), hb⟩
    · have hs := hb.size
      go_wp2_with fail
      refine Calls.mono (HD.out _) ?_
      rintro e w4 ⟨rfl, rfl⟩
      go_wp2
      go_returns
      unfold ShapeE
      exact ⟨.inr (.inr ⟨rfl, rfl, _, hs, by simp, by simp, rfl⟩), by go_grown⟩
theorem as_nil1 (w : World) : (Instr.typeAssert .nilIface 78 47 true).run Tryz.prog w = .ok (.tuple #[.agg #[.slice none 0 0, .nilFunc], .bool false]) w := by kernel_rfl
theorem as_nil2 (w : World) : (Instr.typeAssert .nilIface 78 44 true).run Tryz.prog w = .ok (.tuple #[.slice none 0 0, .bool false]) w := by kernel_rfl
theorem as_pol1 (v : Value) (w : World) : (Instr.typeAssert (.iface 44 v) 78 47 true).run Tryz.prog w = .ok (.tuple #[.agg #[.slice none 0 0, .nilFunc], .bool false]) w := by kernel_rfl
theorem as_pol2 (v : Value) (w : World) : (Instr.typeAssert (.iface 44 v) 78 44 true).run Tryz.prog w = .ok (.tuple #[v, .bool true]) w := by kernel_rfl
theorem as_ref1 (v : Value) (w : World) : (Instr.typeAssert (.iface 47 v) 78 47 true).run Tryz.prog w = .ok (.tuple #[v, .bool true]) w := by kernel_rfl
/-- what reflexiveOf gives -/
def RefE (R : Bool) (v : Value) (w : World) (e : Ending) (w' : World) : Prop :=
  ((R = false ∧ ∃ s, e = .returned (.tuple #[.agg #[.slice none 0 0, .nilFunc], .iface 81 (.agg #[.string s])])) ∨
   (R = true ∧ ∃ b, w.heap.size ≤ b ∧ b < w'.heap.size ∧ w'.cell? ⟨b, 0, none⟩ = some (.iface 44 v) ∧ e = .returned (.tuple #[.agg #[v, .func (.func 134) #[] #[.pointer (some ⟨b, 0, none⟩)]], .nilIface]))) ∧ Below w.heap.size w w'
set_option maxRecDepth 100000 in
set_option maxHeartbeats 8000000 in
theorem reflexiveOf_any (v : Value) (l : List V2) (w : World) (h : ReadsVecs w v l) (hg : EtOk w) :
    Calls Tryz.prog 34 #[v] w (RefE (reflB l) v w) := by
  have HC := Lib.hid (fun w' (hb : Below w.heap.size w w') => shapeOf_any v l w' (h.below hb) (hg.below hb))
  obtain ⟨a, c, rfl, _⟩ := h
  unfold reflB
  generalize polyB l = P at *
  generalize allR l = R at *
  go_enter Tryz.func34, Tryz.ntmps34
  go_wp2_with fail
  refine Calls.mono (HC.out _ (by go_grown)) ?_
  rintro e w1 ⟨⟨rfl, rfl⟩ | ⟨rfl, rfl, rfl⟩ | ⟨rfl, rfl, b, hb0, hb1, hc, rfl⟩, hb2⟩
  · have hB : Below w.heap.size w w1 := belowTo (by go_grown) hb2
    have hs1 := hB.size
    have q0 : w1.cell? ⟨w.heap.size, 0, none⟩ = some (.slice none 0 0) := (hb2.cell (p := ⟨w.heap.size, 0, none⟩) (by first | assumption | (go_size; done) | (simp; omega) | (simp only [World.size_alloc]; omega))).trans (by first | assumption | (go_cell; done) | (go_simp; done) | simp [*]); have qf0 : w1.frozen? ⟨w.heap.size, 0, none⟩ = false := (hb2.frozen (p := ⟨w.heap.size, 0, none⟩) (by first | assumption | (go_size; done) | (simp; omega) | (simp only [World.size_alloc]; omega))).trans (by first | assumption | (go_cell; done) | (go_simp; done) | simp [*]); have q1 : w1.cell? ⟨w.heap.size, 1, none⟩ = some (.nilFunc) := (hb2.cell (p := ⟨w.heap.size, 1, none⟩) (by first | assumption | (go_size; done) | (simp; omega) | (simp only [World.size_alloc]; omega))).trans (by first | assumption | (go_cell; done) | (go_simp; done) | simp [*]); have qf1 : w1.frozen? ⟨w.heap.size, 1, none⟩ = false := (hb2.frozen (p := ⟨w.heap.size, 1, none⟩) (by first | assumption | (go_size; done) | (simp; omega) | (simp only [World.size_alloc]; omega))).trans (by first | assumption | (go_cell; done) | (go_simp; done) | simp [*])
    have hs2 : w.heap.size < w1.heap.size := Nat.lt_of_lt_of_le (by simp) hb2.size
    have t1 := fun w => as_nil1 w
    have t2 := fun w => as_nil2 w
    clear hb2 HC
    go_wp2
    refine bodyPost_ret (by simp [results, Tryz.results34, go_sem, *]; try rfl) rfl ?_
    unfold RefE
    exact ⟨.inl ⟨rfl, _, rfl⟩, by go_grown⟩
  · have hB : Below w.heap.size w w1 := belowTo (by go_grown) hb2
    have hs1 := hB.size
    have q0 : w1.cell? ⟨w.heap.size, 0, none⟩ = some (.slice none 0 0) := (hb2.cell (p := ⟨w.heap.size, 0, none⟩) (by first | assumption | (go_size; done) | (simp; omega) | (simp only [World.size_alloc]; omega))).trans (by first | assumption | (go_cell; done) | (go_simp; done) | simp [*]); have qf0 : w1.frozen? ⟨w.heap.size, 0, none⟩ = false := (hb2.frozen (p := ⟨w.heap.size, 0, none⟩) (by first | assumption | (go_size; done) | (simp; omega) | (simp only [World.size_alloc]; omega))).trans (by first | assumption | (go_cell; done) | (go_simp; done) | simp [*]); have q1 : w1.cell? ⟨w.heap.size, 1, none⟩ = some (.nilFunc) := (hb2.cell (p := ⟨w.heap.size, 1, none⟩) (by first | assumption | (go_size; done) | (simp; omega) | (simp only [World.size_alloc]; omega))).trans (by first | assumption | (go_cell; done) | (go_simp; done) | simp [*]); have qf1 : w1.frozen? ⟨w.heap.size, 1, none⟩ = false := (hb2.frozen (p := ⟨w.heap.size, 1, none⟩) (by first | assumption | (go_size; done) | (simp; omega) | (simp only [World.size_alloc]; omega))).trans (by first | assumption | (go_cell; done) | (go_simp; done) | simp [*])
    have hs2 : w.heap.size < w1.heap.size := Nat.lt_of_lt_of_le (by simp) hb2.size
    have t1 := fun w => as_pol1 (.slice a l.length c) w
    have t2 := fun w => as_pol2 (.slice a l.length c) w
    clear hb2 HC
    go_wp2
    refine bodyPost_ret (by simp [results, Tryz.results34, go_sem, *]; try rfl) rfl ?_
    unfold RefE
    exact ⟨.inl ⟨rfl, _, rfl⟩, by go_grown⟩
  · have hB : Below w.heap.size w w1 := belowTo (by go_grown) hb2
    have hs1 := hB.size
    have q0 : w1.cell? ⟨w.heap.size, 0, none⟩ = some (.slice none 0 0) := (hb2.cell (p := ⟨w.heap.size, 0, none⟩) (by first | assumption | (go_size; done) | (simp; omega) | (simp only [World.size_alloc]; omega))).trans (by first | assumption | (go_cell; done) | (go_simp; done) | simp [*]); have qf0 : w1.frozen? ⟨w.heap.size, 0, none⟩ = false := (hb2.frozen (p := ⟨w.heap.size, 0, none⟩) (by first | assumption | (go_size; done) | (simp; omega) | (simp only [World.size_alloc]; omega))).trans (by first | assumption | (go_cell; done) | (go_simp; done) | simp [*]); have q1 : w1.cell? ⟨w.heap.size, 1, none⟩ = some (.nilFunc) := (hb2.cell (p := ⟨w.heap.size, 1, none⟩) (by first | assumption | (go_size; done) | (simp; omega) | (simp only [World.size_alloc]; omega))).trans (by first | assumption | (go_cell; done) | (go_simp; done) | simp [*]); have qf1 : w1.frozen? ⟨w.heap.size, 1, none⟩ = false := (hb2.frozen (p := ⟨w.heap.size, 1, none⟩) (by first | assumption | (go_size; done) | (simp; omega) | (simp only [World.size_alloc]; omega))).trans (by first | assumption | (go_cell; done) | (go_simp; done) | simp [*])
    have hs2 : w.heap.size < w1.heap.size := Nat.lt_of_lt_of_le (by simp) hb2.size
    have t1 := fun w => as_ref1 (.agg #[.slice a l.length c, .func (.func 134) #[] #[.pointer (some ⟨b, 0, none⟩)]]) w
    clear hb2 HC
    go_wp2
    refine bodyPost_ret (by simp [results, Tryz.results34, go_sem, *]; try rfl) rfl ?_
    unfold RefE
    have hbn : w.heap.size ≠ b := by simp at hb0; omega
    refine ⟨.inr ⟨rfl, b, by simp at hb0; omega, by simp; omega, ?_, rfl⟩, by go_grown⟩
    rw [World.cell?_alloc_lt _ _ ⟨b, _, none⟩ (by simp; exact hb1), World.cell?_setCell_far _ _ _ _ hbn, World.cell?_setCell_far _ _ _ _ hbn]
    exact hc
set_option maxHeartbeats 8000000 in
theorem reflexiveIn_any (v : Value) (l : List V2) (w : World) (h : ReadsVecs w v l) (hg : EtOk w) :
    Calls Tryz.prog 9 #[v] w fun e w' => e = .returned (.bool (reflB l)) ∧ Below w.heap.size w w' := by
  have HC := Lib.hid (reflexiveOf_any v l w h hg)
  obtain ⟨a, c, rfl, _⟩ := h
  generalize reflB l = R at *
  go_enter Tryz.func9, Tryz.ntmps9
  go_wp2_with fail
  refine Calls.mono HC.out ?_
  rintro e w1 ⟨⟨rfl, s, rfl⟩ | ⟨rfl, b, _, _, _, rfl⟩, hb1⟩
  · clear HC
    have hs1 := hb1.size
    go_wp2_with fail
    refine Calls.mono (none_hit s _ (hg.below (by go_grown))) ?_
    rintro e w2 ⟨rfl, hb2⟩
    have hB : Below w.heap.size w w2 := belowTo (by go_grown) hb2
    clear hb2
    go_wp2
    go_returns
    exact ⟨rfl, hB⟩
  · clear HC
    have hs1 := hb1.size
    go_wp2_with fail
    refine Calls.mono (none_nil _) ?_
    rintro e w2 ⟨rfl, hb2⟩
    have hB : Below w.heap.size w w2 := belowTo (by go_grown) hb2
    clear hb2
    go_wp2
    go_returns
    exact ⟨rfl, hB⟩
end Go.Proofs.YtgaeibibeekclabGreatDoor
