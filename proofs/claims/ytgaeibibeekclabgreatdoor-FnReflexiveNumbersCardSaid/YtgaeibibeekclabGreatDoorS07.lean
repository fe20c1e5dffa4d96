import Derived.Test.YtgaeibibeekclabGreatDoorProg
import Derived.Test.YtgaeibibeekclabGreatDoorS01
import Derived.Test.YtgaeibibeekclabGreatDoorS03
import Derived.Test.YtgaeibibeekclabGreatDoorS04
import Derived.Test.YtgaeibibeekclabGreatDoorS06
import Derived.WalkKit
import Derived.LaidEql
import Derived.Stop.Asserts
import Derived.RowKitTokens
import Derived.Handy
import Derived.WalkSpells
import Derived.WalkLawsBesides
import Derived.Deep.QuietTactic
import Derived.BigQuiet
import Derived.Lib.Hide
import Derived.Deep.RegionHeld3
import Derived.Deep.DeepCutAuto
import Derived.Deep.AppendLies
import Derived.Laws.OwnMore
import Derived.Laws.MakeOwn
import Derived.OwnWalk
import Derived.Maps.AppendAt
import Derived.RangeFuncBox
import Derived.RegionTactic
import Derived.ChangeAlike
import Derived.RangeFuncNested
import Derived.StillTail
import Derived.OrdersIn
import Derived.AtR
import Derived.WalkSmall
import Derived.Laws.StructEq
namespace Go.Proofs.YtgaeibibeekclabGreatDoor
open Go.RowKit
/-- A slice of vectors: it may begin anywhere. -/
def ReadsVecs (w : World) (v : Value) (l : List V2) : Prop := ∃ a c, v = .slice a l.length c ∧ l.length ≤ c ∧ l.length ≤ 576460752303423488 ∧ (0 < l.length → ∃ bb off, a = some ⟨bb, off, none⟩ ∧ bb < w.heap.size ∧
  ∀ j, j < l.length → w.cell? ⟨bb, off + j * 2, none⟩ = some (.int .i64 (cyc l j).1) ∧ w.cell? ⟨bb, off + j * 2 + 1, none⟩ = some (.int .i64 (cyc l j).2))
theorem ReadsVecs.below {w w' : World} {v : Value} {l : List V2} (h : ReadsVecs w v l) (hb : Below w.heap.size w w') : ReadsVecs w' v l := by
  obtain ⟨a, c, h1, h2, h3, h4⟩ := h
  refine ⟨a, c, h1, h2, h3, fun h0 => ?_⟩
  obtain ⟨bb, off, h5, h6, h7⟩ := h4 h0
  exact ⟨bb, off, h5, Nat.lt_of_lt_of_le h6 hb.size, fun j hj => ⟨(hb.cell (p := ⟨bb, off + j * 2, none⟩) h6).trans (h7 j hj).1, (hb.cell (p := ⟨bb, off + j * 2 + 1, none⟩) h6).trans (h7 j hj).2⟩⟩
theorem flat_get (l : List V2) (j : Nat) (h : j < l.length) : (flat l)[j * 2]?.getD 0 = (cyc l j).1 ∧ (flat l)[j * 2 + 1]?.getD 0 = (cyc l j).2 := by
  rw [cyc_lt h]
  induction l generalizing j with
  | nil => simp at h
  | cons p l ih =>
    cases j with
    | zero => simp [flat]
    | succ j =>
      have := ih j (by simpa using h)
      simpa [flat, Nat.add_mul, Nat.succ_mul] using this
theorem Vecs.reads {w : World} {base : Nat} {v : Value} {l : List V2} (h : Vecs w base v l) (hl : l.length ≤ 576460752303423488) : ReadsVecs w v l := by
  have h' := h
  unfold Vecs at h
  rcases h.form with ⟨h0, _, a, c, rfl⟩ | ⟨hp, g, c, rfl, _, hg, hc⟩
  · exact ⟨a, c, by rw [h0], by omega, hl, fun h1 => by omega⟩
  · exact ⟨_, c, rfl, hc, hl, fun _ => ⟨g, 0, rfl, hg, fun j hj => by
      rw [Nat.zero_add]
      obtain ⟨e1, e2⟩ := flat_get l j hj
      rw [← e1, ← e2]
      exact ⟨h.cell (j * 2) (by omega), h.cell (j * 2 + 1) (by omega)⟩⟩⟩
theorem next_is (k n : Nat) : Int.tmod ((k : Int) + 1) (n : Int) = (((k + 1) % n : Nat) : Int) := by
  rw [show ((k : Int) + 1) = ((k + 1 : Nat) : Int) by simp, Int.ofNat_tmod]
/-- what is read in whatever later world -/
theorem ReadsVecs.open {w : World} {v : Value} {l : List V2} (h : ReadsVecs w v l) (h0 : 0 < l.length) : ∃ bb off c, v = .slice (some ⟨bb, off, none⟩) l.length c ∧ l.length ≤ c ∧ l.length ≤ 576460752303423488 ∧ bb < w.heap.size ∧
    ∀ wr, Below w.heap.size w wr → ∀ j, j < l.length → wr.cell? ⟨bb, off + j * 2, none⟩ = some (.int .i64 (cyc l j).1) ∧ wr.cell? ⟨bb, off + j * 2 + 1, none⟩ = some (.int .i64 (cyc l j).2) := by
  obtain ⟨a, c, rfl, hc, hm, hcell⟩ := h
  obtain ⟨bb, off, rfl, hb, hcs⟩ := hcell h0
  exact ⟨bb, off, c, rfl, hc, hm, hb, fun wr hw j hj => ⟨(hw.cell (p := ⟨bb, off + j * 2, none⟩) hb).trans (hcs j hj).1, (hw.cell (p := ⟨bb, off + j * 2 + 1, none⟩) hb).trans (hcs j hj).2⟩⟩
theorem cell_lt {w : World} {b o : Nat} {v : Value} (h : w.cell? ⟨b, o, none⟩ = some v) : b < w.heap.size := World.block_lt_of_cell? w _ h
end Go.Proofs.YtgaeibibeekclabGreatDoor
namespace Go.Proofs.YtgaeibibeekclabGreatDoor
open Go.RowKit
theorem undrew {w w' : World} (h : Below w.drew.heap.size w.drew w') : Below w.heap.size w w' := ⟨h.os, h.tape, h.output, h.size, h.block⟩
theorem wpAny_seq {P : Program} {md : Region.Mode} {ops : List Oper} {Q : Exit → Act → World → Prop} (k : Nat) {fuel : Nat} {listed : Array Bool} {a : Act} {w : World} (hf : fuel = ops.length - k)
    (hB : Region.seqB md ops.toArray (ops.length - k) k listed = true) (h : wpList P ops.toArray Q (ops.drop k) a w) : wpAny P md ops.toArray Q fuel listed a w := by
  subst hf
  have e : (ops.drop k).length = ops.length - k := List.length_drop
  have := wpAny_of_seq (md := md) (Q' := Q) (ops.drop k) k listed a w (fun j => by simp [List.getElem?_drop]) (by rw [e]; exact hB) h
  rwa [e] at this
/-- one operation as a list of one: for the laws that speak of lists -/
theorem step_list {P : Program} {ops : Array Oper} {o : Oper} {a : Act} {w : World} {K : Act → World → Prop} {Q : Exit → Act → World → Prop} {E : Prop} (hL : ¬ LetsOut Q) (hw : Region.wanted o (yielded ops a.tmps) = true)
    (h : wpList P ops (Exit.then K Q) [o] a w) : if Region.wanted o (yielded ops a.tmps) = true then Oper.wp P o a w K Q else E := by
  rw [if_pos hw]
  unfold wpList at h
  rw [if_pos hw] at h
  have hL' : ¬ LetsOut (Exit.then K Q) := fun ⟨a, w, h⟩ => hL ⟨a, w, h⟩
  rcases h with h | ⟨_, h⟩
  · unfold Oper.wp at h ⊢
    generalize (execOp a.eval o).run P w = r at h ⊢
    cases r with
    | ok x w' =>
      cases x
      case enter f args =>
        refine Calls.mono h ?_
        rintro e w'' he
        cases e
        · exact he
        · exact he
        · exact absurd he hL'
      all_goals exact h
    | halt x w' => cases x <;> exact h
  · exact absurd h hL'
end Go.Proofs.YtgaeibibeekclabGreatDoor
namespace Go.Proofs.YtgaeibibeekclabGreatDoor
open Go.RowKit
theorem cnt_next (p : Nat → Bool) (k : Nat) : cnt p (List.range (k + 1)) = cnt p (List.range k) + (if p k then 1 else 0) := by
  rw [List.range_succ, cnt_snoc]
set_option maxRecDepth 100000 in
set_option maxHeartbeats 8000000 in
theorem rounds_any (v : Value) (l : List V2) (w : World) (h : ReadsVecs w v l) (h0 : 0 < l.length) (hm : l.length ≤ 1000) (hv : allVec l) :
    Calls Tryz.prog 75 #[v] w fun e w' => e = .returned (.int .i64 (cnt (bkB l) (List.range l.length) : Nat)) ∧ Below w.heap.size w w' := by
  obtain ⟨bv, ov, vc, rfl, _, _, hbv, hvs⟩ := h.open h0
  have HVS := Lib.hid hvs
  have HA := Lib.hid hv
  have HD := Lib.hid (fun x1 y1 x2 y2 w' h1 h2 => ahead_any x1 y1 x2 y2 w' h1 h2)
  have HSu := Lib.hid (fun k => cnt_next (bkB l) k)
  have HBk : Hid (∀ k, bkB l k = aheadB (cyc l (k + 1)).1 (cyc l (k + 1)).2 (cyc l k).1 (cyc l k).2) := fun _ => rfl
  have HLe : Hid (∀ k, cnt (bkB l) (List.range k) ≤ k) := fun k => by have := cnt_le (bkB l) (List.range k); rwa [List.length_range] at this
  clear h hvs hv
  go_enter Tryz.func75, Tryz.ntmps75
  go_wp2
  go_loopw [3, 8] (fun s3 s8 wr => ∃ k : Nat, k ≤ l.length ∧ s3 = .int .i64 (cnt (bkB l) (List.range k) : Nat) ∧ s8 = .int .i64 k ∧ Below w.heap.size w wr) (fun _ s8 _ => l.length - (intOf s8).toNat)
  case atStart => exact ⟨0, Nat.zero_le _, rfl, rfl, Below.refl _ _⟩
  case round =>
    obtain ⟨k, hk, rfl, rfl, hB⟩ := hrel
    have i1 : (0 : Int) ≤ (k : Int) := by omega
    by_cases hlt : k < l.length
    · have i2 : (k : Int) < (l.length : Int) := by omega
      have hq : (k + 1) % l.length < l.length := Nat.mod_lt _ h0
      have j3 : (0 : Int) ≤ (((k + 1) % l.length : Nat) : Int) := by omega
      have j4 : (((k + 1) % l.length : Nat) : Int) < (l.length : Int) := by omega
      have j5 : ¬ (l.length : Int) = 0 := by omega
      have j6 : ((l.length : Int) == 0) = false := by simpa using j5
      have j7 : ¬ l.length = 0 := by omega
      have t2 := next_is k l.length
      obtain ⟨c0, c1⟩ := HVS.out wr hB k hlt
      obtain ⟨d0, d1⟩ := HVS.out wr hB _ hq
      rw [cyc_mod] at d0 d1
      have v0 := HA.out k
      have v1 := HA.out (k + 1)
      have HDk := Lib.hid (fun w' => HD.out _ _ _ _ w' v1 v0)
      rw [← HBk.out k] at HDk
      have HSk := Lib.hid (HSu.out k)
      have hcl : ((cnt (bkB l) (List.range k) : Nat) : Int) ≤ 1000 := by have := HLe.out k; omega
      have hc0 : (0 : Int) ≤ ((cnt (bkB l) (List.range k) : Nat) : Int) := by omega
      have q0 : IntKind.i64.wrap ((k : Int) + 1) = (k : Int) + 1 := by rw [IntKind.wrap_i64]; omega
      generalize cnt (bkB l) (List.range k) = C at *
      generalize bkB l k = kk at HDk HSk
      generalize cyc l k = V at *
      generalize cyc l (k + 1) = U at *
      obtain ⟨x1, y1⟩ := V
      obtain ⟨x2, y2⟩ := U
      dsimp only at c0 c1 d0 d1 HDk
      generalize (k + 1) % l.length = q at *
      have hs := hB.size
      have t0 := cell_lt c0
      have t1 := cell_lt d0
      clear v0 v1 HA HD HSu HBk HLe HVS
      go_wp2_with fail
      have hA2 : Below wr.heap.size wr (wr.alloc (.cells #[.int .i64 x1, .int .i64 y1] 55)) := by go_grown
      have e0 : (wr.alloc (.cells #[.int .i64 x1, .int .i64 y1] 55)).cell? ⟨wr.heap.size, 0, none⟩ = some (.int .i64 x1) := by simp
      have e1 : (wr.alloc (.cells #[.int .i64 x1, .int .i64 y1] 55)).cell? ⟨wr.heap.size, 1, none⟩ = some (.int .i64 y1) := by simp
      replace d1 := (hA2.cell (p := ⟨bv, ov + q * 2 + 1, none⟩) t1).trans d1
      replace d0 := (hA2.cell (p := ⟨bv, ov + q * 2, none⟩) t1).trans d0
      have hB2 := hB.trans (hA2.mono hs)
      obtain ⟨B3, hB3⟩ : ∃ B3, B3 = wr.heap.size := ⟨_, rfl⟩
      rw [← hB3] at e0 e1 ⊢
      generalize (wr.alloc (.cells #[.int .i64 x1, .int .i64 y1] 55)) = W3 at *
      clear hA2 hB3 c0 c1 t0 t1
      have hs3 := hB2.size
      have t0 := cell_lt e0
      have t1 := cell_lt d0
      go_region_held3 (fun w' => w'.cell? ⟨B3, 0, none⟩ = some (.int .i64 (x1)) ∧ w'.cell? ⟨B3, 1, none⟩ = some (.int .i64 (y1)) ∧ w'.cell? ⟨bv, ov + q * 2, none⟩ = some (.int .i64 (x2)) ∧ w'.cell? ⟨bv, ov + q * 2 + 1, none⟩ = some (.int .i64 (y2)) ∧ Below (w.heap.size) W3 w') ((go_split_ands; refine ⟨by (first | (with_reducible assumption) | (go_keep; done) | (go_cell; done) | (go_simp; done) | (simp [*]; done)), by (first | (with_reducible assumption) | (go_keep; done) | (go_cell; done) | (go_simp; done) | (simp [*]; done)), by (first | (with_reducible assumption) | (go_keep; done) | (go_cell; done) | (go_simp; done) | (simp [*]; done)), by (first | (with_reducible assumption) | (go_keep; done) | (go_cell; done) | (go_simp; done) | (simp [*]; done)), by first | (with_reducible assumption) | (go_grown; done)⟩)) (first | (go_at_call 112; go_call (HDk.out _) as e w1 ⟨rfl, hb0⟩; go_split_ands; have q0 : w1.cell? ⟨B3, 0, none⟩ = some (.int .i64 (x1)) := (hb0.cell (p := ⟨B3, 0, none⟩) (by first | (with_reducible assumption) | (go_size; done) | (simp; omega))).trans (by first | (with_reducible assumption) | (go_keep; done) | (go_cell; done) | (go_simp; done) | (simp [*]; done)); have q1 : w1.cell? ⟨B3, 1, none⟩ = some (.int .i64 (y1)) := (hb0.cell (p := ⟨B3, 1, none⟩) (by first | (with_reducible assumption) | (go_size; done) | (simp; omega))).trans (by first | (with_reducible assumption) | (go_keep; done) | (go_cell; done) | (go_simp; done) | (simp [*]; done)); have q2 : w1.cell? ⟨bv, ov + q * 2, none⟩ = some (.int .i64 (x2)) := (hb0.cell (p := ⟨bv, ov + q * 2, none⟩) (by first | (with_reducible assumption) | (go_size; done) | (simp; omega))).trans (by first | (with_reducible assumption) | (go_keep; done) | (go_cell; done) | (go_simp; done) | (simp [*]; done)); have q3 : w1.cell? ⟨bv, ov + q * 2 + 1, none⟩ = some (.int .i64 (y2)) := (hb0.cell (p := ⟨bv, ov + q * 2 + 1, none⟩) (by first | (with_reducible assumption) | (go_size; done) | (simp; omega))).trans (by first | (with_reducible assumption) | (go_keep; done) | (go_cell; done) | (go_simp; done) | (simp [*]; done)); have hs0 : B3 < w1.heap.size := Nat.lt_of_lt_of_le (by first | (with_reducible assumption) | (go_size; done) | (simp; omega)) hb0.size; have hs1 : bv < w1.heap.size := Nat.lt_of_lt_of_le (by first | (with_reducible assumption) | (go_size; done) | (simp; omega)) hb0.size; have hT : Below (w.heap.size) W3 w1 := Below.trans (by first | (with_reducible assumption) | (go_grown; done)) (hb0.mono (by first | (with_reducible assumption) | (go_size; done) | (simp; omega) | omega)); have hTs := hT.size; (try have hT2 : Below W3.heap.size W3 w1 := belowTo (by first | (with_reducible assumption) | (go_grown; done)) hb0); clear hb0))
      have hBk := hB2.trans hT
      cases kk
      · go_wp2
        go_roundw
        case rel => exact ⟨k + 1, by omega, by rw [show cnt (bkB l) (List.range (k + 1)) = C from HSk.out], by go_num, hBk⟩
        case measure => simp [intOf]; omega
      · go_wp2
        go_roundw
        case rel => exact ⟨k + 1, by omega, by rw [show cnt (bkB l) (List.range (k + 1)) = C + 1 from HSk.out]; go_num, by go_num, hBk⟩
        case measure => simp [intOf]; omega
    · obtain rfl : k = l.length := by omega
      have i2 : ¬ ((l.length : Nat) : Int) < (l.length : Int) := by omega
      go_wp2
      go_returns
      exact ⟨rfl, hB⟩
end Go.Proofs.YtgaeibibeekclabGreatDoor
namespace Go.Proofs.YtgaeibibeekclabGreatDoor
open Go.RowKit
def BoxAt (w : World) (M : Nat) (vs : List Value) : Prop := M < w.heap.size ∧ ∀ i v, vs[i]? = some v → w.cell? ⟨M, i, none⟩ = some v
theorem BoxAt.below {w w' : World} {M : Nat} {vs : List Value} (h : BoxAt w M vs) (hb : Below w.heap.size w w') : BoxAt w' M vs :=
  ⟨Nat.lt_of_lt_of_le h.1 hb.size, fun i v hv => (hb.cell (p := ⟨M, i, none⟩) h.1).trans (h.2 i v hv)⟩
theorem BoxAt.made4 (w : World) (x y z u : Value) (t : TypeId) : BoxAt (w.alloc (.cells #[x, y, z, u] t)) w.heap.size [x, y, z, u] := by
  refine ⟨by simp, fun i v hv => ?_⟩
  match i, hv with
  | 0, hv => simp at hv; subst hv; simp
  | 1, hv => simp at hv; subst hv; simp
  | 2, hv => simp at hv; subst hv; simp
  | 3, hv => simp at hv; subst hv; simp
end Go.Proofs.YtgaeibibeekclabGreatDoor
namespace Go.Proofs.YtgaeibibeekclabGreatDoor
open Go.RowKit
/-- A slice of the call's own of n vectors, at the beginning of a row that is perhaps longer. -/
def VRowR (w : World) (b : Nat) (v : Value) (n : Nat) (f : List Int) : Prop :=
  (n = 0 ∧ f = [] ∧ ∃ a c, v = .slice a 0 c ∧ ∀ x, a = some x → b ≤ x.block ∧ x.block < w.heap.size) ∨ (0 < n ∧ ∃ g c c1, v = .slice (some ⟨g, 0, none⟩) n c1 ∧ VRow w b (.slice (some ⟨g, 0, none⟩) n c) n f ∧ n ≤ c1)
def VecsR (w : World) (b : Nat) (v : Value) (l : List (Int × Int)) : Prop := VRowR w b v l.length (flat l)
theorem VRowR.below {w w' : World} {b n : Nat} {v : Value} {f : List Int} (h : VRowR w b v n f) (hb : Below w.heap.size w w') : VRowR w' b v n f := by
  rcases h with ⟨h1, h2, a, c, h3, h4⟩ | ⟨h1, g, c, c1, h2, h3, h4⟩
  · exact .inl ⟨h1, h2, a, c, h3, fun x hx => ⟨(h4 x hx).1, Nat.lt_of_lt_of_le (h4 x hx).2 hb.size⟩⟩
  · exact .inr ⟨h1, g, c, c1, h2, h3.below hb, h4⟩
theorem VRowR.lower {w : World} {b b' n : Nat} {v : Value} {f : List Int} (h : VRowR w b v n f) (hb : b' ≤ b) : VRowR w b' v n f := by
  rcases h with ⟨h1, h2, a, c, h3, h4⟩ | ⟨h1, g, c, c1, h2, h3, h4⟩
  · exact .inl ⟨h1, h2, a, c, h3, fun x hx => ⟨Nat.le_trans hb (h4 x hx).1, (h4 x hx).2⟩⟩
  · exact .inr ⟨h1, g, c, c1, h2, h3.lower hb, h4⟩
theorem VecsR.below {w w' : World} {b : Nat} {v : Value} {l : List (Int × Int)} (h : VecsR w b v l) (hb : Below w.heap.size w w') : VecsR w' b v l := VRowR.below h hb
theorem VecsR.lower {w : World} {b b' : Nat} {v : Value} {l : List (Int × Int)} (h : VecsR w b v l) (hb : b' ≤ b) : VecsR w b' v l := VRowR.lower h hb
theorem Vecs.R {w : World} {b : Nat} {v : Value} {l : List (Int × Int)} (h : Vecs w b v l) : VecsR w b v l := by
  have hf := flat_len l
  rcases VRow.form h with ⟨h1, _, a, c, h2⟩ | ⟨h1, g, c, h2, _, _, h3⟩
  · refine .inl ⟨h1, ?_, a, c, ?_, ?_⟩
    · exact List.eq_nil_of_length_eq_zero (by omega)
    · rw [h2]
    · intro x hx
      subst hx
      subst h2
      exact h.block x.block rfl
  · subst h2
    exact .inr ⟨h1, g, c, c, rfl, h, h3⟩
theorem VecsR.nil (w : World) (b : Nat) : VecsR w b (.slice none 0 0) [] := .inl ⟨rfl, rfl, none, 0, rfl, fun x h => by cases h⟩
theorem VecsR.reads {w : World} {b : Nat} {v : Value} {l : List V2} (h : VecsR w b v l) (hl : l.length ≤ 576460752303423488) : ReadsVecs w v l := by
  rcases h with ⟨h1, _, a, c, h3, _⟩ | ⟨h1, g, c, c1, rfl, h3, h4⟩
  · rw [h3]
    refine ⟨a, c, ?_, by omega, by omega, fun h => by omega⟩
    rw [h1]
  · have q : Vecs w b (.slice (some ⟨g, 0, none⟩) l.length c) l := h3
    obtain ⟨a, c2, e, _, _, h6⟩ := q.reads hl
    obtain ⟨e1, e2⟩ : some (⟨g, 0, none⟩ : Addr) = a ∧ c = c2 := by
      injection e with e1 e2 e3
      exact ⟨e1, e3⟩
    subst e1
    exact ⟨_, c1, rfl, h4, hl, h6⟩
def GivesVecsR (w : World) (l : List (Int × Int)) (b : Bool) (e : Ending) (w' : World) : Prop := ∃ v, e = .returned (.tuple #[v, .bool b]) ∧ VecsR w' w.heap.size v l ∧ Below w.heap.size w w'
end Go.Proofs.YtgaeibibeekclabGreatDoor
