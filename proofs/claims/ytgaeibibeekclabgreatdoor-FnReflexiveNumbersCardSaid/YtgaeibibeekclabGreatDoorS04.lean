import Derived.Test.YtgaeibibeekclabGreatDoorProg
import Derived.Test.YtgaeibibeekclabGreatDoorS01
import Derived.Test.YtgaeibibeekclabGreatDoorS03
import Derived.WalkKit
import Derived.LaidEql
import Derived.Stop.Asserts
import Derived.RowKitTokens
import Derived.Handy
import Derived.WalkSpells
import Derived.WalkLawsBesides
import Derived.Deep.QuietTactic
import Derived.BigQuiet
import Derived.Lib.Hide
import Derived.Deep.RegionHeld3
import Derived.Deep.DeepCutAuto
import Derived.Deep.AppendLies
import Derived.Laws.OwnMore
import Derived.Laws.MakeOwn
import Derived.OwnWalk
import Derived.WalkSmall
import Derived.Maps.AppendAt
import Derived.Laws.StructEq
namespace Go.Proofs.YtgaeibibeekclabGreatDoor
open Go.RowKit
theorem infoInt : (Tryz.prog.info? 3).map (fun i => (i.zero, i.size, i.bytes)) = some (some (.int .i64 0), 1, 8) := by kernel_rfl
def intsV (l : List Int) : List Value := l.map (Value.int .i64)
/-- A slice of the call's own, from block 'base' on, that holds the numbers l. -/
def Ints (w : World) (base : Nat) (v : Value) (l : List Int) : Prop := w.ownsRow base 3 1 v l.length (intsV l)
theorem grown_of_below {w w' : World} (h : Below w.heap.size w w') (row : Option Nat) : w.grownBy w' row := ⟨h.os, h.tape, h.output, h.size, fun i hi _ => h.block i hi⟩
/-- its form: empty, or its first cells lie in a block of their own -/
theorem Ints.form {w : World} {base : Nat} {v : Value} {l : List Int} (h : Ints w base v l) :
    (l = [] ∧ ∃ a c, v = .slice a 0 c) ∨ (l ≠ [] ∧ ∃ g c, v = .slice (some ⟨g, 0, none⟩) l.length c ∧ base ≤ g ∧ g < w.heap.size ∧ l.length ≤ c) := by
  rcases h.2 with ⟨h1, h2⟩ | ⟨g, cap, cur, rfl, h3, h4, h5, _⟩
  · exact .inl ⟨List.eq_nil_of_length_eq_zero h2, none, 0, h1⟩
  · rcases Nat.eq_zero_or_pos l.length with h0 | h0
    · exact .inl ⟨List.eq_nil_of_length_eq_zero h0, _, cap, by rw [h0]⟩
    · refine .inr ⟨fun e => by simp [e] at h0, g, cap, rfl, h3, ?_, h5⟩
      rcases Nat.lt_or_ge g w.heap.size with hlt | hge
      · exact hlt
      · rw [Array.getElem?_eq_none hge] at h4; cases h4
theorem intsV_get (l : List Int) (j : Nat) (h : j < l.length) : (intsV l)[j]? = some (.int .i64 (l[j]?.getD 0)) := by
  simp [intsV, h]
theorem Ints.cell {w : World} {base g c : Nat} {l : List Int} (h : Ints w base (.slice (some ⟨g, 0, none⟩) l.length c) l) (j : Nat) (hj : j < l.length) : w.cell? ⟨g, j, none⟩ = some (.int .i64 (l[j]?.getD 0)) := by
  rw [World.ownsRow.cellAt h j (by omega), intsV_get l j hj]
end Go.Proofs.YtgaeibibeekclabGreatDoor
namespace Go.Proofs.YtgaeibibeekclabGreatDoor
open Go.RowKit
/-- A slice that came in: it may begin anywhere. -/
def ReadsInts (w : World) (v : Value) (l : List Int) : Prop := ∃ a c, v = .slice a l.length c ∧ l.length ≤ 1152921504606846976 ∧ (0 < l.length → ∃ bb off, a = some ⟨bb, off, none⟩ ∧ bb < w.heap.size ∧ ∀ j, j < l.length → w.cell? ⟨bb, off + j, none⟩ = some (.int .i64 (l[j]?.getD 0)))
theorem ReadsInts.below {w w' : World} {v : Value} {l : List Int} (h : ReadsInts w v l) (hb : Below w.heap.size w w') : ReadsInts w' v l := by
  obtain ⟨a, c, h1, h2, h3⟩ := h
  refine ⟨a, c, h1, h2, fun h0 => ?_⟩
  obtain ⟨bb, off, h4, h5, h6⟩ := h3 h0
  exact ⟨bb, off, h4, Nat.lt_of_lt_of_le h5 hb.size, fun j hj => (hb.cell (p := ⟨bb, off + j, none⟩) h5).trans (h6 j hj)⟩
theorem Ints.reads {w : World} {base : Nat} {v : Value} {l : List Int} (h : Ints w base v l) (hl : l.length ≤ 1152921504606846976) : ReadsInts w v l := by
  rcases h.form with ⟨rfl, a, c, rfl⟩ | ⟨hne, g, c, rfl, _, hg, _⟩
  · exact ⟨a, c, rfl, hl, fun h0 => absurd h0 (by simp)⟩
  · exact ⟨_, c, rfl, hl, fun _ => ⟨g, 0, rfl, hg, fun j hj => by rw [Nat.zero_add]; exact h.cell j hj⟩⟩
end Go.Proofs.YtgaeibibeekclabGreatDoor
namespace Go.Proofs.YtgaeibibeekclabGreatDoor
open Go.RowKit
/-- the numbers of a list of vectors, one behind the other -/
def flat : List (Int × Int) → List Int
  | [] => []
  | p :: l => p.1 :: p.2 :: flat l
theorem flat_len (l : List (Int × Int)) : (flat l).length = 2 * l.length := by
  induction l with
  | nil => rfl
  | cons p l ih => simp only [flat, List.length_cons, ih]; omega
theorem flat_app (l m : List (Int × Int)) : flat (l ++ m) = flat l ++ flat m := by
  induction l with
  | nil => rfl
  | cons p l ih => simp only [List.cons_append, flat, ih]
/-- A slice of the call's own of n vectors, from block 'base' on, whose cells hold the numbers f. -/
def VRow (w : World) (base : Nat) (v : Value) (n : Nat) (f : List Int) : Prop := w.ownsRow base 55 2 v n (intsV f)
/-- .. that holds the vectors l -/
def Vecs (w : World) (base : Nat) (v : Value) (l : List (Int × Int)) : Prop := VRow w base v l.length (flat l)
theorem VRow.below {w w' : World} {base n : Nat} {v : Value} {f : List Int} (h : VRow w base v n f) (hb : Below w.heap.size w w') : VRow w' base v n f := by
  unfold VRow at *
  refine h.kept (row := none) (grown_of_below hb none) ?_
  cases v.ownBlock with
  | none => exact .inl rfl
  | some k => exact .inr (by simp)
theorem VRow.lower {w : World} {base base' n : Nat} {v : Value} {f : List Int} (h : VRow w base v n f) (hb : base' ≤ base) : VRow w base' v n f := by
  obtain ⟨h1, h2⟩ := h
  refine ⟨h1, ?_⟩
  rcases h2 with h2 | ⟨g, cap, cur, e1, e2, r⟩
  · exact .inl h2
  · exact .inr ⟨g, cap, cur, e1, Nat.le_trans hb e2, r⟩
theorem VRow.block {w : World} {base n : Nat} {v : Value} {f : List Int} (h : VRow w base v n f) : ∀ k, v.ownBlock = some k → base ≤ k ∧ k < w.heap.size := World.ownsRow.lt h
theorem VRow.flen {w : World} {base n : Nat} {v : Value} {f : List Int} (h : VRow w base v n f) : f.length = n * 2 := by
  have := h.1
  simpa [intsV] using this
theorem VRow.form {w : World} {base n : Nat} {v : Value} {f : List Int} (h : VRow w base v n f) :
    (n = 0 ∧ f = [] ∧ ∃ a c, v = .slice a 0 c) ∨ (0 < n ∧ ∃ g c, v = .slice (some ⟨g, 0, none⟩) n c ∧ base ≤ g ∧ g < w.heap.size ∧ n ≤ c) := by
  have hf := h.flen
  rcases h.2 with ⟨h1, h2⟩ | ⟨g, cap, cur, rfl, h3, h4, h5, _⟩
  · subst h2
    exact .inl ⟨rfl, List.eq_nil_of_length_eq_zero (by omega), none, 0, h1⟩
  · rcases Nat.eq_zero_or_pos n with h0 | h0
    · subst h0
      exact .inl ⟨rfl, List.eq_nil_of_length_eq_zero (by omega), _, cap, rfl⟩
    · refine .inr ⟨h0, g, cap, rfl, h3, ?_, h5⟩
      rcases Nat.lt_or_ge g w.heap.size with hlt | hge
      · exact hlt
      · rw [Array.getElem?_eq_none hge] at h4; cases h4
theorem VRow.cell {w : World} {base g c n : Nat} {f : List Int} (h : VRow w base (.slice (some ⟨g, 0, none⟩) n c) n f) (j : Nat) (hj : j < n * 2) : w.cell? ⟨g, j, none⟩ = some (.int .i64 (f[j]?.getD 0)) := by
  have hf := h.flen
  unfold VRow at h
  rw [World.ownsRow.cellAt h j (by omega), intsV_get f j (by omega)]
theorem Vecs.nil (w : World) (base : Nat) : Vecs w base (.slice none 0 0) [] := World.ownsRow_nil _ _ _ _
theorem Vecs.below {w w' : World} {base : Nat} {v : Value} {l : List (Int × Int)} (h : Vecs w base v l) (hb : Below w.heap.size w w') : Vecs w' base v l := VRow.below h hb
theorem Vecs.lower {w : World} {base base' : Nat} {v : Value} {l : List (Int × Int)} (h : Vecs w base v l) (hb : base' ≤ base) : Vecs w base' v l := VRow.lower h hb
theorem Vecs.block {w : World} {base : Nat} {v : Value} {l : List (Int × Int)} (h : Vecs w base v l) : ∀ k, v.ownBlock = some k → base ≤ k ∧ k < w.heap.size := VRow.block h
def GivesVecs (w : World) (l : List (Int × Int)) (e : Ending) (w' : World) : Prop := ∃ v, e = .returned v ∧ Vecs w' w.heap.size v l ∧ Below w.heap.size w w'
def GivesVecsOk (w : World) (l : List (Int × Int)) (b : Bool) (e : Ending) (w' : World) : Prop := ∃ v, e = .returned (.tuple #[v, .bool b]) ∧ Vecs w' w.heap.size v l ∧ Below w.heap.size w w'
end Go.Proofs.YtgaeibibeekclabGreatDoor
namespace Go.Proofs.YtgaeibibeekclabGreatDoor
open Go.RowKit
set_option maxHeartbeats 1000000 in
theorem isPrimitive_any (x y : Int) (w : World) (h : vecB x y = true) :
    Calls Tryz.prog 189 #[.agg #[.int .i64 (x), .int .i64 (y)]] w fun e w' => e = .returned (.bool (oneB x y)) ∧ Below w.heap.size w w' := by
  obtain ⟨hx, hy⟩ := szs h
  go_enter Tryz.func189, Tryz.ntmps189
  (go_wp2_with fail; go_call (commonDivisor_any x y _ hx hy) as e w1 ⟨rfl, hb1⟩); obtain ⟨hc1, hf1⟩ := bcell hb1; have hz1 := bsize hb1
  go_wp2
  go_returns
  exact ⟨rfl, belowTo (by go_grown) hb1⟩
set_option maxHeartbeats 1000000 in
theorem l2Primitive_any (x y : Int) (w : World) :
    Calls Tryz.prog 90 #[.agg #[.int .i64 (x), .int .i64 (y)]] w fun e w' => e = .returned (.bool (primB x y)) ∧ Below w.heap.size w w' := by
  unfold primB
  cases h : vecB x y
  · go_enter Tryz.func90, Tryz.ntmps90
    (go_wp2_with fail; go_call (specVecIn_any x y _) as e w1 ⟨rfl, hb1⟩); obtain ⟨hc1, hf1⟩ := bcell hb1; have hz1 := bsize hb1
    go_wp2
    go_returns
    exact ⟨rfl, belowTo (by go_grown) hb1⟩
  · obtain ⟨hx, hy⟩ := szs h
    go_enter Tryz.func90, Tryz.ntmps90
    (go_wp2_with fail; go_call (specVecIn_any x y _) as e w1 ⟨rfl, hb1⟩); obtain ⟨hc1, hf1⟩ := bcell hb1; have hz1 := bsize hb1
    (go_wp2_with fail; go_call (l1Gcd_any x y _ hx hy) as e w2 ⟨rfl, hb2⟩); replace hb1 := belowTo hb1 hb2; clear hb2 hc1 hf1 hz1; obtain ⟨hc1, hf1⟩ := bcell hb1; have hz1 := bsize hb1
    go_wp2
    go_returns
    exact ⟨by rfl, belowTo (by go_grown) hb1⟩
set_option maxHeartbeats 1000000 in
theorem index_any (a b c d : Int) (w : World) (h1 : vecB a b = true) (h2 : vecB c d = true) :
    Calls Tryz.prog 124 #[.agg #[.int .i64 (a), .int .i64 (b), .int .i64 (c), .int .i64 (d)]] w fun e w' => e = .returned (.int .i64 (detZ a b c d)) ∧ Below w.heap.size w w' := by
  go_enter Tryz.func124, Tryz.ntmps124
  (go_wp2_with fail; go_call (det_any a b c d _ h1 h2) as e w1 ⟨rfl, hb1⟩); obtain ⟨hc1, hf1⟩ := bcell hb1; have hz1 := bsize hb1
  go_wp2
  go_returns
  exact ⟨rfl, belowTo (by go_grown) hb1⟩
set_option maxHeartbeats 2000000 in
theorem coneCheck_in (a b c d : Int) (w : World) (h : coneB a b c d = true) :
    Calls Tryz.prog 188 #[.agg #[.int .i64 (a), .int .i64 (b), .int .i64 (c), .int .i64 (d)]] w fun e w' => e = .returned .nilIface ∧ Below w.heap.size w w' := by
  obtain ⟨h1, o1, h2, o2, hp⟩ := cone_in h
  have hp' := posB_true hp
  clear h hp
  go_enter Tryz.func188, Tryz.ntmps188
  (go_wp2_with fail; go_call (checkAll_vv_in a b c d _ _ h1 h2) as e w1 ⟨rfl, hb1⟩); obtain ⟨hc1, hf1⟩ := bcell hb1; have hz1 := bsize hb1
  (go_wp2_with fail; go_call (isPrimitive_any a b _ h1) as e w2 ⟨rfl, hb2⟩); replace hb1 := belowTo hb1 hb2; clear hb2 hc1 hf1 hz1; obtain ⟨hc1, hf1⟩ := bcell hb1; have hz1 := bsize hb1
  (go_wp2_with fail; go_call (isPrimitive_any c d _ h2) as e w2 ⟨rfl, hb2⟩); replace hb1 := belowTo hb1 hb2; clear hb2 hc1 hf1 hz1; obtain ⟨hc1, hf1⟩ := bcell hb1; have hz1 := bsize hb1
  (go_wp2_with fail; go_call (index_any a b c d _ h1 h2) as e w2 ⟨rfl, hb2⟩); replace hb1 := belowTo hb1 hb2; clear hb2 hc1 hf1 hz1; obtain ⟨hc1, hf1⟩ := bcell hb1; have hz1 := bsize hb1
  go_wp2
  go_returns
  exact ⟨rfl, belowTo (by go_grown) hb1⟩
end Go.Proofs.YtgaeibibeekclabGreatDoor
namespace Go.Proofs.YtgaeibibeekclabGreatDoor
open Go.RowKit
set_option maxHeartbeats 2000000 in
theorem l2Has_any (a b c d x y : Int) (w : World) (h1 : vecB a b = true) (h2 : vecB c d = true) (h3 : vecB x y = true) :
    Calls Tryz.prog 162 #[.agg #[.int .i64 (a), .int .i64 (b), .int .i64 (c), .int .i64 (d)], .agg #[.int .i64 (x), .int .i64 (y)]] w fun e w' => e = .returned (.bool (inB a b c d x y)) ∧ Below w.heap.size w w' := by
  rcases Int.lt_or_le (detZ a b x y) 0 with hp | hp
  · have hd : decide (0 ≤ detZ a b x y) = false := by simp; omega
    go_enter Tryz.func162, Tryz.ntmps162
    (go_wp2_with fail; go_call (l1Det_any a b x y _ h1 h3) as e w1 ⟨rfl, hb1⟩); obtain ⟨hc1, hf1⟩ := bcell hb1; have hz1 := bsize hb1
    go_wp2
    go_returns
    exact ⟨ret_bool (by simp [inB, hd]), belowTo (by go_grown) hb1⟩
  · go_enter Tryz.func162, Tryz.ntmps162
    (go_wp2_with fail; go_call (l1Det_any a b x y _ h1 h3) as e w1 ⟨rfl, hb1⟩); obtain ⟨hc1, hf1⟩ := bcell hb1; have hz1 := bsize hb1
    (go_wp2_with fail; go_call (l1Det_any x y c d _ h3 h2) as e w2 ⟨rfl, hb2⟩); replace hb1 := belowTo hb1 hb2; clear hb2 hc1 hf1 hz1; obtain ⟨hc1, hf1⟩ := bcell hb1; have hz1 := bsize hb1
    go_wp2
    go_returns
    exact ⟨ret_bool (by simp [inB, hp]), belowTo (by go_grown) hb1⟩
end Go.Proofs.YtgaeibibeekclabGreatDoor
namespace Go.Proofs.YtgaeibibeekclabGreatDoor
open Go.RowKit
theorem Ints.empty (w : World) : Ints (w.alloc (.cells #[] 3)) w.heap.size (.slice (some ⟨w.heap.size, 0, none⟩) 0 0) [] :=
  World.ownsRow_made w #[] 0 (Nat.le_refl _) (by simp [maxLen]) rfl
end Go.Proofs.YtgaeibibeekclabGreatDoor
namespace Go.Proofs.YtgaeibibeekclabGreatDoor
open Go.RowKit
/-- What a call of pick leaves: some number below n; the reader's place is one further on; nothing else has changed. -/
def Picked (n p : Int) (B : Nat) (w : World) (e : Ending) (w' : World) : Prop := ∃ (v : Int) (k : Nat), e = .returned (.int .i64 v) ∧ 0 ≤ v ∧ v < n ∧ w' = (w.setCell ⟨B, 1, none⟩ (.int .i64 (p + 1))).drewN k
set_option maxHeartbeats 1000000 in
theorem pick_none (a : Option Addr) (cap : Nat) (B : Nat) (n p : Int) (w : World) (hn : 1 ≤ n) (hp : 0 ≤ p ∧ p ≤ 100000)
    (h0 : w.cell? ⟨B, 0, none⟩ = some (.slice a 0 cap)) (h1 : w.cell? ⟨B, 1, none⟩ = some (.int .i64 p)) (hf : w.frozen? ⟨B, 1, none⟩ = false) :
    Calls Tryz.prog 63 #[.pointer (some ⟨B, 0, none⟩), .int .i64 n] w (Picked n p B w) := by
  obtain ⟨_, _⟩ := hp
  have hlt : decide (n < 1) = false := by simp; omega
  go_enter Tryz.func63, Tryz.ntmps63
  go_wp2
  go_returns
  exact ⟨0, 0, rfl, by omega, by omega, rfl⟩
set_option maxHeartbeats 1000000 in
theorem pick_low (bb off len cap : Nat) (D : Nat → Int) (B : Nat) (n : Int) (p : Nat) (w : World) (hn : 1 ≤ n) (hl : len ≤ 2000) (hp : p < len)
    (h0 : w.cell? ⟨B, 0, none⟩ = some (.slice (some ⟨bb, off, none⟩) len cap)) (h1 : w.cell? ⟨B, 1, none⟩ = some (.int .i64 p)) (hf : w.frozen? ⟨B, 1, none⟩ = false)
    (hD : w.cell? ⟨bb, off + p, none⟩ = some (.int .u8 (D p))) (hb : 0 ≤ D p ∧ D p ≤ 255) (hne : bb ≠ B) :
    Calls Tryz.prog 63 #[.pointer (some ⟨B, 0, none⟩), .int .i64 n] w (Picked n p B w) := by
  obtain ⟨_, _⟩ := hb
  have hlt : decide (n < 1) = false := by simp; omega
  have hl0 : ((len : Int) == 0) = false := by simp; omega
  have hn0 : (n == 0) = false := by simp; omega
  have hD' : (w.setCell ⟨B, 1, none⟩ (.int .i64 ((p : Int) + 1))).cell? ⟨bb, off + p, none⟩ = some (.int .u8 (D p)) := by
    rw [World.cell?_setCell_far]
    · exact hD
    · exact fun h => hne h.symm
  go_enter Tryz.func63, Tryz.ntmps63
  go_wp2
  go_returns
  exact ⟨_, 0, rfl, by first | (exact Int.emod_nonneg _ (by omega)) | (exact Int.tmod_nonneg _ (by omega)), by first | (exact Int.emod_lt_of_pos _ (by omega)) | (exact Int.tmod_lt_of_pos _ (by omega)), rfl⟩
theorem xor_i64 (a b : Nat) (ha : a < 4611686018427387904) (hb : b < 4611686018427387904) : bits .xor .i64 (a : Int) (b : Int) = ((a ^^^ b : Nat) : Int) := by
  have hx : a ^^^ b < 2 ^ 62 := Nat.xor_lt_two_pow (by omega) (by omega)
  have h1 : (BitVec.ofInt 64 (a : Int)).toNat = a := by
    rw [BitVec.ofInt_natCast, BitVec.toNat_ofNat]; exact Nat.mod_eq_of_lt (by omega)
  have h2 : (BitVec.ofInt 64 (b : Int)).toNat = b := by
    rw [BitVec.ofInt_natCast, BitVec.toNat_ofNat]; exact Nat.mod_eq_of_lt (by omega)
  show IntKind.i64.wrap ((BitVec.ofInt 64 (a : Int) ^^^ BitVec.ofInt 64 (b : Int)).toNat : Int) = _
  rw [BitVec.toNat_xor, h1, h2]
  exact IntWalk.i64_in _ (by omega)
theorem xor_some (X : Int) (h0 : 0 ≤ X) (h1 : X ≤ 20000000) : ∃ Y : Int, 0 ≤ Y ∧ bits .xor .i64 X (X / 64) = Y ∧ bits .xor .i64 X (X.tdiv 64) = Y := by
  obtain ⟨a, rfl⟩ := Int.eq_ofNat_of_zero_le h0
  have e : (a : Int) / 64 = ((a / 64 : Nat) : Int) := rfl
  have e2 : (a : Int).tdiv 64 = ((a / 64 : Nat) : Int) := by rw [Int.tdiv_eq_ediv_of_nonneg (by omega)]; rfl
  have hx := xor_i64 a (a / 64) (by omega) (by omega)
  refine ⟨((a ^^^ a / 64 : Nat) : Int), by omega, ?_, ?_⟩
  · rw [e]; exact hx
  · rw [e2]; exact hx
set_option maxHeartbeats 4000000 in
theorem pick_far (bb off len cap : Nat) (D : Nat → Int) (B : Nat) (n : Int) (p : Nat) (w : World) (hn : 1 ≤ n) (hl : len ≤ 2000) (hl1 : 1 ≤ len) (hp : len ≤ p) (hp2 : p ≤ 100000)
    (h0 : w.cell? ⟨B, 0, none⟩ = some (.slice (some ⟨bb, off, none⟩) len cap)) (h1 : w.cell? ⟨B, 1, none⟩ = some (.int .i64 p)) (hf : w.frozen? ⟨B, 1, none⟩ = false)
    (hD : ∀ i, i < len → w.cell? ⟨bb, off + i, none⟩ = some (.int .u8 (D i)) ∧ 0 ≤ D i ∧ D i ≤ 255) (hne : bb ≠ B) :
    Calls Tryz.prog 63 #[.pointer (some ⟨B, 0, none⟩), .int .i64 n] w (Picked n p B w) := by
  have hlt : decide (n < 1) = false := by simp; omega
  have hl0 : ((len : Int) == 0) = false := by simp; omega
  have hn0 : (n == 0) = false := by simp; omega
  have hpl : decide ((p : Int) < (len : Int)) = false := by simp; omega
  have hfar : ∀ i, i < len → (w.setCell ⟨B, 1, none⟩ (.int .i64 ((p : Int) + 1))).cell? ⟨bb, off + i, none⟩ = some (.int .u8 (D i)) := by
    intro i hi
    rw [World.cell?_setCell_far]
    · exact (hD i hi).1
    · exact fun h => hne h.symm
  obtain ⟨i1, hi1⟩ : ∃ i, i = p % len := ⟨_, rfl⟩
  obtain ⟨i2, hi2⟩ : ∃ i, i = (p * 7 + 3) % len := ⟨_, rfl⟩
  obtain ⟨q, hq⟩ : ∃ i, i = p / len := ⟨_, rfl⟩
  have r1 : Int.tmod (p : Int) (len : Int) = (i1 : Int) := by rw [hi1, Int.tmod_eq_emod_of_nonneg (by omega)]; rfl
  have r2 : Int.tmod ((p : Int) * 7 + 3) (len : Int) = (i2 : Int) := by rw [hi2, Int.tmod_eq_emod_of_nonneg (by omega), show (p : Int) * 7 + 3 = ((p * 7 + 3 : Nat) : Int) by omega]; rfl
  have q1 : Int.tdiv (p : Int) (len : Int) = (q : Int) := by rw [hq, Int.tdiv_eq_ediv_of_nonneg (by omega)]; rfl
  have m1 : i1 < len := by rw [hi1]; exact Nat.mod_lt _ (by omega)
  have m2 : i2 < len := by rw [hi2]; exact Nat.mod_lt _ (by omega)
  have m3 : q ≤ p := by rw [hq]; exact Nat.div_le_self _ _
  have hD1 := hfar _ m1
  have hD2 := hfar _ m2
  have ⟨b1, b2⟩ := (hD _ m1).2
  have ⟨b3, b4⟩ := (hD _ m2).2
  generalize D i1 = x1 at *
  generalize D i2 = x2 at *
  have e1 : IntKind.i64.wrap ((p : Int) * 7) = (p : Int) * 7 := IntWalk.i64_in _ (by omega)
  have e2 : IntKind.i64.wrap ((p : Int) * 7 + 3) = (p : Int) * 7 + 3 := IntWalk.i64_in _ (by omega)
  have e3 : IntKind.i64.wrap x1 = x1 := IntWalk.i64_in _ (by omega)
  have e4 : IntKind.i64.wrap x2 = x2 := IntWalk.i64_in _ (by omega)
  have e5 : IntKind.i64.wrap (x1 * 131) = x1 * 131 := IntWalk.i64_in _ (by omega)
  have e6 : IntKind.i64.wrap (x2 * 1117) = x2 * 1117 := IntWalk.i64_in _ (by omega)
  have e7 : IntKind.i64.wrap (x1 * 131 + x2 * 1117) = x1 * 131 + x2 * 1117 := IntWalk.i64_in _ (by omega)
  have e8 : IntKind.i64.wrap ((p : Int) * 29) = (p : Int) * 29 := IntWalk.i64_in _ (by omega)
  have e9 : IntKind.i64.wrap (x1 * 131 + x2 * 1117 + (p : Int) * 29) = x1 * 131 + x2 * 1117 + (p : Int) * 29 := IntWalk.i64_in _ (by omega)
  have e10 : IntKind.i64.wrap ((q : Int) * 53) = (q : Int) * 53 := IntWalk.i64_in _ (by omega)
  obtain ⟨X, hX⟩ : ∃ X : Int, X = x1 * 131 + x2 * 1117 + (p : Int) * 29 + (q : Int) * 53 := ⟨_, rfl⟩
  have X0 : 0 ≤ X := by omega
  have X1 : X ≤ 20000000 := by omega
  have e11 : IntKind.i64.wrap (x1 * 131 + x2 * 1117 + (p : Int) * 29 + (q : Int) * 53) = X := (IntWalk.i64_in _ (by omega)).trans hX.symm
  clear hX
  have e12 : IntKind.i64.wrap (i1 : Int) = (i1 : Int) := IntWalk.i64_in _ (by omega)
  have e13 : IntKind.i64.wrap (i2 : Int) = (i2 : Int) := IntWalk.i64_in _ (by omega)
  have e14 : IntKind.i64.wrap (q : Int) = (q : Int) := IntWalk.i64_in _ (by omega)
  have n1 : (0 : Int) ≤ (i1 : Int) := by omega
  have n2 : (0 : Int) ≤ (i2 : Int) := by omega
  have n3 : (i1 : Int) < (len : Int) := by omega
  have n4 : (i2 : Int) < (len : Int) := by omega
  have n5 : ¬ (len : Int) = 0 := by omega
  have n6 : ¬ len = 0 := by omega
  clear hi1 hi2 hq
  have h0' : (w.setCell ⟨B, 1, none⟩ (.int .i64 ((p : Int) + 1))).cell? ⟨B, 0, none⟩ = some (.slice (some ⟨bb, off, none⟩) len cap) := by
    rw [World.cell?_setCell_other _ _ _ _ (by simp)]
    exact h0
  clear hD hfar
  go_enter Tryz.func63, Tryz.ntmps63
  go_wp2
  go_region_held3 (fun w' => w'.cell? ⟨B, 0, none⟩ = some (.slice (some ⟨bb, off, none⟩) len cap) ∧ w'.cell? ⟨bb, off + i1, none⟩ = some (.int .u8 x1) ∧ w'.cell? ⟨bb, off + i2, none⟩ = some (.int .u8 x2)) (go_keep) (fail)
  obtain ⟨Y, Y0, y1, y2⟩ := xor_some X X0 X1
  go_wp2
  go_returns
  exact ⟨_, 1, rfl, by first | (exact Int.emod_nonneg _ (by omega)) | (exact Int.tmod_nonneg _ (by omega)), by first | (exact Int.emod_lt_of_pos _ (by omega)) | (exact Int.tmod_lt_of_pos _ (by omega)), rfl⟩
end Go.Proofs.YtgaeibibeekclabGreatDoor
namespace Go.Proofs.YtgaeibibeekclabGreatDoor
open Go.RowKit
/-- The bytes that a reader in block B reads lie below it. -/
def Src (w : World) (B : Nat) (a : Option Addr) (len : Nat) : Prop :=
  len = 0 ∨ ∃ (bb off : Nat) (D : Nat → Int), a = some ⟨bb, off, none⟩ ∧ 1 ≤ len ∧ len ≤ 2000 ∧ bb < B ∧ ∀ i, i < len → w.cell? ⟨bb, off + i, none⟩ = some (.int .u8 (D i)) ∧ 0 ≤ D i ∧ D i ≤ 255
/-- A reader in block B at place p. -/
def Reads (w : World) (B : Nat) (a : Option Addr) (len cap : Nat) (p : Int) : Prop :=
  Src w B a len ∧ w.cell? ⟨B, 0, none⟩ = some (.slice a len cap) ∧ w.cell? ⟨B, 1, none⟩ = some (.int .i64 p) ∧ w.frozen? ⟨B, 1, none⟩ = false ∧ B < w.heap.size ∧ 0 ≤ p
theorem Src.below {w w' : World} {B : Nat} {a : Option Addr} {len : Nat} (h : Src w B a len) (hb : Below B w w') : Src w' B a len := by
  rcases h with h | ⟨bb, off, D, h1, h2, h3, h4, h5⟩
  · exact .inl h
  · refine .inr ⟨bb, off, D, h1, h2, h3, h4, fun i hi => ?_⟩
    rw [hb.cell (p := ⟨bb, off + i, none⟩) h4]
    exact h5 i hi
theorem Reads.below {w w' : World} {B : Nat} {a : Option Addr} {len cap : Nat} {p : Int} (h : Reads w B a len cap p) (hb : Below (B + 1) w w') : Reads w' B a len cap p := by
  obtain ⟨h1, h2, h3, h4, h5, h6⟩ := h
  refine ⟨h1.below (hb.mono (Nat.le_succ _)), ?_, ?_, ?_, Nat.lt_of_lt_of_le h5 hb.size, h6⟩
  · rw [hb.cell (p := ⟨B, 0, none⟩) (Nat.lt_succ_self _)]; exact h2
  · rw [hb.cell (p := ⟨B, 1, none⟩) (Nat.lt_succ_self _)]; exact h3
  · rw [hb.frozen (p := ⟨B, 1, none⟩) (Nat.lt_succ_self _)]; exact h4
/-- What a call of pick leaves, said so that a walk goes on from a world of a letter. -/
def Pick (w : World) (B : Nat) (a : Option Addr) (len cap : Nat) (p n : Int) (e : Ending) (w' : World) : Prop :=
  ∃ v : Int, e = .returned (.int .i64 v) ∧ 0 ≤ v ∧ v < n ∧ Reads w' B a len cap (p + 1) ∧ (∀ b o, b ≠ B → w'.cell? ⟨b, o, none⟩ = w.cell? ⟨b, o, none⟩) ∧ (∀ b o, b ≠ B → w'.frozen? ⟨b, o, none⟩ = w.frozen? ⟨b, o, none⟩) ∧ w'.heap.size = w.heap.size ∧ Below B w w'
theorem pick_of {w : World} {B : Nat} {a : Option Addr} {len cap : Nat} {p n : Int} {e : Ending} {w' : World} (h : Reads w B a len cap p) (hp : Picked n p B w e w') : Pick w B a len cap p n e w' := by
  obtain ⟨v, k, he, hv, hv', rfl⟩ := hp
  obtain ⟨h1, h2, h3, h4, h5, h6⟩ := h
  have hb : Below B w ((w.setCell ⟨B, 1, none⟩ (.int .i64 (p + 1))).drewN k) := below_drewN ((Below.refl B w).setCell (p := ⟨B, 1, none⟩) (Nat.le_refl B) (.int .i64 (p + 1))) k
  refine ⟨v, he, hv, hv', ⟨h1.below hb, ?_, ?_, ?_, ?_, by omega⟩, ?_, ?_, ?_, hb⟩
  · show (w.setCell ⟨B, 1, none⟩ (.int .i64 (p + 1))).cell? ⟨B, 0, none⟩ = _
    rw [World.cell?_setCell_other _ _ _ _ (by simp)]
    exact h2
  · show (w.setCell ⟨B, 1, none⟩ (.int .i64 (p + 1))).cell? ⟨B, 1, none⟩ = _
    exact World.cell?_setCell_same _ _ _ h3
  · show (w.setCell ⟨B, 1, none⟩ (.int .i64 (p + 1))).frozen? ⟨B, 1, none⟩ = _
    rw [World.frozen?_setCell]; exact h4
  · show B < (w.setCell ⟨B, 1, none⟩ (.int .i64 (p + 1))).heap.size
    simpa using h5
  · intro b o hne
    show (w.setCell ⟨B, 1, none⟩ (.int .i64 (p + 1))).cell? ⟨b, o, none⟩ = _
    exact World.cell?_setCell_far _ _ _ _ (fun h => hne h.symm)
  · intro b o hne
    show (w.setCell ⟨B, 1, none⟩ (.int .i64 (p + 1))).frozen? ⟨b, o, none⟩ = _
    simp
  · show (w.setCell ⟨B, 1, none⟩ (.int .i64 (p + 1))).heap.size = _
    simp
theorem pick_any (w : World) (B : Nat) (a : Option Addr) (len cap : Nat) (p n : Int) (h : Reads w B a len cap p) (hn : 1 ≤ n) (hp : p ≤ 100000) :
    Calls Tryz.prog 63 #[.pointer (some ⟨B, 0, none⟩), .int .i64 n] w (Pick w B a len cap p n) := by
  refine Calls.mono ?_ (fun e w' hp => pick_of h hp)
  obtain ⟨h1, h2, h3, h4, h5, h6⟩ := h
  rcases h1 with rfl | ⟨bb, off, D, rfl, hl1, hl, hbb, hD⟩
  · exact pick_none a cap B n p w hn ⟨h6, hp⟩ h2 h3 h4
  · obtain ⟨q, rfl⟩ := Int.eq_ofNat_of_zero_le h6
    by_cases hq : q < len
    · exact pick_low bb off len cap D B n q w hn hl hq h2 h3 h4 (hD q hq).1 (hD q hq).2 (Nat.ne_of_lt hbb)
    · exact pick_far bb off len cap D B n q w hn hl hl1 (by omega) (by omega) h2 h3 h4 hD (Nat.ne_of_lt hbb)
end Go.Proofs.YtgaeibibeekclabGreatDoor
namespace Go.Proofs.YtgaeibibeekclabGreatDoor
open Go.RowKit
/-- All blocks below n0, but B, are as they were. -/
def Kept (n0 B : Nat) (w w' : World) : Prop :=
  (∀ b o, b < n0 → b ≠ B → w'.cell? ⟨b, o, none⟩ = w.cell? ⟨b, o, none⟩ ∧ w'.frozen? ⟨b, o, none⟩ = w.frozen? ⟨b, o, none⟩) ∧ w.heap.size ≤ w'.heap.size
theorem Kept.trans {n0 B : Nat} {a b c : World} (h : Kept n0 B a b) (k : Kept n0 B b c) : Kept n0 B a c :=
  ⟨fun x o h1 h2 => ⟨(k.1 x o h1 h2).1.trans (h.1 x o h1 h2).1, (k.1 x o h1 h2).2.trans (h.1 x o h1 h2).2⟩, Nat.le_trans h.2 k.2⟩
theorem Kept.of_below {n0 B : Nat} {w w' : World} (h : Below n0 w w') : Kept n0 B w w' :=
  ⟨fun _ _ h1 _ => ⟨h.cell (p := ⟨_, _, none⟩) h1, h.frozen (p := ⟨_, _, none⟩) h1⟩, h.size⟩
theorem Kept.of_pick {n0 B : Nat} {w w' : World} (k : ∀ b o, b ≠ B → w'.cell? ⟨b, o, none⟩ = w.cell? ⟨b, o, none⟩) (f : ∀ b o, b ≠ B → w'.frozen? ⟨b, o, none⟩ = w.frozen? ⟨b, o, none⟩) (s : w'.heap.size = w.heap.size) : Kept n0 B w w' :=
  ⟨fun b o _ h => ⟨k b o h, f b o h⟩, Nat.le_of_eq s.symm⟩
end Go.Proofs.YtgaeibibeekclabGreatDoor
namespace Go.Proofs.YtgaeibibeekclabGreatDoor
open Go.RowKit
/-- A slice of bytes that came in: empty, or a row of bytes that lies in the memory. -/
def Bytes (w : World) (a : Option Addr) (len cap : Nat) : Prop :=
  len ≤ cap ∧ cap ≤ maxLen ∧ (len = 0 ∨ ∃ (bb off : Nat) (D : Nat → Int), a = some ⟨bb, off, none⟩ ∧ bb < w.heap.size ∧ ∀ i, i < len → w.cell? ⟨bb, off + i, none⟩ = some (.int .u8 (D i)) ∧ 0 ≤ D i ∧ D i ≤ 255)
theorem Bytes.src {w w' : World} {a : Option Addr} {len cap k : Nat} (h : Bytes w a len cap) (hb : Below w.heap.size w w') (hk : k ≤ len) (hk2 : k ≤ 2000) : Src w' w.heap.size a k := by
  obtain ⟨h1, h2, h3⟩ := h
  rcases Nat.eq_zero_or_pos k with hz | hz
  · exact .inl hz
  · rcases h3 with h3 | ⟨bb, off, D, h4, h5, h6⟩
    · omega
    · refine .inr ⟨bb, off, D, h4, hz, hk2, h5, fun i hi => ?_⟩
      rw [hb.cell (p := ⟨bb, off + i, none⟩) h5]
      exact h6 i (by omega)
/-- A reader at the beginning, in the first new block. -/
def Opened (w : World) (a : Option Addr) (e : Ending) (w' : World) : Prop :=
  ∃ len cap : Nat, e = .returned (.pointer (some ⟨w.heap.size, 0, none⟩)) ∧ Reads w' w.heap.size a len cap 0 ∧ Below w.heap.size w w' ∧ w'.heap.size = w.heap.size + 1
set_option maxHeartbeats 2000000 in
theorem l6Open_any (w : World) (a : Option Addr) (len cap : Nat) (h : Bytes w a len cap) :
    Calls Tryz.prog 33 #[.slice a len cap] w (Opened w a) := by
  have h1 := h.1
  have h2 := h.2.1
  unfold maxLen at h2
  by_cases hl : 2000 < len
  · rcases h.2.2 with h3 | ⟨bb, off, D, rfl, h5, h6⟩
    · omega
    · have hb : Below w.heap.size w (w.alloc (.cells #[.slice (some ⟨bb, off, none⟩) 2000 cap, .int .i64 0] 76)) := by go_grown
      have hs := h.src (k := 2000) hb (by omega) (by omega)
      have c1 : (2000 : Int) ≤ (cap : Int) := by omega
      have c2 : (2000 : Int) < (len : Int) := by omega
      clear h h6
      go_enter Tryz.func33, Tryz.ntmps33
      go_wp2
      go_returns
      exact ⟨2000, cap, rfl, ⟨hs, by simp, by simp, by simp, by simp, by omega⟩, hb, by simp⟩
  · have hb : Below w.heap.size w (w.alloc (.cells #[.slice a len cap, .int .i64 0] 76)) := by go_grown
    have hs := h.src (k := len) hb (by omega) (by omega)
    have c2 : (len : Int) ≤ 2000 := by omega
    clear h
    go_enter Tryz.func33, Tryz.ntmps33
    go_wp2
    go_returns
    exact ⟨len, cap, rfl, ⟨hs, by simp, by simp, by simp, by simp, by omega⟩, hb, by simp⟩
end Go.Proofs.YtgaeibibeekclabGreatDoor
namespace Go.Proofs.YtgaeibibeekclabGreatDoor
open Go.RowKit
theorem pickG_any (w : World) (B : Nat) (a : Option Addr) (len cap : Nat) (p n : Int) (h : Reads w B a len cap p) (hn : 1 ≤ n) (hp : p ≤ 100000) :
    Calls Tryz.prog 63 #[.pointer (some ⟨B, 0, none⟩), .int .i64 n] w fun e w' => Pick w B a len cap p n e w' ∧ w.grownBy w' (some B) := by
  have key : Calls Tryz.prog 63 #[.pointer (some ⟨B, 0, none⟩), .int .i64 n] w (Picked n p B w) := by
    obtain ⟨h1, h2, h3, h4, h5, h6⟩ := h
    rcases h1 with rfl | ⟨bb, off, D, rfl, hl1, hl, hbb, hD⟩
    · exact pick_none a cap B n p w hn ⟨h6, hp⟩ h2 h3 h4
    · obtain ⟨q, rfl⟩ := Int.eq_ofNat_of_zero_le h6
      by_cases hq : q < len
      · exact pick_low bb off len cap D B n q w hn hl hq h2 h3 h4 (hD q hq).1 (hD q hq).2 (Nat.ne_of_lt hbb)
      · exact pick_far bb off len cap D B n q w hn hl hl1 (by omega) (by omega) h2 h3 h4 hD (Nat.ne_of_lt hbb)
  refine key.mono fun e w' hp' => ⟨pick_of h hp', ?_⟩
  obtain ⟨v, k, _, _, _, rfl⟩ := hp'
  refine ⟨rfl, rfl, rfl, by simp, fun i _ hne => ?_⟩
  show ((w.setCell ⟨B, 1, none⟩ (.int .i64 (p + 1))).drewN k).heap[i]? = _
  rw [World.heap_drewN]
  exact Below.heap_setCell w ⟨B, 1, none⟩ _ i (fun e => hne (by rw [e]))
end Go.Proofs.YtgaeibibeekclabGreatDoor
namespace Go.Proofs.YtgaeibibeekclabGreatDoor
open Go.RowKit
theorem infoVec : (Tryz.prog.info? 55).map (fun i => (i.zero, i.size, i.bytes)) = some (some (.agg #[.int .i64 (0), .int .i64 (0)]), 2, 16) := by kernel_rfl
end Go.Proofs.YtgaeibibeekclabGreatDoor
namespace Go.Proofs.YtgaeibibeekclabGreatDoor
open Go.RowKit
theorem Vecs.one (w : World) (x y : Int) : Vecs (w.alloc (.cells #[.int .i64 x, .int .i64 y] 55)) w.heap.size (.slice (some ⟨w.heap.size, 0, none⟩) 1 1) [(x, y)] :=
  ⟨rfl, .inr ⟨w.heap.size, 1, #[.int .i64 x, .int .i64 y], rfl, Nat.le_refl _, heap_alloc_new w _, Nat.le_refl _, by decide, rfl, rfl⟩⟩
theorem Vecs.snoc {w : World} {base n : Nat} {v : Value} {l : List (Int × Int)} {x y : Int} (hn : n = l.length) (h : w.ownsRow base 55 2 v (n + 1) (intsV (flat l) ++ [.int .i64 x, .int .i64 y])) : Vecs w base v (l ++ [(x, y)]) := by
  unfold Vecs VRow
  rw [flat_app, List.length_append, ← hn]
  have : intsV (flat l ++ flat [(x, y)]) = intsV (flat l) ++ [.int .i64 x, .int .i64 y] := by simp [intsV, flat]
  rw [this]
  exact h
end Go.Proofs.YtgaeibibeekclabGreatDoor
namespace Go.Proofs.YtgaeibibeekclabGreatDoor
open Go.RowKit
set_option maxHeartbeats 4000000 in
theorem primitive_any (x y : Int) (w : World) (h1 : vecB x y = true) (hne : ¬ (x = 0 ∧ y = 0)) :
    Calls Tryz.prog 87 #[.agg #[.int .i64 (x), .int .i64 (y)]] w fun e w' => e = .returned (.tuple #[.agg #[.int .i64 (x.tdiv (gcdZ x y)), .int .i64 (y.tdiv (gcdZ x y))], .int .i64 (gcdZ x y)]) ∧ Below w.heap.size w w' := by
  obtain ⟨hx, hy⟩ := szs h1
  have hp := gcdZ_pos hne
  have hl := gcdZ_le (x := x) (y := y) (n := 1000) hx hy
  have ⟨_, _⟩ := tdiv_bd (m := gcdZ x y) hx
  have ⟨_, _⟩ := tdiv_bd (m := gcdZ x y) hy
  have gb : (gcdZ x y == 0) = false := by simp; omega
  clear h1 hne
  go_enter Tryz.func87, Tryz.ntmps87
  (go_wp2_with fail; go_call (commonDivisor_any x y _ hx hy) as e w1 ⟨rfl, hb1⟩); obtain ⟨hc1, hf1⟩ := bcell hb1; have hz1 := bsize hb1
  go_wp2
  go_region
  all_goals go_wp2
  all_goals (have hB := belowTo (a := w) (by go_grown) hb1; have hS := hB.size; (refine bodyPost_ret (by simp [results, Tryz.results87, go_sem, bcs hb1]; try rfl) rfl ?_); clear hb1)
  all_goals exact ⟨rfl, by go_grown⟩
set_option maxHeartbeats 2000000 in
theorem l1Primitive_any (x y : Int) (w : World) (h1 : vecB x y = true) (h2 : nzB x y = true) :
    Calls Tryz.prog 78 #[.agg #[.int .i64 (x), .int .i64 (y)]] w fun e w' => e = .returned (.agg #[.int .i64 (x.tdiv (gcdZ x y)), .int .i64 (y.tdiv (gcdZ x y))]) ∧ Below w.heap.size w w' := by
  obtain ⟨hx, hy⟩ := szs h1
  have hne : ¬ (x = 0 ∧ y = 0) := by rintro ⟨rfl, rfl⟩; simp [nzB] at h2
  have hp := gcdZ_pos hne
  have hl := gcdZ_le (x := x) (y := y) (n := 1000) hx hy
  have ⟨_, _⟩ := tdiv_bd (m := gcdZ x y) hx
  have ⟨_, _⟩ := tdiv_bd (m := gcdZ x y) hy
  have gb : (gcdZ x y == 0) = false := by simp; omega
  clear h1 h2 hne
  go_enter Tryz.func78, Tryz.ntmps78
  (go_wp2_with fail; go_call (l1Gcd_any x y _ hx hy) as e w1 ⟨rfl, hb1⟩); obtain ⟨hc1, hf1⟩ := bcell hb1; have hz1 := bsize hb1
  go_wp2
  go_region
  all_goals go_wp2
  all_goals (have hB := belowTo (a := w) (by go_grown) hb1; have hS := hB.size; (refine bodyPost_ret (by simp [results, Tryz.results78, go_sem, bcs hb1]; try rfl) rfl ?_); clear hb1)
  all_goals exact ⟨rfl, by go_grown⟩
end Go.Proofs.YtgaeibibeekclabGreatDoor
namespace Go.Proofs.YtgaeibibeekclabGreatDoor
open Go.RowKit
theorem run_neSame (x y : Int) (w : World) : (binOp .neq 55 (.agg #[.int .i64 (x), .int .i64 (y)]) (.agg #[.int .i64 (x), .int .i64 (y)])).run Tryz.prog w = .ok (.bool false) w := by
  have hS : Tryz.prog.underlying 55 = some (.struct (Tryz.prog.fieldsOf 55)) := by kernel_rfl
  have hp : Tryz.prog.stoodInHeld 55 = false := by kernel_rfl
  have u3 := Tryz.underlying3
  have a3 := Tryz.isAgg3
  have z3 := Tryz.sizeOf3
  rw [run_neq_struct, show (10000 : Nat) = 9999 + 1 from rfl, run_equalIn_agg w 9999 55 _ _ hS hp]
  simp only [Program.fieldsOf, Tryz.underlying55]
  go_simp
set_option maxHeartbeats 4000000 in
theorem sameVecs_nil (a b : Option Addr) (c d : Nat) (w : World) :
    Calls Tryz.prog 16 #[.slice a 0 c, .slice b 0 d] w fun e w' => e = .returned (.bool true) ∧ Below w.heap.size w w' := by
  go_enter Tryz.func16, Tryz.ntmps16
  go_wp2
  refine wp_loop_rounds 1 ?_
  rw [rounds_succ]
  go_wp2
  go_returns
  exact ⟨rfl, Below.refl _ _⟩
end Go.Proofs.YtgaeibibeekclabGreatDoor
