/- slices.Backward over a fraction: the iterator's contract. -/
import Derived.RangeFuncNested
import Derived.RangeFuncBound
import Derived.RangeFuncCalls
import Derived.RangeFuncLeaves
import Derived.Shelf.Abstract
import Derived.Shelf.RegionOpen
import Derived.WalkKit
import Derived.OwnWalkIn
import Derived.TacticsInMore
import Derived.LoopNIn
import Derived.LoopIn
import Derived.Test.YtjlobpccnplebaaDoorFc
namespace Go.Proofs.YtjlobpccnplebaaDoor
open Go.RowKit Go.Shelf

attribute [local go_sem] Oper.semAt_some

/-- what a round is handed: a place and a number that a fraction may have -/
abbrev Elem := { x : Nat × Int // rngB x.2 = true }
/-- the k-th that comes: from the last place on -/
def elemAt (l : List Int) (h : ∀ b ∈ l, rngB b = true) (k : Nat) : Elem :=
  if hk : k < l.length then ⟨(l.length - 1 - k, l[l.length - 1 - k]'(by omega)), h _ (List.getElem_mem _)⟩ else ⟨(0, 2), by decide⟩
theorem elemAt_fst {l : List Int} {h : ∀ b ∈ l, rngB b = true} {k : Nat} (hk : k < l.length) : (elemAt l h k).1 = (l.length - 1 - k, l[l.length - 1 - k]?.getD 0) := by
  have h2 : l.length - 1 - k < l.length := by omega
  simp [elemAt, hk, h2]
def upTo {α : Type} (f : Nat → α) (k : Nat) : List α := (List.range k).map f
theorem upTo_succ {α : Type} (f : Nat → α) (k : Nat) : upTo f (k + 1) = upTo f k ++ [f k] := by simp [upTo, List.range_succ]
theorem upTo_len {α : Type} (f : Nat → α) (k : Nat) : (upTo f k).length = k := by simp [upTo]

/-- What a round keeps: all blocks below n₀, and the box of the slice that is ranged over. -/
def KeepBox (n₀ Bs : Nat) (A B : World) : Prop := Below n₀ A B ∧ (∀ v, A.cell? ⟨Bs, 0, none⟩ = some v → B.cell? ⟨Bs, 0, none⟩ = some v)
theorem KeepBox.refl (n₀ Bs : Nat) (A : World) : KeepBox n₀ Bs A A := ⟨Below.refl _ _, fun _ h => h⟩
theorem KeepBox.trans {n₀ Bs : Nat} {A B C : World} (h : KeepBox n₀ Bs A B) (k : KeepBox n₀ Bs B C) : KeepBox n₀ Bs A C := ⟨h.1.trans k.1, fun v e => k.2 v (h.2 v e)⟩
theorem KeepBox.put {n₀ Bs : Nat} {w : World} (hn : n₀ ≤ w.heap.size) (W : World) (l : Nat) (o o' : Obj) (hl : w.heap.size ≤ l) (h : W.heap[l]? = some o) (ho : o.isCells = false) (hw : o.isWalk = false) : KeepBox n₀ Bs W (W.putObj l o') :=
  ⟨belowK_b hn W l o o' hl h ho hw, fun _ hv => cell_kept hv (grownBy_putObj' W l o') (fun r e => by cases e; exact ⟨o, h, ho⟩)⟩
theorem KeepBox.set {n₀ Bs : Nat} {A B : World} (h : KeepBox n₀ Bs A B) {g : Nat} (v : Value) (hg : n₀ ≤ g) (hne : g ≠ Bs) : KeepBox n₀ Bs A (B.setCell ⟨g, 0, none⟩ v) :=
  ⟨h.1.setCell (p := ⟨g, 0, none⟩) hg v, fun u e => by rw [World.cell?_setCell_far _ _ _ _ hne]; exact h.2 u e⟩

set_option maxRecDepth 100000 in
set_option maxHeartbeats 2000000 in
theorem back1_in (F : Fence) (n : Nat) (hf : F.fn 102) (hro : F.round = none) (hn : 1 ≤ n) (l Bs n₀ b off len cap : Nat) (zs : List Int) (hz : ∀ b ∈ zs, rngB b = true) (hlen : len = zs.length) (hreach : len * 8 ≤ 140737488351232) (hb : b < n₀) (J Jx : List Elem → World → Prop)
    (hY : ∀ pre x W, J pre W → pre.length < len → YieldAt F (n - 1) Tryd.prog l #[.int .i64 (x.1.1 : Int), .int .i64 x.1.2] W fun e W' =>
      (e = .returned (.bool true) ∧ J (pre ++ [x]) W' ∧ KeepBox n₀ Bs W W') ∨ (e = .returned (.bool false) ∧ Jx (pre ++ [x]) W'))
    (W : World) (hBs : W.cell? ⟨Bs, 0, none⟩ = some (.slice (some ⟨b, off, none⟩) len cap)) (hc : ∀ j, j < len → W.cell? ⟨b, off + j, none⟩ = some (.int .i64 (zs[j]?.getD 0))) (h0 : J [] W) :
    CallsIn F n Tryd.prog 102 #[.func (.yield l) #[] #[], .pointer (some ⟨Bs, 0, none⟩)] W fun e W' => (∃ v, e = .returned v) ∧
      ((∃ ys, ys = upTo (elemAt zs hz) len ∧ J ys W') ∨ (∃ pre, (∃ k, k ≤ len ∧ pre = upTo (elemAt zs hz) k) ∧ Jx pre W')) := by
  refine callsIn_of_wp Tryd.func102 rfl hf ?_ hro
  simp only [Tryd.ntmps102, List.size_toArray, List.length_cons, List.length_nil, Nat.reduceAdd, Nat.reduceSub, Array.replicate_succ, Array.replicate_zero, List.push_toArray, List.append_toArray, List.nil_append, List.cons_append]
  have HC := Lib.hid hc
  have HZ := Lib.hid hlen
  clear hc hlen
  gi_wp2
  gi_loopw [3] (fun i wr => ∃ k : Nat, k ≤ len ∧ i = .int .i64 ((len : Int) - 1 - k) ∧ J (upTo (elemAt zs hz) k) wr ∧ KeepBox n₀ Bs W wr)
    (fun i _ => (intOf i + 1).toNat)
  case atStart => exact ⟨0, Nat.zero_le _, by simp, h0, KeepBox.refl _ _ _⟩
  case round =>
    obtain ⟨k, hk, rfl, hJs, hnx⟩ := hrel
    by_cases hlt : k < len
    · obtain ⟨i, hi⟩ : ∃ i : Nat, i = len - 1 - k := ⟨_, rfl⟩
      have hi2 : (len : Int) - 1 - k = (i : Int) := by omega
      have hcx : wr.cell? ⟨b, off + i, none⟩ = some (.int .i64 (zs[i]?.getD 0)) := (hnx.1.cell (p := ⟨b, off + i, none⟩) hb).trans (HC.out i (by omega))
      have hbx : wr.cell? ⟨Bs, 0, none⟩ = some (.slice (some ⟨b, off, none⟩) len cap) := hnx.2 _ hBs
      have he : (elemAt zs hz k).1 = (i, zs[i]?.getD 0) := by
        rw [elemAt_fst (by have := HZ.out; omega), hi, HZ.out]
      obtain ⟨fn, tmps, assign, body, hy, hR⟩ := hY _ (elemAt zs hz k) wr hJs (by rw [upTo_len]; exact hlt)
      rw [he] at hy
      dsimp only at hy
      have hi3 : i < len := by omega
      have HI := Lib.hid hi
      rw [hi2]
      clear hi he
      have j1 : (0 : Int) ≤ (i : Int) := by omega
      have j2 : (i : Int) < (len : Int) := by omega
      gi_wp2
      refine hR.mono ?_
      rintro e W3 (⟨rfl, hJ3, hk3⟩ | ⟨rfl, hJx3⟩)
      · gi_wp2
        go_roundw
        case rel => exact ⟨k + 1, by omega, by first | (go_num; done) | (congr 1; omega) | (simp; omega), by rw [upTo_succ]; exact hJ3, hnx.trans hk3⟩
        case measure => first | (simp [intOf]; done) | (simp [intOf]; omega)
      · gi_wp2
        refine bodyPost_ret (results_none rfl _ _ _) rfl ?_
        exact ⟨⟨_, rfl⟩, .inr ⟨_, ⟨k + 1, by omega, (upTo_succ _ _).symm⟩, hJx3⟩⟩
    · obtain rfl : k = len := by omega
      have hi2 : (k : Int) - 1 - k = -1 := by omega
      rw [hi2]
      gi_wp2
      go_end0
      exact ⟨⟨_, rfl⟩, .inl ⟨_, rfl, hJs⟩⟩

set_option maxHeartbeats 1000000 in
theorem back_in (F : Fence) (n : Nat) (hf : F.fn 94) (hro : F.round = none) (a : Option Addr) (len cap : Nat) (w : World) :
    CallsIn F n Tryd.prog 94 #[.slice a len cap] w fun e w' => e = .returned (.func (.func 102) #[] #[.pointer (some ⟨w.heap.size, 0, none⟩)]) ∧ w' = w.alloc (.cells #[.slice a len cap] 78) := by
  refine callsIn_of_wp Tryd.func94 rfl hf ?_ hro
  simp only [Tryd.ntmps94, List.size_toArray, List.length_cons, List.length_nil, Nat.reduceAdd, Nat.reduceSub, Array.replicate_succ, Array.replicate_zero, List.push_toArray, List.append_toArray, List.nil_append, List.cons_append]
  gi_wp2
  go_ret
  exact ⟨rfl, rfl⟩

/-- the iterator's contract, as the caller's law wants it -/
theorem back_stops (F : Fence) (n : Nat) (hf : F.fn 102) (hro : F.round = none) (hn : 1 ≤ n) (Bs n₀ b off len cap : Nat) (zs : List Int) (hz : ∀ b ∈ zs, rngB b = true) (hlen : len = zs.length) (hreach : len * 8 ≤ 140737488351232) (hb : b < n₀) (w : World) (hBs : Bs < w.heap.size) (hn₀ : n₀ ≤ w.heap.size)
    (hc : w.cell? ⟨Bs, 0, none⟩ = some (.slice (some ⟨b, off, none⟩) len cap)) (hI : ∀ j, j < len → w.cell? ⟨b, off + j, none⟩ = some (.int .i64 (zs[j]?.getD 0))) :
    SeqStopsK F n Tryd.prog 102 #[.pointer (some ⟨Bs, 0, none⟩)] (fun x : Elem => #[Value.int .i64 (x.1.1 : Int), Value.int .i64 x.1.2]) (KeepBox n₀ Bs) (fun ys => ys = upTo (elemAt zs hz) len)
      (fun pre => ∃ k, k ≤ len ∧ pre = upTo (elemAt zs hz) k) len w := fun l J Jx W hW _ _ hY h0 => by
  refine back1_in F n hf hro hn l Bs n₀ b off len cap zs hz hlen hreach hb J Jx hY W ((hW.cell (p := ⟨Bs, 0, none⟩) hBs).trans hc) (fun j hj => (hW.cell (p := ⟨b, off + j, none⟩) (Nat.lt_of_lt_of_le hb hn₀)).trans (hI j hj)) h0
end Go.Proofs.YtjlobpccnplebaaDoor
