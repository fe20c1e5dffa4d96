import Derived.Test.YtgaeibibeekclaaGreatDoorKb
import Derived.Test.YtgaeibibeekclaaGreatDoorBb
import Derived.Test.YtgaeibibeekclaaGreatDoorB3
import Derived.Test.YtgaeibibeekclaaGreatDoorBc
import Derived.Test.YtgaeibibeekclaaGreatDoorBs
/- Fans: built from a list of cones: both sides. -/
namespace Go.Proofs.YtgaeibibeekclaaGreatDoor
open Go.RowKit

def buildS : List Int → List V2 → Option (List V2)
  | [], l => some l
  | i :: r, l => if smoothB l && blowB l i then buildS r (blowL l i.toNat (blowP l i.toNat)) else none
def triL : List V2 := [(1, 0), (0, 1), (-1, -1)]
theorem tri_smooth : smoothB triL = true := by decide +kernel
def builtB (is : List Int) : Bool := (buildS is triL).isSome
def builtL (is : List Int) : List V2 := (buildS is triL).getD []
theorem build_step {is : List Int} {k : Nat} {l : List V2} (hk : k < is.length) : buildS (is.drop k) l = if smoothB l && blowB l (is[k]?.getD 0) then buildS (is.drop (k + 1)) (blowL l (is[k]?.getD 0).toNat (blowP l (is[k]?.getD 0).toNat)) else none := by
  rw [List.drop_eq_getElem_cons hk, List.getElem?_eq_getElem hk]
  rfl
theorem build_len (is : List Int) : ∀ l l', l.length ≤ 20 → buildS is l = some l' → l'.length ≤ 20 := by
  induction is with
  | nil => intro l l' h e; cases e; exact h
  | cons i r ih =>
    intro l l' h e
    unfold buildS at e
    split at e
    · next hc =>
      rw [Bool.and_eq_true] at hc
      have h2 := hc.2
      unfold blowB at h2
      rw [Bool.and_eq_true] at h2
      exact ih _ _ (fan_len h2.2).2 e
    · cases e
theorem built_len {is : List Int} (h : builtB is = true) : (builtL is).length ≤ 20 := by
  unfold builtB at h
  obtain ⟨l', hl⟩ := Option.isSome_iff_exists.1 h
  unfold builtL
  rw [hl]
  exact build_len is triL l' (by decide) hl
theorem smooth_snoc {l : List V2} {p : V2} (h : Smooth l) (h0 : 0 < l.length) (hp : vecB p.1 p.2 = true) (h1 : detV (cyc l (l.length - 1)) p = 1) (h2 : detV p (cyc l 0) = 1) : Smooth (l ++ [p]) := by
  refine smooth_of (by simp) (fun i hi => ?_) (fun i hi => ?_)
  · simp at hi
    by_cases e : i < l.length
    · rw [cyc_app_lt e]; exact h.1 i
    · rw [show i = l.length by omega, cyc_app_last]; exact hp
  · simp at hi
    by_cases e : i + 1 < l.length
    · rw [cyc_app_lt (by omega), cyc_app_lt e]; exact h.2 i
    · by_cases e2 : i + 1 = l.length
      · rw [cyc_app_lt (by omega), e2, cyc_app_last, show i = l.length - 1 by omega]; exact h1
      · obtain rfl : i = l.length := by omega
        rw [cyc_app_last]
        have : cyc (l ++ [p]) (l.length + 1) = cyc (l ++ [p]) 0 := by
          have := cyc_add (l ++ [p]) 0
          rwa [show 0 + (l ++ [p]).length = l.length + 1 by simp] at this
        rw [this, cyc_app_lt h0]
        exact h2
theorem rot_blowV {l : List V2} {i : Nat} {p : V2} : rot (l.length - (i + 1)) (rot (i + 1) l ++ [p]) = blowL l i p := by
  unfold rot blowL
  rw [List.append_assoc, ← List.length_drop, List.drop_left, List.take_left]
theorem blow_cyc {l : List V2} {i : Nat} {p : V2} (h : i < l.length) : cyc (blowL l i p) (i + 1) = p := by
  rw [cyc_lt (by rw [blowL_len h]; omega)]
  unfold blowL
  have e : (l.take (i + 1)).length = i + 1 := by simp; omega
  rw [List.append_assoc, List.getElem?_append_right (by omega), e, Nat.sub_self]
  rfl
theorem smooth_blow {l : List V2} {i : Nat} (h : Smooth l) (hi : i < l.length) (hf : fanB (blowL l i (blowP l i)) = true) : smoothB (blowL l i (blowP l i)) = true := by
  have hv := fan_vec hf (i + 1)
  rw [blow_cyc hi] at hv
  have hr := smooth_rot (k := i + 1) h (by omega)
  have hd := h.2 i
  have hlast : cyc (rot (i + 1) l) ((rot (i + 1) l).length - 1) = cyc l i := by
    rw [rot_len, cyc_rot (by omega), show i + 1 + (l.length - 1) = i + l.length by omega, cyc_add]
  have hfirst : cyc (rot (i + 1) l) 0 = cyc l (i + 1) := by rw [cyc_rot (by omega), Nat.add_zero]
  have hS : Smooth (blowL l i (blowP l i)) := by
    rw [← rot_blowV]
    refine smooth_rot (smooth_snoc hr (by rw [rot_len]; omega) hv ?_ ?_) (by simp [rot_len]; omega)
    · rw [hlast]
      unfold detV detZ blowP at *
      rw [Int.mul_add, Int.mul_add, Int.mul_comm (cyc l i).1 (cyc l i).2]
      omega
    · rw [hfirst]
      unfold detV detZ blowP at *
      rw [Int.add_mul, Int.add_mul, Int.mul_comm (cyc l (i + 1)).1 (cyc l (i + 1)).2]
      omega
  unfold smoothB
  rw [hf, Bool.true_and]
  exact List.all_eq_true.2 (fun j _ => by simpa [smB] using hS.2 j)
theorem Vecs.tri (w : World) : Vecs (w.alloc (.cells #[.int .i64 1, .int .i64 0, .int .i64 0, .int .i64 1, .int .i64 (-1), .int .i64 (-1)] 25)) w.heap.size (.slice (some ⟨w.heap.size, 0, none⟩) 3 3) triL :=
  ⟨rfl, .inr ⟨w.heap.size, 3, #[.int .i64 1, .int .i64 0, .int .i64 0, .int .i64 1, .int .i64 (-1), .int .i64 (-1)], rfl, Nat.le_refl _, heap_alloc_new w _, Nat.le_refl _, by decide, rfl, rfl⟩⟩
def BuildI (w : World) (is : List Int) (s4 s5 : Value) (wr : World) : Prop :=
  ∃ (L : List V2) (k : Nat), Vecs wr w.heap.size s4 L ∧ s5 = .int .i64 k ∧ k ≤ is.length ∧ L.length ≤ 20 ∧ buildS (is.drop k) L = buildS is triL ∧ Below w.heap.size w wr
end Go.Proofs.YtgaeibibeekclaaGreatDoor

/- The draws of chapters 3 and 4: a smooth fan, seldom another list: the list alone, and where it lies. -/
namespace Go.Proofs.YtgaeibibeekclaaGreatDoor
open Go.RowKit

/-- vectors in memory from block 'base' on: perhaps a part of a longer slice -/
def VecsO (w : World) (base : Nat) (v : Value) (l : List V2) : Prop := ReadsVecs w v l ∧ ∀ bb off n c, v = .slice (some ⟨bb, off, none⟩) n c → base ≤ bb
theorem VecsO.below {w w' : World} {base : Nat} {v : Value} {l : List V2} (h : VecsO w base v l) (hb : Below w.heap.size w w') : VecsO w' base v l := ⟨h.1.below hb, h.2⟩
theorem VecsO.lower {w : World} {base base' : Nat} {v : Value} {l : List V2} (h : VecsO w base v l) (hb : base' ≤ base) : VecsO w base' v l := ⟨h.1, fun bb off n c e => Nat.le_trans hb (h.2 bb off n c e)⟩
theorem VecsO.picked {w w' : World} {base B : Nat} {v : Value} {l : List V2} (h : VecsO w base v l) (hg : w.grownBy w' (some B)) (hB : B < base) : VecsO w' base v l := by
  obtain ⟨⟨a, c, rfl, hc, hm, hcell⟩, h2⟩ := h
  refine ⟨⟨a, c, rfl, hc, hm, fun h0 => ?_⟩, h2⟩
  obtain ⟨bb, off, rfl, hb, hcs⟩ := hcell h0
  have hbb := h2 bb off _ _ rfl
  have e : w'.heap[bb]? = w.heap[bb]? := hg.block bb hb (fun e => by cases e; omega)
  exact ⟨bb, off, rfl, Nat.lt_of_lt_of_le hb hg.size, fun j hj => ⟨(World.cell?_of_block (a := ⟨bb, off + j * 2, none⟩) e).trans (hcs j hj).1, (World.cell?_of_block (a := ⟨bb, off + j * 2 + 1, none⟩) e).trans (hcs j hj).2⟩⟩
theorem VecsO.of {w : World} {base : Nat} {v : Value} {l : List V2} (h : Vecs w base v l) (hl : l.length ≤ 1000) (h0 : 0 < l.length) : VecsO w base v l := by
  refine ⟨h.reads (by omega), fun bb off n c e => ?_⟩
  subst e
  have h' := h
  unfold Vecs at h'
  rcases h'.form with ⟨h1, _⟩ | ⟨_, g, c', e2, hg, _, _⟩
  · omega
  · injection e2 with e3
    injection e3 with e4
    injection e4 with e5
    subst e5
    exact hg
theorem VecsO.open {w : World} {base : Nat} {v : Value} {l : List V2} (h : VecsO w base v l) (h0 : 0 < l.length) : ∃ bb off c, v = .slice (some ⟨bb, off, none⟩) l.length c ∧ l.length ≤ c ∧ base ≤ bb ∧ bb < w.heap.size ∧
    ∀ j, j < l.length → w.cell? ⟨bb, off + j * 2, none⟩ = some (.int .i64 (cyc l j).1) ∧ w.cell? ⟨bb, off + j * 2 + 1, none⟩ = some (.int .i64 (cyc l j).2) := by
  obtain ⟨⟨a, c, rfl, hc, hm, hcell⟩, h2⟩ := h
  obtain ⟨bb, off, rfl, hb, hcs⟩ := hcell h0
  exact ⟨bb, off, c, rfl, hc, h2 bb off _ _ rfl, hb, hcs⟩
theorem VecsO.tail {w : World} {base : Nat} {bb off n c : Nat} {l : List V2} (hbb : base ≤ bb) (hb : bb < w.heap.size) (hn : l.length = n + 1) (hc : n + 1 ≤ c) (hm : n ≤ 1000)
    (hcs : ∀ j, j < l.length → w.cell? ⟨bb, off + j * 2, none⟩ = some (.int .i64 (cyc l j).1) ∧ w.cell? ⟨bb, off + j * 2 + 1, none⟩ = some (.int .i64 (cyc l j).2)) : VecsO w base (.slice (some ⟨bb, off + 2, none⟩) n (c - 1)) (l.drop 1) := by
  have hl : (l.drop 1).length = n := by simp; omega
  refine ⟨⟨some ⟨bb, off + 2, none⟩, c - 1, by rw [hl], by rw [hl]; omega, by rw [hl]; omega, fun _ => ⟨bb, off + 2, rfl, hb, fun j hj => ?_⟩⟩, fun bb' off' n' c' e => by cases e; exact hbb⟩
  rw [hl] at hj
  have e : cyc (l.drop 1) j = cyc l (j + 1) := by
    rw [cyc_lt (by omega), cyc_lt (by omega)]
    simp
  rw [e, show off + 2 + j * 2 = off + (j + 1) * 2 by omega]
  exact hcs (j + 1) (by omega)

def hirL (k : Int) : List V2 := [(1, 0), (0, 1), (-1, k), (0, -1)]
theorem Vecs.hir (w : World) (k : Int) : Vecs (w.alloc (.cells #[.int .i64 1, .int .i64 0, .int .i64 0, .int .i64 1, .int .i64 (-1), .int .i64 k, .int .i64 0, .int .i64 (-1)] 25)) w.heap.size (.slice (some ⟨w.heap.size, 0, none⟩) 4 4) (hirL k) :=
  ⟨rfl, .inr ⟨w.heap.size, 4, #[.int .i64 1, .int .i64 0, .int .i64 0, .int .i64 1, .int .i64 (-1), .int .i64 k, .int .i64 0, .int .i64 (-1)], rfl, Nat.le_refl _, heap_alloc_new w _, Nat.le_refl _, by decide, rfl, rfl⟩⟩
theorem tri_built : builtB [] = true ∧ builtL [] = triL := ⟨rfl, rfl⟩
theorem blow_grew {l : List V2} {i : Int} (h : (smoothB l && blowB l i) = true) : (blowL l i.toNat (blowP l i.toNat)).length = l.length + 1 ∧ (blowL l i.toNat (blowP l i.toNat)).length ≤ 20 := by
  rw [Bool.and_eq_true] at h
  have h2 := h.2
  unfold blowB at h2
  rw [Bool.and_eq_true] at h2
  obtain ⟨m, hm, hlt⟩ := idx_in h2.1
  exact ⟨blowL_len (by omega), (fan_len h2.2).2⟩
/-- a list of vectors, from block w.heap.size on; the reader in block B goes on from some place -/
def DrewFan (w : World) (B : Nat) (a : Option Addr) (len cap : Nat) (p : Int) (e : Ending) (w' : World) : Prop :=
  ∃ (v : Value) (l : List V2) (q : Int), e = .returned v ∧ VecsO w' w.heap.size v l ∧ 2 ≤ l.length ∧ l.length ≤ 20 ∧ Reads w' B a len cap q ∧ q ≤ p + 10 ∧ Below B w w'
def SmoothR (w : World) (B : Nat) (a : Option Addr) (len cap : Nat) (p : Int) (v : Value) (wr : World) : Prop :=
  ∃ (l : List V2) (q : Int), VecsO wr w.heap.size v l ∧ 3 ≤ l.length ∧ l.length ≤ 20 ∧ Reads wr B a len cap q ∧ q ≤ p ∧ Below B w wr
theorem SmoothR.mono {w : World} {B : Nat} {a : Option Addr} {len cap : Nat} {p p' : Int} {v : Value} {wr : World} (h : SmoothR w B a len cap p v wr) (hp : p ≤ p') : SmoothR w B a len cap p' v wr := by
  obtain ⟨l, q, h1, h2, h3, h4, h5, h6⟩ := h
  exact ⟨l, q, h1, h2, h3, h4, by omega, h6⟩
end Go.Proofs.YtgaeibibeekclaaGreatDoor

/- The draws of chapter 4: a divisor, seldom another list: the list alone, and where it lies. -/
namespace Go.Proofs.YtgaeibibeekclaaGreatDoor
open Go.RowKit

theorem grown_refl (w : World) (row : Option Nat) : w.grownBy w row := ⟨rfl, rfl, rfl, Nat.le_refl _, fun _ _ _ => rfl⟩
theorem grown_trans {w w1 w2 : World} {row : Option Nat} (h1 : w.grownBy w1 row) (h2 : w1.grownBy w2 row) : w.grownBy w2 row :=
  ⟨h2.os.trans h1.os, h2.tape.trans h1.tape, h2.output.trans h1.output, Nat.le_trans h1.size h2.size, fun k hk hne => (h2.block k (Nat.lt_of_lt_of_le hk h1.size) hne).trans (h1.block k hk hne)⟩
theorem grown_then {w w1 w2 : World} {row : Option Nat} (h1 : w.grownBy w1 row) (h2 : Below w.heap.size w1 w2) : w.grownBy w2 row :=
  ⟨h2.os.trans h1.os, h2.tape.trans h1.tape, h2.output.trans h1.output, Nat.le_trans h1.size h2.size, fun k hk hne => (h2.block k hk).trans (h1.block k hk hne)⟩
def DrewDiv (w : World) (B : Nat) (a : Option Addr) (len cap : Nat) (n : Nat) (p : Int) (e : Ending) (w' : World) : Prop :=
  ∃ (u : Value) (d : List Int) (q : Int), e = .returned u ∧ Ints w' w.heap.size u d ∧ d.length = n ∧ Reads w' B a len cap q ∧ q ≤ p + 3 + n ∧ Below B w w' ∧ w.grownBy w' (some B)
def DivR (w : World) (B : Nat) (a : Option Addr) (len cap : Nat) (p : Int) (k : Nat) (u : Value) (wr : World) : Prop :=
  ∃ (d : List Int) (q : Int), Ints wr w.heap.size u d ∧ d.length = k ∧ Reads wr B a len cap q ∧ q ≤ p + 1 + k ∧ Below B w wr ∧ w.grownBy wr (some B)
theorem DivR.snoc {w : World} {B : Nat} {a : Option Addr} {len cap : Nat} {p q : Int} {k : Nat} {d : List Int} {x : Int} {w2 w3 : World} {v' : Value} (hk : d.length = k) (hB : B < w.heap.size) (r : Reads w2 B a len cap q) (hq : q ≤ p + 2 + k) (hQ : Below B w w2) (hG : w.grownBy w2 (some B))
    (hb : Below w.heap.size w2 w3) (hown : w3.ownsRow w.heap.size 3 1 v' (k + 1) (intsV d ++ [.int .i64 x])) : DivR w B a len cap p (k + 1) v' w3 := by
  refine ⟨d ++ [x], q, ?_, by simp [hk], r.below (hb.mono (by omega)), by omega, hQ.trans (hb.mono (by omega)), grown_then hG hb⟩
  have : intsV (d ++ [x]) = intsV d ++ [.int .i64 x] := by simp [intsV]
  unfold Ints
  rw [this, List.length_append, hk]
  exact hown
/-- a list of vectors and as many numbers, in new memory -/
def GivenD (w : World) (e : Ending) (w' : World) : Prop :=
  ∃ (v u : Value) (l : List V2) (d : List Int), e = .returned (.tuple #[v, u]) ∧ ReadsVecs w' v l ∧ ReadsInts w' u d ∧ 2 ≤ l.length ∧ l.length ≤ 20 ∧ d.length = l.length ∧ Below w.heap.size w w'
end Go.Proofs.YtgaeibibeekclaaGreatDoor

/- Lists of vectors and the reader: what a draw keeps. -/
namespace Go.Proofs.YtgaeibibeekclaaGreatDoor
open Go.RowKit

/-- a list of vectors is not the reader -/
theorem Vecs.pickedL {w w' : World} {base B : Nat} {v : Value} {l : List V2} (h : Vecs w base v l) (hg : w.grownBy w' (some B)) (hB : B < base) : Vecs w' base v l := by
  have h' : w.ownsRow base 25 2 v l.length (intsV (flat l)) := h
  refine World.ownsRow.kept h' hg ?_
  cases hv : v.ownBlock with
  | none => exact .inl rfl
  | some k => exact .inr (fun e => by have := (World.ownsRow.lt h' k hv).1; cases e; omega)
theorem VecsO.keptL {w w' : World} {base B : Nat} {v : Value} {l : List V2} (h : VecsO w base v l) (hK : Kept w.heap.size B w w') (hB : B < base) : VecsO w' base v l := by
  obtain ⟨⟨a, c, rfl, hc, hm, hcell⟩, h2⟩ := h
  refine ⟨⟨a, c, rfl, hc, hm, fun h0 => ?_⟩, h2⟩
  obtain ⟨bb, off, rfl, hb, hcs⟩ := hcell h0
  have hbb := h2 bb off _ _ rfl
  exact ⟨bb, off, rfl, Nat.lt_of_lt_of_le hb hK.2, fun j hj => ⟨(hK.1 bb _ hb (by omega)).1.trans (hcs j hj).1, (hK.1 bb _ hb (by omega)).1.trans (hcs j hj).2⟩⟩
theorem VecsO.setB {w : World} {base g o : Nat} {v : Value} {l : List V2} (h : VecsO w base v l) (hg : g < base) (x : Value) : VecsO (w.setCell ⟨g, o, none⟩ x) base v l := by
  obtain ⟨⟨a, c, rfl, hc, hm, hcell⟩, h2⟩ := h
  refine ⟨⟨a, c, rfl, hc, hm, fun h0 => ?_⟩, h2⟩
  obtain ⟨bb, off, rfl, hb, hcs⟩ := hcell h0
  have hbb := h2 bb off _ _ rfl
  exact ⟨bb, off, rfl, by simpa using hb, fun j hj => ⟨by rw [World.cell?_setCell_other _ _ _ _ (by simp <;> omega)]; exact (hcs j hj).1, by rw [World.cell?_setCell_other _ _ _ _ (by simp <;> omega)]; exact (hcs j hj).2⟩⟩
theorem vec_cellsL (W : World) (X Y : Int) (t : TypeId) : ∀ j u, [Value.int .i64 X, Value.int .i64 Y][j]? = some u → (W.alloc (.cells #[.int .i64 X, .int .i64 Y] t)).cell? ((⟨W.heap.size, 0, none⟩ : Addr).add j) = some u := by
  intro j u hj
  match j, hj with
  | 0, hj => simp at hj; subst hj; simp [Addr.add]
  | 1, hj => simp at hj; subst hj; simp [Addr.add]
theorem vec_oneL (X Y : Int) : ∀ u ∈ [Value.int .i64 X, Value.int .i64 Y], u.oneCell' = true := by
  intro u hu
  simp at hu
  rcases hu with rfl | rfl <;> rfl
end Go.Proofs.YtgaeibibeekclaaGreatDoor
