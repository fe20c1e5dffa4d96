import Derived.Test.YtgaeibibeekclabGreatDoorProg
import Derived.Test.YtgaeibibeekclabGreatDoorS01
import Derived.Test.YtgaeibibeekclabGreatDoorS04
import Derived.Test.YtgaeibibeekclabGreatDoorS06
import Derived.Test.YtgaeibibeekclabGreatDoorS07
import Derived.Test.YtgaeibibeekclabGreatDoorS13
import Derived.Test.YtgaeibibeekclabGreatDoorS14
import Derived.Test.YtgaeibibeekclabGreatDoorS15
import Derived.Test.YtgaeibibeekclabGreatDoorS16
import Derived.WalkKit
import Derived.LaidEql
import Derived.Stop.Asserts
import Derived.RowKitTokens
import Derived.Handy
import Derived.WalkSpells
import Derived.WalkLawsBesides
import Derived.Deep.QuietTactic
import Derived.BigQuiet
import Derived.Lib.Hide
import Derived.Deep.RegionHeld3
import Derived.Deep.DeepCutAuto
import Derived.Deep.AppendLies
import Derived.Laws.OwnMore
import Derived.Laws.MakeOwn
import Derived.OwnWalk
import Derived.Maps.AppendAt
import Derived.RangeFuncBox
import Derived.RegionTactic
import Derived.ChangeAlike
import Derived.RangeFuncNested
import Derived.StillTail
import Derived.OrdersIn
import Derived.AtR
import Derived.RangeFuncBound
import Derived.RangeFuncCalls
import Derived.RangeFuncLeaves
import Derived.Shelf.Abstract
import Derived.OwnWalkIn
import Derived.TacticsInMore
import Derived.LoopNIn
import Derived.LoopIn
import Derived.LaidEqlPtr
import Derived.BigRegion
import Derived.Shelf.SlSortCmp.WholeK
import Derived.Laws.StructEq
import Derived.Laws.IdiomCopy
import Derived.Shelf.SlGeneric
import Derived.Shelf.SlSortCmp.NoneTotal
import Derived.Shelf.SlicesE.Clone
import Derived.Shelf.SlicesQ.Reverse
import Derived.Ground.SlsfProg
import Derived.Ground.SlgnProg
import Derived.Deep.RegionLaw
import Derived.ArgAppend
namespace Go.Proofs.YtgaeibibeekclabGreatDoor
open Go.RowKit Go.Sort
def cfN (u v : V2) : Int := cmpN u v
theorem cfN_neg (u v : V2) : cfN u v < 0 ↔ lessB u v = true := by
  unfold cfN cmpN orZ cmpZ lessB
  simp only [Bool.or_eq_true, Bool.and_eq_true, decide_eq_true_eq]
  repeat' split
  all_goals omega
theorem ltN_is (u v : V2) : ltOf cfN u v = lessB u v := by
  have := cfN_neg u v
  unfold ltOf
  rw [Bool.eq_iff_iff, ← this]
  simp
theorem less_irr (u : V2) : lessB u u = false := by unfold lessB; simp
theorem less_tr {u v z : V2} (h1 : lessB u v = true) (h2 : lessB v z = true) : lessB u z = true := by
  rw [less_lex] at *
  exact lex_add h1 h2
theorem swoN : Go.Sort.SWO (ltOf cfN) where
  irrefl x := by rw [ltN_is, less_irr]
  trans x y z h1 h2 := by
    rw [ltN_is] at *
    exact less_tr h1 h2
  ntrans x y z h1 h2 := by
    rw [ltN_is] at *
    cases h3 : lessB x z
    · rfl
    · exfalso
      rw [less_lex] at h3
      rcases less_not h1 with e | e
      · rw [e, ← less_lex, h2] at h3; cases h3
      · rcases less_not h2 with e2 | e2
        · rw [← e2, ← less_lex, h1] at h3; cases h3
        · exact lex_asym (lex_add e2 e) h3
def encN (x : V2) : List Value := [.int .i64 x.1, .int .i64 x.2]
theorem cmpLaysN (blk off size : Nat) (w : World) : CmpLays Tryz.prog 81 #[] encN 2 cfN blk off size w := by
  intro m os dk _ x y
  refine (byNumbers_g x y _).mono ?_
  rintro e w' ⟨rfl, hb, hd⟩
  exact ⟨rfl, grow_of hb hd⟩
theorem flat_encN (d : Array V2) {j : Nat} (h : j < d.size) : (flatK encN 2 d)[j * 2]! = .int .i64 (d[j]!).1 ∧ (flatK encN 2 d)[j * 2 + 1]! = .int .i64 (d[j]!).2 := by
  rw [get_flatK _ _ _ _ (by omega), get_flatK _ _ _ _ (by omega), show j * 2 / 2 = j by omega, show j * 2 % 2 = 0 by omega, show (j * 2 + 1) / 2 = j by omega, show (j * 2 + 1) % 2 = 1 by omega]
  exact ⟨rfl, rfl⟩
theorem below_sortN (w : World) (g n : Nat) (d : Array V2) (os : Array Obj) {B : Nat} (hB : B ≤ g) (hg : g < w.heap.size) : Below B w (sortWorldK encN 2 w g 0 n d os) := by
  unfold sortWorldK putRowK
  refine ⟨rfl, rfl, rfl, ?_, fun k hk => ?_⟩
  · rw [size_grow, size_putRow]
    exact Nat.le_add_right _ _
  · rw [heap_grow_old _ _ (by rw [size_putRow]; exact Nat.lt_of_lt_of_le hk (Nat.le_of_lt (Nat.lt_of_le_of_lt hB hg)))]
    show (w.heap.modify g _)[k]? = _
    rw [Array.getElem?_modify, if_neg (by omega)]
end Go.Proofs.YtgaeibibeekclabGreatDoor
namespace Go.Proofs.YtgaeibibeekclabGreatDoor
open Go.RowKit Go.Sort
/-- block g is the call's own and holds the vectors c 0 .. c (M - 1) -/
def OwnC (W : World) (b g M : Nat) (c : Nat → V2) : Prop :=
  b ≤ g ∧ M ≤ 1048576 ∧ ∃ cur, W.heap[g]? = some (.cells cur 55 (0, 0)) ∧ cur.size = M * 2 ∧ ∀ j, j < M → cur[j * 2]? = some (.int .i64 (c j).1) ∧ cur[j * 2 + 1]? = some (.int .i64 (c j).2)
theorem OwnC.lt {W : World} {b g M : Nat} {c : Nat → V2} (h : OwnC W b g M c) : g < W.heap.size := by
  obtain ⟨_, _, cur, h1, _⟩ := h
  exact (Array.getElem?_eq_some_iff.1 h1).1
theorem OwnC.row {W : World} {b g M : Nat} {c : Nat → V2} (h : OwnC W b g M c) : RowC W g c M := by
  obtain ⟨_, _, cur, h1, h2, h3⟩ := h
  intro j hj
  obtain ⟨e1, e2⟩ := h3 j hj
  exact ⟨⟨by rw [cell_of_row W g _ cur _ (0, 0) h1, e1], by rw [cell_of_row W g _ cur _ (0, 0) h1, e2]⟩, frozen_of_row W g _ cur _ h1, frozen_of_row W g _ cur _ h1⟩
theorem OwnC.kept {W W' : World} {b g M : Nat} {c : Nat → V2} (h : OwnC W b g M c) (e : W'.heap[g]? = W.heap[g]?) : OwnC W' b g M c := by
  obtain ⟨h0, hm, cur, h1, h2⟩ := h
  exact ⟨h0, hm, cur, by rw [e, h1], h2⟩
theorem OwnC.below {W W' : World} {b g M n : Nat} {c : Nat → V2} (h : OwnC W b g M c) (hB : Below n W W') (hn : g < n) : OwnC W' b g M c := h.kept (hB.block g hn)
theorem OwnC.drew {W : World} {b g M : Nat} {c : Nat → V2} (h : OwnC W b g M c) : OwnC W.drew b g M c := h
theorem OwnC.congr {W : World} {b g M : Nat} {c c' : Nat → V2} (h : OwnC W b g M c) (e : ∀ j, j < M → c j = c' j) : OwnC W b g M c' := by
  obtain ⟨h0, hm, cur, h1, h2, h3⟩ := h
  exact ⟨h0, hm, cur, h1, h2, fun j hj => by rw [← e j hj]; exact h3 j hj⟩
theorem OwnC.set {W : World} {b g M k : Nat} {c : Nat → V2} (h : OwnC W b g M c) (hk : k < M) (x : V2) :
    OwnC ((W.setCell ⟨g, k * 2, none⟩ (.int .i64 x.1)).setCell ⟨g, k * 2 + 1, none⟩ (.int .i64 x.2)) b g M (fun j => if j = k then x else c j) := by
  obtain ⟨h0, hm, cur, h1, h2, h3⟩ := h
  refine ⟨h0, hm, _, heap_setCell_same _ g (k * 2 + 1) _ _ _ (heap_setCell_same W g (k * 2) cur _ _ h1), by simpa using h2, fun j hj => ?_⟩
  obtain ⟨e1, e2⟩ := h3 j hj
  simp only [Array.getElem?_setIfInBounds, Array.size_setIfInBounds]
  by_cases e : j = k
  · subst e
    constructor
    · rw [if_neg (by omega), if_pos rfl, if_pos (by omega), if_pos rfl]
    · rw [if_pos rfl, if_pos (by omega), if_pos rfl]
  · constructor
    · rw [if_neg (by omega), if_neg (by omega), if_neg e, e1]
    · rw [if_neg (by omega), if_neg (by omega), if_neg e, e2]
theorem OwnC.lay {W : World} {b g M o : Nat} {c : Nat → V2} (h : OwnC W b g M c) (d : Array V2) :
    OwnC (putRowK encN 2 W g (o * 2) d) b g M (fun j => if o ≤ j ∧ j < o + d.size then d[j - o]! else c j) := by
  obtain ⟨h0, hm, cur, h1, h2, h3⟩ := h
  refine ⟨h0, hm, putCells id (o * 2) (flatK encN 2 d) cur, ?_, by simp [putCells, h2], fun j hj => ?_⟩
  · show (W.heap.modify g _)[g]? = _
    rw [Array.getElem?_modify, if_pos rfl, h1]
    rfl
  · obtain ⟨e1, e2⟩ := h3 j hj
    simp only [putCells, Array.getElem?_mapIdx, e1, e2, Option.map_some, size_flatK, id_eq]
    by_cases k : o ≤ j ∧ j < o + d.size
    · have q := flat_encN d (j := j - o) (by omega)
      rw [if_pos k, if_pos (by omega), if_pos (by omega), show j * 2 - o * 2 = (j - o) * 2 by omega, show j * 2 + 1 - o * 2 = (j - o) * 2 + 1 by omega, q.1, q.2]
      exact ⟨rfl, rfl⟩
    · rw [if_neg k, if_neg (by omega), if_neg (by omega)]
      exact ⟨rfl, rfl⟩
theorem OwnC.grown {W : World} {b g M : Nat} {c : Nat → V2} (h : OwnC W b g M c) (os : Array Obj) : OwnC (grow W os) b g M c := h.kept (heap_grow_old W os h.lt)
theorem OwnC.vecs {W : World} {b g M cap : Nat} {c : Nat → V2} {l : List V2} (h : OwnC W b g M c) (hl : l.length ≤ M) (hc : l.length ≤ cap) (e : ∀ j, j < l.length → c j = cyc l j) : VecsR W b (.slice (some ⟨g, 0, none⟩) l.length cap) l := by
  have hlt := h.lt
  obtain ⟨h0, hm, cur, h1, h2, h3⟩ := h
  have hfl := flat_len l
  rcases Nat.eq_zero_or_pos l.length with z | z
  · have : l = [] := List.eq_nil_of_length_eq_zero z
    subst this
    exact .inl ⟨rfl, rfl, _, cap, rfl, fun x hx => by obtain rfl := Option.some.inj hx; exact ⟨h0, hlt⟩⟩
  · refine .inr ⟨z, g, M, cap, rfl, ⟨by rw [intsV, List.length_map]; omega, .inr ⟨g, M, cur, rfl, h0, h1, hl, by unfold maxLen; omega, h2, ?_⟩⟩, hc⟩
    apply List.ext_getElem?
    intro t
    rw [List.getElem?_take]
    by_cases ht : t < l.length * 2
    · rw [if_pos ht, intsV_get _ t (by omega)]
      obtain ⟨a1, a2⟩ := h3 (t / 2) (by omega)
      obtain ⟨f1, f2⟩ := flat_get l (t / 2) (by omega)
      rw [e (t / 2) (by omega)] at a1 a2
      rw [Array.getElem?_toList]
      rcases Nat.mod_two_eq_zero_or_one t with q | q
      · rw [show t / 2 * 2 = t by omega] at a1 f1
        rw [a1, f1]
      · rw [show t / 2 * 2 + 1 = t by omega] at a2 f2
        rw [a2, f2]
    · rw [if_neg ht, List.getElem?_eq_none (by rw [intsV, List.length_map]; omega)]
theorem OwnC.holds {W : World} {b g M o : Nat} {c : Nat → V2} (h : OwnC W b g M c) (d : Array V2) (hd : o + d.size ≤ M) (e : ∀ j, j < d.size → c (o + j) = d[j]!) : HoldsK encN 2 W g (o * 2) d := by
  intro t ht
  rw [size_flatK] at ht
  obtain ⟨⟨c1, c2⟩, f1, f2⟩ := h.row (o + t / 2) (by omega)
  rw [e _ (by omega)] at c1 c2
  rcases Nat.mod_two_eq_zero_or_one t with q | q
  · have e2 : t = t / 2 * 2 := by omega
    have e3 : o * 2 + t = (o + t / 2) * 2 := by omega
    rw [e3]
    refine ⟨?_, f1⟩
    rw [c1, e2, (flat_encN d (by omega)).1, show t / 2 * 2 / 2 = t / 2 by omega]
    rfl
  · have e2 : t = t / 2 * 2 + 1 := by omega
    have e3 : o * 2 + t = (o + t / 2) * 2 + 1 := by omega
    rw [e3]
    refine ⟨?_, f2⟩
    rw [c2, e2, (flat_encN d (by omega)).2, show (t / 2 * 2 + 1) / 2 = t / 2 by omega]
    rfl
theorem list_get! {l : List V2} {j : Nat} (hj : j < l.length) : l.toArray[j]! = cyc l j := by
  rw [cyc_lt hj, getElem!_pos _ j (by simpa using hj), List.getElem?_eq_getElem hj]
  simp
/-- slices.SortFunc, of the first vectors of a block -/
theorem sortC_any (b g M cap : Nat) (c : Nat → V2) (l : List V2) (w : World) (h : OwnC w b g M c) (hl : l.length ≤ M) (e : ∀ j, j < l.length → c j = cyc l j) :
    Calls Tryz.prog 114 #[.slice (some ⟨g, 0, none⟩) l.length cap, .func (.func 81) #[] #[]] w fun e w' =>
      e = .returned (.tuple #[]) ∧ ∃ l', l'.Perm l ∧ Wk l' ∧ OwnC w' b g M (fun j => if j < l.length then cyc l' j else c j) ∧ Below b w w' := by
  have eg : ∀ args w, (callFunc 81 args).run Tryz.prog w = .ok (.enter 81 args) w := enters_of Tryz.func81 (by kernel_rfl) rfl
  have hs : l.toArray.size = l.length := by simp
  have hg := h.lt
  have hH : HoldsK encN 2 w g 0 l.toArray := by
    have := h.holds (o := 0) l.toArray (by rw [hs]; omega) (fun j hj => by rw [Nat.zero_add, e j (by omega), list_get! (by omega)])
    rwa [Nat.zero_mul] at this
  have hcon := AnyQ.slices_SortFunc Tryz.sortV 2 Tryz.isAgg55 Tryz.sizeOf55 encN (fun _ => rfl) (fun x v hv => by simp [encN] at hv; rcases hv with rfl | rfl <;> rfl) cfN swoN 81 #[] g 0 cap l.toArray w eg (cmpLaysN g 0 _ w) hH hg (by have := h.2.1; omega)
  change Calls Tryz.prog 114 _ _ _ at hcon
  rw [hs] at hcon
  refine hcon.mono ?_
  rintro e w' ⟨rfl, d', n, os, hP, hS, rfl⟩
  obtain ⟨hsz, _, hperm⟩ := hP
  have e1 : d'.extract 0 l.length = d' := by rw [← hs, ← hsz]; exact Array.extract_size
  have e2 : l.toArray.extract 0 l.length = l.toArray := by rw [← hs]; exact Array.extract_size
  rw [e1, e2] at hperm
  have hg' : ∀ i, i < d'.size → cyc d'.toList i = d'[i]! := fun i hi => by
    rw [cyc_lt (by simpa using hi), getElem!_pos _ i hi]
    simp [hi]
  refine ⟨rfl, d'.toList, by simpa using hperm, ?_, ?_, below_sortN w g n d' os h.1 hg⟩
  · unfold Wk
    rw [List.pairwise_iff_getElem]
    intro i j hi hj hij
    have hi' : i < d'.size := by simpa using hi
    have hj' : j < d'.size := by simpa using hj
    have q := hS i j (Nat.zero_le _) hij (by omega)
    rw [ltN_is] at q
    have ei : d'.toList[i] = d'[i]! := by rw [getElem!_pos _ i hi']; simp
    have ej : d'.toList[j] = d'[j]! := by rw [getElem!_pos _ j hj']; simp
    rw [ei, ej]
    rcases less_not q with k | k
    · exact .inl k.symm
    · exact .inr k
  · have q := (OwnC.lay (W := Sort.ahead w n) (o := 0) h d').grown os
    rw [Nat.zero_mul] at q
    refine q.congr fun j hj => ?_
    by_cases k : j < l.length
    · rw [if_pos ⟨Nat.zero_le _, by omega⟩, if_pos k, hg' j (by omega), Nat.sub_zero]
    · rw [if_neg (by omega), if_neg k]
/-- slices.Reverse, of some vectors of a block -/
theorem revC_any (b g M o off cap : Nat) (c : Nat → V2) (l : List V2) (w : World) (ho : off = o * 2) (h : OwnC w b g M c) (hl : o + l.length ≤ M) (e : ∀ j, j < l.length → c (o + j) = cyc l j) :
    Calls Tryz.prog 115 #[.slice (some ⟨g, off, none⟩) l.length cap] w fun e w' =>
      e = .returned (.tuple #[]) ∧ OwnC w' b g M (fun j => if o ≤ j ∧ j < o + l.length then cyc l.reverse (j - o) else c j) ∧ Below b w w' := by
  subst ho
  have hs : l.toArray.size = l.length := by simp
  have hH : HoldsK encN 2 w g (o * 2) l.toArray := h.holds (o := o) l.toArray (by rw [hs]; omega) (fun j hj => by rw [e j (by omega), list_get! (by omega)])
  have hcon := AnyQ.slices_Reverse Tryz.revV 2 Tryz.isAgg55 Tryz.sizeOf55 encN (fun _ => rfl) (fun x v hv => by simp [encN] at hv; rcases hv with rfl | rfl <;> rfl) g (o * 2) cap l.toArray w hH (by have := h.2.1; omega)
  change Calls Tryz.prog 115 _ _ _ at hcon
  rw [hs] at hcon
  refine hcon.mono ?_
  rintro e w' ⟨rfl, n, rfl⟩
  have q := OwnC.lay (W := Sort.ahead w n) (o := o) h l.toArray.reverse
  refine ⟨rfl, q.congr fun j hj => ?_, ?_⟩
  · have hr : l.toArray.reverse.size = l.length := by simp
    rw [hr]
    by_cases k : o ≤ j ∧ j < o + l.length
    · rw [if_pos k, if_pos k, show l.toArray.reverse = l.reverse.toArray by simp, list_get! (by simp; omega)]
    · rw [if_neg k, if_neg k]
  · have hg := h.1
    unfold putRowK
    refine ⟨rfl, rfl, rfl, by rw [size_putRow]; exact Nat.le_refl _, fun k hk => ?_⟩
    show (w.heap.modify g _)[k]? = _
    rw [Array.getElem?_modify, if_neg (by omega)]
end Go.Proofs.YtgaeibibeekclabGreatDoor
namespace Go.Proofs.YtgaeibibeekclabGreatDoor
open Go.RowKit
theorem cyc_app_low {a b : List V2} {j : Nat} (h : j < a.length) : cyc (a ++ b) j = cyc a j := by
  rw [cyc_lt (by simp; omega), cyc_lt h, List.getElem?_append_left h]
theorem cyc_app_top {a : List V2} {x : V2} {j : Nat} (h : j = a.length) : cyc (a ++ [x]) j = x := by
  subst h
  rw [cyc_lt (by simp), List.getElem?_append_right (Nat.le_refl _)]
  simp
/-- what holds ahead of the k-th vector: the stack lies at the beginning of the way -/
structure HalfI (l : List V2) (o k : Nat) (c cc : Nat → V2) (st : List V2) : Prop where
  eq : st = (l.take k).foldl pushH []
  le : st.length ≤ k
  low : ∀ j, j < st.length → cc (o + j) = cyc st.reverse j
  high : ∀ j, k ≤ j → j < l.length → cc (o + j) = cyc l j
  out : ∀ j, ¬ (o ≤ j ∧ j < o + l.length) → cc j = c j
theorem HalfI.zero {l : List V2} {o : Nat} {c : Nat → V2} (e : ∀ j, j < l.length → c (o + j) = cyc l j) : HalfI l o 0 c c [] :=
  ⟨by simp, Nat.le_refl _, fun j h => by simp at h, fun j _ h => e j h, fun _ _ => rfl⟩
theorem HalfI.push {l : List V2} {o k : Nat} {c cc : Nat → V2} {st st' pre : List V2} (h : HalfI l o k c cc st) (hk : k < l.length) (hs : st = pre ++ st') (hp : pushH st (cyc l k) = cyc l k :: st') :
    HalfI l o (k + 1) c (fun j => if j = o + st'.length then cyc l k else cc j) (cyc l k :: st') := by
  have hle : st'.length ≤ st.length := by rw [hs]; simp
  have h0 := h.le
  refine ⟨?_, by simp; omega, fun j hj => ?_, fun j h1 h2 => ?_, fun j hj => ?_⟩
  · rw [take_cyc hk, List.foldl_append, ← h.eq]
    exact hp.symm
  · rw [List.length_cons] at hj
    rw [List.reverse_cons]
    by_cases e : j = st'.length
    · rw [if_pos (by omega), cyc_app_top (by simp [e])]
    · rw [if_neg (by omega), h.low j (by omega), cyc_app_low (by simp; omega), hs, List.reverse_append, cyc_app_low (by simp; omega)]
  · rw [if_neg (by omega)]
    exact h.high j (by omega) h2
  · rw [if_neg (by omega)]
    exact h.out j hj
theorem push_bend (b a : V2) (st : List V2) (c : V2) : pushH (b :: a :: st) c = if bendV a b c = true then c :: b :: a :: st else pushH (a :: st) c := by
  have hb : bendV a b c = decide (0 < dtV (subV b a) (subV c b)) := rfl
  rw [pushH, hb]
  by_cases h : 0 < dtV (subV b a) (subV c b) <;> simp [h]
theorem push_mem' : ∀ (st : List V2) (c v : V2), v ∈ pushH st c → v = c ∨ v ∈ st
  | [], c, v, h => by simp [pushH] at h; exact .inl h
  | [a], c, v, h => by simp [pushH] at h; rcases h with h | h <;> simp [h]
  | b :: a :: st, c, v, h => by
    rw [push_bend] at h
    split at h
    · simpa using h
    · rcases push_mem' (a :: st) c v h with h | h
      · exact .inl h
      · exact .inr (List.mem_cons_of_mem _ h)
theorem fold_mem : ∀ (l st : List V2) (v : V2), v ∈ l.foldl pushH st → v ∈ st ∨ v ∈ l
  | [], _, _, h => .inl h
  | c :: l, st, v, h => by
    rcases fold_mem l (pushH st c) v h with h | h
    · rcases push_mem' st c v h with rfl | h
      · exact .inr (by simp)
      · exact .inl h
    · exact .inr (List.mem_cons_of_mem _ h)
theorem HalfI.mem {l : List V2} {o k : Nat} {c cc : Nat → V2} {st : List V2} (h : HalfI l o k c cc st) {i : Nat} (hi : i < st.length) : cc (o + i) ∈ l := by
  rw [h.low i hi]
  have h1 : cyc st.reverse i ∈ st := List.mem_reverse.1 (cyc_mem (by simp; omega) i)
  rw [h.eq] at h1
  rcases fold_mem _ _ _ h1 with h2 | h2
  · cases h2
  · rw [← h.eq] at h2
    exact List.mem_of_mem_take h2
theorem suf_two {st pre r : List V2} {a b : V2} (e : st = pre ++ b :: a :: r) : cyc st.reverse r.length = a ∧ cyc st.reverse (r.length + 1) = b := by
  have h : st.reverse = ((r.reverse ++ [a]) ++ [b]) ++ pre.reverse := by rw [e]; simp
  constructor
  · rw [h, cyc_app_low (by simp <;> omega), cyc_app_low (by simp), cyc_app_top (by simp)]
  · rw [h, cyc_app_low (by simp), cyc_app_top (by simp)]
theorem push_one {st : List V2} (h : ¬ 1 < st.length) (c : V2) : pushH st c = c :: st := by
  match st, h with
  | [], _ => rfl
  | [a], _ => rfl
  | a :: b :: r, h => simp at h
theorem halfI_done {l : List V2} {o : Nat} {c cc : Nat → V2} {st : List V2} (h : HalfI l o l.length c cc st) : st = halfH l ∧ ∀ j, j < ((halfH l).tail.reverse).length → cc (o + j) = cyc (halfH l).tail.reverse j := by
  have e : st = halfH l := by rw [h.eq, List.take_of_length_le (Nat.le_refl _)]; rfl
  refine ⟨e, fun j hj => ?_⟩
  rw [← e] at hj ⊢
  rw [h.low j (by simp at hj; omega)]
  cases st with
  | nil => simp at hj
  | cons q r =>
    rw [List.reverse_cons, cyc_app_low (by simpa using hj)]
    rfl
theorem step_app {P : Program} {ops : Array Oper} {o : Oper} {a : Act} {w : World} {K : Act → World → Prop} {Q : Exit → Act → World → Prop} {E : Prop}
    (hg : o.guard = none) (s x : Operand) (t : TypeId) (hop : o.op = Op.call { callee := Callee.builtin Builtin.append, args := #[s, x], argTypes := #[t, t] })
    (e : TypeId) (i : TypeInfo) (h1 : P.underlying t = some (.slice e)) (h2 : P.info? e = some i) (h4 : i.size = 2)
    (b off n cap : Nat) (hs : a.eval s = .slice (some ⟨b, off, none⟩) n cap)
    (ad : Addr) (c : Nat) (u v : Int) (hx : a.eval x = .slice (some ad) 1 c) (hc0 : w.cell? ad = some (.int .i64 u)) (hc1 : w.cell? (ad.add 1) = some (.int .i64 v))
    (hroom : n + 1 ≤ cap) (hspare : ∀ j, j < 2 → (w.cell? ⟨b, off + n * 2 + j, none⟩).isSome = true ∧ w.frozen? ⟨b, off + n * 2 + j, none⟩ = false)
    (hK : K (a.put o.dst (.slice (some ⟨b, off, none⟩) (n + 1) cap)) ((w.setCell ⟨b, off + n * 2, none⟩ (.int .i64 u)).setCell ⟨b, off + n * 2 + 1, none⟩ (.int .i64 v))) :
    if Region.wanted o (yielded ops a.tmps) = true then Oper.wp P o a w K Q else E := by
  refine step_append_room hg s x t hop e i 2 h1 h2 h4 b off n cap hs ad 1 c [.int .i64 u, .int .i64 v] hx rfl ?_ (by simp [Value.oneCell']) hroom hspare hK
  intro j y hy
  match j, hy with
  | 0, hy => obtain rfl := Option.some.inj hy; exact hc0
  | 1, hy => obtain rfl := Option.some.inj hy; exact hc1
  | j + 2, hy => simp at hy
def HalfE (b g M o off cap : Nat) (c : Nat → V2) (l : List V2) (w : World) (e : Ending) (w' : World) : Prop :=
  e = .returned (.slice (some ⟨g, off, none⟩) ((halfH l).tail.reverse).length cap) ∧ (∃ c', OwnC w' b g M c' ∧ (∀ j, j < ((halfH l).tail.reverse).length → c' (o + j) = cyc (halfH l).tail.reverse j) ∧ ∀ j, ¬ (o ≤ j ∧ j < o + l.length) → c' j = c j) ∧ Below b w w'
set_option maxRecDepth 100000 in
set_option maxHeartbeats 8000000 in
theorem half_any (b g M o off cap : Nat) (c : Nat → V2) (l : List V2) (w : World) (ho : off = o * 2) (h : OwnC w b g M c) (hl : o + l.length ≤ M) (hcap : l.length ≤ cap) (e : ∀ j, j < l.length → c (o + j) = cyc l j) (hbig : ∀ v ∈ l, big 400000 v.1 v.2) :
    Calls Tryz.prog 116 #[.slice (some ⟨g, off, none⟩) l.length cap, .func (.func 73) #[] #[]] w (HalfE b g M o off cap c l w) := by
  have HY : Hid (∀ w' e, e = .returned (.slice (some ⟨g, off, none⟩) ((halfH l).tail.reverse).length cap) → (∃ c', OwnC w' b g M c' ∧ (∀ j, j < ((halfH l).tail.reverse).length → c' (o + j) = cyc (halfH l).tail.reverse j) ∧ ∀ j, ¬ (o ≤ j ∧ j < o + l.length) → c' j = c j) → Below b w w' → HalfE b g M o off cap c l w e w') := fun w' e h1 h2 h3 => ⟨h1, h2, h3⟩
  obtain ⟨R, hR⟩ : ∃ R, R = ((halfH l).tail.reverse).length := ⟨_, rfl⟩
  have HRr : Hid (R = ((halfH l).tail.reverse).length) := hR
  rw [← hR] at HY
  clear hR
  obtain ⟨i0, hi, hz0, hz1, hz2⟩ := info_parts infoVec
  have HOf : Hid (off = o * 2) := ho
  have HZ := Lib.hid (HalfI.zero e)
  have HO := Lib.hid h
  have HD := Lib.hid (fun st cc (q : HalfI l o l.length c cc st) => halfI_done q)
  have HBL : Hid (∀ v ∈ l, big 400000 v.1 v.2) := hbig
  have HBg := Lib.hid (fun k (hk : k < l.length) => hbig _ (cyc_mem (by omega) k))
  obtain ⟨m, hm⟩ : ∃ m, m = l.length := ⟨_, rfl⟩
  have HM : Hid (m = l.length ∧ o + m ≤ M ∧ m ≤ cap ∧ M ≤ 1048576) := ⟨hm, by omega, by omega, h.2.1⟩
  rw [← hm]
  have hgw := h.lt
  have hbg := h.1
  have hm20 : m ≤ 1048576 := by have := HM.out; omega
  clear ho h hl hcap e hbig hm
  go_enter Tryz.func116, Tryz.ntmps116
  go_wp2
  go_loopw [5, 13] (fun s5 s13 wr => ∃ (k : Nat) (st : List V2) (cc : Nat → V2), s5 = .slice (some ⟨g, off, none⟩) st.length cap ∧ s13 = .int .i64 k ∧ k ≤ m ∧ Hid (HalfI l o k c cc st) ∧ Hid (OwnC wr b g M cc) ∧ Below b w wr) (fun _ s13 _ => m - (intOf s13).toNat)
  case atStart => exact ⟨0, [], c, rfl, rfl, Nat.zero_le _, HZ, HO, Below.refl _ _⟩
  case round =>
    clear HZ HO
    obtain ⟨k, st, cc, rfl, rfl, hk, HI, HOw, hB⟩ := hrel
    have j1 : (0 : Int) ≤ (k : Int) := by omega
    by_cases hlt : k < m
    · have j2 : (k : Int) < (m : Int) := by omega
      have hkl : k < l.length := by have := HM.out; omega
      have hgr := HOw.out.lt
      obtain ⟨⟨c1, c2⟩, _⟩ := HOw.out.row (o + k) (by have := HM.out; omega)
      rw [HI.out.high k (Nat.le_refl _) hkl] at c1 c2
      have HQB := HBg.out k hkl
      have HIq : Hid (∀ st' pre, st = pre ++ st' → pushH st (cyc l k) = cyc l k :: st' → HalfI l o (k + 1) c (fun j => if j = o + st'.length then cyc l k else cc j) (cyc l k :: st')) := fun st' pre q1 q2 => HI.out.push hkl q1 q2
      have hbigL := HBL.out
      have HSb : Hid (∀ i, i < st.length → cc (o + i) = cyc st.reverse i ∧ big 400000 (cc (o + i)).1 (cc (o + i)).2) := fun i hi => ⟨HI.out.low i hi, hbigL _ (HI.out.mem hi)⟩
      have hoo := HOf.out
      have e0 : (o + k) * 2 = off + k * 2 := by omega
      rw [e0] at c1 c2
      clear hoo e0
      generalize cyc l k = z at *
      obtain ⟨x, y⟩ := z
      dsimp only at c1 c2
      have HSl : Hid (st.length ≤ k) := HI.out.le
      obtain ⟨W1, hW1⟩ : ∃ W1, W1 = wr.alloc (.cells #[.int .i64 x, .int .i64 y] 55) := ⟨_, rfl⟩
      have x0 : W1.cell? ⟨wr.heap.size, 0, none⟩ = some (.int .i64 x) := by rw [hW1]; simp
      have x1 : W1.cell? ⟨wr.heap.size, 1, none⟩ = some (.int .i64 y) := by rw [hW1]; simp
      have HO1 : Hid (OwnC W1 b g M cc) := by rw [hW1]; exact HOw.out.kept (Below.heap_alloc _ _ _ hgr)
      have hB1 : Below b w W1 := by rw [hW1]; exact hB.alloc (by omega) _
      have hgW := HO1.out.lt
      have hpW := World.block_lt_of_cell? W1 _ x0
      go_wp2
      rw [← hW1]
      clear hW1 HOw hB hgr c1 c2 HI hbigL
      generalize hS : st.length = S at *
      have HS := Lib.hid hS
      have hSk : S ≤ k := HSl.out
      generalize wr.heap.size = p at *
      clear hS HSl
      go_loopw [8] (fun s8 wi => ∃ (st' pre : List V2), s8 = .int .i64 (st'.length : Nat) ∧ Hid (st = pre ++ st' ∧ pushH st (x, y) = pushH st' (x, y)) ∧ Below W1.heap.size W1 wi) (fun s8 _ => (intOf s8).toNat)
      case atStart => exact ⟨st, [], by rw [HS.out], ⟨rfl, rfl⟩, Below.refl _ _⟩
      case round =>
        obtain ⟨st', pre, rfl, HP, hBi⟩ := hrel
        have hle : st'.length ≤ st.length := by rw [HP.out.1]; simp
        rw [HS.out] at hle
        generalize hn : st'.length = n at *
        have HN := Lib.hid hn
        clear hn
        have hgi := Nat.lt_of_lt_of_le hgW hBi.size
        have hpi := Nat.lt_of_lt_of_le hpW hBi.size
        have y0 : wr.cell? ⟨p, 0, none⟩ = some (.int .i64 x) := (hBi.cell (p := ⟨p, 0, none⟩) hpW).trans x0
        have y1 : wr.cell? ⟨p, 1, none⟩ = some (.int .i64 y) := (hBi.cell (p := ⟨p, 1, none⟩) hpW).trans x1
        have HO8 : Hid (∀ W8, Below W1.heap.size W1 W8 → OwnC ((W8.setCell ⟨g, off + n * 2, none⟩ (.int .i64 x)).setCell ⟨g, off + n * 2 + 1, none⟩ (.int .i64 y)) b g M (fun j => if j = o + n then (x, y) else cc j)) := fun W8 hq => by
          have q := (HO1.out.below hq hgW).set (k := o + n) (by have := HM.out; omega) (x, y)
          have hoo := HOf.out
          rwa [show (o + n) * 2 = off + n * 2 by omega] at q
        have HSp : Hid (∀ W8, Below W1.heap.size W1 W8 → ∀ j, j < 2 → (W8.cell? ⟨g, off + n * 2 + j, none⟩).isSome = true ∧ W8.frozen? ⟨g, off + n * 2 + j, none⟩ = false) := fun W8 hq j hj => by
          obtain ⟨⟨u1, u2⟩, u3, u4⟩ := (HO1.out.below hq hgW).row (o + n) (by have := HM.out; omega)
          have hoo := HOf.out
          have e0 : (o + n) * 2 = off + n * 2 := by omega
          rw [e0] at u1 u2 u3 u4
          have : j = 0 ∨ j = 1 := by omega
          rcases this with rfl | rfl
          · exact ⟨by rw [Nat.add_zero, u1]; rfl, u3⟩
          · exact ⟨by rw [u2]; rfl, u4⟩
        have HB8 : Hid (∀ W8, Below W1.heap.size W1 W8 → Below b w ((W8.setCell ⟨g, off + n * 2, none⟩ (.int .i64 x)).setCell ⟨g, off + n * 2 + 1, none⟩ (.int .i64 y))) := fun W8 hq => ((hB1.trans (hq.mono (by omega))).setCell (p := ⟨g, off + n * 2, none⟩) hbg _).setCell (p := ⟨g, off + n * 2 + 1, none⟩) hbg _
        have HF8 : Hid (∀ W8 ob, Below W1.heap.size W1 W8 → OwnC (((W8.setCell ⟨g, off + n * 2, none⟩ (.int .i64 x)).setCell ⟨g, off + n * 2 + 1, none⟩ (.int .i64 y)).alloc ob) b g M (fun j => if j = o + n then (x, y) else cc j) ∧ Below b w (((W8.setCell ⟨g, off + n * 2, none⟩ (.int .i64 x)).setCell ⟨g, off + n * 2 + 1, none⟩ (.int .i64 y)).alloc ob)) := fun W8 ob hq => ⟨(HO8.out W8 hq).kept (Below.heap_alloc _ _ _ (HO8.out W8 hq).lt), (HB8.out W8 hq).alloc (Nat.le_trans hbg (Nat.le_of_lt (HO8.out W8 hq).lt)) ob⟩
        have hsi := hBi.size
        have HR8 : Hid (n + 1 ≤ cap) := by have := HM.out; show _ ≤ _; omega
        have HIn : Hid (pushH st' (x, y) = (x, y) :: st' → HalfI l o (k + 1) c (fun j => if j = o + n then (x, y) else cc j) ((x, y) :: st')) := fun q => by
          have := HIq.out st' pre HP.out.1 (by rw [HP.out.2, q])
          rwa [HN.out] at this
        have n0 : (0 : Int) ≤ (n : Int) := by omega
        have nS : (n : Int) ≤ (S : Int) := by omega
        have nC : (n : Int) ≤ (cap : Int) := by have := HM.out; omega
        by_cases h2 : 1 < n
        · have t1 : (1 : Int) < (n : Int) := by omega
          have t2 : IntKind.i64.wrap ((n : Int) - 2) = (n : Int) - 2 := by rw [IntKind.wrap_i64]; omega
          have t3 : (0 : Int) ≤ (n : Int) - 2 := by omega
          have t7 : (2 : Int) ≤ (n : Int) := by omega
          have u7 : (1 : Int) ≤ (n : Int) := by omega
          have t4 : (n : Int) - 2 < (S : Int) := by omega
          have t5 : ((n : Int) - 2).toNat = n - 2 := by omega
          have t6 : n - 2 < S := by omega
          have u2 : IntKind.i64.wrap ((n : Int) - 1) = (n : Int) - 1 := by rw [IntKind.wrap_i64]; omega
          have u3 : (0 : Int) ≤ (n : Int) - 1 := by omega
          have u4 : (n : Int) - 1 < (S : Int) := by omega
          have u5 : ((n : Int) - 1).toNat = n - 1 := by omega
          have u6 : n - 1 < S := by omega
          obtain ⟨vb, va, r, hr⟩ : ∃ vb va r, st' = vb :: va :: r := by
            match st', HN.out with
            | [], q => simp at q; omega
            | [_], q => simp at q; omega
            | vb :: va :: r, _ => exact ⟨vb, va, r, rfl⟩
          have hrn : r.length + 2 = n := by rw [← HN.out, hr]; simp
          have e2 := suf_two (by rw [← hr]; exact HP.out.1 : st = pre ++ vb :: va :: r)
          obtain ⟨v1, v2⟩ := HSb.out (n - 2) (by omega)
          obtain ⟨v3, v4⟩ := HSb.out (n - 1) (by omega)
          rw [show n - 2 = r.length by omega, e2.1] at v1
          rw [show n - 1 = r.length + 1 by omega, e2.2] at v3
          rw [show o + (n - 2) = o + r.length by omega, v1] at v2
          rw [show o + (n - 1) = o + (r.length + 1) by omega, v3] at v4
          obtain ⟨⟨a1, a2⟩, _⟩ := (HO1.out.below hBi hgW).row (o + (n - 2)) (by have := HM.out; omega)
          obtain ⟨⟨a3, a4⟩, _⟩ := (HO1.out.below hBi hgW).row (o + (n - 1)) (by have := HM.out; omega)
          rw [show o + (n - 2) = o + r.length by omega, v1] at a1 a2
          rw [show o + (n - 1) = o + (r.length + 1) by omega, v3] at a3 a4
          have hoo := HOf.out
          rw [show (o + r.length) * 2 = off + (n - 2) * 2 by omega] at a1 a2
          rw [show (o + (r.length + 1)) * 2 = off + (n - 1) * 2 by omega] at a3 a4
          obtain ⟨ax, ay⟩ := va
          obtain ⟨bx, bY⟩ := vb
          dsimp only at a1 a2 a3 a4 v2 v4
          have HBd := Lib.hid (fun w' => bends_any ax ay bx bY x y w' v2 v4 HQB)
          have HPb : Hid (pushH st' (x, y) = if bendV (ax, ay) (bx, bY) (x, y) = true then (x, y) :: st' else pushH ((ax, ay) :: r) (x, y)) := by rw [hr]; exact push_bend _ _ _ _
          have HrN : Hid (((ax, ay) :: r).length = n - 1) := by show _ = _; simp; omega
          have Hst : Hid (st = (pre ++ [(bx, bY)]) ++ (ax, ay) :: r) := by show _ = _; rw [HP.out.1, hr]; simp
          generalize bendV (ax, ay) (bx, bY) (x, y) = K at *
          clear hoo v1 v2 v3 v4 e2 hrn hr
          cases K
          · go_upto_region 6 with fail
            refine wp_region_any (by kernel_rfl) ?_
            try (change wpAny _ _ _ _ _ _ _ (World.drew _))
            refine wpAny_of_held (S := fun w' => Below (wr.heap.size) wr w') _ _ _ _ ?_
            have hSw : Below (wr.heap.size) wr (World.drew wr) := by go_grown
            generalize World.drew wr = wd at hSw ⊢
            refine wpAnyH_take (i := 0) (v := ?_) rfl (by kernel_rfl) (by kernel_rfl) (by kernel_rfl) (fun _ _ _ h => h) (Or.inl ⟨by rfl, ?_⟩) hSw ?_
            rotate_left
            focus (intro w0 hS0; clear hS0; go_simp; try with_reducible rfl)
            refine wpAnyH_take (i := 1) (v := ?_) rfl (by kernel_rfl) (by kernel_rfl) (by kernel_rfl) (fun _ _ _ h => h) (Or.inl ⟨by rfl, ?_⟩) hSw ?_
            rotate_left
            focus (intro w0 hS0; clear hS0; go_simp; try with_reducible rfl)
            refine wpAnyH_take (i := 2) (v := ?_) rfl (by kernel_rfl) (by kernel_rfl) (by kernel_rfl) (fun _ _ _ h => h) (Or.inl ⟨by rfl, ?_⟩) hSw ?_
            rotate_left
            focus (intro w0 hS0; clear hS0; go_simp; try with_reducible rfl)
            refine wpAnyH_take (i := 3) (v := ?_) rfl (by kernel_rfl) (by kernel_rfl) (by kernel_rfl) (fun _ _ _ h => h) (Or.inl ⟨by kernel_rfl, ?_⟩) hSw ?_
            rotate_left
            focus (intro w0 hS0; clear hS0; go_simp; try with_reducible rfl)
            refine wpAnyH_take (i := 4) (v := ?_) rfl (by kernel_rfl) (by kernel_rfl) (by kernel_rfl) (fun _ _ _ h => h) (Or.inl ⟨by kernel_rfl, ?_⟩) hSw ?_
            rotate_left
            focus (intro w0 hS0; clear hS0; go_simp; try with_reducible rfl)
            refine wpAnyH_take (i := 5) (v := ?_) rfl (by kernel_rfl) (by kernel_rfl) (by kernel_rfl) (fun _ _ _ h => h) (Or.inl ⟨by kernel_rfl, ?_⟩) hSw ?_
            rotate_left
            focus (intro w0 hS0; clear hS0; go_simp; try with_reducible rfl)
            refine wpAnyH_take (i := 6) (v := ?_) rfl (by kernel_rfl) (by kernel_rfl) (by kernel_rfl) (fun _ _ _ h => h) (Or.inl ⟨by kernel_rfl, ?_⟩) hSw ?_
            rotate_left
            focus (intro w0 hS0; clear hS0; go_simp; try with_reducible rfl)
            refine wpAnyH_take (i := 7) (v := ?_) rfl (by kernel_rfl) (by kernel_rfl) (by kernel_rfl) (fun _ _ _ h => h) (Or.inl ⟨by kernel_rfl, ?_⟩) hSw ?_
            rotate_left
            focus (intro w0 hS0; clear hS0; go_simp; try with_reducible rfl)
            refine wpAnyH_take (i := 8) (v := ?_) rfl (by kernel_rfl) (by kernel_rfl) (by kernel_rfl) (fun _ _ _ h => h) (Or.inl ⟨by kernel_rfl, ?_⟩) hSw ?_
            rotate_left
            focus (intro w0 hS0; have c0 := (hS0.cell (p := ⟨g, off + (n - 2) * 2, none⟩) hgi).trans a1; have c1 := (hS0.cell (p := ⟨g, off + (n - 2) * 2 + 1, none⟩) hgi).trans a2; have c2 := (hS0.cell (p := ⟨g, off + (n - 1) * 2, none⟩) hgi).trans a3; have c3 := (hS0.cell (p := ⟨g, off + (n - 1) * 2 + 1, none⟩) hgi).trans a4; have c4 := (hS0.cell (p := ⟨p, 0, none⟩) hpi).trans y0; have c5 := (hS0.cell (p := ⟨p, 1, none⟩) hpi).trans y1; clear hS0; go_simp; try with_reducible rfl)
            refine wpAnyH_take (i := 9) (v := ?_) rfl (by kernel_rfl) (by kernel_rfl) (by kernel_rfl) (fun _ _ _ h => h) (Or.inl ⟨by kernel_rfl, ?_⟩) hSw ?_
            rotate_left
            focus (intro w0 hS0; clear hS0; go_simp; try with_reducible rfl)
            refine wpAnyH_take (i := 10) (v := ?_) rfl (by kernel_rfl) (by kernel_rfl) (by kernel_rfl) (fun _ _ _ h => h) (Or.inl ⟨by kernel_rfl, ?_⟩) hSw ?_
            rotate_left
            focus (intro w0 hS0; clear hS0; go_simp; try with_reducible rfl)
            refine wpAnyH_take (i := 11) (v := ?_) rfl (by kernel_rfl) (by kernel_rfl) (by kernel_rfl) (fun _ _ _ h => h) (Or.inl ⟨by kernel_rfl, ?_⟩) hSw ?_
            rotate_left
            focus (intro w0 hS0; clear hS0; go_simp; try with_reducible rfl)
            refine wpAnyH_take (i := 12) (v := ?_) rfl (by kernel_rfl) (by kernel_rfl) (by kernel_rfl) (fun _ _ _ h => h) (Or.inl ⟨by kernel_rfl, ?_⟩) hSw ?_
            rotate_left
            focus (intro w0 hS0; clear hS0; go_simp; try with_reducible rfl)
            refine wpAnyH_take (i := 13) (v := ?_) rfl (by kernel_rfl) (by kernel_rfl) (by kernel_rfl) (fun _ _ _ h => h) (Or.inl ⟨by kernel_rfl, ?_⟩) hSw ?_
            rotate_left
            focus (intro w0 hS0; have c0 := (hS0.cell (p := ⟨g, off + (n - 2) * 2, none⟩) hgi).trans a1; have c1 := (hS0.cell (p := ⟨g, off + (n - 2) * 2 + 1, none⟩) hgi).trans a2; have c2 := (hS0.cell (p := ⟨g, off + (n - 1) * 2, none⟩) hgi).trans a3; have c3 := (hS0.cell (p := ⟨g, off + (n - 1) * 2 + 1, none⟩) hgi).trans a4; have c4 := (hS0.cell (p := ⟨p, 0, none⟩) hpi).trans y0; have c5 := (hS0.cell (p := ⟨p, 1, none⟩) hpi).trans y1; clear hS0; go_simp; try with_reducible rfl)
            refine wpAnyH_take (i := 14) (v := ?_) rfl (by kernel_rfl) (by kernel_rfl) (by kernel_rfl) (fun _ _ _ h => h) (Or.inl ⟨by kernel_rfl, ?_⟩) hSw ?_
            rotate_left
            focus (intro w0 hS0; have c0 := (hS0.cell (p := ⟨g, off + (n - 2) * 2, none⟩) hgi).trans a1; have c1 := (hS0.cell (p := ⟨g, off + (n - 2) * 2 + 1, none⟩) hgi).trans a2; have c2 := (hS0.cell (p := ⟨g, off + (n - 1) * 2, none⟩) hgi).trans a3; have c3 := (hS0.cell (p := ⟨g, off + (n - 1) * 2 + 1, none⟩) hgi).trans a4; have c4 := (hS0.cell (p := ⟨p, 0, none⟩) hpi).trans y0; have c5 := (hS0.cell (p := ⟨p, 1, none⟩) hpi).trans y1; clear hS0; go_simp; try with_reducible rfl)
            refine wpAnyH_ready (rs := [15]) (by kernel_rfl) (by simp) (AllReadyH.cons rfl (fun K hK => ?_) (AllReadyH.nil))
            go_simp
            (refine Calls.mono (HBd.out _) ?_; rintro e w4 ⟨rfl, hbX⟩; replace hSw := belowTo hSw hbX; refine hK.out _ _ hSw (fun _ => ?_); clear hK K hbX)
            refine wpAnyH_take (i := 16) (v := ?_) rfl (by kernel_rfl) (by kernel_rfl) (by kernel_rfl) (fun _ _ _ h => h) (Or.inl ⟨by kernel_rfl, ?_⟩) hSw ?_
            rotate_left
            focus (intro w0 hS0; clear hS0; go_simp; try with_reducible rfl)
            refine wpAnyH_take (i := 17) (v := ?_) rfl (by kernel_rfl) (by kernel_rfl) (by kernel_rfl) (fun _ _ _ h => h) (Or.inl ⟨by rfl, ?_⟩) hSw ?_
            rotate_left
            focus (intro w0 hS0; clear hS0; go_simp; try with_reducible rfl)
            refine wpAnyH_done (by kernel_rfl) ?_ _
            have hq4 : Below W1.heap.size W1 w4 := belowTo hBi hSw
            clear hSw y0 y1 a1 a2 a3 a4
            go_wp2
            go_roundw
            case rel => exact ⟨(ax, ay) :: r, pre ++ [(bx, bY)], by rw [HrN.out]; go_num, ⟨Hst.out, by rw [HP.out.2, HPb.out]; rfl⟩, hq4⟩
            case measure => simp [intOf]; omega
          · go_upto_region 6 with fail
            refine wp_region_any (by kernel_rfl) ?_
            try (change wpAny _ _ _ _ _ _ _ (World.drew _))
            refine wpAny_of_held (S := fun w' => Below (wr.heap.size) wr w') _ _ _ _ ?_
            have hSw : Below (wr.heap.size) wr (World.drew wr) := by go_grown
            generalize World.drew wr = wd at hSw ⊢
            refine wpAnyH_take (i := 0) (v := ?_) rfl (by kernel_rfl) (by kernel_rfl) (by kernel_rfl) (fun _ _ _ h => h) (Or.inl ⟨by rfl, ?_⟩) hSw ?_
            rotate_left
            focus (intro w0 hS0; clear hS0; go_simp; try with_reducible rfl)
            refine wpAnyH_take (i := 1) (v := ?_) rfl (by kernel_rfl) (by kernel_rfl) (by kernel_rfl) (fun _ _ _ h => h) (Or.inl ⟨by rfl, ?_⟩) hSw ?_
            rotate_left
            focus (intro w0 hS0; clear hS0; go_simp; try with_reducible rfl)
            refine wpAnyH_take (i := 2) (v := ?_) rfl (by kernel_rfl) (by kernel_rfl) (by kernel_rfl) (fun _ _ _ h => h) (Or.inl ⟨by rfl, ?_⟩) hSw ?_
            rotate_left
            focus (intro w0 hS0; clear hS0; go_simp; try with_reducible rfl)
            refine wpAnyH_take (i := 3) (v := ?_) rfl (by kernel_rfl) (by kernel_rfl) (by kernel_rfl) (fun _ _ _ h => h) (Or.inl ⟨by kernel_rfl, ?_⟩) hSw ?_
            rotate_left
            focus (intro w0 hS0; clear hS0; go_simp; try with_reducible rfl)
            refine wpAnyH_take (i := 4) (v := ?_) rfl (by kernel_rfl) (by kernel_rfl) (by kernel_rfl) (fun _ _ _ h => h) (Or.inl ⟨by kernel_rfl, ?_⟩) hSw ?_
            rotate_left
            focus (intro w0 hS0; clear hS0; go_simp; try with_reducible rfl)
            refine wpAnyH_take (i := 5) (v := ?_) rfl (by kernel_rfl) (by kernel_rfl) (by kernel_rfl) (fun _ _ _ h => h) (Or.inl ⟨by kernel_rfl, ?_⟩) hSw ?_
            rotate_left
            focus (intro w0 hS0; clear hS0; go_simp; try with_reducible rfl)
            refine wpAnyH_take (i := 6) (v := ?_) rfl (by kernel_rfl) (by kernel_rfl) (by kernel_rfl) (fun _ _ _ h => h) (Or.inl ⟨by kernel_rfl, ?_⟩) hSw ?_
            rotate_left
            focus (intro w0 hS0; clear hS0; go_simp; try with_reducible rfl)
            refine wpAnyH_take (i := 7) (v := ?_) rfl (by kernel_rfl) (by kernel_rfl) (by kernel_rfl) (fun _ _ _ h => h) (Or.inl ⟨by kernel_rfl, ?_⟩) hSw ?_
            rotate_left
            focus (intro w0 hS0; clear hS0; go_simp; try with_reducible rfl)
            refine wpAnyH_take (i := 8) (v := ?_) rfl (by kernel_rfl) (by kernel_rfl) (by kernel_rfl) (fun _ _ _ h => h) (Or.inl ⟨by kernel_rfl, ?_⟩) hSw ?_
            rotate_left
            focus (intro w0 hS0; have c0 := (hS0.cell (p := ⟨g, off + (n - 2) * 2, none⟩) hgi).trans a1; have c1 := (hS0.cell (p := ⟨g, off + (n - 2) * 2 + 1, none⟩) hgi).trans a2; have c2 := (hS0.cell (p := ⟨g, off + (n - 1) * 2, none⟩) hgi).trans a3; have c3 := (hS0.cell (p := ⟨g, off + (n - 1) * 2 + 1, none⟩) hgi).trans a4; have c4 := (hS0.cell (p := ⟨p, 0, none⟩) hpi).trans y0; have c5 := (hS0.cell (p := ⟨p, 1, none⟩) hpi).trans y1; clear hS0; go_simp; try with_reducible rfl)
            refine wpAnyH_take (i := 9) (v := ?_) rfl (by kernel_rfl) (by kernel_rfl) (by kernel_rfl) (fun _ _ _ h => h) (Or.inl ⟨by kernel_rfl, ?_⟩) hSw ?_
            rotate_left
            focus (intro w0 hS0; clear hS0; go_simp; try with_reducible rfl)
            refine wpAnyH_take (i := 10) (v := ?_) rfl (by kernel_rfl) (by kernel_rfl) (by kernel_rfl) (fun _ _ _ h => h) (Or.inl ⟨by kernel_rfl, ?_⟩) hSw ?_
            rotate_left
            focus (intro w0 hS0; clear hS0; go_simp; try with_reducible rfl)
            refine wpAnyH_take (i := 11) (v := ?_) rfl (by kernel_rfl) (by kernel_rfl) (by kernel_rfl) (fun _ _ _ h => h) (Or.inl ⟨by kernel_rfl, ?_⟩) hSw ?_
            rotate_left
            focus (intro w0 hS0; clear hS0; go_simp; try with_reducible rfl)
            refine wpAnyH_take (i := 12) (v := ?_) rfl (by kernel_rfl) (by kernel_rfl) (by kernel_rfl) (fun _ _ _ h => h) (Or.inl ⟨by kernel_rfl, ?_⟩) hSw ?_
            rotate_left
            focus (intro w0 hS0; clear hS0; go_simp; try with_reducible rfl)
            refine wpAnyH_take (i := 13) (v := ?_) rfl (by kernel_rfl) (by kernel_rfl) (by kernel_rfl) (fun _ _ _ h => h) (Or.inl ⟨by kernel_rfl, ?_⟩) hSw ?_
            rotate_left
            focus (intro w0 hS0; have c0 := (hS0.cell (p := ⟨g, off + (n - 2) * 2, none⟩) hgi).trans a1; have c1 := (hS0.cell (p := ⟨g, off + (n - 2) * 2 + 1, none⟩) hgi).trans a2; have c2 := (hS0.cell (p := ⟨g, off + (n - 1) * 2, none⟩) hgi).trans a3; have c3 := (hS0.cell (p := ⟨g, off + (n - 1) * 2 + 1, none⟩) hgi).trans a4; have c4 := (hS0.cell (p := ⟨p, 0, none⟩) hpi).trans y0; have c5 := (hS0.cell (p := ⟨p, 1, none⟩) hpi).trans y1; clear hS0; go_simp; try with_reducible rfl)
            refine wpAnyH_take (i := 14) (v := ?_) rfl (by kernel_rfl) (by kernel_rfl) (by kernel_rfl) (fun _ _ _ h => h) (Or.inl ⟨by kernel_rfl, ?_⟩) hSw ?_
            rotate_left
            focus (intro w0 hS0; have c0 := (hS0.cell (p := ⟨g, off + (n - 2) * 2, none⟩) hgi).trans a1; have c1 := (hS0.cell (p := ⟨g, off + (n - 2) * 2 + 1, none⟩) hgi).trans a2; have c2 := (hS0.cell (p := ⟨g, off + (n - 1) * 2, none⟩) hgi).trans a3; have c3 := (hS0.cell (p := ⟨g, off + (n - 1) * 2 + 1, none⟩) hgi).trans a4; have c4 := (hS0.cell (p := ⟨p, 0, none⟩) hpi).trans y0; have c5 := (hS0.cell (p := ⟨p, 1, none⟩) hpi).trans y1; clear hS0; go_simp; try with_reducible rfl)
            refine wpAnyH_ready (rs := [15]) (by kernel_rfl) (by simp) (AllReadyH.cons rfl (fun K hK => ?_) (AllReadyH.nil))
            go_simp
            (refine Calls.mono (HBd.out _) ?_; rintro e w4 ⟨rfl, hbX⟩; replace hSw := belowTo hSw hbX; refine hK.out _ _ hSw (fun _ => ?_); clear hK K hbX)
            refine wpAnyH_take (i := 16) (v := ?_) rfl (by kernel_rfl) (by kernel_rfl) (by kernel_rfl) (fun _ _ _ h => h) (Or.inl ⟨by kernel_rfl, ?_⟩) hSw ?_
            rotate_left
            focus (intro w0 hS0; clear hS0; go_simp; try with_reducible rfl)
            refine wpAnyH_take (i := 17) (v := ?_) rfl (by kernel_rfl) (by kernel_rfl) (by kernel_rfl) (fun _ _ _ h => h) (Or.inl ⟨by rfl, ?_⟩) hSw ?_
            rotate_left
            focus (intro w0 hS0; clear hS0; go_simp; try with_reducible rfl)
            refine wpAnyH_done (by kernel_rfl) ?_ _
            have hq4 : Below W1.heap.size W1 w4 := belowTo hBi hSw
            have HIn2 := Lib.hid (HIn.out (by rw [HPb.out, if_pos rfl]))
            have z0 : w4.cell? ⟨p, 0, none⟩ = some (.int .i64 x) := (hSw.cell (p := ⟨p, 0, none⟩) hpi).trans y0
            have z1 : w4.cell? ⟨p, 1, none⟩ = some (.int .i64 y) := (hSw.cell (p := ⟨p, 1, none⟩) hpi).trans y1
            clear hSw a1 a2 a3 a4 HIn y0 y1
            have hq4s := hq4.size
            go_wp2
            refine wp_region_any (by kernel_rfl) ?_
            try (change wpAny _ _ _ _ _ _ _ (World.drew _))
            refine wpAny_take (i := 0) (v := ?_) rfl (by kernel_rfl) (by kernel_rfl) (by kernel_rfl) (fun _ _ _ h => h) (Or.inl ⟨by rfl, ?_⟩) ?_
            rotate_left
            focus (intro w0; go_simp; try with_reducible rfl)
            refine wpAny_take (i := 1) (v := ?_) rfl (by kernel_rfl) (by kernel_rfl) (by kernel_rfl) (fun _ _ _ h => h) (Or.inl ⟨by rfl, ?_⟩) ?_
            rotate_left
            focus (intro w0; go_simp; try with_reducible rfl)
            refine wpAny_take (i := 2) (v := ?_) rfl (by kernel_rfl) (by kernel_rfl) (by kernel_rfl) (fun _ _ _ h => h) (Or.inl ⟨by rfl, ?_⟩) ?_
            rotate_left
            focus (intro w0; go_simp; try with_reducible rfl)
            refine wpAny_ready (rs := [3]) (by kernel_rfl) (by simp) (AllReady.cons rfl (fun K hK => ?_) (AllReady.nil))
            go_simp
            refine hK _ _ ?_
            clear hK K
            refine wpAny_ready (rs := [4]) (by kernel_rfl) (by simp) (AllReady.cons rfl (fun K hK => ?_) (AllReady.nil))
            go_simp
            refine hK _ _ ?_
            clear hK K
            refine wpAny_ready (rs := [5]) (by kernel_rfl) (by simp) (AllReady.cons rfl (fun K hK => ?_) (AllReady.nil))
            (refine step_app rfl _ _ 23 rfl 55 i0 Tryz.underlying23 hi hz1 g off n cap rfl ⟨_, 0, none⟩ 1 x y rfl (by first | (go_cell; done) | (go_simp; done) | (simp; done)) (by first | (go_cell; done) | (go_simp; done) | (simp; done)) HR8.out (HSp.out _ (by go_grown)) ?_)
            refine hK _ _ ?_
            clear hK K
            refine wpAny_seq 6 rfl (by kernel_rfl) ?_
            simp only [List.drop_succ_cons, List.drop_zero]
            go_wp2
            go_roundw
            case rel => exact ⟨k + 1, (x, y) :: st', _, by rw [List.length_cons, HN.out], by go_num, by omega, HIn2, HO8.out _ (by go_grown), (HB8.out _ (by go_grown)).drew⟩
            case measure => simp [intOf]; omega
        · have t1 : ¬ (1 : Int) < (n : Int) := by omega
          have HIn2 := Lib.hid (HIn.out (push_one (by rw [HN.out]; exact h2) _))
          go_upto_region 6 with fail
          refine wp_region_any (by kernel_rfl) ?_
          try (change wpAny _ _ _ _ _ _ _ (World.drew _))
          refine wpAny_take (i := 0) (v := ?_) rfl (by kernel_rfl) (by kernel_rfl) (by kernel_rfl) (fun _ _ _ h => h) (Or.inl ⟨by rfl, ?_⟩) ?_
          rotate_left
          focus (intro w0; go_simp; try with_reducible rfl)
          refine wpAny_take (i := 1) (v := ?_) rfl (by kernel_rfl) (by kernel_rfl) (by kernel_rfl) (fun _ _ _ h => h) (Or.inl ⟨by rfl, ?_⟩) ?_
          rotate_left
          focus (intro w0; go_simp; try with_reducible rfl)
          refine wpAny_take (i := 2) (v := ?_) rfl (by kernel_rfl) (by kernel_rfl) (by kernel_rfl) (fun _ _ _ h => h) (Or.inl ⟨by rfl, ?_⟩) ?_
          rotate_left
          focus (intro w0; go_simp; try with_reducible rfl)
          refine wpAny_take (i := 3) (v := undef) rfl (by kernel_rfl) (by kernel_rfl) (by kernel_rfl) (fun _ _ _ h => h) (Or.inr ⟨by kernel_rfl, rfl⟩) ?_
          refine wpAny_take (i := 4) (v := undef) rfl (by kernel_rfl) (by kernel_rfl) (by kernel_rfl) (fun _ _ _ h => h) (Or.inr ⟨by kernel_rfl, rfl⟩) ?_
          refine wpAny_take (i := 5) (v := undef) rfl (by kernel_rfl) (by kernel_rfl) (by kernel_rfl) (fun _ _ _ h => h) (Or.inr ⟨by kernel_rfl, rfl⟩) ?_
          refine wpAny_take (i := 6) (v := undef) rfl (by kernel_rfl) (by kernel_rfl) (by kernel_rfl) (fun _ _ _ h => h) (Or.inr ⟨by kernel_rfl, rfl⟩) ?_
          refine wpAny_take (i := 7) (v := undef) rfl (by kernel_rfl) (by kernel_rfl) (by kernel_rfl) (fun _ _ _ h => h) (Or.inr ⟨by kernel_rfl, rfl⟩) ?_
          refine wpAny_take (i := 8) (v := undef) rfl (by kernel_rfl) (by kernel_rfl) (by kernel_rfl) (fun _ _ _ h => h) (Or.inr ⟨by kernel_rfl, rfl⟩) ?_
          refine wpAny_take (i := 9) (v := undef) rfl (by kernel_rfl) (by kernel_rfl) (by kernel_rfl) (fun _ _ _ h => h) (Or.inr ⟨by kernel_rfl, rfl⟩) ?_
          refine wpAny_take (i := 10) (v := undef) rfl (by kernel_rfl) (by kernel_rfl) (by kernel_rfl) (fun _ _ _ h => h) (Or.inr ⟨by kernel_rfl, rfl⟩) ?_
          refine wpAny_take (i := 11) (v := undef) rfl (by kernel_rfl) (by kernel_rfl) (by kernel_rfl) (fun _ _ _ h => h) (Or.inr ⟨by kernel_rfl, rfl⟩) ?_
          refine wpAny_take (i := 12) (v := undef) rfl (by kernel_rfl) (by kernel_rfl) (by kernel_rfl) (fun _ _ _ h => h) (Or.inr ⟨by kernel_rfl, rfl⟩) ?_
          refine wpAny_take (i := 13) (v := undef) rfl (by kernel_rfl) (by kernel_rfl) (by kernel_rfl) (fun _ _ _ h => h) (Or.inr ⟨by kernel_rfl, rfl⟩) ?_
          refine wpAny_take (i := 14) (v := undef) rfl (by kernel_rfl) (by kernel_rfl) (by kernel_rfl) (fun _ _ _ h => h) (Or.inr ⟨by kernel_rfl, rfl⟩) ?_
          refine wpAny_take (i := 15) (v := undef) rfl (by kernel_rfl) (by kernel_rfl) (by kernel_rfl) (fun _ _ _ h => h) (Or.inr ⟨by kernel_rfl, rfl⟩) ?_
          refine wpAny_seq 16 rfl (by kernel_rfl) ?_
          simp only [List.drop_succ_cons, List.drop_zero]
          clear HIn
          go_wp2
          refine wp_region_any (by kernel_rfl) ?_
          try (change wpAny _ _ _ _ _ _ _ (World.drew _))
          refine wpAny_take (i := 0) (v := ?_) rfl (by kernel_rfl) (by kernel_rfl) (by kernel_rfl) (fun _ _ _ h => h) (Or.inl ⟨by rfl, ?_⟩) ?_
          rotate_left
          focus (intro w0; go_simp; try with_reducible rfl)
          refine wpAny_take (i := 1) (v := ?_) rfl (by kernel_rfl) (by kernel_rfl) (by kernel_rfl) (fun _ _ _ h => h) (Or.inl ⟨by rfl, ?_⟩) ?_
          rotate_left
          focus (intro w0; go_simp; try with_reducible rfl)
          refine wpAny_take (i := 2) (v := ?_) rfl (by kernel_rfl) (by kernel_rfl) (by kernel_rfl) (fun _ _ _ h => h) (Or.inl ⟨by rfl, ?_⟩) ?_
          rotate_left
          focus (intro w0; go_simp; try with_reducible rfl)
          refine wpAny_ready (rs := [3]) (by kernel_rfl) (by simp) (AllReady.cons rfl (fun K hK => ?_) (AllReady.nil))
          go_simp
          refine hK _ _ ?_
          clear hK K
          refine wpAny_ready (rs := [4]) (by kernel_rfl) (by simp) (AllReady.cons rfl (fun K hK => ?_) (AllReady.nil))
          go_simp
          refine hK _ _ ?_
          clear hK K
          refine wpAny_ready (rs := [5]) (by kernel_rfl) (by simp) (AllReady.cons rfl (fun K hK => ?_) (AllReady.nil))
          (refine step_app rfl _ _ 23 rfl 55 i0 Tryz.underlying23 hi hz1 g off n cap rfl ⟨_, 0, none⟩ 1 x y rfl (by first | (go_cell; done) | (go_simp; done) | (simp; done)) (by first | (go_cell; done) | (go_simp; done) | (simp; done)) HR8.out (HSp.out _ (by go_grown)) ?_)
          refine hK _ _ ?_
          clear hK K
          refine wpAny_seq 6 rfl (by kernel_rfl) ?_
          simp only [List.drop_succ_cons, List.drop_zero]
          go_wp2
          go_roundw
          case rel => exact ⟨k + 1, (x, y) :: st', _, by rw [List.length_cons, HN.out], by go_num, by omega, HIn2, (HF8.out _ _ (by go_grown)).1, (HF8.out _ _ (by go_grown)).2.drew.drew⟩
          case measure => simp [intOf]; omega
    · have hkm : k = m := by omega
      subst hkm
      obtain ⟨hM1, _⟩ := HM.out
      have hD := HD.out st cc (by rw [← hM1]; exact HI.out)
      have HF := Lib.hid (fun v hv => HY.out wr v hv ⟨cc, HOw.out, fun j hj => hD.2 j (by rw [← HRr.out]; exact hj), HI.out.out⟩)
      have hlen : Hid (R = st.length - 1) := by show _ = _; rw [HRr.out, ← hD.1]; simp
      have hsk : st.length ≤ k := HI.out.le
      clear hD hM1 HI HOw
      generalize st.length = S at *
      have q2 : IntKind.i64.wrap ((S : Int) - 1) = (S : Int) - 1 := by rw [IntKind.wrap_i64]; omega
      by_cases h0 : S = 0
      · subst h0
        have q3 : (0 : Int) ≤ (cap : Int) := by omega
        go_wp2
        go_returns
        exact HF.out _ (by rw [hlen.out]; rfl) hB
      · have q3 : (0 : Int) ≤ (S : Int) - 1 := by omega
        have q4 : (S : Int) - 1 ≤ (cap : Int) := by have := HM.out; omega
        have q5 : ((S : Int) - 1).toNat = S - 1 := by omega
        have q6 : (1 : Int) ≤ (S : Int) := by omega
        have q8 : (max 0 ((S : Int) - 1)).toNat = S - 1 := by omega
        go_wp2
        go_returns
        exact HF.out _ (by rw [hlen.out, ← q8]; rfl) hB
end Go.Proofs.YtgaeibibeekclabGreatDoor
namespace Go.Proofs.YtgaeibibeekclabGreatDoor
open Go.RowKit
/-- vectors written into a block -/
theorem OwnC.cells {b g M : Nat} : ∀ (l : List V2) (o : Nat) (W : World) (c : Nat → V2), OwnC W b g M c → o + l.length ≤ M →
    OwnC (W.setCells g (o * 2) (intsV (flat l))) b g M (fun j => if o ≤ j ∧ j < o + l.length then cyc l (j - o) else c j)
  | [], o, W, c, h, _ => h.congr fun j _ => by rw [if_neg (by rw [List.length_nil]; omega)]
  | v :: l, o, W, c, h, hl => by
    rw [List.length_cons] at hl
    have h1 := h.set (k := o) (by omega) v
    have h2 := OwnC.cells l (o + 1) _ _ h1 (by omega)
    have e : W.setCells g (o * 2) (intsV (flat (v :: l))) = ((W.setCell ⟨g, o * 2, none⟩ (.int .i64 v.1)).setCell ⟨g, o * 2 + 1, none⟩ (.int .i64 v.2)).setCells g ((o + 1) * 2) (intsV (flat l)) := by
      rw [show (o + 1) * 2 = o * 2 + 1 + 1 by omega]
      rfl
    rw [e]
    refine h2.congr fun j hj => ?_
    rw [List.length_cons]
    by_cases k1 : j = o
    · subst k1
      rw [if_neg (by omega), if_pos rfl, if_pos (by omega), Nat.sub_self]
      rfl
    · by_cases k2 : o + 1 ≤ j ∧ j < o + 1 + l.length
      · rw [if_pos k2, if_pos (by omega), cyc_lt (by omega), cyc_lt (by simp; omega), show j - o = (j - (o + 1)) + 1 by omega, List.getElem?_cons_succ]
      · rw [if_neg k2, if_neg k1, if_neg (by omega)]
theorem made_own (w : World) (M : Nat) (hM : M ≤ 1048576) : OwnC (w.alloc (.cells (madeCells #[.int .i64 0, .int .i64 0] (M * 2)) 55)) w.heap.size w.heap.size M (fun _ => (0, 0)) := by
  refine ⟨Nat.le_refl _, hM, _, heap_alloc_new w _, size_madeCells _ _, fun j hj => ?_⟩
  unfold madeCells
  rw [Array.getElem?_map, Array.getElem?_map, Array.getElem?_range, Array.getElem?_range, if_pos (by omega), if_pos (by omega)]
  have e1 : j * 2 % 2 = 0 := by omega
  have e2 : (j * 2 + 1) % 2 = 1 := by omega
  constructor
  · simp [e1]
  · simp [e2]
theorem run_makeV (N : Nat) (hN : N ≤ 1048576) (w : World) :
    (Instr.makeSlice 23 (.int .i64 (N : Int)) (.int .i64 (N : Int))).run Tryz.prog w = .ok (.slice (some ⟨w.heap.size, 0, none⟩) N N) (w.alloc (.cells (madeCells #[.int .i64 0, .int .i64 0] (N * 2)) 55)) := by
  obtain ⟨i0, hi, hz0, hz1, hz2⟩ := info_parts infoVec
  have h := run_make (P := Tryz.prog) w 23 55 i0 (.agg #[.int .i64 (0), .int .i64 (0)]) Tryz.underlying23 hi hz0 .i64 .i64 (N : Int) (N : Int) (by omega) (Int.le_refl _) (by rw [hz2]; omega) (by omega)
  simp only [Int.toNat_natCast, hz1] at h
  exact h
theorem flatV_one (l : List V2) : ∀ v ∈ intsV (flat l), v.oneCell' = true := by
  intro v hv
  simp only [intsV, List.mem_map] at hv
  obtain ⟨x, _, rfl⟩ := hv
  rfl
theorem flatV_len (l : List V2) : (intsV (flat l)).length = l.length * 2 := by
  rw [intsV, List.length_map, flat_len]
  omega
theorem flatV_cells {w : World} {bb off : Nat} {l : List V2} (h : ∀ j, j < l.length → w.cell? ⟨bb, off + j * 2, none⟩ = some (.int .i64 (cyc l j).1) ∧ w.cell? ⟨bb, off + j * 2 + 1, none⟩ = some (.int .i64 (cyc l j).2)) :
    ∀ j v, (intsV (flat l))[j]? = some v → w.cell? ((⟨bb, off, none⟩ : Addr).add j) = some v := by
  intro j v hj
  have hlt : j < l.length * 2 := by
    rcases Nat.lt_or_ge j (l.length * 2) with h | h
    · exact h
    · rw [List.getElem?_eq_none (by rw [flatV_len]; omega)] at hj
      cases hj
  have hfl := flat_len l
  rw [intsV_get _ j (by omega)] at hj
  obtain ⟨e1, e2⟩ := flat_get l (j / 2) (by omega)
  obtain ⟨c1, c2⟩ := h (j / 2) (by omega)
  rw [Addr.add_lit]
  rcases Nat.mod_two_eq_zero_or_one j with q | q
  · rw [show j / 2 * 2 = j by omega] at e1 c1
    rw [c1, ← hj, e1]
  · rw [show j / 2 * 2 + 1 = j by omega] at e2
    rw [show off + j / 2 * 2 + 1 = off + j by omega] at c2
    rw [c2, ← hj, e2]
theorem run_copyV (w : World) (ty : TypeId) (g o dLen dCap : Nat) (v : Value) (l : List V2) (hR : ReadsVecs w v l) (hle : l.length ≤ dLen)
    (hc : ∀ j, j < l.length * 2 → (w.cell? ⟨g, o + j, none⟩).isSome = true ∧ w.frozen? ⟨g, o + j, none⟩ = false) :
    (Builtin.copy_ #[23, 23] ty #[.slice (some ⟨g, o, none⟩) dLen dCap, v]).run Tryz.prog w = .ok (goInt l.length) (w.setCells g o (intsV (flat l))) := by
  obtain ⟨i0, hi, hz0, hz1, hz2⟩ := info_parts infoVec
  obtain ⟨a, c, rfl, h1, h2, h3⟩ := hR
  have hmin : Nat.min l.length dLen = l.length := Nat.min_eq_left hle
  rcases Nat.eq_zero_or_pos l.length with z | z
  · have : l = [] := List.eq_nil_of_length_eq_zero z
    subst this
    have hl : ∀ (x : Addr), (loadCells x 0).run Tryz.prog w = .ok #[] w := fun x => by simpa using run_loadCells_list (P := Tryz.prog) w x [] (by simp)
    cases a <;> simp [Builtin.copy_, run_underlying Tryz.underlying23, Builtin.lenOf, Builtin.firstCells, sizeOf, typeInfo, hi, storeCells, hl, flat, intsV, World.setCells]
  · obtain ⟨bb, off, rfl, _, h5⟩ := h3 z
    have hl := run_loadCells_list (P := Tryz.prog) w ⟨bb, off, none⟩ (intsV (flat l)) (flatV_cells h5)
    have hst := run_storeCells_cells (P := Tryz.prog) g o (intsV (flat l)) 0 w (by rw [flatV_len]; intro j hj; exact (hc j hj).1) (by rw [flatV_len]; intro j hj; exact (hc j hj).2) (flatV_one l)
    rw [flatV_len] at hl
    simp only [Nat.add_zero] at hst
    simp [Builtin.copy_, run_underlying Tryz.underlying23, Builtin.lenOf, Builtin.firstCells, sizeOf, typeInfo, hi, hz1, hmin, hl, hst]
theorem step_copyV {ops : Array Oper} {o : Oper} {a : Act} {w : World} {K : Act → World → Prop} {Q : Exit → Act → World → Prop} {E : Prop} (hgd : o.guard = none) (d s : Operand)
    (ho : o.op = .call { callee := .builtin .copy, args := #[d, s], argTypes := #[23, 23] })
    (g off dLen dCap : Nat) (hd : a.eval d = .slice (some ⟨g, off, none⟩) dLen dCap) (v : Value) (hs : a.eval s = v) (l : List V2) (hR : ReadsVecs w v l) (hle : l.length ≤ dLen)
    (hc : ∀ j, j < l.length * 2 → (w.cell? ⟨g, off + j, none⟩).isSome = true ∧ w.frozen? ⟨g, off + j, none⟩ = false)
    (h : K (a.put o.dst (goInt l.length)) (w.setCells g off (intsV (flat l)))) :
    if Region.wanted o (yielded ops a.tmps) = true then Oper.wp Tryz.prog o a w K Q else E := by
  have hw : Region.wanted o (yielded ops a.tmps) = true := by simp [Region.wanted, hgd]
  rw [if_pos hw]
  have hrun := run_copyV w o.type g off dLen dCap v l hR hle hc
  unfold Oper.wp
  simp [execOp, ho, resolve, invoke, builtin, hd, hs, hrun, Result.andThen]
  exact h
/-- one half of a block, and then the other -/
theorem run_joinV (w : World) (ty : TypeId) (b g M n cap2 : Nat) (c : Nat → V2) (r1 r2 : List V2) (h : OwnC w b g M c) (hM : n + n ≤ M) (h1 : r1.length ≤ n) (h2 : r2.length ≤ n) (e1 : ∀ j, j < r1.length → c j = cyc r1 j) (e2 : ∀ j, j < r2.length → c (n + j) = cyc r2 j) :
    ∃ v' w', (Builtin.append_ #[23, 23] ty #[.slice (some ⟨g, 0, none⟩) r1.length n, .slice (some ⟨g, n * 2, none⟩) r2.length cap2]).run Tryz.prog w = .ok v' w' ∧ VecsR w' b v' (r1 ++ r2) ∧ Below b w w' := by
  obtain ⟨i0, hi, hz0, hz1, hz2⟩ := info_parts infoVec
  have hmx := h.2.1
  have hb := h.1
  have hlt := h.lt
  have q1 : ∀ j, j < r1.length → w.cell? ⟨g, 0 + j * 2, none⟩ = some (.int .i64 (cyc r1 j).1) ∧ w.cell? ⟨g, 0 + j * 2 + 1, none⟩ = some (.int .i64 (cyc r1 j).2) := fun j hj => by
    rw [Nat.zero_add, ← e1 j hj]
    exact (h.row j (by omega)).1
  have q2 : ∀ j, j < r2.length → w.cell? ⟨g, n * 2 + j * 2, none⟩ = some (.int .i64 (cyc r2 j).1) ∧ w.cell? ⟨g, n * 2 + j * 2 + 1, none⟩ = some (.int .i64 (cyc r2 j).2) := fun j hj => by
    rw [← e2 j hj, show n * 2 + j * 2 = (n + j) * 2 by omega]
    exact (h.row (n + j) (by omega)).1
  have hl2 := flatV_len r2
  by_cases hr : r1.length + r2.length ≤ n
  · have hrun := run_append_room_cells (P := Tryz.prog) w 23 ty 55 i0 Tryz.underlying23 hi g 0 r1.length n ⟨g, n * 2, none⟩ r2.length cap2 (intsV (flat r2)) (by rw [hl2, hz1]) (flatV_cells q2) (flatV_one r2) hr
      (by
        rw [hl2, hz1]
        intro j hj
        obtain ⟨⟨u1, u2⟩, _⟩ := h.row (r1.length + j / 2) (by omega)
        rcases Nat.mod_two_eq_zero_or_one j with q | q
        · rw [show (r1.length + j / 2) * 2 = 0 + r1.length * 2 + j by omega] at u1
          rw [u1]; rfl
        · rw [show (r1.length + j / 2) * 2 + 1 = 0 + r1.length * 2 + j by omega] at u2
          rw [u2]; rfl)
      (by
        rw [hl2, hz1]
        intro j hj
        obtain ⟨_, u3, u4⟩ := h.row (r1.length + j / 2) (by omega)
        rcases Nat.mod_two_eq_zero_or_one j with q | q
        · rwa [show (r1.length + j / 2) * 2 = 0 + r1.length * 2 + j by omega] at u3
        · rwa [show (r1.length + j / 2) * 2 + 1 = 0 + r1.length * 2 + j by omega] at u4)
    rw [hz1, Nat.zero_add] at hrun
    refine ⟨_, _, hrun, ?_, below_setCells b g hb _ _ _⟩
    have ho := OwnC.cells r2 r1.length w c h (by omega)
    have := ho.vecs (cap := n) (l := r1 ++ r2) (by simp; omega) (by simp; omega) (fun j hj => by
      rw [List.length_append] at hj
      by_cases k : j < r1.length
      · rw [if_neg (by omega), e1 j k, cyc_lt k, cyc_lt (by simp; omega), List.getElem?_append_left k]
      · rw [if_pos (by omega), cyc_lt (by omega), cyc_lt (by simp; omega), List.getElem?_append_right (by omega)])
    rwa [List.length_append] at this
  · obtain ⟨v', w', hrun, r3, r4⟩ := run_append_arg_grows (P := Tryz.prog) w 23 ty 55 i0 (.agg #[.int .i64 (0), .int .i64 (0)]) 2 16 Tryz.underlying23 hi hz0 hz1 hz2 rfl (by decide) ⟨g, 0, none⟩ r1.length n (intsV (flat r1)) (flatV_len r1) (flatV_cells q1) ⟨g, n * 2, none⟩ r2.length cap2 (intsV (flat r2)) hl2 (flatV_cells q2) (by omega) (by unfold maxLen; omega) (by omega)
    refine ⟨v', w', hrun, ?_, ?_⟩
    · have : Vecs w' w.heap.size v' (r1 ++ r2) := by
        unfold Vecs VRow
        rw [List.length_append, flat_app]
        have e : intsV (flat r1 ++ flat r2) = intsV (flat r1) ++ intsV (flat r2) := by simp [intsV]
        rw [e]
        exact r3
      exact this.R.lower (by omega)
    · exact (Below.refl b w).grown r4 (by omega) (fun q hq => by cases hq)
theorem step_joinV {ops : Array Oper} {o : Oper} {a : Act} {w : World} {K : Act → World → Prop} {Q : Exit → Act → World → Prop} {E : Prop} (hgd : o.guard = none) (s x : Operand)
    (ho : o.op = .call { callee := .builtin .append, args := #[s, x], argTypes := #[23, 23] })
    (b g M n cap2 m1 m2 : Nat) (c : Nat → V2) (r1 r2 : List V2) (hs : a.eval s = .slice (some ⟨g, 0, none⟩) m1 n) (hx : a.eval x = .slice (some ⟨g, n * 2, none⟩) m2 cap2) (k1 : m1 = r1.length) (k2 : m2 = r2.length)
    (h : OwnC w b g M c) (hM : n + n ≤ M) (h1 : r1.length ≤ n) (h2 : r2.length ≤ n) (e1 : ∀ j, j < r1.length → c j = cyc r1 j) (e2 : ∀ j, j < r2.length → c (n + j) = cyc r2 j)
    (hK : ∀ v' w', VecsR w' b v' (r1 ++ r2) → Below b w w' → K (a.put o.dst v') w') :
    if Region.wanted o (yielded ops a.tmps) = true then Oper.wp Tryz.prog o a w K Q else E := by
  have hw : Region.wanted o (yielded ops a.tmps) = true := by simp [Region.wanted, hgd]
  rw [if_pos hw]
  subst k1
  subst k2
  obtain ⟨v', w', hrun, r3, r4⟩ := run_joinV w o.type b g M n cap2 c r1 r2 h hM h1 h2 e1 e2
  unfold Oper.wp
  simp [execOp, ho, resolve, invoke, builtin, hs, hx, hrun, Result.andThen]
  exact hK v' w' r3 r4
theorem push_len : ∀ (st : List V2) (c : V2), (pushH st c).length ≤ st.length + 1
  | [], _ => by simp [pushH]
  | [_], _ => by simp [pushH]
  | b :: a :: st, c => by
    rw [pushH]
    split
    · simp
    · have := push_len (a :: st) c
      simp only [List.length_cons] at this ⊢
      omega
theorem fold_len : ∀ (l st : List V2), (l.foldl pushH st).length ≤ st.length + l.length
  | [], _ => by simp
  | c :: l, st => by
    have h1 := fold_len l (pushH st c)
    have h2 := push_len st c
    simp only [List.foldl_cons, List.length_cons]
    omega
theorem half_len (l : List V2) : ((halfH l).tail.reverse).length ≤ l.length := by
  have := fold_len l []
  rw [List.length_reverse, List.length_tail]
  unfold halfH
  simp only [List.length_nil] at this
  omega
end Go.Proofs.YtgaeibibeekclabGreatDoor
namespace Go.Proofs.YtgaeibibeekclabGreatDoor
open Go.RowKit
def HullE (l : List V2) (w : World) (e : Ending) (w' : World) : Prop := ∃ S v', S.Perm l ∧ Wk S ∧ e = .returned v' ∧ VecsR w' w.heap.size v' (hullZ S) ∧ Below w.heap.size w w'
set_option maxRecDepth 100000 in
set_option maxHeartbeats 8000000 in
theorem hull_any (v : Value) (l : List V2) (w : World) (h : ReadsVecs w v l) (hm : l.length ≤ 1000) (hbig : ∀ x ∈ l, big 400000 x.1 x.2) :
    Calls Tryz.prog 80 #[v, .func (.func 81) #[] #[], .func (.func 73) #[] #[]] w (HullE l w) := by
  obtain ⟨a, vc, hv, hvc, _⟩ := id h
  subst hv
  have HRd : Hid (∀ W, Below w.heap.size w W → ReadsVecs W (.slice a l.length vc) l) := fun W hW => h.below hW
  have HBig : Hid (∀ x ∈ l, big 400000 x.1 x.2) := hbig
  obtain ⟨n, hn⟩ : ∃ n, n = l.length := ⟨_, rfl⟩
  obtain ⟨N, hN⟩ : ∃ N, N = 2 * n := ⟨_, rfl⟩
  have HN : Hid (n = l.length ∧ N = n + n ∧ n ≤ 1000) := ⟨hn, by omega, by omega⟩
  have HOw := Lib.hid (made_own w N (by omega))
  rw [← hn] at hvc HRd ⊢
  have j1 : IntKind.i64.wrap (2 * (n : Int)) = (N : Int) := by rw [IntKind.wrap_i64]; omega
  have j2 : (0 : Int) ≤ (n : Int) := by omega
  have j3 : (n : Int) ≤ (N : Int) := by omega
  have j4 : ((N : Int) - (n : Int)).toNat = n := by omega
  have j5 : N - n = n := by omega
  have j6 : n ≤ N := by omega
  have j7 : (if N = n then some (⟨w.heap.size, 0, none⟩ : Addr) else some ⟨w.heap.size, n * 2, none⟩) = some ⟨w.heap.size, n * 2, none⟩ := by
    split
    · rw [show n * 2 = 0 by omega]
    · rfl
  have hmk := run_makeV N (by omega)
  clear h hbig hn hN hm
  obtain ⟨W3, hW3⟩ : ∃ W3, W3 = (w.alloc (.cells (madeCells #[.int .i64 0, .int .i64 0] (N * 2)) 55)).setCells w.heap.size (0 * 2) (intsV (flat l)) := ⟨_, rfl⟩
  have hcp : (Builtin.copy_ #[23, 23] 3 #[.slice (some ⟨w.heap.size, 0, none⟩) N N, .slice a n vc]).run Tryz.prog (w.alloc (.cells (madeCells #[.int .i64 0, .int .i64 0] (N * 2)) 55)) = .ok (.int .i64 (n : Int)) W3 := by
    rw [hW3, HN.out.1]
    rw [HN.out.1] at HRd
    refine run_copyV _ _ w.heap.size 0 N N _ l (HRd.out _ (by go_grown)) (by have := HN.out; omega) fun j hj => ?_
    obtain ⟨⟨u1, u2⟩, u3, u4⟩ := HOw.out.row (j / 2) (by have := HN.out; omega)
    rw [Nat.zero_add]
    rcases Nat.mod_two_eq_zero_or_one j with q | q
    · rw [show j / 2 * 2 = j by omega] at u1 u3
      exact ⟨by rw [u1]; rfl, u3⟩
    · rw [show j / 2 * 2 + 1 = j by omega] at u2 u4
      exact ⟨by rw [u2]; rfl, u4⟩
  have HO3 := Lib.hid (OwnC.cells l 0 _ _ HOw.out (by have := HN.out; omega))
  rw [← hW3] at HO3
  have hB3 : Below w.heap.size w W3 := by
    rw [hW3]
    exact ((Below.refl _ _).alloc (Nat.le_refl _) _).trans (below_setCells w.heap.size w.heap.size (Nat.le_refl _) _ _ _)
  clear hW3
  have HSt : Hid (Calls Tryz.prog 114 #[.slice (some ⟨w.heap.size, 0, none⟩) n N, .func (.func 81) #[] #[]] W3 fun e W4 =>
      e = .returned (.tuple #[]) ∧ ∃ S, S.Perm l ∧ Wk S ∧ (∃ c4, OwnC W4 w.heap.size w.heap.size N c4 ∧ ∀ j, j < n → c4 j = cyc S j) ∧ Below w.heap.size W3 W4) := by
    have q := sortC_any w.heap.size w.heap.size N N _ l W3 HO3.out (by have := HN.out; omega) (fun j hj => by rw [if_pos (by omega), Nat.sub_zero])
    rw [← HN.out.1] at q
    refine q.mono ?_
    rintro e W4 ⟨rfl, S, hP, hW, hO, hB⟩
    exact ⟨rfl, S, hP, hW, ⟨_, hO, fun j hj => by rw [if_pos hj]⟩, hB⟩
  clear HO3 HOw HRd
  go_enter Tryz.func80, Tryz.ntmps80
  go_wp2_with fail
  refine Calls.mono HSt.out ?_
  rintro e W4 ⟨rfl, S, hP, hW, ⟨c4, hO4, hC4⟩, hB4⟩
  have hSn : S.length = n := by rw [HN.out.1]; exact hP.length_eq
  have HB4 := Lib.hid (hB3.trans hB4)
  have HP : Hid (S.Perm l ∧ Wk S) := ⟨hP, hW⟩
  have HSn : Hid (S.length = n) := hSn
  have HO4 := Lib.hid hO4
  have HC4 := Lib.hid hC4
  have hg4 := hO4.lt
  clear HSt hcp hmk hB3 hB4 hP hW hO4 hC4 hSn hvc
  have HR4 : Hid (ReadsVecs W4.drew (.slice (some ⟨w.heap.size, 0, none⟩) n N) S) := by
    have q := RowC.reads (o := S) (cap := N) HO4.out.drew.row hg4 (by rw [HSn.out]; exact j6) (by have := HN.out; omega) (Nat.le_refl _) (fun j hj => HC4.out j (by rw [← HSn.out]; exact hj))
    rwa [HSn.out] at q
  have HCp : Hid (∀ j, j < S.length * 2 → (W4.drew.cell? ⟨w.heap.size, n * 2 + j, none⟩).isSome = true ∧ W4.drew.frozen? ⟨w.heap.size, n * 2 + j, none⟩ = false) := fun j hj => by
    have := HSn.out
    obtain ⟨⟨u1, u2⟩, u3, u4⟩ := HO4.out.drew.row (n + j / 2) (by have := HN.out; omega)
    rcases Nat.mod_two_eq_zero_or_one j with q | q
    · rw [show (n + j / 2) * 2 = n * 2 + j by omega] at u1 u3
      exact ⟨by rw [u1]; rfl, u3⟩
    · rw [show (n + j / 2) * 2 + 1 = n * 2 + j by omega] at u2 u4
      exact ⟨by rw [u2]; rfl, u4⟩
  have HO5 : Hid (∃ c5, OwnC (W4.drew.setCells w.heap.size (n * 2) (intsV (flat S))) w.heap.size w.heap.size N c5 ∧ (∀ j, j < n → c5 j = cyc S j) ∧ ∀ j, j < n → c5 (n + j) = cyc S j) := by
    have q := OwnC.cells S n _ _ HO4.out.drew (by have := HN.out; have := HSn.out; omega)
    have hs := HSn.out
    refine ⟨_, q, fun j hj => ?_, fun j hj => ?_⟩
    · rw [if_neg (by omega)]
      exact HC4.out j hj
    · rw [if_pos (by omega), Nat.add_sub_cancel_left]
  have HB5 : Hid (Below w.heap.size w (W4.drew.setCells w.heap.size (n * 2) (intsV (flat S)))) := HB4.out.drew.trans (below_setCells w.heap.size w.heap.size (Nat.le_refl _) _ _ _)
  clear HO4 HC4 HB4
  go_wp2_with fail
  refine wp_region_any (by kernel_rfl) ?_
  try (change wpAny _ _ _ _ _ _ _ (World.drew _))
  refine wpAny_take (i := 0) (v := ?_) rfl (by kernel_rfl) (by kernel_rfl) (by kernel_rfl) (fun _ _ _ h => h) (Or.inl ⟨by rfl, ?_⟩) ?_
  rotate_left
  focus (intro w0; go_simp; try with_reducible rfl)
  refine wpAny_take (i := 1) (v := ?_) rfl (by kernel_rfl) (by kernel_rfl) (by kernel_rfl) (fun _ _ _ h => h) (Or.inl ⟨by rfl, ?_⟩) ?_
  rotate_left
  focus (intro w0; go_simp; try with_reducible rfl)
  refine wpAny_take (i := 2) (v := ?_) rfl (by kernel_rfl) (by kernel_rfl) (by kernel_rfl) (fun _ _ _ h => h) (Or.inl ⟨by rfl, ?_⟩) ?_
  rotate_left
  focus (intro w0; go_simp; try with_reducible rfl)
  refine wpAny_take (i := 3) (v := ?_) rfl (by kernel_rfl) (by kernel_rfl) (by kernel_rfl) (fun _ _ _ h => h) (Or.inl ⟨by rfl, ?_⟩) ?_
  rotate_left
  focus (intro w0; go_simp; try with_reducible rfl)
  refine wpAny_take (i := 4) (v := ?_) rfl (by kernel_rfl) (by kernel_rfl) (by kernel_rfl) (fun _ _ _ h => h) (Or.inl ⟨by rfl, ?_⟩) ?_
  rotate_left
  focus (intro w0; go_simp; try with_reducible rfl)
  refine wpAny_take (i := 5) (v := ?_) rfl (by kernel_rfl) (by kernel_rfl) (by kernel_rfl) (fun _ _ _ h => h) (Or.inl ⟨by rfl, ?_⟩) ?_
  rotate_left
  focus (intro w0; go_simp; try with_reducible rfl)
  refine wpAny_ready (rs := [6]) (by kernel_rfl) (by simp) (AllReady.cons rfl (fun K hK => ?_) (AllReady.nil))
  (refine step_copyV rfl _ _ rfl w.heap.size (n * 2) n n rfl _ rfl S HR4.out (by rw [HSn.out]; exact Nat.le_refl _) HCp.out ?_)
  refine hK _ _ ?_
  clear hK K
  refine wpAny_seq 7 rfl (by kernel_rfl) ?_
  simp only [List.drop_succ_cons, List.drop_zero]
  clear HR4 HCp hg4
  generalize W4.drew.setCells w.heap.size (n * 2) (intsV (flat S)) = W5 at *
  have HRv : Hid (Calls Tryz.prog 115 #[.slice (some ⟨w.heap.size, n * 2, none⟩) n n] W5 fun e W6 =>
      e = .returned (.tuple #[]) ∧ (∃ c6, OwnC W6 w.heap.size w.heap.size N c6 ∧ (∀ j, j < n → c6 j = cyc S j) ∧ ∀ j, j < n → c6 (n + j) = cyc S.reverse j) ∧ Below w.heap.size W5 W6) := by
    obtain ⟨c5, h5, k1, k2⟩ := HO5.out
    have hs := HSn.out
    have q := revC_any w.heap.size w.heap.size N n (n * 2) n c5 S W5 rfl h5 (by have := HN.out; omega) (fun j hj => k2 j (by omega))
    rw [hs] at q
    refine q.mono ?_
    rintro e W6 ⟨rfl, h6, hB⟩
    refine ⟨rfl, ⟨_, h6, fun j hj => ?_, fun j hj => ?_⟩, hB⟩
    · rw [if_neg (by omega)]
      exact k1 j hj
    · rw [if_pos (by omega), Nat.add_sub_cancel_left]
  clear HO5
  go_wp2_with fail
  refine Calls.mono HRv.out ?_
  rintro e W6 ⟨rfl, h6, hB6⟩
  have HB6 := Lib.hid ((HB5.out.trans hB6).drew)
  have HH1 : Hid (Calls Tryz.prog 116 #[.slice (some ⟨w.heap.size, 0, none⟩) n n, .func (.func 73) #[] #[]] W6.drew fun e W7 =>
      e = .returned (.slice (some ⟨w.heap.size, 0, none⟩) ((halfH S).tail.reverse).length n) ∧ (∃ c7, OwnC W7 w.heap.size w.heap.size N c7 ∧ (∀ j, j < ((halfH S).tail.reverse).length → c7 j = cyc (halfH S).tail.reverse j) ∧ ∀ j, j < n → c7 (n + j) = cyc S.reverse j) ∧ Below w.heap.size W6.drew W7) := by
    obtain ⟨c6, h6, k1, k2⟩ := h6
    have hs := HSn.out
    have q := half_any w.heap.size w.heap.size N 0 0 n c6 S W6.drew rfl h6.drew (by have := HN.out; omega) (by omega) (fun j hj => by rw [Nat.zero_add]; exact k1 j (by omega)) (fun v hv => HBig.out v (HP.out.1.mem_iff.1 hv))
    rw [hs] at q
    refine q.mono ?_
    rintro e W7 ⟨rfl, ⟨c7, h7, k3, k4⟩, hB⟩
    refine ⟨rfl, ⟨c7, h7, fun j hj => ?_, fun j hj => ?_⟩, hB⟩
    · have := k3 j hj
      rwa [Nat.zero_add] at this
    · rw [k4 _ (by omega)]
      exact k2 j hj
  have HH2 : Hid (∀ W7 c7, OwnC W7 w.heap.size w.heap.size N c7 → (∀ j, j < ((halfH S).tail.reverse).length → c7 j = cyc (halfH S).tail.reverse j) → (∀ j, j < n → c7 (n + j) = cyc S.reverse j) → Calls Tryz.prog 116 #[.slice (some ⟨w.heap.size, n * 2, none⟩) n n, .func (.func 73) #[] #[]] W7 fun e W8 =>
      e = .returned (.slice (some ⟨w.heap.size, n * 2, none⟩) ((halfH S.reverse).tail.reverse).length n) ∧ (∃ c8, OwnC W8 w.heap.size w.heap.size N c8 ∧ (∀ j, j < ((halfH S).tail.reverse).length → c8 j = cyc (halfH S).tail.reverse j) ∧ ∀ j, j < ((halfH S.reverse).tail.reverse).length → c8 (n + j) = cyc (halfH S.reverse).tail.reverse j) ∧ Below w.heap.size W7 W8) := by
    intro W7 c7 h7 k3 k4
    have hs := HSn.out
    have hs2 : S.reverse.length = n := by simp [hs]
    have hl := half_len S
    have q := half_any w.heap.size w.heap.size N n (n * 2) n c7 S.reverse W7 rfl h7 (by have := HN.out; omega) (by omega) (fun j hj => k4 j (by omega)) (fun v hv => HBig.out v (HP.out.1.mem_iff.1 (List.mem_reverse.1 hv)))
    rw [hs2] at q
    refine q.mono ?_
    rintro e W8 ⟨rfl, ⟨c8, h8, k5, k6⟩, hB⟩
    refine ⟨rfl, ⟨c8, h8, fun j hj => ?_, k5⟩, hB⟩
    rw [k6 _ (by omega)]
    exact k3 j hj
  have HL1 : Hid (((halfH S).tail.reverse).length ≤ n) := by show _ ≤ _; rw [← HSn.out]; exact half_len S
  have HL2 : Hid (((halfH S.reverse).tail.reverse).length ≤ n) := by
    have e0 : S.reverse.length = S.length := by simp
    have q := half_len S.reverse
    rw [e0] at q
    show _ ≤ _
    rw [← HSn.out]
    exact q
  have HU : Hid (hullZ S = (halfH S).tail.reverse ++ (halfH S.reverse).tail.reverse) := rfl
  generalize (halfH S).tail.reverse = R1 at *
  generalize (halfH S.reverse).tail.reverse = R2 at *
  clear HRv HB5 h6 hB6
  go_wp2_with fail
  refine wp_region_any (by kernel_rfl) ?_
  try (change wpAny _ _ _ _ _ _ _ (World.drew _))
  refine wpAny_take (i := 0) (v := ?_) rfl (by kernel_rfl) (by kernel_rfl) (by kernel_rfl) (fun _ _ _ h => h) (Or.inl ⟨by rfl, ?_⟩) ?_
  rotate_left
  focus (intro w0; go_simp; try with_reducible rfl)
  refine wpAny_take (i := 1) (v := ?_) rfl (by kernel_rfl) (by kernel_rfl) (by kernel_rfl) (fun _ _ _ h => h) (Or.inl ⟨by rfl, ?_⟩) ?_
  rotate_left
  focus (intro w0; go_simp; try with_reducible rfl)
  refine wpAny_take (i := 2) (v := ?_) rfl (by kernel_rfl) (by kernel_rfl) (by kernel_rfl) (fun _ _ _ h => h) (Or.inl ⟨by rfl, ?_⟩) ?_
  rotate_left
  focus (intro w0; go_simp; try with_reducible rfl)
  refine wpAny_take (i := 3) (v := ?_) rfl (by kernel_rfl) (by kernel_rfl) (by kernel_rfl) (fun _ _ _ h => h) (Or.inl ⟨by rfl, ?_⟩) ?_
  rotate_left
  focus (intro w0; go_simp; try with_reducible rfl)
  refine wpAny_take (i := 4) (v := ?_) rfl (by kernel_rfl) (by kernel_rfl) (by kernel_rfl) (fun _ _ _ h => h) (Or.inl ⟨by rfl, ?_⟩) ?_
  rotate_left
  focus (intro w0; go_simp; try with_reducible rfl)
  refine wpAny_take (i := 6) (v := ?_) rfl (by kernel_rfl) (by kernel_rfl) (by kernel_rfl) (fun _ _ _ h => h) (Or.inl ⟨by rfl, ?_⟩) ?_
  rotate_left
  focus (intro w0; go_simp; try with_reducible rfl)
  refine wpAny_take (i := 7) (v := ?_) rfl (by kernel_rfl) (by kernel_rfl) (by kernel_rfl) (fun _ _ _ h => h) (Or.inl ⟨by rfl, ?_⟩) ?_
  rotate_left
  focus (intro w0; go_simp; try with_reducible rfl)
  refine wpAny_take (i := 8) (v := ?_) rfl (by kernel_rfl) (by kernel_rfl) (by kernel_rfl) (fun _ _ _ h => h) (Or.inl ⟨by rfl, ?_⟩) ?_
  rotate_left
  focus (intro w0; go_simp; try with_reducible rfl)
  refine wpAny_take (i := 9) (v := ?_) rfl (by kernel_rfl) (by kernel_rfl) (by kernel_rfl) (fun _ _ _ h => h) (Or.inl ⟨by rfl, ?_⟩) ?_
  rotate_left
  focus (intro w0; go_simp; try with_reducible rfl)
  refine wpAny_take (i := 10) (v := ?_) rfl (by kernel_rfl) (by kernel_rfl) (by kernel_rfl) (fun _ _ _ h => h) (Or.inl ⟨by rfl, ?_⟩) ?_
  rotate_left
  focus (intro w0; go_simp; try with_reducible rfl)
  refine wpAny_take (i := 11) (v := ?_) rfl (by kernel_rfl) (by kernel_rfl) (by kernel_rfl) (fun _ _ _ h => h) (Or.inl ⟨by rfl, ?_⟩) ?_
  rotate_left
  focus (intro w0; go_simp; try with_reducible rfl)
  refine wpAny_take (i := 12) (v := ?_) rfl (by kernel_rfl) (by kernel_rfl) (by kernel_rfl) (fun _ _ _ h => h) (Or.inl ⟨by rfl, ?_⟩) ?_
  rotate_left
  focus (intro w0; go_simp; try with_reducible rfl)
  refine wpAny_take (i := 13) (v := ?_) rfl (by kernel_rfl) (by kernel_rfl) (by kernel_rfl) (fun _ _ _ h => h) (Or.inl ⟨by rfl, ?_⟩) ?_
  rotate_left
  focus (intro w0; go_simp; try with_reducible rfl)
  refine wpAny_ready (rs := [5]) (by kernel_rfl) (by simp) (AllReady.cons rfl (fun K hK => ?_) (AllReady.nil))
  go_simp
  (refine Calls.mono HH1.out ?_; rintro e W7 ⟨rfl, ⟨c7, h7, k3, k4⟩, hB7⟩; have HH3 := Lib.hid (HH2.out W7 c7 h7 k3 k4); have HB7 := Lib.hid (HB6.out.trans hB7); clear h7 k3 k4 hB7 HH1 HH2)
  refine hK _ _ ?_
  clear hK K
  refine wpAny_ready (rs := [14]) (by kernel_rfl) (by simp) (AllReady.cons rfl (fun K hK => ?_) (AllReady.nil))
  go_simp
  (refine Calls.mono HH3.out ?_; rintro e W8 ⟨rfl, ⟨c8, h8, k5, k6⟩, hB8⟩; have HO8 := Lib.hid h8; have HK5 := Lib.hid k5; have HK6 := Lib.hid k6; have HB8 := Lib.hid (HB7.out.trans hB8); clear h8 k5 k6 hB8 HH3)
  refine hK _ _ ?_
  clear hK K
  refine wpAny_ready (rs := [15]) (by kernel_rfl) (by simp) (AllReady.cons rfl (fun K hK => ?_) (AllReady.nil))
  (refine step_joinV rfl _ _ rfl w.heap.size w.heap.size N n n _ _ c8 R1 R2 rfl rfl rfl rfl HO8.out (by have := HN.out; omega) HL1.out HL2.out HK5.out HK6.out ?_; intro v9 W9 hV9 hB9; have HV9 := Lib.hid hV9; have HB9 := Lib.hid (HB8.out.trans hB9); clear hV9 hB9)
  refine hK _ _ ?_
  clear hK K
  refine wpAny_seq 16 rfl (by kernel_rfl) ?_
  simp only [List.drop_succ_cons, List.drop_zero]
  go_wp2
  go_returns
  exact ⟨S, v9, HP.out.1, HP.out.2, rfl, by rw [HU.out]; exact HV9.out, HB9.out⟩
end Go.Proofs.YtgaeibibeekclabGreatDoor
