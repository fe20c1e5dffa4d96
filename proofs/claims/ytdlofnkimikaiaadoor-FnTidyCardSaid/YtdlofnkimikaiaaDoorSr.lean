/- slices.SortFunc at primitive vectors; the different ones of some vectors, in order. -/
import Derived.Test.YtdlofnkimikaiaaDoorSq
import Derived.Test.YtdlofnkimikaiaaDoorSo
import Derived.Test.YtdlofnkimikaiaaDoorSh
namespace Go.Proofs.YtdlofnkimikaiaaDoor
open Go.RowKit Go.Sort

def arrP (l : List V2) (hp : AllP l) : Array PV := (l.attach.map (fun v => (⟨v.1, hp v.1 v.2⟩ : PV))).toArray
theorem arr_size (l : List V2) (hp : AllP l) : (arrP l hp).size = l.length := by simp [arrP]
theorem arr_get (l : List V2) (hp : AllP l) {i : Nat} (h : i < l.length) : ((arrP l hp)[i]!).1 = cyc l i := by
  rw [cyc_lt h, getElem!_pos _ i (by rw [arr_size]; exact h), List.getElem?_eq_getElem h]
  simp [arrP]
theorem arr_list (l : List V2) (hp : AllP l) : (arrP l hp).toList.map (·.1) = l := by
  unfold arrP
  rw [List.map_map]
  exact List.attach_map_subtype_val l
theorem flat_enc (d : Array PV) {j : Nat} (h : j < d.size) : (flatK encP 2 d)[j * 2]! = .int .i64 (d[j]!).1.1 ∧ (flatK encP 2 d)[j * 2 + 1]! = .int .i64 (d[j]!).1.2 := by
  rw [get_flatK _ _ _ _ (by omega), get_flatK _ _ _ _ (by omega), show j * 2 / 2 = j by omega, show j * 2 % 2 = 0 by omega, show (j * 2 + 1) / 2 = j by omega, show (j * 2 + 1) % 2 = 1 by omega]
  exact ⟨rfl, rfl⟩
theorem holds_row {W : World} {g : Nat} {d : Array PV} (h : HoldsK encP 2 W g 0 d) : RowC W g (fun j => (d[j]!).1) d.size := by
  intro j hj
  obtain ⟨c1, f1⟩ := h (j * 2) (by rw [size_flatK]; omega)
  obtain ⟨c2, f2⟩ := h (j * 2 + 1) (by rw [size_flatK]; omega)
  rw [Nat.zero_add] at c1 f1 c2 f2
  rw [(flat_enc d hj).1] at c1
  rw [(flat_enc d hj).2] at c2
  exact ⟨⟨c1, c2⟩, f1, f2⟩
theorem row_holds {W : World} {g : Nat} {d : Array PV} (h : RowC W g (fun j => (d[j]!).1) d.size) : HoldsK encP 2 W g 0 d := by
  intro t ht
  rw [size_flatK] at ht
  obtain ⟨⟨c1, c2⟩, f1, f2⟩ := h (t / 2) (by omega)
  rw [Nat.zero_add]
  rcases Nat.mod_two_eq_zero_or_one t with e | e
  · have e2 : t = t / 2 * 2 := by omega
    rw [e2, (flat_enc d (by omega)).1]
    exact ⟨c1, f1⟩
  · have e2 : t = t / 2 * 2 + 1 := by omega
    rw [e2, (flat_enc d (by omega)).2]
    exact ⟨c2, f2⟩
theorem below_sort (w : World) (g n : Nat) (d : Array PV) (os : Array Obj) {B : Nat} (hB : B ≤ g) (hg : g < w.heap.size) : Below B w (sortWorldK encP 2 w g 0 n d os) := by
  unfold sortWorldK putRowK
  refine ⟨rfl, rfl, rfl, ?_, fun k hk => ?_⟩
  · rw [size_grow, size_putRow]
    exact Nat.le_add_right _ _
  · rw [heap_grow_old _ _ (by rw [size_putRow]; exact Nat.lt_of_lt_of_le hk (Nat.le_of_lt (Nat.lt_of_le_of_lt hB hg)))]
    show (w.heap.modify g _)[k]? = _
    rw [Array.getElem?_modify, if_neg (by omega)]
theorem sortFunc_any (g cap : Nat) (l : List V2) (w : World) (hR : RowC w g (cyc l) l.length) (hg : g < w.heap.size) (hp : AllP l) (hm : l.length ≤ 1048576) :
    Calls Tryd.prog 110 #[.slice (some ⟨g, 0, none⟩) l.length cap, .func (.func 111) #[] #[]] w fun e w' =>
      e = .returned (.tuple #[]) ∧ ∃ l', l'.Perm l ∧ Sorted l' ∧ RowC w' g (cyc l') l'.length ∧ ∀ B, B ≤ g → Below B w w' := by
  have eg : ∀ args w, (callFunc 111 args).run Tryd.prog w = .ok (.enter 111 args) w := enters_of Tryd.func111 (by kernel_rfl) rfl
  have hs := arr_size l hp
  have hH : HoldsK encP 2 w g 0 (arrP l hp) := row_holds (by
    rw [hs]
    exact hR.congr (Nat.le_refl _) (fun j hj => (arr_get l hp hj).symm))
  have hcon := AnyQ.slices_SortFunc Tryd.sortV 2 Tryd.isAgg27 Tryd.sizeOf27 encP (fun _ => rfl) (fun x v hv => by simp [encP] at hv; rcases hv with rfl | rfl <;> rfl) cfP swoP 111 #[] g 0 cap (arrP l hp) w eg (cmpLays g 0 _ w) hH hg (by omega)
  change Calls Tryd.prog 110 _ _ _ at hcon
  rw [hs] at hcon
  refine hcon.mono ?_
  rintro e w' ⟨rfl, d', n, os, hP, hS, rfl⟩
  obtain ⟨hsz, _, hperm⟩ := hP
  have e1 : d'.extract 0 l.length = d' := by rw [← hs, ← hsz]; exact Array.extract_size
  have e2 : (arrP l hp).extract 0 l.length = arrP l hp := by rw [← hs]; exact Array.extract_size
  rw [e1, e2] at hperm
  have hg' : ∀ i, i < d'.size → cyc (d'.toList.map (·.1)) i = (d'[i]!).1 := fun i hi => by
    rw [cyc_lt (by simpa using hi), getElem!_pos _ i hi]
    simp [hi]
  have hl' : (d'.toList.map (·.1)).length = d'.size := by simp
  refine ⟨rfl, d'.toList.map (·.1), ?_, fun i j hij hj => ?_, ?_, fun B hB => below_sort w g n d' os hB hg⟩
  · have := hperm.map (·.1)
    rwa [arr_list] at this
  · rw [hl'] at hj
    rw [hg' i (by omega), hg' j hj, ← lt_is]
    exact hS i j (Nat.zero_le _) hij (by omega)
  · rw [hl']
    exact (holds_row (holdsK_sortWorldK encP 2 w g 0 n (arrP l hp) d' os hg hH hsz)).congr (Nat.le_refl _) (fun j hj => (hg' j hj).symm)
end Go.Proofs.YtdlofnkimikaiaaDoor
