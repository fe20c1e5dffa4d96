/- slices.SortFunc at vectors, in the order of their numbers. -/
import Derived.Test.YthkcopmodfmoeaaDoorYa
import Derived.Test.YthkcopmodfmoeaaDoorSp
import Derived.Test.YthkcopmodfmoeaaDoorSh
namespace Go.Proofs.YthkcopmodfmoeaaDoor
open Go.RowKit Go.Sort

theorem cmpZ_zero {a b : Int} : cmpZ a b = 0 ↔ a = b := by unfold cmpZ; split <;> (try split) <;> omega
def cfN (u v : V2) : Int := cmpN u v
theorem cfN_neg (u v : V2) : cfN u v < 0 ↔ lessB u v = true := by
  unfold cfN cmpN orZ cmpZ lessB
  simp only [Bool.or_eq_true, Bool.and_eq_true, decide_eq_true_eq]
  repeat' split
  all_goals omega
theorem ltN_is (u v : V2) : ltOf cfN u v = lessB u v := by
  have := cfN_neg u v
  unfold ltOf
  rw [Bool.eq_iff_iff, ← this]
  simp
theorem less_irr (u : V2) : lessB u u = false := by unfold lessB; simp
theorem less_tr {u v z : V2} (h1 : lessB u v = true) (h2 : lessB v z = true) : lessB u z = true := by
  rw [less_lex] at *
  exact lex_add h1 h2
theorem swoN : Go.Sort.SWO (ltOf cfN) where
  irrefl x := by rw [ltN_is, less_irr]
  trans x y z h1 h2 := by
    rw [ltN_is] at *
    exact less_tr h1 h2
  ntrans x y z h1 h2 := by
    rw [ltN_is] at *
    cases h3 : lessB x z
    · rfl
    · exfalso
      rw [less_lex] at h3
      rcases less_not h1 with e | e
      · rw [e, ← less_lex, h2] at h3; cases h3
      · rcases less_not h2 with e2 | e2
        · rw [← e2, ← less_lex, h1] at h3; cases h3
        · exact lex_asym (lex_add e2 e) h3
def encN (x : V2) : List Value := [.int .i64 x.1, .int .i64 x.2]
theorem cmpLaysN (blk off size : Nat) (w : World) : CmpLays Tryd.prog 72 #[] encN 2 cfN blk off size w := by
  intro m os dk _ x y
  refine (byNumbers_g x y _).mono ?_
  rintro e w' ⟨rfl, hb, hd⟩
  exact ⟨rfl, grow_of hb hd⟩
theorem flat_encN (d : Array V2) {j : Nat} (h : j < d.size) : (flatK encN 2 d)[j * 2]! = .int .i64 (d[j]!).1 ∧ (flatK encN 2 d)[j * 2 + 1]! = .int .i64 (d[j]!).2 := by
  rw [get_flatK _ _ _ _ (by omega), get_flatK _ _ _ _ (by omega), show j * 2 / 2 = j by omega, show j * 2 % 2 = 0 by omega, show (j * 2 + 1) / 2 = j by omega, show (j * 2 + 1) % 2 = 1 by omega]
  exact ⟨rfl, rfl⟩
theorem holds_rowN {W : World} {g : Nat} {d : Array V2} (h : HoldsK encN 2 W g 0 d) : RowC W g (fun j => d[j]!) d.size := by
  intro j hj
  obtain ⟨c1, f1⟩ := h (j * 2) (by rw [size_flatK]; omega)
  obtain ⟨c2, f2⟩ := h (j * 2 + 1) (by rw [size_flatK]; omega)
  rw [Nat.zero_add] at c1 f1 c2 f2
  rw [(flat_encN d hj).1] at c1
  rw [(flat_encN d hj).2] at c2
  exact ⟨⟨c1, c2⟩, f1, f2⟩
theorem row_holdsN {W : World} {g : Nat} {d : Array V2} (h : RowC W g (fun j => d[j]!) d.size) : HoldsK encN 2 W g 0 d := by
  intro t ht
  rw [size_flatK] at ht
  obtain ⟨⟨c1, c2⟩, f1, f2⟩ := h (t / 2) (by omega)
  rw [Nat.zero_add]
  rcases Nat.mod_two_eq_zero_or_one t with e | e
  · have e2 : t = t / 2 * 2 := by omega
    rw [e2, (flat_encN d (by omega)).1]
    exact ⟨c1, f1⟩
  · have e2 : t = t / 2 * 2 + 1 := by omega
    rw [e2, (flat_encN d (by omega)).2]
    exact ⟨c2, f2⟩
theorem below_sortN (w : World) (g n : Nat) (d : Array V2) (os : Array Obj) {B : Nat} (hB : B ≤ g) (hg : g < w.heap.size) : Below B w (sortWorldK encN 2 w g 0 n d os) := by
  unfold sortWorldK putRowK
  refine ⟨rfl, rfl, rfl, ?_, fun k hk => ?_⟩
  · rw [size_grow, size_putRow]
    exact Nat.le_add_right _ _
  · rw [heap_grow_old _ _ (by rw [size_putRow]; exact Nat.lt_of_lt_of_le hk (Nat.le_of_lt (Nat.lt_of_le_of_lt hB hg)))]
    show (w.heap.modify g _)[k]? = _
    rw [Array.getElem?_modify, if_neg (by omega)]
theorem sortN_any (g cap : Nat) (l : List V2) (w : World) (hR : RowC w g (cyc l) l.length) (hg : g < w.heap.size) (hm : l.length ≤ 1048576) :
    Calls Tryd.prog 89 #[.slice (some ⟨g, 0, none⟩) l.length cap, .func (.func 72) #[] #[]] w fun e w' =>
      e = .returned (.tuple #[]) ∧ ∃ l', l'.Perm l ∧ Wk l' ∧ RowC w' g (cyc l') l'.length ∧ ∀ B, B ≤ g → Below B w w' := by
  have eg : ∀ args w, (callFunc 72 args).run Tryd.prog w = .ok (.enter 72 args) w := enters_of Tryd.func72 (by kernel_rfl) rfl
  have hs : l.toArray.size = l.length := by simp
  have hget : ∀ j, j < l.length → l.toArray[j]! = cyc l j := fun j hj => by
    rw [cyc_lt hj, getElem!_pos _ j (by simpa using hj), List.getElem?_eq_getElem hj]
    simp
  have hH : HoldsK encN 2 w g 0 l.toArray := row_holdsN (by
    rw [hs]
    exact hR.congr (Nat.le_refl _) (fun j hj => (hget j hj).symm))
  have hcon := AnyQ.slices_SortFunc Tryd.sortV 2 Tryd.isAgg38 Tryd.sizeOf38 encN (fun _ => rfl) (fun x v hv => by simp [encN] at hv; rcases hv with rfl | rfl <;> rfl) cfN swoN 72 #[] g 0 cap l.toArray w eg (cmpLaysN g 0 _ w) hH hg (by omega)
  change Calls Tryd.prog 89 _ _ _ at hcon
  rw [hs] at hcon
  refine hcon.mono ?_
  rintro e w' ⟨rfl, d', n, os, hP, hS, rfl⟩
  obtain ⟨hsz, _, hperm⟩ := hP
  have e1 : d'.extract 0 l.length = d' := by rw [← hs, ← hsz]; exact Array.extract_size
  have e2 : l.toArray.extract 0 l.length = l.toArray := by rw [← hs]; exact Array.extract_size
  rw [e1, e2] at hperm
  have hg' : ∀ i, i < d'.size → cyc d'.toList i = d'[i]! := fun i hi => by
    rw [cyc_lt (by simpa using hi), getElem!_pos _ i hi]
    simp [hi]
  have hl' : d'.toList.length = d'.size := by simp
  refine ⟨rfl, d'.toList, ?_, ?_, ?_, fun B hB => below_sortN w g n d' os hB hg⟩
  · simpa using hperm
  · unfold Wk
    rw [List.pairwise_iff_getElem]
    intro i j hi hj hij
    have q := hS i j (Nat.zero_le _) hij (by omega)
    rw [ltN_is] at q
    have ei : d'.toList[i] = d'[i]! := by rw [getElem!_pos _ i (by omega)]; simp
    have ej : d'.toList[j] = d'[j]! := by rw [getElem!_pos _ j (by omega)]; simp
    rw [ei, ej]
    rcases less_not q with k | k
    · exact .inl k.symm
    · exact .inr k
  · rw [hl']
    exact (holds_rowN (holdsK_sortWorldK encN 2 w g 0 n l.toArray d' os hg hH hsz)).congr (Nat.le_refl _) (fun j hj => (hg' j hj).symm)
end Go.Proofs.YthkcopmodfmoeaaDoor
