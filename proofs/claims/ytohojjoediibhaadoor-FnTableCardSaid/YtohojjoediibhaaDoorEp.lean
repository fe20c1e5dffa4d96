/- Lists of lists of numbers of the call's own; the law's functions over them. -/
import Derived.Test.YtohojjoediibhaaDoorB3
import Derived.Test.YtohojjoediibhaaDoorBe
namespace Go.Proofs.YtohojjoediibhaaDoor
open Go.RowKit

theorem infoInts : (Tryd.prog.info? 24).map (fun i => (i.zero, i.size, i.bytes)) = some (some (.slice none 0 0), 1, 24) := by kernel_rfl
/-- A slice of the call's own that holds slices of the call's own, each in a block of its own, with the lists of numbers L; all in blocks from lo to hi. -/
def Rows2 (W : World) (lo hi : Nat) (v : Value) (L : List (List Int)) : Prop :=
  hi ≤ W.heap.size ∧ (∀ k, v.ownBlock = some k → k < hi) ∧ ∃ vs : List Value, vs.length = L.length ∧ W.ownsRow lo 24 1 v L.length vs ∧
    (∀ (j : Nat) (u : Value), vs[j]? = some u → ∃ row : List Int, L[j]? = some row ∧ Ints W lo u row ∧ (∀ k, u.ownBlock = some k → k < hi) ∧ ∃ a n c, u = .slice a n c) ∧
    (∀ (i j : Nat) (u u' : Value) (k : Nat), i < j → vs[i]? = some u → vs[j]? = some u' → u.ownBlock = some k → u'.ownBlock ≠ some k)
theorem rows_type {W : World} {b1 b2 n m s1 s2 : Nat} {e1 e2 : TypeId} {v u : Value} {xs ys : List Value} {k : Nat} (hne : e1 ≠ e2) (h1 : W.ownsRow b1 e1 s1 v n xs) (h2 : W.ownsRow b2 e2 s2 u m ys) (hv : v.ownBlock = some k) : u.ownBlock ≠ some k := by
  intro hu
  rcases h1.2 with ⟨rfl, _⟩ | ⟨g, cap, cur, rfl, _, hg, _⟩
  · cases hv
  · rcases h2.2 with ⟨rfl, _⟩ | ⟨g', cap', cur', rfl, _, hg', _⟩
    · cases hu
    · injection hv with hv
      injection hu with hu
      dsimp only at hv hu
      subst hv
      subst hu
      rw [hg] at hg'
      injection hg' with hg'
      injection hg' with _ ht
      exact hne ht
theorem own_kept {W W' : World} {base n s : Nat} {e : TypeId} {v : Value} {xs : List Value} {row : Option Nat} (h : W.ownsRow base e s v n xs) (hg : W.grownBy W' row) (hne : ∀ k, v.ownBlock = some k → row ≠ some k) : W'.ownsRow base e s v n xs := by
  refine h.kept hg ?_
  cases hv : v.ownBlock with
  | none => exact .inl rfl
  | some k => exact .inr (fun e => hne k hv e.symm)
/-- what lies below hi is as it was -/
theorem Rows2.under {W W' : World} {lo hi B : Nat} {v : Value} {L : List (List Int)} (h : Rows2 W lo hi v L) (hb : Below B W W') (hB : hi ≤ B) : Rows2 W' lo hi v L := by
  obtain ⟨h1, h2, vs, h3, h4, h5, h6⟩ := h
  have keep : ∀ {e : TypeId} {s n : Nat} {u : Value} {xs : List Value}, W.ownsRow lo e s u n xs → (∀ k, u.ownBlock = some k → k < hi) → W'.ownsRow lo e s u n xs := by
    intro e s n u xs ho hk
    rcases ho with ⟨l, ho | ⟨g, cap, cur, e1, e2, hg, r⟩⟩
    · exact ⟨l, .inl ho⟩
    · refine ⟨l, .inr ⟨g, cap, cur, e1, e2, ?_, r⟩⟩
      rw [hb.block g (by have := hk g (by rw [e1]; rfl); omega)]
      exact hg
  refine ⟨Nat.le_trans h1 hb.size, h2, vs, h3, keep h4 h2, fun j u hj => ?_, h6⟩
  obtain ⟨row, r1, r2, r3, r4⟩ := h5 j u hj
  exact ⟨row, r1, keep r2 r3, r3, r4⟩
theorem Rows2.below {W W' : World} {lo hi : Nat} {v : Value} {L : List (List Int)} (h : Rows2 W lo hi v L) (hb : Below W.heap.size W W') : Rows2 W' lo hi v L := h.under hb h.1
theorem Rows2.lower {W : World} {lo lo' hi : Nat} {v : Value} {L : List (List Int)} (h : Rows2 W lo hi v L) (hl : lo' ≤ lo) : Rows2 W lo' hi v L := by
  obtain ⟨h1, h2, vs, h3, h4, h5, h6⟩ := h
  have low : ∀ {e : TypeId} {s n : Nat} {u : Value} {xs : List Value}, W.ownsRow lo e s u n xs → W.ownsRow lo' e s u n xs := by
    intro e s n u xs ho
    rcases ho with ⟨l, ho | ⟨g, cap, cur, e1, e2, hg, r⟩⟩
    · exact ⟨l, .inl ho⟩
    · exact ⟨l, .inr ⟨g, cap, cur, e1, Nat.le_trans hl e2, hg, r⟩⟩
  refine ⟨h1, h2, vs, h3, low h4, fun j u hj => ?_, h6⟩
  obtain ⟨row, r1, r2, r3, r4⟩ := h5 j u hj
  exact ⟨row, r1, low r2, r3, r4⟩
theorem Rows2.higher {W : World} {lo hi hi' : Nat} {v : Value} {L : List (List Int)} (h : Rows2 W lo hi v L) (hh : hi ≤ hi') (hs : hi' ≤ W.heap.size) : Rows2 W lo hi' v L := by
  obtain ⟨h1, h2, vs, h3, h4, h5, h6⟩ := h
  refine ⟨hs, fun k hk => Nat.lt_of_lt_of_le (h2 k hk) hh, vs, h3, h4, fun j u hj => ?_, h6⟩
  obtain ⟨row, r1, r2, r3, r4⟩ := h5 j u hj
  exact ⟨row, r1, r2, fun k hk => Nat.lt_of_lt_of_le (r3 k hk) hh, r4⟩
theorem Rows2.nil (W : World) (lo : Nat) : Rows2 W lo W.heap.size (.slice none 0 0) [] :=
  ⟨Nat.le_refl _, fun k e => (by cases e), [], rfl, World.ownsRow_nil _ _ _ _, fun j u hj => (by simp at hj), fun i j u u' k _ hi => (by simp at hi)⟩
theorem Rows2.made (W : World) (t : TypeId) (ht : t = 24) : Rows2 (W.alloc (.cells #[] t)) W.heap.size (W.heap.size + 1) (.slice (some ⟨W.heap.size, 0, none⟩) 0 0) [] := by
  subst ht
  exact ⟨by simp, fun k e => (by injection e with e; dsimp only at e; omega), [], rfl, World.ownsRow_made W #[] 0 (Nat.le_refl _) (by simp [maxLen]) rfl, fun j u hj => (by simp at hj), fun i j u u' k _ hi => (by simp at hi)⟩
/-- another list behind it -/
theorem Rows2.open {W : World} {lo hi : Nat} {v : Value} {L : List (List Int)} (h : Rows2 W lo hi v L) : ∃ vs : List Value, W.ownsRow lo 24 1 v L.length vs ∧
    ∀ (W' : World) (v' u : Value) (row : List Int), Ints W hi u row → lo ≤ hi → (∃ a n c, u = .slice a n c) → W'.ownsRow lo 24 1 v' (L.length + 1) (vs ++ [u]) → W.grownBy W' v.ownBlock → Rows2 W' lo W'.heap.size v' (L ++ [row]) := by
  obtain ⟨h1, h2, vs, h3, h4, h5, h6⟩ := h
  refine ⟨vs, h4, fun W' v' u row hu hlo hus ho' hg => ?_⟩
  have hne : 24 ≠ 3 := by decide
  refine ⟨Nat.le_refl _, fun k hk => (ho'.lt k hk).2, vs ++ [u], by simp [h3], by rw [List.length_append]; exact ho', fun j x hj => ?_, fun i j x x' k hij hi hj hk => ?_⟩
  · by_cases hjl : j < vs.length
    · rw [List.getElem?_append_left hjl] at hj
      obtain ⟨r, r1, r2, r3, r4⟩ := h5 j x hj
      refine ⟨r, by rw [List.getElem?_append_left (by omega)]; exact r1, own_kept r2 hg (fun k hk e => rows_type hne h4 r2 e hk), fun k hk => ?_, r4⟩
      have := r3 k hk
      have := hg.size
      omega
    · have hjm : j < (vs ++ [u]).length := (List.getElem?_eq_some_iff.1 hj).1
      have hje : j = vs.length := by simp at hjm; omega
      subst hje
      rw [List.getElem?_append_right (Nat.le_refl _), Nat.sub_self] at hj
      obtain rfl : u = x := by simpa using hj
      refine ⟨row, by rw [h3, List.getElem?_append_right (Nat.le_refl _), Nat.sub_self]; rfl, ?_, fun k hk => ?_, hus⟩
      · exact Ints.lower (own_kept hu hg (fun k hk e => rows_type hne h4 hu e hk)) hlo
      · have := (World.ownsRow.lt hu k hk).2
        have := hg.size
        omega
  · have hjm : j < (vs ++ [u]).length := (List.getElem?_eq_some_iff.1 hj).1
    simp at hjm
    rw [List.getElem?_append_left (by omega)] at hi
    by_cases hjl : j < vs.length
    · rw [List.getElem?_append_left hjl] at hj
      exact h6 i j x x' k hij hi hj hk
    · have hje : j = vs.length := by omega
      subst hje
      rw [List.getElem?_append_right (Nat.le_refl _), Nat.sub_self] at hj
      obtain rfl : u = x' := by simpa using hj
      obtain ⟨r, _, _, r3, _⟩ := h5 i x hi
      intro e
      have a := r3 k hk
      have b := (World.ownsRow.lt hu k e).1
      omega
/-- a row of it -/
theorem Rows2.at {W : World} {lo hi : Nat} {v : Value} {L : List (List Int)} (h : Rows2 W lo hi v L) (h0 : 0 < L.length) :
    ∃ g c, v = .slice (some ⟨g, 0, none⟩) L.length c ∧ g < hi ∧ L.length ≤ maxLen ∧ ∀ j, j < L.length → ∃ a n c', W.cell? ⟨g, j, none⟩ = some (.slice a n c') ∧ Ints W lo (.slice a n c') (L[j]?.getD []) ∧ ∀ k, (Value.slice a n c').ownBlock = some k → k < hi := by
  obtain ⟨h1, h2, vs, h3, h4, h5, h6⟩ := h
  rcases h4.2 with ⟨_, h⟩ | ⟨g, cap, cur, rfl, hg, hh, hc, hm, hs, ht⟩
  · omega
  · refine ⟨g, cap, rfl, h2 g rfl, by omega, fun j hj => ?_⟩
    obtain ⟨u, hu⟩ : ∃ u, vs[j]? = some u := ⟨_, List.getElem?_eq_getElem (by omega)⟩
    obtain ⟨row, r1, r2, r3, a, n, c', rfl⟩ := h5 j u hu
    refine ⟨a, n, c', ?_, by rw [r1]; exact r2, r3⟩
    have h4' : W.ownsRow lo 24 1 (.slice (some ⟨g, 0, none⟩) L.length cap) L.length vs := h4
    rw [World.ownsRow.cellAt h4' j (by omega), hu]
end Go.Proofs.YtohojjoediibhaaDoor
