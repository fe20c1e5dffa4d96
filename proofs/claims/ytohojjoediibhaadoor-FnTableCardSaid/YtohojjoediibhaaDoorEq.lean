/- Lists of lists of numbers: the same, marked, held. -/
import Derived.Test.YtohojjoediibhaaDoorEp
namespace Go.Proofs.YtohojjoediibhaaDoor
open Go.RowKit

/-! how many numbers lie ahead of a row; rows marked -/
def rowOf (L : List (List Int)) (r : Nat) : List Int := L[r]?.getD []
def offS (L : List (List Int)) : Nat → Nat
  | 0 => 0
  | r + 1 => offS L r + (rowOf L r).length
def markedS (L : List (List Int)) (r : Nat) : List (List Int) := (List.range L.length).map fun i => if i < r then marks (1 + offS L i) (rowOf L i).length else rowOf L i
theorem markedS_len (L : List (List Int)) (r : Nat) : (markedS L r).length = L.length := by simp [markedS]
theorem markedS_at {L : List (List Int)} {r i : Nat} (h : i < L.length) : rowOf (markedS L r) i = if i < r then marks (1 + offS L i) (rowOf L i).length else rowOf L i := by
  have e : (markedS L r)[i]? = some (if i < r then marks (1 + offS L i) (rowOf L i).length else rowOf L i) := by simp [markedS, h]
  show ((markedS L r)[i]?).getD [] = _
  rw [e]
  rfl
theorem markedS_zero (L : List (List Int)) : markedS L 0 = L := by
  refine List.ext_getElem (markedS_len L 0) (fun i h1 h2 => ?_)
  simp [markedS, rowOf, h2]
theorem markedS_set (L : List (List Int)) (r : Nat) : (markedS L r).set r (marks (1 + offS L r) (rowOf L r).length) = markedS L (r + 1) := by
  refine List.ext_getElem (by rw [List.length_set, markedS_len, markedS_len]) (fun i h1 h2 => ?_)
  rw [List.getElem_set]
  simp only [markedS, List.getElem_map, List.getElem_range]
  by_cases e : r = i
  · subst e
    rw [if_pos rfl, if_pos (by omega)]
  · rw [if_neg e]
    by_cases h3 : i < r
    · rw [if_pos h3, if_pos (by omega)]
    · rw [if_neg h3, if_neg (by omega)]
theorem offS_mono (L : List (List Int)) {r s : Nat} (h : r ≤ s) : offS L r ≤ offS L s := by
  induction s with
  | zero => rw [show r = 0 by omega]; exact Nat.le_refl _
  | succ s ih =>
    by_cases e : r = s + 1
    · subst e; exact Nat.le_refl _
    · have := ih (by omega)
      show _ ≤ offS L s + _
      omega
theorem row_le {L : List (List Int)} {r : Nat} (h : r < L.length) : offS L r + (rowOf L r).length ≤ offS L L.length := offS_mono L (r := r + 1) (by omega)
/-- one row of it is written anew -/
theorem Rows2.put {W W' : World} {lo hi r g c : Nat} {u : Value} {L : List (List Int)} {row : List Int} (h : Rows2 W lo hi (.slice (some ⟨g, 0, none⟩) L.length c) L) (hr : r < L.length) (hc : W.cell? ⟨g, r, none⟩ = some u)
    (hu : Ints W' lo u row) (hg : W.grownBy W' u.ownBlock) : Rows2 W' lo hi (.slice (some ⟨g, 0, none⟩) L.length c) (L.set r row) := by
  obtain ⟨h1, h2, vs, h3, h4, h5, h6⟩ := h
  have hne : 3 ≠ 24 := by decide
  have hvr : vs[r]? = some u := by rw [← hc, World.ownsRow.cellAt h4 r (by omega)]
  obtain ⟨row0, _, q2, q3, q4⟩ := h5 r u hvr
  refine ⟨Nat.le_trans h1 hg.size, h2, vs, by rw [List.length_set]; exact h3, by rw [List.length_set]; exact own_kept h4 hg (fun k hk e => rows_type hne q2 h4 e hk), fun j x hj => ?_, h6⟩
  by_cases e : j = r
  · subst e
    rw [hvr] at hj
    obtain rfl : u = x := by injection hj
    exact ⟨row, by rw [List.getElem?_set_self (by omega)], hu, q3, q4⟩
  · obtain ⟨rw0, p1, p2, p3, p4⟩ := h5 j x hj
    refine ⟨rw0, by rw [List.getElem?_set_ne (fun q => e q.symm)]; exact p1, own_kept p2 hg (fun k hk q => ?_), p3, p4⟩
    rcases Nat.lt_or_gt_of_ne e with c1 | c1
    · exact h6 j r x u k c1 hj hvr hk q
    · exact h6 r j u x k c1 hvr hj q hk
theorem Rows2.len_eq {W : World} {lo hi : Nat} {v : Value} {L : List (List Int)} (h : Rows2 W lo hi v L) : ∃ a c, v = .slice a L.length c := by
  obtain ⟨_, _, vs, _, h4, _⟩ := h
  rcases h4.2 with ⟨rfl, h0⟩ | ⟨g, cap, cur, rfl, _⟩
  · exact ⟨none, 0, by rw [h0]⟩
  · exact ⟨_, cap, rfl⟩
end Go.Proofs.YtohojjoediibhaaDoor
