import Derived.Test.YtcieihbknfeddaaDoorL4
import Derived.Test.YtcieihbknfeddaaDoorB2
import Derived.Test.YtcieihbknfeddaaDoorB3
/- Lists of vectors: copied. -/
namespace Go.Proofs.YtcieihbknfeddaaDoor
open Go.RowKit

set_option maxHeartbeats 8000000 in
theorem toVecS_any (v : Value) (l : List V2) (w : World) (h : ReadsVecs w v l) (hm : l.length ≤ 1048576) :
    Calls Tryd.prog 26 #[v] w (GivesVecs w l) := by
  obtain ⟨i0, hi, hz0, hz1, hz2⟩ := info_parts infoVec
  obtain ⟨a, c, rfl, _, _, hc⟩ := h
  have HC := Lib.hid hc
  obtain ⟨n, hn⟩ : ∃ n, n = l.length := ⟨_, rfl⟩
  have HN := Lib.hid hn
  have hn2 : n ≤ 1048576 := by omega
  rw [← hn]
  clear hc hm hn
  go_enter Tryd.func26, Tryd.ntmps26
  go_wp2_with (at_make; refine wpList_make_full _ rfl _ _ 39 rfl w.heap.size 26 i0 (.agg #[.int .i64 (0), .int .i64 (0)]) 2 Tryd.underlying39 hi hz0 hz1 .i64 .i64 _ _ n rfl rfl rfl rfl ?c1 ?c2 ?c3 ?_)
  case c1 => rw [hz2]; omega
  case c2 => unfold maxLen; omega
  case c3 => exact Nat.le_refl _
  intro w1 hown hgrow
  have hx : (madeCells #[Value.int .i64 0, Value.int .i64 0] (n * 2)).toList.length = n * 2 := hown.1
  generalize (madeCells #[Value.int .i64 0, Value.int .i64 0] (n * 2)).toList = xs at hown hx
  have hB1 : Below w.heap.size w w1 := (Below.refl _ w).grown hgrow (Nat.le_refl _) (fun k e => by cases e)
  have HO : Hid (w1.ownsRow w.heap.size 26 2 (.slice (some ⟨w.heap.size, 0, none⟩) n n) n (intsV (flat (l.take 0)) ++ xs.drop (0 * 2))) := hown
  have HX := Lib.hid hx
  clear hown hgrow hx
  go_wp2
  go_loopw [4] (fun s wr => ∃ k : Nat, s = .int .i64 k ∧ k ≤ n ∧ Hid (wr.ownsRow w.heap.size 26 2 (.slice (some ⟨w.heap.size, 0, none⟩) n n) n (intsV (flat (l.take k)) ++ xs.drop (k * 2))) ∧ Below w.heap.size w wr) (fun s _ => n - (intOf s).toNat)
  case atStart => exact ⟨0, rfl, Nat.zero_le _, HO, hB1⟩
  case round =>
    obtain ⟨k, rfl, hk, hO, hB⟩ := hrel
    clear HO
    by_cases hlt : k < n
    · have hkl : k < l.length := by have := HN.out; omega
      obtain ⟨bb, off, rfl, hb, hcell⟩ := HC.out (by omega)
      have c1 : wr.cell? ⟨bb, off + k * 2, none⟩ = some (.int .i64 (cyc l k).1) := (hB.cell (p := ⟨bb, off + k * 2, none⟩) hb).trans (hcell k hkl).1
      have c2 : wr.cell? ⟨bb, off + k * 2 + 1, none⟩ = some (.int .i64 (cyc l k).2) := (hB.cell (p := ⟨bb, off + k * 2 + 1, none⟩) hb).trans (hcell k hkl).2
      have HS := Lib.hid (set_copy2 l xs k hkl (by rw [HX.out, HN.out]))
      generalize (cyc l k).1 = x at c1 HS
      generalize (cyc l k).2 = y at c2 HS
      have j1 : (0 : Int) ≤ (k : Int) := by omega
      have j2 : (k : Int) < (n : Int) := by omega
      go_wp2_with fail
      refine Calls.mono (toVec_any x y _) ?_
      rintro e w2 ⟨rfl, hb2⟩
      have hB2 := belowTo hB hb2
      have hO2 : w2.ownsRow w.heap.size 26 2 (.slice (some ⟨w.heap.size, 0, none⟩) n n) n (intsV (flat (l.take k)) ++ xs.drop (k * 2)) := by
        refine hO.out.kept (row := none) (grown_of_below hb2 none) (.inr (by simp [Value.ownBlock]))
      have F := World.ownsRow.frozenAt hO2 (k * 2)
      have hc := World.ownsRow.cellAt hO2 (k * 2) (by omega)
      have hlen := hO2.1
      obtain ⟨u, hu⟩ : ∃ u, (intsV (flat (l.take k)) ++ xs.drop (k * 2))[k * 2]? = some u := ⟨_, List.getElem?_eq_getElem (by omega)⟩
      rw [hu] at hc
      have F2 := World.ownsRow.frozenAt hO2 (k * 2 + 1)
      have hc2 := World.ownsRow.cellAt hO2 (k * 2 + 1) (by omega)
      obtain ⟨u2, hu2⟩ : ∃ u, (intsV (flat (l.take k)) ++ xs.drop (k * 2))[k * 2 + 1]? = some u := ⟨_, List.getElem?_eq_getElem (by omega)⟩
      rw [hu2] at hc2
      have hr0 := (hO2.stored (k * 2) (.int .i64 x)).1.stored (k * 2 + 1) (.int .i64 y)
      rw [HS.out] at hr0
      have R1 := Lib.hid hr0.1
      have R2 := (hB2.setCell (p := ⟨w.heap.size, k * 2, none⟩) (Nat.le_refl _) (.int .i64 x)).setCell (p := ⟨w.heap.size, k * 2 + 1, none⟩) (Nat.le_refl _) (.int .i64 y)
      clear hr0 hO hO2 hu hu2 hcell hlen hb2 c1 c2
      go_wp2
      go_roundw
      case rel => exact ⟨k + 1, by go_num, by omega, R1, R2⟩
      case measure => simp [intOf]; omega
    · have hkn : k = n := by omega
      subst hkn
      have hO' := hO.out
      rw [List.take_of_length_le (by have := HN.out; omega), List.drop_of_length_le (by have := HX.out; omega), List.append_nil] at hO'
      have HO2 : Hid (Vecs wr w.heap.size (.slice (some ⟨w.heap.size, 0, none⟩) k k) l) := by
        have e := HN.out
        show VRow _ _ _ l.length _
        rw [← e]
        exact hO'
      clear hO hO'
      go_wp2
      go_returns
      exact ⟨_, rfl, HO2.out, hB⟩
end Go.Proofs.YtcieihbknfeddaaDoor

/- A slice of vectors that came in. -/
namespace Go.Proofs.YtcieihbknfeddaaDoor
open Go.RowKit

/-- A slice of vectors that came in: empty, or a row that lies in the memory. -/
def VecRow (w : World) (a : Option Addr) (len cap : Nat) : Prop :=
  len ≤ cap ∧ cap ≤ maxLen ∧ (len = 0 ∨ ∃ (bb off : Nat) (l : List V2), a = some ⟨bb, off, none⟩ ∧ bb < w.heap.size ∧ l.length = len ∧ ∀ j, j < len → w.cell? ⟨bb, off + j * 2, none⟩ = some (.int .i64 (cyc l j).1) ∧ w.cell? ⟨bb, off + j * 2 + 1, none⟩ = some (.int .i64 (cyc l j).2))
theorem VecRow.reads {w : World} {a : Option Addr} {len cap : Nat} (h : VecRow w a len cap) (hl : len ≤ 1048576) : ∃ l, l.length = len ∧ ReadsVecs w (.slice a len cap) l := by
  obtain ⟨h1, _, h3⟩ := h
  rcases h3 with h3 | ⟨bb, off, l, rfl, h5, h6, h7⟩
  · subst h3
    exact ⟨[], rfl, a, cap, rfl, Nat.zero_le _, Nat.zero_le _, fun h0 => absurd h0 (by simp)⟩
  · exact ⟨l, h6, some ⟨bb, off, none⟩, cap, by rw [h6], by omega, by omega, fun _ => ⟨bb, off, rfl, h5, fun j hj => h7 j (by omega)⟩⟩
theorem VecRow.le_max {w : World} {a : Option Addr} {len cap : Nat} (h : VecRow w a len cap) : len ≤ 9223372036854775807 := by
  obtain ⟨h1, h2, _⟩ := h
  unfold maxLen at h2
  omega
end Go.Proofs.YtcieihbknfeddaaDoor
