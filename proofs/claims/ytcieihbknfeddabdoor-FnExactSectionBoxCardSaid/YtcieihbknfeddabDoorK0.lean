import Derived.Test.YtcieihbknfeddabDoorB3
import Derived.Test.YtcieihbknfeddabDoorBe
import Derived.Test.YtcieihbknfeddabDoorBs
import Derived.Test.YtcieihbknfeddabDoorB9
/- Lists of numbers: copied, compared, turned over. -/
namespace Go.Proofs.YtcieihbknfeddabDoor
open Go.RowKit

theorem set_copy (l : List Int) (xs : List Value) (k : Nat) (h : k < l.length) (hx : xs.length = l.length) :
    (intsV (l.take k) ++ xs.drop k).set k (.int .i64 (l[k]?.getD 0)) = intsV (l.take (k + 1)) ++ xs.drop (k + 1) := by
  have e1 : (intsV (l.take k)).length = k := by simp [intsV]; omega
  rw [List.set_append_right _ _ (by omega), e1, Nat.sub_self, List.drop_eq_getElem_cons (by omega), List.set_cons_zero]
  have e2 : l.take (k + 1) = l.take k ++ [l[k]?.getD 0] := by
    rw [List.take_add_one]
    simp [h]
  rw [e2]
  simp [intsV]
set_option maxHeartbeats 4000000 in
theorem toIntS_any (v : Value) (l : List Int) (w : World) (h : ReadsInts w v l) (hm : l.length ≤ 1048576) :
    Calls Tryd.prog 20 #[v] w (GivesInts w l) := by
  obtain ⟨i0, hi, hz0, hz1, hz2⟩ := info_parts infoInt
  obtain ⟨a, c, rfl, _, hc⟩ := h
  have HC := Lib.hid hc
  obtain ⟨n, hn⟩ : ∃ n, n = l.length := ⟨_, rfl⟩
  have HN := Lib.hid hn
  have hn2 : n ≤ 1048576 := by omega
  rw [← hn]
  clear hc hm hn
  go_enter Tryd.func20, Tryd.ntmps20
  go_wp2_with (at_make; refine wpList_make_full _ rfl _ _ 23 rfl w.heap.size 3 i0 (.int .i64 0) 1 Tryd.underlying23 hi hz0 hz1 .i64 .i64 _ _ n rfl rfl rfl rfl ?c1 ?c2 ?c3 ?_)
  case c1 => rw [hz2]; omega
  case c2 => unfold maxLen; omega
  case c3 => exact Nat.le_refl _
  intro w1 hown hgrow
  have hx : (madeCells #[Value.int .i64 0] n).toList.length = n := by simp [size_madeCells]
  generalize (madeCells #[Value.int .i64 0] n).toList = xs at hown hx
  have hB1 : Below w.heap.size w w1 := (Below.refl _ w).grown hgrow (Nat.le_refl _) (fun k e => by cases e)
  have HO : Hid (w1.ownsRow w.heap.size 3 1 (.slice (some ⟨w.heap.size, 0, none⟩) n n) n (intsV (l.take 0) ++ xs.drop 0)) := hown
  have HX := Lib.hid hx
  clear hown hgrow hx
  go_wp2
  go_loopw [4] (fun s wr => ∃ k : Nat, s = .int .i64 k ∧ k ≤ n ∧ Hid (wr.ownsRow w.heap.size 3 1 (.slice (some ⟨w.heap.size, 0, none⟩) n n) n (intsV (l.take k) ++ xs.drop k)) ∧ Below w.heap.size w wr) (fun s _ => n - (intOf s).toNat)
  case atStart => exact ⟨0, rfl, Nat.zero_le _, HO, hB1⟩
  case round =>
    obtain ⟨k, rfl, hk, hO, hB⟩ := hrel
    clear HO
    by_cases hlt : k < n
    · have hkl : k < l.length := by have := HN.out; omega
      obtain ⟨bb, off, rfl, hb, hcell⟩ := HC.out (by omega)
      have c1 : wr.cell? ⟨bb, off + k, none⟩ = some (.int .i64 (l[k]?.getD 0)) := (hB.cell (p := ⟨bb, off + k, none⟩) hb).trans (hcell k hkl)
      have hr0 := hO.out.stored k (.int .i64 (l[k]?.getD 0))
      rw [set_copy l xs k hkl (by rw [HX.out, HN.out])] at hr0
      have F := World.ownsRow.frozenAt hO.out k
      have hc := World.ownsRow.cellAt hO.out k (by omega)
      obtain ⟨u, hu⟩ : ∃ u, (intsV (l.take k) ++ xs.drop k)[k]? = some u := ⟨_, List.getElem?_eq_getElem (by have := hO.out.1; omega)⟩
      rw [hu] at hc
      have hbw := hB.size
      have R1 := Lib.hid hr0.1
      have R2 := hB.setCell (p := ⟨w.heap.size, k, none⟩) (Nat.le_refl _) (.int .i64 (l[k]?.getD 0))
      clear hr0 hO hu hcell
      generalize l[k]?.getD 0 = z at c1 R1 R2
      have j1 : (0 : Int) ≤ (k : Int) := by omega
      have j2 : (k : Int) < (n : Int) := by omega
      go_wp2
      go_roundw
      case rel => exact ⟨k + 1, by go_num, by omega, R1, R2⟩
      case measure => simp [intOf]; omega
    · have hkn : k = n := by omega
      subst hkn
      have hO' := hO.out
      rw [List.take_of_length_le (by have := HN.out; omega), List.drop_of_length_le (by have := HX.out; omega), List.append_nil] at hO'
      have HO2 := Lib.hid (Ints.as HN.out hO')
      clear hO hO'
      go_wp2
      go_returns
      exact ⟨_, rfl, HO2.out, hB⟩

/-! compared, as the laws of the promises do it -/
end Go.Proofs.YtcieihbknfeddabDoor

/- Lists compared, as the laws of the promises do it: whether they are the same, whatever they are. -/
namespace Go.Proofs.YtcieihbknfeddabDoor
open Go.RowKit

theorem gV_yes {α : Type} (l : List α) : gV true l = l := rfl
theorem gV_no {α : Type} (l : List α) : gV false l = [] := rfl
theorem gate_yes (x : Int) : gate true x = x := rfl
theorem gate_no (x : Int) : gate false x = 0 := rfl
theorem gz_same {a b : List Int} (hl : a.length = b.length) : a = b ↔ ∀ j, j < a.length → gz a j = gz b j := ⟨fun h j _ => by rw [h], gz_ext hl⟩
theorem cyc_same {a b : List V2} (hl : a.length = b.length) : a = b ↔ ∀ j, j < a.length → cyc a j = cyc b j := by
  refine ⟨fun h j _ => by rw [h], fun h => List.ext_getElem hl fun j h1 h2 => ?_⟩
  have := h j h1
  rw [cyc_lt h1, cyc_lt h2] at this
  simpa [h1, h2] using this
theorem run_neDiff (x y z u : Int) (w : World) (h : ¬ (x = z ∧ y = u)) : (binOp .neq 36 (.agg #[.int .i64 (x), .int .i64 (y)]) (.agg #[.int .i64 (z), .int .i64 (u)])).run Tryd.prog w = .ok (.bool true) w := by
  have hS : Tryd.prog.underlying 36 = some (.struct (Tryd.prog.fieldsOf 36)) := by kernel_rfl
  have hp : Tryd.prog.stoodInHeld 36 = false := by kernel_rfl
  have u3 := Tryd.underlying3
  have a3 := Tryd.isAgg3
  have z3 := Tryd.sizeOf3
  rw [run_neq_struct, show (10000 : Nat) = 9999 + 1 from rfl, run_equalIn_agg w 9999 36 _ _ hS hp]
  simp only [Program.fieldsOf, Tryd.underlying36]
  by_cases hx : x = z
  · have hy : (y == u) = false := by simpa using fun e => h ⟨hx, e⟩
    subst hx
    go_simp
  · have hx : (x == z) = false := by simpa using hx
    go_simp
end Go.Proofs.YtcieihbknfeddabDoor
