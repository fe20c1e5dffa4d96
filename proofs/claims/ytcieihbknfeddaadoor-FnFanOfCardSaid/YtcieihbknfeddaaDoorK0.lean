import Derived.Test.YtcieihbknfeddaaDoorB3
import Derived.Test.YtcieihbknfeddaaDoorBe
import Derived.Test.YtcieihbknfeddaaDoorBs
import Derived.Test.YtcieihbknfeddaaDoorB9
/- Lists of numbers: copied, compared, turned over. -/
namespace Go.Proofs.YtcieihbknfeddaaDoor
open Go.RowKit

theorem set_copy (l : List Int) (xs : List Value) (k : Nat) (h : k < l.length) (hx : xs.length = l.length) :
    (intsV (l.take k) ++ xs.drop k).set k (.int .i64 (l[k]?.getD 0)) = intsV (l.take (k + 1)) ++ xs.drop (k + 1) := by
  have e1 : (intsV (l.take k)).length = k := by simp [intsV]; omega
  rw [List.set_append_right _ _ (by omega), e1, Nat.sub_self, List.drop_eq_getElem_cons (by omega), List.set_cons_zero]
  have e2 : l.take (k + 1) = l.take k ++ [l[k]?.getD 0] := by
    rw [List.take_add_one]
    simp [h]
  rw [e2]
  simp [intsV]
set_option maxHeartbeats 4000000 in
theorem toIntS_any (v : Value) (l : List Int) (w : World) (h : ReadsInts w v l) (hm : l.length ≤ 1048576) :
    Calls Tryd.prog 62 #[v] w (GivesInts w l) := by
  obtain ⟨i0, hi, hz0, hz1, hz2⟩ := info_parts infoInt
  obtain ⟨a, c, rfl, _, hc⟩ := h
  have HC := Lib.hid hc
  obtain ⟨n, hn⟩ : ∃ n, n = l.length := ⟨_, rfl⟩
  have HN := Lib.hid hn
  have hn2 : n ≤ 1048576 := by omega
  rw [← hn]
  clear hc hm hn
  go_enter Tryd.func62, Tryd.ntmps62
  go_wp2_with (at_make; refine wpList_make_full _ rfl _ _ 57 rfl w.heap.size 3 i0 (.int .i64 0) 1 Tryd.underlying57 hi hz0 hz1 .i64 .i64 _ _ n rfl rfl rfl rfl ?c1 ?c2 ?c3 ?_)
  case c1 => rw [hz2]; omega
  case c2 => unfold maxLen; omega
  case c3 => exact Nat.le_refl _
  intro w1 hown hgrow
  have hx : (madeCells #[Value.int .i64 0] n).toList.length = n := by simp [size_madeCells]
  generalize (madeCells #[Value.int .i64 0] n).toList = xs at hown hx
  have hB1 : Below w.heap.size w w1 := (Below.refl _ w).grown hgrow (Nat.le_refl _) (fun k e => by cases e)
  have HO : Hid (w1.ownsRow w.heap.size 3 1 (.slice (some ⟨w.heap.size, 0, none⟩) n n) n (intsV (l.take 0) ++ xs.drop 0)) := hown
  have HX := Lib.hid hx
  clear hown hgrow hx
  go_wp2
  go_loopw [4] (fun s wr => ∃ k : Nat, s = .int .i64 k ∧ k ≤ n ∧ Hid (wr.ownsRow w.heap.size 3 1 (.slice (some ⟨w.heap.size, 0, none⟩) n n) n (intsV (l.take k) ++ xs.drop k)) ∧ Below w.heap.size w wr) (fun s _ => n - (intOf s).toNat)
  case atStart => exact ⟨0, rfl, Nat.zero_le _, HO, hB1⟩
  case round =>
    obtain ⟨k, rfl, hk, hO, hB⟩ := hrel
    clear HO
    by_cases hlt : k < n
    · have hkl : k < l.length := by have := HN.out; omega
      obtain ⟨bb, off, rfl, hb, hcell⟩ := HC.out (by omega)
      have c1 : wr.cell? ⟨bb, off + k, none⟩ = some (.int .i64 (l[k]?.getD 0)) := (hB.cell (p := ⟨bb, off + k, none⟩) hb).trans (hcell k hkl)
      have hr0 := hO.out.stored k (.int .i64 (l[k]?.getD 0))
      rw [set_copy l xs k hkl (by rw [HX.out, HN.out])] at hr0
      have F := World.ownsRow.frozenAt hO.out k
      have hc := World.ownsRow.cellAt hO.out k (by omega)
      obtain ⟨u, hu⟩ : ∃ u, (intsV (l.take k) ++ xs.drop k)[k]? = some u := ⟨_, List.getElem?_eq_getElem (by have := hO.out.1; omega)⟩
      rw [hu] at hc
      have hbw := hB.size
      have R1 := Lib.hid hr0.1
      have R2 := hB.setCell (p := ⟨w.heap.size, k, none⟩) (Nat.le_refl _) (.int .i64 (l[k]?.getD 0))
      clear hr0 hO hu hcell
      generalize l[k]?.getD 0 = z at c1 R1 R2
      have j1 : (0 : Int) ≤ (k : Int) := by omega
      have j2 : (k : Int) < (n : Int) := by omega
      go_wp2
      go_roundw
      case rel => exact ⟨k + 1, by go_num, by omega, R1, R2⟩
      case measure => simp [intOf]; omega
    · have hkn : k = n := by omega
      subst hkn
      have hO' := hO.out
      rw [List.take_of_length_le (by have := HN.out; omega), List.drop_of_length_le (by have := HX.out; omega), List.append_nil] at hO'
      have HO2 := Lib.hid (Ints.as HN.out hO')
      clear hO hO'
      go_wp2
      go_returns
      exact ⟨_, rfl, HO2.out, hB⟩

/-! compared, as the laws of the promises do it -/
end Go.Proofs.YtcieihbknfeddaaDoor

/- Lists compared, as the laws of the promises do it: whether they are the same, whatever they are. -/
namespace Go.Proofs.YtcieihbknfeddaaDoor
open Go.RowKit

theorem gV_yes {α : Type} (l : List α) : gV true l = l := rfl
theorem gV_no {α : Type} (l : List α) : gV false l = [] := rfl
theorem gate_yes (x : Int) : gate true x = x := rfl
theorem gate_no (x : Int) : gate false x = 0 := rfl
theorem gz_same {a b : List Int} (hl : a.length = b.length) : a = b ↔ ∀ j, j < a.length → gz a j = gz b j := ⟨fun h j _ => by rw [h], gz_ext hl⟩
theorem cyc_same {a b : List V2} (hl : a.length = b.length) : a = b ↔ ∀ j, j < a.length → cyc a j = cyc b j := by
  refine ⟨fun h j _ => by rw [h], fun h => List.ext_getElem hl fun j h1 h2 => ?_⟩
  have := h j h1
  rw [cyc_lt h1, cyc_lt h2] at this
  simpa [h1, h2] using this
theorem run_neDiff (x y z u : Int) (w : World) (h : ¬ (x = z ∧ y = u)) : (binOp .neq 26 (.agg #[.int .i64 (x), .int .i64 (y)]) (.agg #[.int .i64 (z), .int .i64 (u)])).run Tryd.prog w = .ok (.bool true) w := by
  have hS : Tryd.prog.underlying 26 = some (.struct (Tryd.prog.fieldsOf 26)) := by kernel_rfl
  have hp : Tryd.prog.stoodInHeld 26 = false := by kernel_rfl
  have u3 := Tryd.underlying3
  have a3 := Tryd.isAgg3
  have z3 := Tryd.sizeOf3
  rw [run_neq_struct, show (10000 : Nat) = 9999 + 1 from rfl, run_equalIn_agg w 9999 26 _ _ hS hp]
  simp only [Program.fieldsOf, Tryd.underlying26]
  by_cases hx : x = z
  · have hy : (y == u) = false := by simpa using fun e => h ⟨hx, e⟩
    subst hx
    go_simp
  · have hx : (x == z) = false := by simpa using hx
    go_simp
set_option maxHeartbeats 4000000 in
theorem sameVecs_any (v1 v2 : Value) (l1 l2 : List V2) (w : World) (h1 : ReadsVecs w v1 l1) (h2 : ReadsVecs w v2 l2) :
    Calls Tryd.prog 65 #[v1, v2] w fun e w' => e = .returned (.bool (decide (l1 = l2))) ∧ Below w.heap.size w w' := by
  by_cases he : l1.length = l2.length
  · by_cases h0 : l1.length = 0
    · have e1 := List.eq_nil_of_length_eq_zero h0
      have e2 := List.eq_nil_of_length_eq_zero (he ▸ h0)
      subst e1 e2
      obtain ⟨a, c, rfl, _⟩ := h1
      obtain ⟨a2, c2, rfl, _⟩ := h2
      exact sameVecs_nil a a2 c c2 w
    · obtain ⟨b1, o1, c1, rfl, _, m1, s1, q1⟩ := h1.open (by omega)
      obtain ⟨b2, o2, c2, rfl, _, m2, s2, q2⟩ := h2.open (by omega)
      have H1 := Lib.hid q1
      have H2 := Lib.hid q2
      have HS := Lib.hid (cyc_same he)
      rw [← he] at H2 ⊢
      obtain ⟨n, hn⟩ : ∃ n, n = l1.length := ⟨_, rfl⟩
      rw [← hn] at H1 H2 HS ⊢
      have hm : n ≤ 576460752303423488 := by omega
      obtain ⟨bd, hbd⟩ : ∃ bd, bd = decide (l1 = l2) := ⟨_, rfl⟩
      rw [← hbd]
      have HBD := Lib.hid hbd
      clear q1 q2 h1 h2 hn he h0 m1 m2 hbd
      go_enter Tryd.func65, Tryd.ntmps65
      go_wp2
      go_loopw [5] (fun i wr => ∃ k : Nat, k ≤ n ∧ i = .int .i64 k ∧ (∀ j, j < k → cyc l1 j = cyc l2 j) ∧ Below w.heap.size w wr) (fun i _ => n - (intOf i).toNat)
      case atStart => exact ⟨0, Nat.zero_le _, rfl, fun j hj => by omega, Below.refl _ _⟩
      case round =>
        obtain ⟨k, hk, rfl, hj, hB⟩ := hrel
        by_cases hlt : k < n
        · obtain ⟨c1, c2⟩ := H1.out wr hB k hlt
          obtain ⟨c3, c4⟩ := H2.out wr hB k hlt
          have HJ : Hid (∀ j, j < k → cyc l1 j = cyc l2 j) := hj
          have i1 : (0 : Int) ≤ (k : Int) := by omega
          have i2 : (k : Int) < (n : Int) := by omega
          clear H1 H2 hj
          by_cases hz : cyc l1 k = cyc l2 k
          · have HZ := Lib.hid hz
            rw [← hz] at c3 c4
            generalize cyc l1 k = z at c1 c2 c3 c4
            obtain ⟨x, y⟩ := z
            dsimp only at c1 c2 c3 c4
            have qe := fun w' => run_neSame x y w'
            clear hz
            go_wp2_with fail
            go_quiet (fail)
            go_wp2
            go_roundw
            case rel => exact ⟨k + 1, by omega, by go_num, fun j hj' => by rcases Nat.lt_succ_iff_lt_or_eq.1 hj' with h | h; exact HJ.out j h; exact h ▸ HZ.out, below_drewN hB _⟩
            case measure => simp [intOf]; omega
          · have hne : ¬ l1 = l2 := fun h => hz (HS.out.1 h k hlt)
            obtain rfl : bd = false := HBD.out.trans (decide_eq_false hne)
            clear HS HJ hne HBD
            generalize cyc l1 k = z1 at c1 c2 hz
            generalize cyc l2 k = z2 at c3 c4 hz
            obtain ⟨x, y⟩ := z1
            obtain ⟨z, u⟩ := z2
            dsimp only at c1 c2 c3 c4
            have qe := fun w' => run_neDiff x y z u w' (fun h => hz (by rw [h.1, h.2]))
            clear hz
            go_wp2_with fail
            go_quiet (fail)
            go_wp2
            go_returns
            exact ⟨rfl, below_drewN hB _⟩
        · obtain rfl : k = n := by omega
          obtain rfl : bd = true := HBD.out.trans (decide_eq_true (HS.out.2 hj))
          clear HS H1 H2 hj HBD
          go_wp2
          go_returns
          exact ⟨rfl, hB⟩
  · obtain ⟨a, c, rfl, _, m1, x1⟩ := h1
    obtain ⟨a2, c2, rfl, _, m2, x2⟩ := h2
    clear x1 x2
    have hd : decide (l1 = l2) = false := decide_eq_false (fun h => he (by rw [h]))
    rw [hd]
    have i1 : ((l1.length : Int) == (l2.length : Int)) = false := by simp; omega
    generalize l1.length = n1 at *
    generalize l2.length = n2 at *
    clear hd
    go_enter Tryd.func65, Tryd.ntmps65
    go_wp2
    go_returns
    exact ⟨rfl, Below.refl _ _⟩
theorem sameVecs_eq (v1 v2 : Value) (l : List V2) (w : World) (h1 : ReadsVecs w v1 l) (h2 : ReadsVecs w v2 l) :
    Calls Tryd.prog 65 #[v1, v2] w fun e w' => e = .returned (.bool true) ∧ Below w.heap.size w w' := by
  have h := sameVecs_any v1 v2 l l w h1 h2
  rw [decide_eq_true (rfl : l = l)] at h
  exact h
end Go.Proofs.YtcieihbknfeddaaDoor
