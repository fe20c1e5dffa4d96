import Derived.Test.YtcieihbknfeddaaB3
import Derived.Test.YtcieihbknfeddaaBe
import Derived.Test.YtcieihbknfeddaaBs
import Derived.Test.YtcieihbknfeddaaB9
/- Lists of numbers: copied, compared, turned over. -/
namespace Go.Proofs.Ytcieihbknfeddaa
open Go.RowKit

theorem set_copy (l : List Int) (xs : List Value) (k : Nat) (h : k < l.length) (hx : xs.length = l.length) :
    (intsV (l.take k) ++ xs.drop k).set k (.int .i64 (l[k]?.getD 0)) = intsV (l.take (k + 1)) ++ xs.drop (k + 1) := by
  have e1 : (intsV (l.take k)).length = k := by simp [intsV]; omega
  rw [List.set_append_right _ _ (by omega), e1, Nat.sub_self, List.drop_eq_getElem_cons (by omega), List.set_cons_zero]
  have e2 : l.take (k + 1) = l.take k ++ [l[k]?.getD 0] := by
    rw [List.take_add_one]
    simp [h]
  rw [e2]
  simp [intsV]
/-! compared, as the laws of the promises do it -/
set_option maxHeartbeats 2000000 in
theorem sameInts_nil (a b : Option Addr) (c d : Nat) (w : World) :
    Calls Try.prog 7 #[.slice a 0 c, .slice b 0 d] w fun e w' => e = .returned (.bool true) ∧ Below w.heap.size w w' := by
  go_enter Try.func7, Try.ntmps7
  go_wp2
  refine wp_loop_rounds 1 ?_
  rw [rounds_succ]
  go_wp2
  go_returns
  exact ⟨rfl, Below.refl _ _⟩
set_option maxHeartbeats 4000000 in
theorem sameInts_row (g g2 c d b1 b2 : Nat) (l : List Int) (w : World) (h1 : Ints w b1 (.slice (some ⟨g, 0, none⟩) l.length c) l) (h2 : Ints w b2 (.slice (some ⟨g2, 0, none⟩) l.length d) l)
    (hg : g < w.heap.size) (hg2 : g2 < w.heap.size) :
    Calls Try.prog 7 #[.slice (some ⟨g, 0, none⟩) l.length c, .slice (some ⟨g2, 0, none⟩) l.length d] w fun e w' => e = .returned (.bool true) ∧ Below w.heap.size w w' := by
  obtain ⟨n, hn⟩ : ∃ n, n = l.length := ⟨_, rfl⟩
  have hm : n ≤ 9223372036854775807 := by have := h1.len_le; unfold maxLen at this; omega
  have HC : Hid (∀ j, j < n → w.cell? ⟨g, j, none⟩ = some (.int .i64 (l[j]?.getD 0)) ∧ w.cell? ⟨g2, j, none⟩ = some (.int .i64 (l[j]?.getD 0))) := by
    intro j hj
    exact ⟨h1.cell j (by omega), h2.cell j (by omega)⟩
  rw [← hn]
  clear h1 h2 hn
  go_enter Try.func7, Try.ntmps7
  go_wp2
  go_loopw [5] (fun i wr => ∃ k : Nat, k ≤ n ∧ i = .int .i64 k ∧ Below w.heap.size w wr) (fun i _ => n - (intOf i).toNat)
  case atStart => exact ⟨0, Nat.zero_le _, rfl, Below.refl _ _⟩
  case round =>
    obtain ⟨k, hk, rfl, hB⟩ := hrel
    by_cases hlt : k < n
    · have c1 : wr.cell? ⟨g, k, none⟩ = some (.int .i64 (l[k]?.getD 0)) := (hB.cell (p := ⟨g, k, none⟩) hg).trans (HC.out k hlt).1
      have c2 : wr.cell? ⟨g2, k, none⟩ = some (.int .i64 (l[k]?.getD 0)) := (hB.cell (p := ⟨g2, k, none⟩) hg2).trans (HC.out k hlt).2
      generalize l[k]?.getD 0 = z at c1 c2
      have i1 : (0 : Int) ≤ (k : Int) := by omega
      have i2 : (k : Int) < (n : Int) := by omega
      go_wp2_with fail
      go_quiet (fail)
      go_wp2
      go_roundw
      case rel => exact ⟨k + 1, by omega, by go_num, below_drewN hB _⟩
      case measure => simp [intOf]; omega
    · go_wp2
      go_returns
      exact ⟨rfl, hB⟩
theorem sameInts_same (v1 v2 : Value) (b1 b2 : Nat) (l : List Int) (w : World) (h1 : Ints w b1 v1 l) (h2 : Ints w b2 v2 l) :
    Calls Try.prog 7 #[v1, v2] w fun e w' => e = .returned (.bool true) ∧ Below w.heap.size w w' := by
  rcases h1.form with ⟨rfl, a, c, rfl⟩ | ⟨hne, g, c, rfl, _, hg, _⟩
  · rcases h2.form with ⟨_, a2, d, rfl⟩ | ⟨hne, _⟩
    · exact sameInts_nil a a2 c d w
    · exact absurd rfl hne
  · rcases h2.form with ⟨h, _⟩ | ⟨_, g2, d, rfl, _, hg2, _⟩
    · exact absurd h hne
    · exact sameInts_row g g2 c d b1 b2 l w h1 h2 hg hg2
end Go.Proofs.Ytcieihbknfeddaa

/- Lists compared, as the laws of the promises do it: whether they are the same, whatever they are. -/
namespace Go.Proofs.Ytcieihbknfeddaa
open Go.RowKit

theorem gV_yes {α : Type} (l : List α) : gV true l = l := rfl
theorem gV_no {α : Type} (l : List α) : gV false l = [] := rfl
theorem gate_yes (x : Int) : gate true x = x := rfl
theorem gate_no (x : Int) : gate false x = 0 := rfl
theorem gz_same {a b : List Int} (hl : a.length = b.length) : a = b ↔ ∀ j, j < a.length → gz a j = gz b j := ⟨fun h j _ => by rw [h], gz_ext hl⟩
set_option maxHeartbeats 4000000 in
theorem sameInts_any (v1 v2 : Value) (l1 l2 : List Int) (w : World) (h1 : ReadsInts w v1 l1) (h2 : ReadsInts w v2 l2) :
    Calls Try.prog 7 #[v1, v2] w fun e w' => e = .returned (.bool (decide (l1 = l2))) ∧ Below w.heap.size w w' := by
  by_cases he : l1.length = l2.length
  · by_cases h0 : l1.length = 0
    · have e1 := List.eq_nil_of_length_eq_zero h0
      have e2 := List.eq_nil_of_length_eq_zero (he ▸ h0)
      subst e1 e2
      obtain ⟨a, c, rfl, _⟩ := h1.len
      obtain ⟨a2, c2, rfl, _⟩ := h2.len
      exact sameInts_nil a a2 c c2 w
    · obtain ⟨b1, o1, c1, rfl, m1, s1, q1⟩ := h1.open (by omega)
      obtain ⟨b2, o2, c2, rfl, m2, s2, q2⟩ := h2.open (by omega)
      have H1 := Lib.hid q1
      have H2 := Lib.hid q2
      have HS := Lib.hid (gz_same he)
      rw [← he] at H2 ⊢
      obtain ⟨n, hn⟩ : ∃ n, n = l1.length := ⟨_, rfl⟩
      rw [← hn] at H1 H2 HS ⊢
      have hm : n ≤ 1152921504606846976 := by omega
      obtain ⟨bd, hbd⟩ : ∃ bd, bd = decide (l1 = l2) := ⟨_, rfl⟩
      rw [← hbd]
      have HBD := Lib.hid hbd
      clear q1 q2 h1 h2 hn he h0 m1 m2 hbd
      go_enter Try.func7, Try.ntmps7
      go_wp2
      go_loopw [5] (fun i wr => ∃ k : Nat, k ≤ n ∧ i = .int .i64 k ∧ (∀ j, j < k → gz l1 j = gz l2 j) ∧ Below w.heap.size w wr) (fun i _ => n - (intOf i).toNat)
      case atStart => exact ⟨0, Nat.zero_le _, rfl, fun j hj => by omega, Below.refl _ _⟩
      case round =>
        obtain ⟨k, hk, rfl, hj, hB⟩ := hrel
        by_cases hlt : k < n
        · have c1 := H1.out wr hB k hlt
          have c2 := H2.out wr hB k hlt
          have HJ : Hid (∀ j, j < k → gz l1 j = gz l2 j) := hj
          have i1 : (0 : Int) ≤ (k : Int) := by omega
          have i2 : (k : Int) < (n : Int) := by omega
          clear H1 H2 hj
          by_cases hz : gz l1 k = gz l2 k
          · have HZ := Lib.hid hz
            rw [← hz] at c2
            generalize gz l1 k = z at c1 c2
            clear hz
            go_wp2_with fail
            go_quiet (fail)
            go_wp2
            go_roundw
            case rel => exact ⟨k + 1, by omega, by go_num, fun j hj' => by rcases Nat.lt_succ_iff_lt_or_eq.1 hj' with h | h; exact HJ.out j h; exact h ▸ HZ.out, below_drewN hB _⟩
            case measure => simp [intOf]; omega
          · have hne : ¬ l1 = l2 := fun h => hz (HS.out.1 h k hlt)
            have zb : (gz l1 k == gz l2 k) = false := by simpa using hz
            obtain rfl : bd = false := HBD.out.trans (decide_eq_false hne)
            clear HS HJ hne hz HBD
            generalize gz l1 k = z1 at c1 zb
            generalize gz l2 k = z2 at c2 zb
            go_wp2_with fail
            go_quiet (fail)
            go_wp2
            go_returns
            exact ⟨rfl, below_drewN hB _⟩
        · obtain rfl : k = n := by omega
          obtain rfl : bd = true := HBD.out.trans (decide_eq_true (HS.out.2 hj))
          clear HS H1 H2 hj HBD
          go_wp2
          go_returns
          exact ⟨rfl, hB⟩
  · obtain ⟨a, c, rfl, m1⟩ := h1.len
    obtain ⟨a2, c2, rfl, m2⟩ := h2.len
    have hd : decide (l1 = l2) = false := decide_eq_false (fun h => he (by rw [h]))
    rw [hd]
    have i1 : ((l1.length : Int) == (l2.length : Int)) = false := by simp; omega
    generalize l1.length = n1 at *
    generalize l2.length = n2 at *
    clear h1 h2 hd
    go_enter Try.func7, Try.ntmps7
    go_wp2
    go_returns
    exact ⟨rfl, Below.refl _ _⟩
theorem cyc_same {a b : List V2} (hl : a.length = b.length) : a = b ↔ ∀ j, j < a.length → cyc a j = cyc b j := by
  refine ⟨fun h j _ => by rw [h], fun h => List.ext_getElem hl fun j h1 h2 => ?_⟩
  have := h j h1
  rw [cyc_lt h1, cyc_lt h2] at this
  simpa [h1, h2] using this
theorem run_neDiff (x y z u : Int) (w : World) (h : ¬ (x = z ∧ y = u)) : (binOp .neq 51 (.agg #[.int .i64 (x), .int .i64 (y)]) (.agg #[.int .i64 (z), .int .i64 (u)])).run Try.prog w = .ok (.bool true) w := by
  have hS : Try.prog.underlying 51 = some (.struct (Try.prog.fieldsOf 51)) := by kernel_rfl
  have hp : Try.prog.stoodInHeld 51 = false := by kernel_rfl
  have u3 := Try.underlying3
  have a3 := Try.isAgg3
  have z3 := Try.sizeOf3
  rw [run_neq_struct, show (10000 : Nat) = 9999 + 1 from rfl, run_equalIn_agg w 9999 51 _ _ hS hp]
  simp only [Program.fieldsOf, Try.underlying51]
  by_cases hx : x = z
  · have hy : (y == u) = false := by simpa using fun e => h ⟨hx, e⟩
    subst hx
    go_simp
  · have hx : (x == z) = false := by simpa using hx
    go_simp
theorem sameInts_eq (v1 v2 : Value) (l : List Int) (w : World) (h1 : ReadsInts w v1 l) (h2 : ReadsInts w v2 l) :
    Calls Try.prog 7 #[v1, v2] w fun e w' => e = .returned (.bool true) ∧ Below w.heap.size w w' := by
  have h := sameInts_any v1 v2 l l w h1 h2
  rw [decide_eq_true (rfl : l = l)] at h
  exact h
end Go.Proofs.Ytcieihbknfeddaa
