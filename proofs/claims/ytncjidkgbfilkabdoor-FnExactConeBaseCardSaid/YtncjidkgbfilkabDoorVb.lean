/- Slices of vectors that the call owns: marked, held; whatever slice. -/
import Derived.Test.YtncjidkgbfilkabDoorVa
namespace Go.Proofs.YtncjidkgbfilkabDoor
open Go.RowKit

theorem eqVecS_same (v1 v2 : Value) (b1 b2 : Nat) (l : List (Int × Int)) (w : World) (h1 : Vecs w b1 v1 l) (h2 : Vecs w b2 v2 l) :
    Calls Tryd.prog 13 #[v1, v2] w fun e w' => e = .returned (.bool true) ∧ Below w.heap.size w w' := by
  unfold Vecs at h1 h2
  generalize l.length = n at *
  rcases h1.form with ⟨rfl, _, a, c, rfl⟩ | ⟨hp, g, c, rfl, _, hg, _⟩
  · rcases h2.form with ⟨_, _, a2, d, rfl⟩ | ⟨hp, _⟩
    · exact eqVecS_nil a a2 c d w
    · exact absurd hp (Nat.lt_irrefl _)
  · rcases h2.form with ⟨h0, _⟩ | ⟨_, g2, d, rfl, _, hg2, _⟩
    · omega
    · exact eqVecS_row g g2 c d b1 b2 n (flat l) w h1 h2 hg hg2
theorem VRow.marked {w : World} {base g c n : Nat} {l : List Int} {k j : Nat} (hn : l.length = n * 2) (hj : j < n * 2) (h : w.ownsRow base 29 2 (.slice (some ⟨g, 0, none⟩) n c) n (intsV (marks k j ++ l.drop j))) :
    (w.setCell ⟨g, j, none⟩ (.int .i64 ((k + j : Nat) : Int))).ownsRow base 29 2 (.slice (some ⟨g, 0, none⟩) n c) n (intsV (marks k (j + 1) ++ l.drop (j + 1))) ∧ w.grownBy (w.setCell ⟨g, j, none⟩ (.int .i64 ((k + j : Nat) : Int))) (some g) := by
  have := h.stored j (.int .i64 ((k + j : Nat) : Int))
  rwa [set_mark l k j (by omega)] at this
set_option maxHeartbeats 2000000 in
theorem markVecS_nil (a : Option Addr) (c : Nat) (k : Nat) (w : World) :
    Calls Tryd.prog 14 #[.slice a 0 c, .int .i64 k] w fun e w' => e = .returned (.int .i64 k) ∧ w = w' := by
  go_enter Tryd.func14, Tryd.ntmps14
  go_wp2
  refine wp_loop_rounds 1 ?_
  rw [rounds_succ]
  go_wp2
  go_returns
  exact ⟨rfl, rfl⟩
def VMarked (w : World) (b g c k n : Nat) (e : Ending) (w' : World) : Prop := e = .returned (.int .i64 ((k + n * 2 : Nat) : Int)) ∧ w'.ownsRow b 29 2 (.slice (some ⟨g, 0, none⟩) n c) n (intsV (marks k (n * 2))) ∧ w.grownBy w' (some g)
set_option maxHeartbeats 4000000 in
theorem markVecS_row (g c b k n : Nat) (l : List Int) (w : World) (hn : l.length = n * 2) (h1 : w.ownsRow b 29 2 (.slice (some ⟨g, 0, none⟩) n c) n (intsV l)) (hk : k ≤ 1000) (hm : n ≤ 576460752303423488) :
    Calls Tryd.prog 14 #[.slice (some ⟨g, 0, none⟩) n c, .int .i64 k] w (VMarked w b g c k n) := by
  have HN := Lib.hid hn
  clear hn
  have HO : Hid (w.ownsRow b 29 2 (.slice (some ⟨g, 0, none⟩) n c) n (intsV (marks k 0 ++ l.drop 0))) := h1
  clear h1
  go_enter Tryd.func14, Tryd.ntmps14
  go_wp2
  go_loopw [1, 5] (fun m i wr => ∃ j : Nat, j ≤ n ∧ m = .int .i64 ((k + j * 2 : Nat) : Int) ∧ i = .int .i64 j ∧ Hid (wr.ownsRow b 29 2 (.slice (some ⟨g, 0, none⟩) n c) n (intsV (marks k (j * 2) ++ l.drop (j * 2)))) ∧ w.grownBy wr (some g)) (fun _ i _ => n - (intOf i).toNat)
  case atStart => exact ⟨0, Nat.zero_le _, rfl, rfl, HO, World.grownBy.refl _ _⟩
  case round =>
    obtain ⟨j, hj, rfl, rfl, hO, hG⟩ := hrel
    by_cases hlt : j < n
    · have R := VRow.marked HN.out (by omega) hO.out
      have R' := VRow.marked HN.out (by omega) R.1
      have F := World.ownsRow.frozenAt hO.out (j * 2)
      have hc := World.ownsRow.cellAt hO.out (j * 2) (by omega)
      obtain ⟨u, hu⟩ : ∃ u, (intsV (marks k (j * 2) ++ l.drop (j * 2)))[j * 2]? = some u := ⟨_, List.getElem?_eq_getElem (by have := hO.out.1; omega)⟩
      rw [hu] at hc
      have F2 := World.ownsRow.frozenAt hO.out (j * 2 + 1)
      have hc2 := World.ownsRow.cellAt hO.out (j * 2 + 1) (by omega)
      obtain ⟨u2, hu2⟩ : ∃ u, (intsV (marks k (j * 2) ++ l.drop (j * 2)))[j * 2 + 1]? = some u := ⟨_, List.getElem?_eq_getElem (by have := hO.out.1; omega)⟩
      rw [hu2] at hc2
      have e1 : IntKind.i64.wrap (((k + j * 2 : Nat) : Int) + 1) = ((k + (j * 2 + 1) : Nat) : Int) := by rw [IntKind.wrap_i64]; omega
      have e2 : IntKind.i64.wrap (((k + (j * 2 + 1) : Nat) : Int) + 1) = ((k + (j + 1) * 2 : Nat) : Int) := by rw [IntKind.wrap_i64]; omega
      have R1 : Hid (World.ownsRow ((wr.setCell ⟨g, j * 2, none⟩ (.int .i64 ((k + j * 2 : Nat) : Int))).setCell ⟨g, j * 2 + 1, none⟩ (.int .i64 ((k + (j * 2 + 1) : Nat) : Int))) b 29 2 (.slice (some ⟨g, 0, none⟩) n c) n (intsV (marks k ((j + 1) * 2) ++ l.drop ((j + 1) * 2)))) := by
        have := R'.1
        rwa [show j * 2 + 1 + 1 = (j + 1) * 2 by omega] at this
      have R2 := Lib.hid ((hG.trans R.2).trans R'.2)
      clear R R' hO hG hu hu2
      go_wp2
      go_roundw
      case rel => exact ⟨j + 1, by omega, by go_num, by go_num, R1, R2.out⟩
      case measure => simp [intOf]; omega
    · have : j = n := by omega
      subst this
      have hO' := hO.out
      rw [List.drop_of_length_le (by have := HN.out; omega), List.append_nil] at hO'
      have HO2 := Lib.hid hO'
      clear hO hO'
      go_wp2
      go_returns
      exact ⟨rfl, HO2.out, hG⟩
set_option maxHeartbeats 2000000 in
theorem heldVecS_nil (a : Option Addr) (c : Nat) (k : Nat) (w : World) :
    Calls Tryd.prog 15 #[.slice a 0 c, .int .i64 k] w fun e w' => e = .returned (.int .i64 k) ∧ w = w' := by
  go_enter Tryd.func15, Tryd.ntmps15
  go_wp2
  refine wp_loop_rounds 1 ?_
  rw [rounds_succ]
  go_wp2
  go_returns
  exact ⟨rfl, rfl⟩
set_option maxHeartbeats 4000000 in
theorem heldVecS_row (g c b k n : Nat) (w : World) (h1 : VRow w b (.slice (some ⟨g, 0, none⟩) n c) n (marks k (n * 2))) (hk : k ≤ 1000) (hm : n ≤ 576460752303423488) :
    Calls Tryd.prog 15 #[.slice (some ⟨g, 0, none⟩) n c, .int .i64 k] w fun e w' => e = .returned (.int .i64 ((k + n * 2 : Nat) : Int)) ∧ w = w' := by
  have HC : Hid (∀ j, j < n * 2 → w.cell? ⟨g, j, none⟩ = some (.int .i64 ((k + j : Nat) : Int))) := by
    intro j hj
    rw [h1.cell j hj, marks_get k (n * 2) j hj]
  clear h1
  go_enter Tryd.func15, Tryd.ntmps15
  go_wp2
  go_loop [1, 5] (fun m i => ∃ j : Nat, j ≤ n ∧ m = .int .i64 ((k + j * 2 : Nat) : Int) ∧ i = .int .i64 j) (fun _ i => n - (intOf i).toNat)
  case atStart => exact ⟨0, Nat.zero_le _, rfl, rfl⟩
  case round =>
    obtain ⟨j, hj, rfl, rfl⟩ := hrel
    by_cases hlt : j < n
    · have c1 := HC.out (j * 2) (by omega)
      have c2 := HC.out (j * 2 + 1) (by omega)
      have e1 : IntKind.i64.wrap (((k + j * 2 : Nat) : Int) + 1) = ((k + (j * 2 + 1) : Nat) : Int) := by rw [IntKind.wrap_i64]; omega
      have e2 : IntKind.i64.wrap (((k + (j * 2 + 1) : Nat) : Int) + 1) = ((k + (j + 1) * 2 : Nat) : Int) := by rw [IntKind.wrap_i64]; omega
      go_wp2
      go_round
      case rel => exact ⟨j + 1, by omega, by go_num, by go_num⟩
      case measure => simp [intOf]; omega
    · have : j = n := by omega
      subst this
      go_wp2
      go_returns
      exact ⟨rfl, rfl⟩
end Go.Proofs.YtncjidkgbfilkabDoor
