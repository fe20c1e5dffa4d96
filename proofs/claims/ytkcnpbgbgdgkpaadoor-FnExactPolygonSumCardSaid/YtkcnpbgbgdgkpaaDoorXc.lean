/- Slices of vectors: measured, marked: from whatever number. -/
import Derived.Test.YtkcnpbgbgdgkpaaDoorVk
import Derived.Test.YtkcnpbgbgdgkpaaDoorGb
namespace Go.Proofs.YtkcnpbgbgdgkpaaDoor
open Go.RowKit

set_option maxHeartbeats 1000000 in
theorem szVecS_from (a : Option Addr) (n c : Nat) (k : Int) (w : World) (hn : n ≤ 9000000000000000000) (h0 : 0 ≤ k) (h1 : k ≤ 1048576) :
    Calls Tryd.prog 9 #[.slice a n c, .int .i64 k] w fun e w' => e = .returned (.int .i64 (if (n : Int) ≤ k then k - (n : Int) else -1)) ∧ w = w' := by
  have q1 : IntKind.i64.wrap (k - (n : Int)) = k - (n : Int) := by rw [IntKind.wrap_i64]; omega
  by_cases h : (n : Int) ≤ k
  · have j1 : ¬ k - (n : Int) < 0 := by omega
    rw [if_pos h]
    go_enter Tryd.func9, Tryd.ntmps9
    go_wp2
    go_returns
    exact ⟨rfl, rfl⟩
  · have j1 : k - (n : Int) < 0 := by omega
    rw [if_neg h]
    go_enter Tryd.func9, Tryd.ntmps9
    go_wp2
    go_returns
    exact ⟨rfl, rfl⟩
set_option maxHeartbeats 4000000 in
theorem markVecS_far (g c b k n : Nat) (l : List Int) (w : World) (hn : l.length = n * 2) (h1 : w.ownsRow b 38 2 (.slice (some ⟨g, 0, none⟩) n c) n (intsV l)) (hk : k ≤ 1125899906842624) (hm : n ≤ 576460752303423488) :
    Calls Tryd.prog 14 #[.slice (some ⟨g, 0, none⟩) n c, .int .i64 k] w (VMarked w b g c k n) := by
  have HN := Lib.hid hn
  clear hn
  have HO : Hid (w.ownsRow b 38 2 (.slice (some ⟨g, 0, none⟩) n c) n (intsV (marks k 0 ++ l.drop 0))) := h1
  clear h1
  go_enter Tryd.func14, Tryd.ntmps14
  go_wp2
  go_loopw [1, 5] (fun m i wr => ∃ j : Nat, j ≤ n ∧ m = .int .i64 ((k + j * 2 : Nat) : Int) ∧ i = .int .i64 j ∧ Hid (wr.ownsRow b 38 2 (.slice (some ⟨g, 0, none⟩) n c) n (intsV (marks k (j * 2) ++ l.drop (j * 2)))) ∧ w.grownBy wr (some g)) (fun _ i _ => n - (intOf i).toNat)
  case atStart => exact ⟨0, Nat.zero_le _, rfl, rfl, HO, World.grownBy.refl _ _⟩
  case round =>
    obtain ⟨j, hj, rfl, rfl, hO, hG⟩ := hrel
    by_cases hlt : j < n
    · have R := VRow.marked HN.out (by omega) hO.out
      have R' := VRow.marked HN.out (by omega) R.1
      have F := World.ownsRow.frozenAt hO.out (j * 2)
      have hc := World.ownsRow.cellAt hO.out (j * 2) (by omega)
      obtain ⟨u, hu⟩ : ∃ u, (intsV (marks k (j * 2) ++ l.drop (j * 2)))[j * 2]? = some u := ⟨_, List.getElem?_eq_getElem (by have := hO.out.1; omega)⟩
      rw [hu] at hc
      have F2 := World.ownsRow.frozenAt hO.out (j * 2 + 1)
      have hc2 := World.ownsRow.cellAt hO.out (j * 2 + 1) (by omega)
      obtain ⟨u2, hu2⟩ : ∃ u, (intsV (marks k (j * 2) ++ l.drop (j * 2)))[j * 2 + 1]? = some u := ⟨_, List.getElem?_eq_getElem (by have := hO.out.1; omega)⟩
      rw [hu2] at hc2
      have e1 : IntKind.i64.wrap (((k + j * 2 : Nat) : Int) + 1) = ((k + (j * 2 + 1) : Nat) : Int) := by rw [IntKind.wrap_i64]; omega
      have e2 : IntKind.i64.wrap (((k + (j * 2 + 1) : Nat) : Int) + 1) = ((k + (j + 1) * 2 : Nat) : Int) := by rw [IntKind.wrap_i64]; omega
      have R1 : Hid (World.ownsRow ((wr.setCell ⟨g, j * 2, none⟩ (.int .i64 ((k + j * 2 : Nat) : Int))).setCell ⟨g, j * 2 + 1, none⟩ (.int .i64 ((k + (j * 2 + 1) : Nat) : Int))) b 38 2 (.slice (some ⟨g, 0, none⟩) n c) n (intsV (marks k ((j + 1) * 2) ++ l.drop ((j + 1) * 2)))) := by
        have := R'.1
        rwa [show j * 2 + 1 + 1 = (j + 1) * 2 by omega] at this
      have R2 := Lib.hid ((hG.trans R.2).trans R'.2)
      clear R R' hO hG hu hu2
      go_wp2
      go_roundw
      case rel => exact ⟨j + 1, by omega, by go_num, by go_num, R1, R2.out⟩
      case measure => simp [intOf]; omega
    · have : j = n := by omega
      subst this
      have hO' := hO.out
      rw [List.drop_of_length_le (by have := HN.out; omega), List.append_nil] at hO'
      have HO2 := Lib.hid hO'
      clear hO hO'
      go_wp2
      go_returns
      exact ⟨rfl, HO2.out, hG⟩
theorem markVecS_from (v : Value) (b k : Nat) (l : List V2) (w : World) (I : Vecs w b v l) (hk : k ≤ 1125899906842624) (hm : l.length ≤ 576460752303423488) :
    Calls Tryd.prog 14 #[v, .int .i64 k] w fun e w' => e = .returned (.int .i64 ((k + l.length * 2 : Nat) : Int)) ∧ w.grownBy w' v.ownBlock := by
  unfold Vecs at I
  have hf := flat_len l
  generalize flat l = f at *
  generalize l.length = n at *
  rcases I.form with ⟨rfl, rfl, a, c, rfl⟩ | ⟨hp, g, c, rfl, _, _, _⟩
  · refine Calls.mono (markVecS_nil a c k w) ?_
    rintro e w' ⟨rfl, rfl⟩
    exact ⟨rfl, World.grownBy.refl _ _⟩
  · refine Calls.mono (markVecS_far g c b k n f w (by omega) I hk hm) ?_
    rintro e w' ⟨rfl, h2, h3⟩
    exact ⟨rfl, h3⟩
theorem szVecS_max (a : Option Addr) (n c : Nat) (k : Int) (w : World) (hn : n ≤ 9223372036854775807) (h0 : 0 ≤ k) (h1 : k ≤ 1048576) :
    Calls Tryd.prog 9 #[.slice a n c, .int .i64 k] w fun e w' => e = .returned (.int .i64 (if (n : Int) ≤ k then k - (n : Int) else -1)) ∧ w = w' := by
  have q1 : IntKind.i64.wrap (k - (n : Int)) = k - (n : Int) := by rw [IntKind.wrap_i64]; omega
  by_cases h : (n : Int) ≤ k
  · exact szVecS_from a n c k w (by omega) h0 h1
  · have j1 : k - (n : Int) < 0 := by omega
    rw [if_neg h]
    go_enter Tryd.func9, Tryd.ntmps9
    go_wp2
    go_returns
    exact ⟨rfl, rfl⟩
end Go.Proofs.YtkcnpbgbgdgkpaaDoor
