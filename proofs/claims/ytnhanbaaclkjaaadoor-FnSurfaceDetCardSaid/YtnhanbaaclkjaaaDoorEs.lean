/- Tables: the model's determinant, the table and the determinant that it gives. -/
import Derived.Test.YtnhanbaaclkjaaaDoorEr
import Derived.Test.YtnhanbaaclkjaaaDoorEb
import Derived.Deep.QuietTactic
import Derived.BigQuiet
namespace Go.Proofs.YtnhanbaaclkjaaaDoor
open Go.RowKit

/-- a list of lists of one length, read cell by cell -/
theorem Rows2.grid {W : World} {lo hi m : Nat} {v : Value} {L : List (List Int)} (h : Rows2 W lo hi v L) (h0 : 0 < L.length) (hm : 0 < m) (hr : ∀ j, j < L.length → (L[j]?.getD []).length = m) :
    ∃ g off c, v = .slice (some ⟨g, off, none⟩) L.length c ∧ g < W.heap.size ∧ L.length ≤ maxLen ∧ ∀ j, j < L.length → ∃ gj oj cj, gj < W.heap.size ∧ m ≤ maxLen ∧ W.cell? ⟨g, off + j, none⟩ = some (.slice (some ⟨gj, oj, none⟩) m cj) ∧ ∀ k, k < m → W.cell? ⟨gj, oj + k, none⟩ = some (.int .i64 (((L[j]?.getD [])[k]?).getD 0)) := by
  have hs := h.1
  obtain ⟨g, c, e, hg, hmx, hc⟩ := h.at h0
  refine ⟨g, 0, c, e, by omega, hmx, fun j hj => ?_⟩
  obtain ⟨a, n, c', h1, h2, h3⟩ := hc j hj
  have hl := hr j hj
  rcases h2.2 with ⟨e2, e3⟩ | ⟨gj, cap, cur, e2, _, hg2, hcap, hmx2, _⟩
  · omega
  · rw [e2] at h1 h2 h3
    have hcell := Ints.cell h2
    rw [hl] at h1 hcap
    refine ⟨gj, 0, cap, by have := h3 gj rfl; omega, by omega, by rw [Nat.zero_add]; exact h1, fun k hk => ?_⟩
    rw [Nat.zero_add]
    exact hcell k (by rw [hl]; exact hk)
theorem tabLL_len (l : List V2) : (tabLL l).length = l.length - 2 := tabTo_len _ _
theorem tabLL_at {l : List V2} {r : Nat} (h : r < l.length - 2) : (tabLL l)[r]?.getD [] = tabRow l r (l.length - 2) := tabTo_at h
theorem tabRow_at {l : List V2} {i k m : Nat} (h : k < m) : ((tabRow l i m)[k]?).getD 0 = tabZ l i k := by simp [tabRow, h]
set_option maxRecDepth 100000 in
set_option maxHeartbeats 16000000 in
theorem l8Det_any (v : Value) (l : List V2) (lo hi : Nat) (w : World) (hv : Rows2 w lo hi v (tabLL l)) (hS : Smooth l) (h3 : 3 ≤ l.length) (h20 : l.length ≤ 20) :
    Calls Tryd.prog 53 #[v] w fun e w' => e = .returned (.int .i64 (dtJ l (l.length - 2))) ∧ Below w.heap.size w w' := by
  obtain ⟨g, off, c, rfl, hgs, hmx, hcell⟩ := hv.grid (m := l.length - 2) (by rw [tabLL_len]; omega) (by omega) (fun j hj => by rw [tabLL_len] at hj; rw [tabLL_at hj, tabRow_len])
  rw [tabLL_len] at hcell hmx ⊢
  have HC : Hid (∀ wr, Below w.heap.size w wr → ∀ j, j < l.length - 2 → ∃ gj oj cj, wr.cell? ⟨g, off + j, none⟩ = some (.slice (some ⟨gj, oj, none⟩) (l.length - 2) cj) ∧ ∀ k, k < l.length - 2 → wr.cell? ⟨gj, oj + k, none⟩ = some (.int .i64 (tabZ l j k))) := by
    intro wr hb j hj
    obtain ⟨gj, oj, cj, h1, _, h2, h3⟩ := hcell j hj
    refine ⟨gj, oj, cj, (hb.cell (p := ⟨g, off + j, none⟩) hgs).trans h2, fun k hk => (hb.cell (p := ⟨gj, oj + k, none⟩) h1).trans ?_⟩
    rw [h3 k hk, tabLL_at hj, tabRow_at hk]
  have HD0 : Hid (dtJ l 0 = 1) := dtJ_zero hS
  have HL0 : Hid (lastJ l 0 = 0) := rfl
  have HLs : Hid (∀ j, lastJ l (j + 1) = dtJ l j) := fun j => lastJ_succ l j
  have HDs : Hid (∀ j, dtJ l (j + 1) = numZ l (j + 2) * dtJ l j - lastJ l j) := fun j => dtJ_succ hS (by omega) j
  have HDb := Lib.hid (fun j => dtJ_bnd hS j)
  have HLb := Lib.hid (fun j => lastJ_bnd hS j)
  have HTb := Lib.hid (fun i j => dtJ_term hS i j)
  have HTz : Hid (∀ i k, tabZ l i k = if i = k then numZ l (i + 2) else if i + 1 = k ∨ k + 1 = i then 1 else 0) := fun i k => rfl
  obtain ⟨o, ho⟩ : ∃ o : Int, o = 1 := ⟨_, rfl⟩
  have HO := Lib.hid ho
  have q9 : IntKind.i64.wrap (o * o) = o := by rw [ho]; decide
  clear ho
  obtain ⟨m, hm⟩ : ∃ m, m = l.length - 2 := ⟨_, rfl⟩
  have hm18 : m ≤ 18 := by omega
  rw [← hm] at HC ⊢
  clear hS h3 h20 hcell hv hmx hm
  go_enter Tryd.func53, Tryd.ntmps53
  go_wp2
  go_loopw [3, 4, 5] (fun s3 s4 s5 wr => ∃ i : Nat, i ≤ m ∧ s5 = .int .i64 (i : Int) ∧ s4 = .int .i64 (dtJ l i) ∧ s3 = .int .i64 (lastJ l i) ∧ Below w.heap.size w wr) (fun _ _ s5 _ => m - (intOf s5).toNat)
  case atStart => exact ⟨0, Nat.zero_le _, rfl, by rw [HD0.out], by rw [HL0.out], by go_grown⟩
  case round =>
    obtain ⟨i, him, rfl, rfl, rfl, hB⟩ := hrel
    have i0 : (0 : Int) ≤ (i : Int) := by omega
    by_cases hlt : i < m
    · have i1 : (i : Int) < (m : Int) := by omega
      obtain ⟨gi, oi, ci, r1, hri⟩ := HC.out wr hB i hlt
      have c1 := hri i hlt
      rw [HTz.out i i, if_pos rfl] at c1
      have b1 := HDb.out i
      have b2 := HLb.out i
      have b3 := HTb.out (i + 2) i
      have b4 := HDb.out (i + 1)
      have HX := Lib.hid (HDs.out i)
      have HY := Lib.hid (HLs.out i)
      have q1 : IntKind.i64.wrap (numZ l (i + 2) * dtJ l i) = numZ l (i + 2) * dtJ l i := by rw [IntKind.wrap_i64]; omega
      have q2 : IntKind.i64.wrap ((i : Int) + 1) = (i : Int) + 1 := by rw [IntKind.wrap_i64]; omega
      by_cases hz : i = 0
      · have p0 : ¬ (0 : Int) < (i : Int) := by omega
        have HZ : Hid (dtJ l (i + 1) = numZ l (i + 2) * dtJ l i) := by show _ = _; rw [HX.out, hz, HL0.out, Int.sub_zero]
        clear hri HX b2 b3 b4 hz
        generalize numZ l (i + 2) = z at *
        go_wp2
        go_roundw
        case rel => exact ⟨i + 1, by omega, by go_num, by rw [HZ.out], by rw [HY.out], hB⟩
        case measure => simp [intOf]; omega
      · obtain ⟨j, hj⟩ : ∃ j, i = j + 1 := ⟨i - 1, by omega⟩
        have p0 : (0 : Int) < (i : Int) := by omega
        obtain ⟨gj, oj, cj, r2, hrj⟩ := HC.out wr hB j (by omega)
        have c2 := hri j (by omega)
        rw [HTz.out i j, if_neg (by omega), if_pos (.inr (by omega)), ← HO.out] at c2
        have c3 := hrj i hlt
        rw [HTz.out j i, if_neg (by omega), if_pos (.inl (by omega)), ← HO.out] at c3
        have q3 : IntKind.i64.wrap ((i : Int) - 1) = (j : Int) := by rw [IntKind.wrap_i64]; omega
        have q4 : IntKind.i64.wrap (o * lastJ l i) = lastJ l i := by rw [HO.out, Int.one_mul, IntKind.wrap_i64]; omega
        have j0 : (0 : Int) ≤ (j : Int) := by omega
        have j1 : (j : Int) < (m : Int) := by omega
        have q5 : IntKind.i64.wrap (numZ l (i + 2) * dtJ l i - lastJ l i) = dtJ l (i + 1) := by rw [← HX.out, IntKind.wrap_i64]; omega
        have HJ := Lib.hid hj
        clear hri hrj HX b1 b2 b3 b4 hj hz
        generalize numZ l (i + 2) = z at *
        obtain ⟨y, hy⟩ : ∃ y, y = dtJ l (i + 1) := ⟨_, rfl⟩
        rw [← hy] at q5
        have HE := Lib.hid hy
        clear hy
        generalize dtJ l i = x at q1 q5 HY ⊢
        generalize lastJ l i = t at q4 q5 ⊢
        go_wp2_with fail
        go_quiet (fail)
        go_wp2
        go_roundw
        case rel => exact ⟨i + 1, by omega, by go_num, by rw [HE.out], by rw [HY.out], below_drewN hB _⟩
        case measure => simp [intOf]; omega
    · obtain rfl : i = m := by omega
      have i2 : ¬ (i : Int) < (i : Int) := by omega
      go_wp2
      go_returns
      exact ⟨rfl, hB⟩
end Go.Proofs.YtnhanbaaclkjaaaDoor
