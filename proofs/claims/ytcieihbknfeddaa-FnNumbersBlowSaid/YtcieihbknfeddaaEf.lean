/- Lists of numbers and their fans: the program. -/
import Derived.Test.YtcieihbknfeddaaI3
import Derived.Test.YtcieihbknfeddaaB9
import Derived.Test.YtcieihbknfeddaaBt
import Derived.Test.YtcieihbknfeddaaQx
import Derived.Test.YtcieihbknfeddaaB2
import Derived.Laws.StructEq
import Derived.ChangeKeysEq
namespace Go.Proofs.Ytcieihbknfeddaa
open Go.RowKit

set_option maxHeartbeats 400000 in
theorem areNumbers1_any (b n : Int) (B : Nat) (w : World) (hB : w.cell? ⟨B, 0, none⟩ = some (.int .i64 b)) (h0 : 0 ≤ b) (h1 : b ≤ 1) :
    Calls Try.prog 18 #[.int .i64 n, .pointer (some ⟨B, 0, none⟩)] w fun e w' => e = .returned (.bool (numP b n)) ∧ w' = w := by
  unfold numP
  go_enter Try.func18, Try.ntmps18
  go_wp2
  all_goals go_returns
  all_goals (refine ⟨ret_bool ?_, rfl⟩; first | rfl | (rw [Bool.eq_iff_iff]; simp; try (intros; omega)))
set_option maxHeartbeats 4000000 in
theorem everyNum_any (v : Value) (d : List Int) (b : Int) (B : Nat) (w : World) (h : ReadsInts w v d) (hB : w.cell? ⟨B, 0, none⟩ = some (.int .i64 b)) (h0 : 0 ≤ b) (h1 : b ≤ 1) :
    Calls Try.prog 17 #[v, .func (.func 18) #[] #[.pointer (some ⟨B, 0, none⟩)]] w fun e w' => e = .returned (.bool (d.all (numP b))) ∧ w' = w := by
  obtain ⟨a, c, rfl, hm, hc⟩ := h
  have HC := Lib.hid hc
  have HCB := Lib.hid hB
  have HB := Lib.hid (fun k hk h => all_bad (p := numP b) (d := d) (k := k) hk h)
  have HG := Lib.hid (fun h => all_good (p := numP b) (d := d) h)
  obtain ⟨n, hn⟩ : ∃ n, n = d.length := ⟨_, rfl⟩
  have HN := Lib.hid hn
  rw [← hn] at hm ⊢
  clear hc hn hB
  go_enter Try.func17, Try.ntmps17
  go_wp2
  go_loop [9] (fun s => ∃ k : Nat, s = .int .i64 k ∧ k ≤ n ∧ Hid (∀ j, j < k → numP b (gz d j) = true)) (fun s => n - (intOf s).toNat)
  case atStart => exact ⟨0, rfl, Nat.zero_le _, fun j hj => absurd hj (Nat.not_lt_zero _)⟩
  case round =>
    obtain ⟨k, rfl, hk, HR⟩ := hrel
    by_cases hlt : k < n
    · have hkl : k < d.length := by have := HN.out; omega
      obtain ⟨bb, off, rfl, hb, hcell⟩ := HC.out (by omega)
      have c1 : w.cell? ⟨bb, off + k, none⟩ = some (.int .i64 (gz d k)) := hcell k hkl
      have j1 : (0 : Int) ≤ (k : Int) := by omega
      have j2 : (k : Int) < (n : Int) := by omega
      have HI := Lib.hid (areNumbers1_any b (gz d k) B w HCB.out h0 h1)
      cases hz : numP b (gz d k)
      · have HB2 := Lib.hid (HB.out k hkl hz)
        rw [hz] at HI
        clear hz hcell HR
        generalize gz d k = z at c1 HI
        go_wp2_with fail
        refine Calls.mono HI.out ?_
        rintro e w1 ⟨rfl, rfl⟩
        go_wp2
        go_returns
        exact ⟨by rw [HB2.out]; rfl, rfl⟩
      · have HR2 : Hid (∀ j, j < k + 1 → numP b (gz d j) = true) := fun j hj => by
          by_cases e : j = k
          · subst e; exact hz
          · exact HR.out j (by omega)
        rw [hz] at HI
        clear hz hcell HR
        generalize gz d k = z at c1 HI
        go_wp2_with fail
        refine Calls.mono HI.out ?_
        rintro e w1 ⟨rfl, rfl⟩
        go_wp2
        go_round
        case rel => exact ⟨k + 1, by go_num, by omega, HR2⟩
        case measure => simp [intOf]; omega
    · have hkn : k = n := by omega
      subst hkn
      have HA := Lib.hid (HG.out (fun j hj => HR.out j (by have := HN.out; omega)))
      clear HR HC
      go_wp2
      go_returns
      exact ⟨by rw [HA.out]; rfl, rfl⟩
set_option maxHeartbeats 4000000 in
theorem areNumbers_any (v : Value) (d : List Int) (b : Int) (w : World) (h : ReadsInts w v d) (h0 : 0 ≤ b) (h1 : b ≤ 1) :
    Calls Try.prog 11 #[v, .int .i64 b] w fun e w' => e = .returned (.bool (areN d b)) ∧ Below w.heap.size w w' := by
  have HE := Lib.hid (fun B w' (hb : Below w.heap.size w w') hB => everyNum_any v d b B w' (h.below hb) hB h0 h1)
  obtain ⟨a, c, rfl, hm, _⟩ := h
  have q1 : IntKind.i64.wrap (20 - b) = 20 - b := by rw [IntKind.wrap_i64]; omega
  have hA : Below w.heap.size w (w.alloc (.cells #[.int .i64 b] 3)) := by go_grown
  have HE2 := Lib.hid (HE.out w.heap.size _ hA (by simp))
  by_cases h3 : 3 ≤ d.length
  · by_cases h20 : (d.length : Int) ≤ 20 - b
    · have e1 : areN d b = d.all (numP b) := by simp [areN, h3, h20]
      rw [e1]
      generalize d.all (numP b) = K at *
      have j1 : (3 : Int) ≤ (d.length : Int) := by omega
      generalize d.length = n at *
      clear HE e1 hm
      go_enter Try.func11, Try.ntmps11
      go_wp2_with fail
      refine Calls.mono HE2.out ?_
      rintro e w1 ⟨rfl, rfl⟩
      go_wp2
      go_returns
      exact ⟨by cases K <;> rfl, hA⟩
    · have e1 : areN d b = false := by simp [areN, h20]
      rw [e1]
      have j1 : (3 : Int) ≤ (d.length : Int) := by omega
      have j2 : decide ((3 : Int) ≤ (d.length : Int)) = true := by simpa using j1
      have j3 : decide ((d.length : Int) ≤ 20 - b) = false := by simpa using h20
      generalize d.length = n at *
      clear HE HE2 e1 hm
      go_enter Try.func11, Try.ntmps11
      go_wp2
      go_returns
      exact ⟨rfl, hA⟩
  · have e1 : areN d b = false := by simp [areN, h3]
    rw [e1]
    have j1 : ¬ (3 : Int) ≤ (d.length : Int) := by omega
    have j2 : decide ((3 : Int) ≤ (d.length : Int)) = false := by simpa using j1
    generalize d.length = n at *
    clear HE HE2 e1 hm
    go_enter Try.func11, Try.ntmps11
    go_wp2
    go_returns
    exact ⟨rfl, hA⟩

/-! a pair of rays -/
end Go.Proofs.Ytcieihbknfeddaa
