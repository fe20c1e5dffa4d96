/- Divisors: coefficients checked; the program. -/
import Derived.Test.YtmencjdlfeojkaaDoorQa
import Derived.Test.YtmencjdlfeojkaaDoorGl
import Derived.Test.YtmencjdlfeojkaaDoorB3
import Derived.Deep.QuietTactic
import Derived.BigQuiet
namespace Go.Proofs.YtmencjdlfeojkaaDoor
open Go.RowKit

theorem ReadsInts.open {w : World} {v : Value} {d : List Int} (h : ReadsInts w v d) (h0 : 0 < d.length) : ∃ bb off c, v = .slice (some ⟨bb, off, none⟩) d.length c ∧ d.length ≤ 1152921504606846976 ∧ bb < w.heap.size ∧
    ∀ wr, Below w.heap.size w wr → ∀ j, j < d.length → wr.cell? ⟨bb, off + j, none⟩ = some (.int .i64 (gz d j)) := by
  obtain ⟨a, c, rfl, hm, hcell⟩ := h
  obtain ⟨bb, off, rfl, hb, hcs⟩ := hcell h0
  exact ⟨bb, off, c, rfl, hm, hb, fun wr hw j hj => (hw.cell (p := ⟨bb, off + j, none⟩) hb).trans (hcs j hj)⟩
theorem ReadsInts.len {w : World} {v : Value} {d : List Int} (h : ReadsInts w v d) : ∃ a c, v = .slice a d.length c ∧ d.length ≤ 1152921504606846976 := by
  obtain ⟨a, c, rfl, hm, _⟩ := h
  exact ⟨a, c, rfl, hm⟩

set_option maxHeartbeats 400000 in
theorem inCoef_any (n : Int) (w : World) :
    Calls Tryd.prog 145 #[.int .i64 n] w fun e w' => e = .returned (.bool (cfB n)) ∧ w' = w := by
  unfold cfB
  go_enter Tryd.func145, Tryd.ntmps145
  go_wp2
  all_goals go_returns
  all_goals (refine ⟨ret_bool ?_, rfl⟩; rw [Bool.eq_iff_iff]; simp; try omega)
set_option maxHeartbeats 4000000 in
theorem everyCoef_any (v : Value) (d : List Int) (w : World) (h : ReadsInts w v d) :
    Calls Tryd.prog 144 #[v, .func (.func 145) #[] #[]] w fun e w' => e = .returned (.bool (cfsB d)) ∧ w' = w := by
  obtain ⟨a, c, rfl, hm, hc⟩ := h
  have HC := Lib.hid hc
  have HB := Lib.hid (fun k hk h => cfs_bad (d := d) (k := k) hk h)
  have HG := Lib.hid (fun h => cfs_good (d := d) h)
  obtain ⟨n, hn⟩ : ∃ n, n = d.length := ⟨_, rfl⟩
  have HN := Lib.hid hn
  rw [← hn] at hm ⊢
  clear hc hn
  go_enter Tryd.func144, Tryd.ntmps144
  go_wp2
  go_loop [9] (fun s => ∃ k : Nat, s = .int .i64 k ∧ k ≤ n ∧ Hid (∀ j, j < k → cfB (gz d j) = true)) (fun s => n - (intOf s).toNat)
  case atStart => exact ⟨0, rfl, Nat.zero_le _, fun j hj => absurd hj (Nat.not_lt_zero _)⟩
  case round =>
    obtain ⟨k, rfl, hk, HR⟩ := hrel
    by_cases hlt : k < n
    · have hkl : k < d.length := by have := HN.out; omega
      obtain ⟨bb, off, rfl, hb, hcell⟩ := HC.out (by omega)
      have c1 : w.cell? ⟨bb, off + k, none⟩ = some (.int .i64 (gz d k)) := hcell k hkl
      have j1 : (0 : Int) ≤ (k : Int) := by omega
      have j2 : (k : Int) < (n : Int) := by omega
      have HI := Lib.hid (fun w' => inCoef_any (gz d k) w')
      cases hz : cfB (gz d k)
      · have HB2 := Lib.hid (HB.out k hkl hz)
        rw [hz] at HI
        clear hz hcell HR
        generalize gz d k = z at c1 HI
        go_wp2_with fail
        refine Calls.mono (HI.out _) ?_
        rintro e w1 ⟨rfl, rfl⟩
        go_wp2
        go_returns
        exact ⟨by rw [HB2.out]; rfl, rfl⟩
      · have HR2 : Hid (∀ j, j < k + 1 → cfB (gz d j) = true) := fun j hj => by
          by_cases e : j = k
          · subst e; exact hz
          · exact HR.out j (by omega)
        rw [hz] at HI
        clear hz hcell HR
        generalize gz d k = z at c1 HI
        go_wp2_with fail
        refine Calls.mono (HI.out _) ?_
        rintro e w1 ⟨rfl, rfl⟩
        go_wp2
        go_round
        case rel => exact ⟨k + 1, by go_num, by omega, HR2⟩
        case measure => simp [intOf]; omega
    · have hkn : k = n := by omega
      subst hkn
      have HA := Lib.hid (HG.out (fun j hj => HR.out j (by have := HN.out; omega)))
      clear HR HC
      go_wp2
      go_returns
      exact ⟨by rw [HA.out]; rfl, rfl⟩

/-! a divisor in memory: a fan, and coefficients -/
/-- a list of numbers fits a fan -/
def fitB (n : Nat) (d : List Int) : Bool := decide (d.length = n) && cfsB d
def divErr : Ending := .returned (.iface 85 (.agg #[.string ⟨#[100, 105, 118, 105, 115, 111, 114]⟩]))
theorem divErr_none : IsNone divErr := ⟨_, rfl⟩
set_option maxHeartbeats 4000000 in
theorem divCheck_any (g n : Nat) (v : Value) (d : List Int) (w : World) (c1 : w.cell? ⟨g, 1, none⟩ = some (.int .i64 n)) (h : ReadsInts w v d) (hn : n ≤ 1000) :
    Calls Tryd.prog 143 #[.agg #[.pointer (some ⟨g, 0, none⟩), v]] w fun e w' => CheckEnd (fitB n d) e ∧ Below w.heap.size w w' := by
  have q1 : g < w.heap.size := World.block_lt_of_cell? w _ c1
  have HE := Lib.hid divErr_none
  unfold divErr at HE
  have h' := h
  obtain ⟨a, c, rfl, hm⟩ := h'.len
  have HV := Lib.hid (fun w' (hb : Below w.heap.size w w') => everyCoef_any _ d w' (h.below hb))
  by_cases hd : d.length = n
  · have hf : fitB n d = cfsB d := by simp [fitB, hd]
    rw [hf]
    subst hd
    generalize cfsB d = b at HV
    have j1 : ((d.length : Int) == (d.length : Int)) = true := by simp
    have j2 : ((d.length : Int) != (d.length : Int)) = false := by simp
    have e2 := hf
    clear hf e2
    generalize d.length = n at *
    clear h hm
    cases b
    · go_enter Tryd.func143, Tryd.ntmps143
      go_wp2_with fail
      go_quiet ((go_at_call 144; refine Calls.quiet_of_same (HV.out _ (by first | (go_grown; done) | exact below_drewN (by go_grown) _))))
      go_wp2
      refine bodyPost_ret (by simp [results, Tryd.results143, go_sem, *]; try rfl) rfl ?_
      exact ⟨HE.out, below_drewN (by go_grown) _⟩
    · go_enter Tryd.func143, Tryd.ntmps143
      go_wp2_with fail
      go_quiet ((go_at_call 144; refine Calls.quiet_of_same (HV.out _ (by first | (go_grown; done) | exact below_drewN (by go_grown) _))))
      go_wp2
      refine bodyPost_ret (by simp [results, Tryd.results143, go_sem, *]; try rfl) rfl ?_
      exact ⟨rfl, below_drewN (by go_grown) _⟩
  · have hf : fitB n d = false := by simp [fitB, hd]
    rw [hf]
    have j1 : ¬ (d.length : Int) = (n : Int) := by omega
    have j2 : ((d.length : Int) == (n : Int)) = false := by simpa using j1
    have j3 : ((d.length : Int) != (n : Int)) = true := by simp [bne, j2]
    generalize d.length = m at *
    clear h hd hf HV hm
    go_enter Tryd.func143, Tryd.ntmps143
    go_wp2_with fail
    go_quiet (fail)
    go_wp2
    refine bodyPost_ret (by simp [results, Tryd.results143, go_sem, *]; try rfl) rfl ?_
    exact ⟨HE.out, below_drewN (by go_grown) _⟩
end Go.Proofs.YtmencjdlfeojkaaDoor
