/- Divisors: the model's side: what is a divisor. -/
import Derived.Test.YtmencjdlfeojkaaDoorQb
import Derived.Test.YtmencjdlfeojkaaDoorHs
import Derived.Test.YtmencjdlfeojkaaDoorGy
import Derived.Test.YtmencjdlfeojkaaDoorB4
import Derived.StillTailTactics
namespace Go.Proofs.YtmencjdlfeojkaaDoor
open Go.RowKit

set_option maxHeartbeats 8000000 in
theorem specDivisorIn_any (v : Value) (l : List V2) (u : Value) (d : List Int) (w : World) (hl : ReadsVecs w v l) (hd : ReadsInts w u d) :
    Calls Tryd.prog 29 #[v, u] w fun e w' => e = .returned (.bool (divB l d)) ∧ Below w.heap.size w w' := by
  have HF := Lib.hid (specFanSmooth_any v l w hl)
  obtain ⟨a, c, rfl, _, hlm, _⟩ := hl
  obtain ⟨a1, c1, rfl, hm, hc⟩ := hd
  cases hs : smoothB l
  · have e0 : divB l d = false := by simp [divB, hs]
    rw [e0]
    rw [hs] at HF
    clear hs hc e0
    go_enter Tryd.func29, Tryd.ntmps29
    go_wp2_with fail
    refine Calls.mono HF.out ?_
    rintro e w1 ⟨rfl, hb1⟩
    go_wp2
    go_returns
    exact ⟨rfl, hb1⟩
  · rw [hs] at HF
    by_cases hn : d.length = l.length
    case neg =>
      have e0 : divB l d = false := by simp [divB, hn]
      rw [e0]
      have j1 : ¬ (d.length : Int) = (l.length : Int) := by omega
      have j2 : ((d.length : Int) == (l.length : Int)) = false := by simpa using j1
      have j3 : ((d.length : Int) != (l.length : Int)) = true := by simp [bne, j2]
      generalize d.length = m at *
      generalize l.length = n at *
      clear hs hc e0 hn
      go_enter Tryd.func29, Tryd.ntmps29
      go_wp2_with fail
      refine Calls.mono HF.out ?_
      rintro e w1 ⟨rfl, hb1⟩
      go_wp2
      go_returns
      exact ⟨rfl, hb1⟩
    case pos =>
      have e0 : divB l d = cfsB d := by simp [divB, hs, hn]
      rw [e0]
      have HC := Lib.hid hc
      have HB := Lib.hid (fun k hk h => cfs_bad (d := d) (k := k) hk h)
      have HG := Lib.hid (fun h => cfs_good (d := d) h)
      rw [← hn] at HF ⊢
      obtain ⟨n, hn2⟩ : ∃ n, n = d.length := ⟨_, rfl⟩
      have HN := Lib.hid hn2
      rw [← hn2] at hm HF ⊢
      have j2 : ((n : Int) == (n : Int)) = true := by simp
      have j3 : ((n : Int) != (n : Int)) = false := by simp
      clear hs hc e0 hn hn2 hlm
      go_enter Tryd.func29, Tryd.ntmps29
      go_wp2_with fail
      refine Calls.mono HF.out ?_
      rintro e w1 ⟨rfl, hb1⟩
      clear HF
      go_wp2
      go_loopw [5] (fun s wr => ∃ k : Nat, s = .int .i64 k ∧ k ≤ n ∧ Hid (∀ j, j < k → cfB (gz d j) = true) ∧ Below w.heap.size w wr) (fun s _ => n - (intOf s).toNat)
      case atStart => exact ⟨0, rfl, Nat.zero_le _, fun j hj => absurd hj (Nat.not_lt_zero _), hb1⟩
      case round =>
        obtain ⟨k, rfl, hk, HR, hB⟩ := hrel
        by_cases hlt : k < n
        · have hkl : k < d.length := by have := HN.out; omega
          obtain ⟨bb, off, rfl, hb, hcell⟩ := HC.out (by omega)
          have c2 : wr.cell? ⟨bb, off + k, none⟩ = some (.int .i64 (gz d k)) := (hB.cell (p := ⟨bb, off + k, none⟩) hb).trans (hcell k hkl)
          have i1 : (0 : Int) ≤ (k : Int) := by omega
          have i2 : (k : Int) < (n : Int) := by omega
          have HI := Lib.hid (fun w' => l6In_any (gz d k) (-100) 100 w')
          have hz0 : (decide ((-100 : Int) ≤ gz d k) && decide (gz d k ≤ 100)) = cfB (gz d k) := rfl
          rw [hz0] at HI
          cases hz : cfB (gz d k)
          · have HB2 := Lib.hid (HB.out k hkl hz)
            rw [hz] at HI
            clear hz hz0 hcell HR
            generalize gz d k = z at c2 HI
            go_wp2_with fail
            refine Calls.mono (HI.out _) ?_
            rintro e w2 ⟨rfl, rfl⟩
            go_wp2
            go_returns
            exact ⟨by rw [HB2.out]; rfl, hB⟩
          · have HR2 : Hid (∀ j, j < k + 1 → cfB (gz d j) = true) := fun j hj => by
              by_cases e : j = k
              · subst e; exact hz
              · exact HR.out j (by omega)
            rw [hz] at HI
            clear hz hz0 hcell HR
            generalize gz d k = z at c2 HI
            go_wp2_with fail
            refine Calls.mono (HI.out _) ?_
            rintro e w2 ⟨rfl, rfl⟩
            go_wp2
            go_roundw
            case rel => exact ⟨k + 1, by go_num, by omega, HR2, hB⟩
            case measure => simp [intOf]; omega
        · have hkn : k = n := by omega
          subst hkn
          have HA := Lib.hid (HG.out (fun j hj => HR.out j (by have := HN.out; omega)))
          clear HR HC
          go_wp2
          go_returns
          exact ⟨by rw [HA.out]; rfl, hB⟩
set_option maxHeartbeats 4000000 in
theorem l4Done_any (v : Value) (l : List V2) (u : Value) (d : List Int) (b : Nat) (w : World) (hl : ReadsVecs w v l) (hd : Ints w b u d) (hm : d.length ≤ 1048576) (hb : b ≤ w.heap.size) :
    Calls Tryd.prog 39 #[v, u] w fun e w' => ∃ u', e = .returned (.tuple #[u', .bool (divB l d)]) ∧ Ints w' b u' (gV (divB l d) d) ∧ Below w.heap.size w w' := by
  have HI := Lib.hid (specDivisorIn_any v l u d w hl (hd.reads (by omega)))
  have HD := Lib.hid hd
  have HE := Lib.hid (fun w' (h : w.heap.size ≤ (w' : World).heap.size) => (Ints.empty w').lower (Nat.le_trans hb h))
  obtain ⟨a, c, rfl, _⟩ := hd.reads (show d.length ≤ 1152921504606846976 by omega) |>.len
  clear hl hd
  generalize divB l d = k at *
  cases k
  · go_enter Tryd.func39, Tryd.ntmps39
    go_wp2_with fail
    refine Calls.mono HI.out ?_
    rintro e w1 ⟨rfl, hb1⟩
    have HE2 := Lib.hid (HE.out w1 hb1.size)
    have hs1 := hb1.size
    go_wp2
    go_returns
    exact ⟨_, rfl, HE2.out, by go_grown⟩
  · go_enter Tryd.func39, Tryd.ntmps39
    go_wp2_with fail
    refine Calls.mono HI.out ?_
    rintro e w1 ⟨rfl, hb1⟩
    have HD2 := Lib.hid (HD.out.below hb1)
    go_wp2
    go_returns
    exact ⟨_, rfl, HD2.out, hb1⟩
end Go.Proofs.YtmencjdlfeojkaaDoor
