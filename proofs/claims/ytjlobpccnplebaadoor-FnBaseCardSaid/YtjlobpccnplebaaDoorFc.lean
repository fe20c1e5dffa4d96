/- Lists of numbers that are asked: the program's check of a fraction. -/
import Derived.Test.YtjlobpccnplebaaDoorB3
import Derived.Test.YtjlobpccnplebaaDoorMv
import Derived.Test.YtjlobpccnplebaaDoorB2
namespace Go.Proofs.YtjlobpccnplebaaDoor
open Go.RowKit

def CheckPost (w : World) (l : List Int) (e : Ending) (w' : World) : Prop := ((lstB l = true ∧ e = .returned .nilIface) ∨ (lstB l = false ∧ IsNone e)) ∧ Below w.heap.size w w'
set_option maxHeartbeats 4000000 in
theorem fracCheck_any (v : Value) (l : List Int) (w : World) (h : ReadsInts w v l) :
    Calls Tryd.prog 93 #[v] w (CheckPost w l) := by
  obtain ⟨a, c, rfl, hm, hc⟩ := h
  cases hl : lenB l.length
  · have HL := Lib.hid (lst_long hl)
    rcases len_out hl with h0 | ⟨h1, h2⟩
    · rw [h0] at hc ⊢
      clear hl hm hc h0
      go_enter Tryd.func93, Tryd.ntmps93
      go_wp2
      go_returns
      exact ⟨.inr ⟨HL.out, ⟨_, rfl⟩⟩, Below.refl _ _⟩
    · have i1 : ((l.length : Int) == 0) = false := by simp; intro e; rw [e] at h1; simp at h1
      have i2 : (20 : Int) < (l.length : Int) := by omega
      generalize hn : l.length = n at *
      clear hl hm hc hn
      go_enter Tryd.func93, Tryd.ntmps93
      go_wp2
      go_returns
      exact ⟨.inr ⟨HL.out, ⟨_, rfl⟩⟩, Below.refl _ _⟩
  · obtain ⟨h1, h2⟩ := len_in hl
    obtain ⟨bb, off, rfl, hb, hcell⟩ := hc (by omega)
    have i1 : ((l.length : Int) == 0) = false := by simp; intro e; rw [e] at h1; simp at h1
    have i2 : (l.length : Int) ≤ 20 := by omega
    have HC := Lib.hid (fun j hj => hcell j hj)
    obtain ⟨n, hn⟩ : ∃ n, n = l.length := ⟨_, rfl⟩
    have HL : Hid (lenB l.length = true) := hl
    have HN : Hid (n = l.length) := hn
    rw [← hn] at i1 i2 h1 h2 ⊢
    clear hl hm hc hcell hn
    go_enter Tryd.func93, Tryd.ntmps93
    go_wp2
    go_loopw [17] (fun s wr => ∃ k : Nat, s = .int .i64 k ∧ k ≤ n ∧ Hid (∀ j, j < k → rngB (l[j]?.getD 0) = true) ∧ Below w.heap.size w wr) (fun s _ => n - (intOf s).toNat)
    case atStart => exact ⟨0, rfl, Nat.zero_le _, fun j hj => absurd hj (Nat.not_lt_zero _), Below.refl _ _⟩
    case round =>
      obtain ⟨k, rfl, hk, HR, hB⟩ := hrel
      by_cases hlt : k < n
      · have c1 : wr.cell? ⟨bb, off + k, none⟩ = some (.int .i64 (l[k]?.getD 0)) := (hB.cell (p := ⟨bb, off + k, none⟩) hb).trans (HC.out k (by have := HN.out; omega))
        have HK := Lib.hid (get_mem (l := l) (j := k) (by have := HN.out; omega))
        have hr : rngB (l[k]?.getD 0) = true → ∀ j, j < k + 1 → rngB (l[j]?.getD 0) = true := by
          intro h j hj
          by_cases he : j = k
          · subst he; exact h
          · exact HR.out j (by omega)
        have HR2 := Lib.hid hr
        clear hr HR
        generalize l[k]?.getD 0 = z at c1 HK HR2
        have j1 : (0 : Int) ≤ (k : Int) := by omega
        have j2 : (k : Int) < (n : Int) := by omega
        cases hz : rngB z
        · have HB := Lib.hid (lst_bad HK.out hz)
          rcases rngB_out hz with hz1 | ⟨hz1, hz2⟩
          all_goals
            clear hz
            go_wp2
            go_returns
            exact ⟨.inr ⟨HB.out, ⟨_, rfl⟩⟩, hB⟩
        · obtain ⟨hz1, hz2⟩ := rngB_in hz
          have HR3 := Lib.hid (HR2.out hz)
          clear hz HR2
          go_wp2
          go_roundw
          case rel => exact ⟨k + 1, by go_num, by omega, HR3, by go_grown⟩
          case measure => simp [intOf]; omega
      · have hkn : k = n := by omega
        subst hkn
        have HA := Lib.hid (lst_all HL.out (fun j hj => HR.out j (by have := HN.out; omega)))
        clear HR HC
        go_wp2
        go_returns
        exact ⟨.inl ⟨HA.out, rfl⟩, hB⟩
end Go.Proofs.YtjlobpccnplebaaDoor
