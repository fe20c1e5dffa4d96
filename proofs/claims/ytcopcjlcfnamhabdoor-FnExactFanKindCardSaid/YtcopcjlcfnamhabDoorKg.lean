/- The kind of a fan: both sides. -/
import Derived.Test.YtcopcjlcfnamhabDoorKf
import Derived.Test.YtcopcjlcfnamhabDoorHn
namespace Go.Proofs.YtcopcjlcfnamhabDoor
open Go.RowKit

set_option maxHeartbeats 4000000 in
theorem fanKind_any (v : Value) (l : List V2) (w : World) (hl : ReadsVecs w v l) (hg : EtOk w) :
    Calls Tryd.prog 29 #[v] w fun e w' => e = .returned (.tuple #[.int .i64 (gate (smoothB l && kindOk l) (kind4 l)), .bool (smoothB l && kindOk l)]) ∧ Below w.heap.size w w' := by
  have HO := Lib.hid (smoothFanOf_any v l w hl hg)
  have HS := Lib.hid (fun (ns : List Node) h hn => fan_small (l := l) (ns := ns) (smooth_in h).1 hn)
  have HV := Lib.hid (fun h => And.intro (smooth_all (l := l) h) (fan_len (smooth_in (l := l) h).1).1)
  clear hl hg
  cases hb : smoothB l
  · rw [hb] at HO
    clear hb HS HV
    go_enter Tryd.func29, Tryd.ntmps29
    go_wp2_with fail
    refine Calls.mono HO.out ?_
    rintro e w1 ⟨⟨h, _⟩ | ⟨_, rfl⟩, hb1⟩
    · cases h
    · go_wp2
      go_returns
      exact ⟨rfl, hb1⟩
  · rw [hb] at HO HS HV
    clear hb
    go_enter Tryd.func29, Tryd.ntmps29
    go_wp2_with fail
    refine Calls.mono HO.out ?_
    rintro e w1 ⟨⟨_, g, ns, rfl, hF, hn⟩ | ⟨h, _⟩, hb1⟩
    · obtain ⟨hs, hnl⟩ := HS.out ns (by simp) hn
      obtain ⟨hS, h3⟩ := HV.out (by simp)
      have HK := Lib.hid (fanKindM_any _ g ns w1 hF hs (by rw [hn]; exact hS) (by omega))
      rw [hn] at HK
      clear hF hn hs hnl hS h3 HO HS HV
      go_wp2_with fail
      refine Calls.mono HK.out ?_
      rintro e w2 ⟨rfl, hb2⟩
      have hB := belowTo hb1 hb2
      clear hb1 hb2
      go_wp2
      go_returns
      exact ⟨rfl, hB⟩
    · cases h
theorem run_max_int4 {P : Program} {w : World} (ts : Array TypeId) (t : TypeId) (k1 k2 k3 k4 : IntKind) (x y z u : Int) : (Builtin.max_ ts t #[.int k1 x, .int k2 y, .int k3 z, .int k4 u]).run P w = .ok (.int k1 (max (max (max x y) z) u)) w := by
  have h : (Builtin.max_ ts t #[.int k1 x, .int k2 y, .int k3 z, .int k4 u]).run P w = .ok (.int k1 (if u > (if z > (if y > x then y else x) then z else (if y > x then y else x)) then u else (if z > (if y > x then y else x) then z else (if y > x then y else x)))) w := by
    simp [Builtin.max_, Builtin.max2]
  rw [h]
  congr 2
  (repeat' split) <;> omega
attribute [local go_sem] run_max_int4
theorem max_kind {l : List V2} (h4 : l.length = 4) (hS : Smooth l) : max (numZ l 0) (max (numZ l 1) (max (numZ l 2) (numZ l 3))) = kind4 l := by
  obtain ⟨h0, h2, h3, _⟩ := four_cases h4 hS
  unfold kind4 kindM
  rw [h4, if_neg (by omega), if_pos rfl, h2, h3]
  (repeat' split) <;> omega
set_option maxHeartbeats 4000000 in
theorem specFanKind_any (v : Value) (l : List V2) (w : World) (hl : ReadsVecs w v l) :
    Calls Tryd.prog 28 #[v] w fun e w' => e = .returned (.tuple #[.int .i64 (gate (smoothB l && kindOk l) (kind4 l)), .bool (smoothB l && kindOk l)]) ∧ Below w.heap.size w w' := by
  have HN := Lib.hid (specFanNumbers_any v l w hl)
  have HV := Lib.hid (fun h => And.intro (smooth_all (l := l) h) (fan_len (smooth_in (l := l) h).1))
  obtain ⟨a, c, rfl, _, _, _⟩ := hl
  cases hb : smoothB l
  · rw [hb] at HN
    clear hb HV
    go_enter Tryd.func28, Tryd.ntmps28
    go_wp2_with fail
    refine Calls.mono HN.out ?_
    rintro e w1 ⟨v1, rfl, _, hb1⟩
    go_wp2
    go_returns
    exact ⟨rfl, hb1⟩
  · rw [hb] at HN HV
    clear hb
    obtain ⟨hS, h3, h20⟩ := HV.out (by simp)
    by_cases h4 : l.length ≤ 4
    · have hk : kindOk l = true := by unfold kindOk; simpa using h4
      rw [hk]
      by_cases hl3 : l.length = 3
      · have hz : kind4 l = -1 := by unfold kind4; rw [if_pos hl3]
        rw [hz]
        have i1 : ¬ (4 : Int) < (l.length : Int) := by omega
        have i2 : (l.length : Int) = 3 := by omega
        clear HV hS h3 h20 h4 hk hl3 hz
        go_enter Tryd.func28, Tryd.ntmps28
        go_wp2_with fail
        refine Calls.mono HN.out ?_
        rintro e w1 ⟨v1, rfl, _, hb1⟩
        go_wp2
        go_returns
        exact ⟨rfl, hb1⟩
      · have h4' : l.length = 4 := by omega
        have HZ := Lib.hid (max_kind h4' hS)
        have i1 : ¬ (4 : Int) < (l.length : Int) := by omega
        have i2 : ¬ (l.length : Int) = 3 := by omega
        have HG := Lib.hid (fun j (hj : j < 4) => nums_get l (j := j) (by omega))
        have HL : Hid ((gV true (numsZ l)).length = 4) := by show (numsZ l).length = 4; rw [nums_len]; exact h4'
        clear HV hS h3 h20 h4 hk hl3 h4'
        generalize kind4 l = Q at *
        go_enter Tryd.func28, Tryd.ntmps28
        go_wp2_with fail
        refine Calls.mono HN.out ?_
        rintro e w1 ⟨v1, rfl, hI, hb1⟩
        obtain ⟨a1, c1, rfl, _, hcell⟩ := hI.reads (by rw [HL.out]; omega)
        rw [HL.out] at hcell ⊢
        obtain ⟨bb, off, rfl, hbb, hcs⟩ := hcell (by omega)
        have k0 := hcs 0 (by omega)
        have k1 := hcs 1 (by omega)
        have k2 := hcs 2 (by omega)
        have k3 := hcs 3 (by omega)
        change _ = some (Value.int .i64 ((numsZ l)[0]?.getD 0)) at k0
        change _ = some (Value.int .i64 ((numsZ l)[1]?.getD 0)) at k1
        change _ = some (Value.int .i64 ((numsZ l)[2]?.getD 0)) at k2
        change _ = some (Value.int .i64 ((numsZ l)[3]?.getD 0)) at k3
        rw [HG.out _ (by omega)] at k0 k1 k2 k3
        clear hcs hcell hI HL
        generalize numZ l 0 = z0 at *
        generalize numZ l 1 = z1 at *
        generalize numZ l 2 = z2 at *
        generalize numZ l 3 = z3 at *
        rw [Nat.add_zero] at k0
        have hl1 : bb < w1.heap.size := hbb
        go_wp2
        go_region
        go_wp2
        go_returns
        exact ⟨by rw [← HZ.out]; rfl, by go_grown⟩
    · have hk : kindOk l = false := by unfold kindOk; simpa using h4
      rw [hk]
      have i1 : (4 : Int) < (l.length : Int) := by omega
      clear HV hS h3 h20 h4 hk
      go_enter Tryd.func28, Tryd.ntmps28
      go_wp2_with fail
      refine Calls.mono HN.out ?_
      rintro e w1 ⟨v1, rfl, _, hb1⟩
      go_wp2
      go_returns
      exact ⟨rfl, hb1⟩
end Go.Proofs.YtcopcjlcfnamhabDoor
