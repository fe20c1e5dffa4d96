/- The kind of a fan: both sides. -/
import Derived.Test.YtdlofnkimikaiaaDoorKf
import Derived.Test.YtdlofnkimikaiaaDoorBf
namespace Go.Proofs.YtdlofnkimikaiaaDoor
open Go.RowKit

set_option maxHeartbeats 4000000 in
theorem fanKind_any (v : Value) (l : List V2) (w : World) (hl : ReadsVecs w v l) (hg : EtOk w) :
    Calls Tryd.prog 46 #[v] w fun e w' => e = .returned (.tuple #[.int .i64 (gate (smoothB l && kindOk l) (kind4 l)), .bool (smoothB l && kindOk l)]) ∧ Below w.heap.size w w' := by
  have HO := Lib.hid (smoothFanOf_any v l w hl hg)
  have HS := Lib.hid (fun (ns : List Node) h hn => fan_small (l := l) (ns := ns) (smooth_in h).1 hn)
  have HV := Lib.hid (fun h => And.intro (smooth_all (l := l) h) (fan_len (smooth_in (l := l) h).1).1)
  clear hl hg
  cases hb : smoothB l
  · rw [hb] at HO
    clear hb HS HV
    go_enter Tryd.func46, Tryd.ntmps46
    go_wp2_with fail
    refine Calls.mono HO.out ?_
    rintro e w1 ⟨⟨h, _⟩ | ⟨_, rfl⟩, hb1⟩
    · cases h
    · go_wp2
      go_returns
      exact ⟨rfl, hb1⟩
  · rw [hb] at HO HS HV
    clear hb
    go_enter Tryd.func46, Tryd.ntmps46
    go_wp2_with fail
    refine Calls.mono HO.out ?_
    rintro e w1 ⟨⟨_, g, ns, rfl, hF, hn⟩ | ⟨h, _⟩, hb1⟩
    · obtain ⟨hs, hnl⟩ := HS.out ns (by simp) hn
      obtain ⟨hS, h3⟩ := HV.out (by simp)
      have HK := Lib.hid (fanKindM_any _ g ns w1 hF hs (by rw [hn]; exact hS) (by omega))
      rw [hn] at HK
      clear hF hn hs hnl hS h3 HO HS HV
      go_wp2_with fail
      refine Calls.mono HK.out ?_
      rintro e w2 ⟨rfl, hb2⟩
      have hB := belowTo hb1 hb2
      clear hb1 hb2
      go_wp2
      go_returns
      exact ⟨rfl, hB⟩
    · cases h
theorem run_max_int4 {P : Program} {w : World} (ts : Array TypeId) (t : TypeId) (k1 k2 k3 k4 : IntKind) (x y z u : Int) : (Builtin.max_ ts t #[.int k1 x, .int k2 y, .int k3 z, .int k4 u]).run P w = .ok (.int k1 (max (max (max x y) z) u)) w := by
  have h : (Builtin.max_ ts t #[.int k1 x, .int k2 y, .int k3 z, .int k4 u]).run P w = .ok (.int k1 (if u > (if z > (if y > x then y else x) then z else (if y > x then y else x)) then u else (if z > (if y > x then y else x) then z else (if y > x then y else x)))) w := by
    simp [Builtin.max_, Builtin.max2]
  rw [h]
  congr 2
  (repeat' split) <;> omega
attribute [local go_sem] run_max_int4
theorem max_kind {l : List V2} (h4 : l.length = 4) (hS : Smooth l) : max (numZ l 0) (max (numZ l 1) (max (numZ l 2) (numZ l 3))) = kind4 l := by
  obtain ⟨h0, h2, h3, _⟩ := four_cases h4 hS
  unfold kind4 kindM
  rw [h4, if_neg (by omega), if_pos rfl, h2, h3]
  (repeat' split) <;> omega
end Go.Proofs.YtdlofnkimikaiaaDoor
