/- Fans: the program's functions that read a fan. -/
import Derived.Test.YtcopcjlcfnamhaaDoorGl
import Derived.Test.YtcopcjlcfnamhaaDoorGv
import Derived.Test.YtcopcjlcfnamhaaDoorGw
import Derived.Test.YtcopcjlcfnamhaaDoorGn
import Derived.Test.YtcopcjlcfnamhaaDoorGx
namespace Go.Proofs.YtcopcjlcfnamhaaDoor
open Go.RowKit

/-- a list, or none -/
def gV {α : Type} (b : Bool) (l : List α) : List α := if b then l else []
theorem gV_len {α : Type} {b : Bool} {l : List α} {n : Nat} (h : b = true → l.length ≤ n) : (gV b l).length ≤ n := by
  cases b
  · exact Nat.zero_le _
  · exact h rfl
theorem fan_small {l : List V2} {ns : List Node} (h : fanB l = true) (hn : rays ns = l) : ns.length ≤ 1000 ∧ ns.length = l.length := by
  have := fan_len h
  rw [← hn, rays_len] at this
  exact ⟨by omega, by rw [← hn, rays_len]⟩
theorem rays_any (base g : Nat) (ns : List Node) (w : World) (hF : FanAt w base g ns) (hm : ns.length ≤ 1000) : Calls Tryd.prog 46 #[.pointer (some ⟨g, 0, none⟩)] w (GivesVecs w (rays ns)) :=
  callsIn_wide.1 (rays_in 3 (by omega) base g ns w hF hm)
set_option maxHeartbeats 4000000 in
theorem fanIn_any (v : Value) (l : List V2) (w : World) (hl : ReadsVecs w v l) (hg : EtOk w) :
    Calls Tryd.prog 14 #[v] w fun e w' => e = .returned (.bool (fanB l)) ∧ Below w.heap.size w w' := by
  have HO := Lib.hid (fanOf_any v l w hl hg)
  clear hl
  generalize fanB l = b at *
  go_enter Tryd.func14, Tryd.ntmps14
  go_wp2_with fail
  refine Calls.mono HO.out ?_
  rintro e w1 ⟨⟨rfl, g, ns, rfl, hF, hn⟩ | ⟨rfl, rfl⟩, hb1⟩
  · clear hF hn
    go_wp2
    go_returns
    exact ⟨rfl, hb1⟩
  · go_wp2
    go_returns
    exact ⟨rfl, hb1⟩
set_option maxHeartbeats 4000000 in
theorem fanSmooth_any (v : Value) (l : List V2) (w : World) (hl : ReadsVecs w v l) (hg : EtOk w) :
    Calls Tryd.prog 21 #[v] w fun e w' => e = .returned (.bool (smoothB l)) ∧ Below w.heap.size w w' := by
  have HO := Lib.hid (smoothFanOf_any v l w hl hg)
  clear hl
  generalize smoothB l = b at *
  go_enter Tryd.func21, Tryd.ntmps21
  go_wp2_with fail
  refine Calls.mono HO.out ?_
  rintro e w1 ⟨⟨rfl, g, ns, rfl, hF, hn⟩ | ⟨rfl, rfl⟩, hb1⟩
  · clear hF hn
    go_wp2
    go_returns
    exact ⟨rfl, hb1⟩
  · go_wp2
    go_returns
    exact ⟨rfl, hb1⟩
set_option maxHeartbeats 4000000 in
theorem fanTidy_any (v : Value) (l : List V2) (w : World) (hl : ReadsVecs w v l) (hg : EtOk w) :
    Calls Tryd.prog 17 #[v] w (GivesVecsOk w (gV (fanB l) (tidyL l)) (fanB l)) := by
  have HO := Lib.hid (fanOf_any v l w hl hg)
  have HV := Lib.hid (fun h => fan_vec (l := l) h)
  have HS := Lib.hid (fun (ns : List Node) h hn => fan_small (l := l) (ns := ns) h hn)
  clear hl
  generalize hb : fanB l = b at HO HV HS
  go_enter Tryd.func17, Tryd.ntmps17
  go_wp2_with fail
  refine Calls.mono HO.out ?_
  rintro e w1 ⟨⟨rfl, g, ns, rfl, hF, hn⟩ | ⟨rfl, rfl⟩, hb1⟩
  · obtain ⟨hs, hnl⟩ := HS.out ns (by simp) hn
    have HT := Lib.hid (callsIn_wide.1 (tidy_in 3 (by omega) w.heap.size g ns w1 hF hs (by rw [hn]; exact HV.out (by simp)) hb1.size))
    have HN := Lib.hid hn
    clear hn hnl hF
    go_wp2_with fail
    refine Calls.mono HT.out ?_
    rintro e w2 ⟨⟨v2, rfl⟩, hF2, hb2⟩
    rw [HN.out] at hF2
    have HR := Lib.hid (rays_any _ _ _ w2 hF2 (by rw [rot_len]; exact hs))
    have hB := hb1.trans hb2
    clear hF2 hb2 HT
    go_wp2_with fail
    refine Calls.mono HR.out ?_
    rintro e w3 ⟨v3, rfl, hV, hb3⟩
    have HV3 : Hid (Vecs w3 w.heap.size v3 (tidyL l)) := by
      have := hV.lower hB.size
      unfold rays at this
      rw [rot_map] at this
      have e2 : ns.map (·.2) = l := HN.out
      rw [e2] at this
      exact this
    have hB2 := belowTo hB hb3
    clear hV hb3 HR hB hb
    go_wp2
    go_returns
    exact ⟨_, rfl, HV3.out, hB2⟩
  · clear hb
    go_wp2
    go_returns
    exact ⟨_, rfl, Vecs.nil _ _, hb1⟩
set_option maxHeartbeats 4000000 in
theorem fanNumbers_any (v : Value) (l : List V2) (w : World) (hl : ReadsVecs w v l) (hg : EtOk w) :
    Calls Tryd.prog 29 #[v] w (GivesIntsOk w (gV (smoothB l) (numsZ l)) (smoothB l)) := by
  have HO := Lib.hid (smoothFanOf_any v l w hl hg)
  have HV := Lib.hid (fun h => (smooth_all (l := l) h).1)
  have HS := Lib.hid (fun (ns : List Node) h hn => fan_small (l := l) (ns := ns) (smooth_in h).1 hn)
  clear hl
  generalize hb : smoothB l = b at HO HV HS
  go_enter Tryd.func29, Tryd.ntmps29
  go_wp2_with fail
  refine Calls.mono HO.out ?_
  rintro e w1 ⟨⟨rfl, g, ns, rfl, hF, hn⟩ | ⟨rfl, rfl⟩, hb1⟩
  · obtain ⟨hs, hnl⟩ := HS.out ns (by simp) hn
    have HT := Lib.hid (callsIn_wide.1 (numbers_in 3 (by omega) w.heap.size g ns w1 hF hs (by rw [hn]; exact HV.out (by simp))))
    rw [hn] at HT
    clear hn hnl hF
    go_wp2_with fail
    refine Calls.mono HT.out ?_
    rintro e w2 ⟨v2, rfl, hV, hb2⟩
    have HV3 := Lib.hid (hV.lower hb1.size)
    have hB := belowTo hb1 hb2
    clear hV hb2 HT hb
    go_wp2
    go_returns
    exact ⟨_, rfl, HV3.out, hB⟩
  · clear hb
    go_wp2
    go_returns
    exact ⟨_, rfl, Ints.nil _ _, hb1⟩
def idxB (l : List V2) (i : Int) : Bool := decide (0 ≤ i) && decide (i < (l.length : Int))
theorem idx_in {l : List V2} {i : Int} (h : idxB l i = true) : ∃ m : Nat, i = m ∧ m < l.length := by
  have h' : 0 ≤ i ∧ i < (l.length : Int) := by simpa [idxB] using h
  exact ⟨i.toNat, by omega, by omega⟩
theorem idx_out {l : List V2} {i : Int} (h : idxB l i = false) : i < 0 ∨ (l.length : Int) ≤ i := by
  simp [idxB] at h
  omega
set_option maxHeartbeats 8000000 in
theorem fanDown_any (v : Value) (l : List V2) (i : Int) (w : World) (hl : ReadsVecs w v l) (hg : EtOk w) :
    Calls Tryd.prog 34 #[v, .int .i64 i] w (GivesVecsOk w (gV (smoothB l && (idxB l i && downB l i.toNat)) (downL l i.toNat)) (smoothB l && (idxB l i && downB l i.toNat))) := by
  have HO := Lib.hid (smoothFanOf_any v l w hl hg)
  have HV := Lib.hid (fun h => (smooth_all (l := l) h).1)
  have HS := Lib.hid (fun (ns : List Node) h hn => fan_small (l := l) (ns := ns) (smooth_in h).1 hn)
  clear hl
  cases hb : smoothB l
  · rw [hb] at HO
    clear hb HV HS
    go_enter Tryd.func34, Tryd.ntmps34
    go_wp2_with fail
    refine Calls.mono HO.out ?_
    rintro e w1 ⟨⟨h, _⟩ | ⟨_, rfl⟩, hb1⟩
    · cases h
    · go_wp2
      go_returns
      exact ⟨_, rfl, Vecs.nil _ _, hb1⟩
  · rw [hb] at HO HV HS
    clear hb
    cases hi : idxB l i
    · have HX := Lib.hid (fun base g (ns : List Node) w' hF (hn : ns.length = l.length) => at_out base g ns i w' hF (by rw [hn]; exact idx_out hi))
      clear hi
      go_enter Tryd.func34, Tryd.ntmps34
      go_wp2_with fail
      refine Calls.mono HO.out ?_
      rintro e w1 ⟨⟨_, g, ns, rfl, hF, hn⟩ | ⟨h, _⟩, hb1⟩
      · obtain ⟨hs, hnl⟩ := HS.out ns (by simp) hn
        have HA := Lib.hid (HX.out _ g ns w1 hF hnl)
        clear hF hn hnl hs
        go_wp2_with fail
        refine Calls.mono HA.out ?_
        rintro e w2 ⟨rfl, rfl⟩
        go_wp2
        go_returns
        exact ⟨_, rfl, Vecs.nil _ _, hb1⟩
      · cases h
    · obtain ⟨m, rfl, hm⟩ := idx_in hi
      rw [Int.toNat_natCast]
      cases hd : downB l m
      · go_enter Tryd.func34, Tryd.ntmps34
        go_wp2_with fail
        refine Calls.mono HO.out ?_
        rintro e w1 ⟨⟨_, g, ns, rfl, hF, hn⟩ | ⟨h, _⟩, hb1⟩
        · obtain ⟨hs, hnl⟩ := HS.out ns (by simp) hn
          have HA := Lib.hid (at_in _ g ns m w1 hF hs (by omega))
          have HC := Lib.hid (canDown_any _ g ns m w1 hF hs (by rw [hn]; exact HV.out (by simp)))
          rw [hn, hd] at HC
          clear hF hn hnl hs hd hi hm
          go_wp2_with fail
          refine Calls.mono HA.out ?_
          rintro e w2 ⟨rfl, rfl⟩
          go_wp2_with fail
          refine Calls.mono HC.out ?_
          rintro e w3 ⟨rfl, hb3⟩
          have hB := belowTo hb1 hb3
          clear hb1 hb3
          go_wp2
          go_returns
          exact ⟨_, rfl, Vecs.nil _ _, hB⟩
        · cases h
      · go_enter Tryd.func34, Tryd.ntmps34
        go_wp2_with fail
        refine Calls.mono HO.out ?_
        rintro e w1 ⟨⟨_, g, ns, rfl, hF, hn⟩ | ⟨h, _⟩, hb1⟩
        · obtain ⟨hs, hnl⟩ := HS.out ns (by simp) hn
          have h3 : 3 < ns.length := by
            have : 3 < l.length := by
              have h' := hd
              unfold downB at h'
              rw [Bool.and_eq_true] at h'
              exact of_decide_eq_true h'.1
            omega
          have HA := Lib.hid (at_in _ g ns m w1 hF hs (by omega))
          have HC := Lib.hid (canDown_any _ g ns m w1 hF hs (by rw [hn]; exact HV.out (by simp)))
          rw [hn, hd] at HC
          have HD := Lib.hid (fun w' (hb' : Below w1.heap.size w1 w') => down_at _ g ns m w' (hF.below hb') hs (by omega) (by omega) (Nat.le_trans hb1.size hb'.size))
          have HN := Lib.hid hn
          have hml : m < ns.length := by omega
          have hdl : (downL ns m).length ≤ 1000 := by rw [downL_len hml]; omega
          clear hF hn hnl hs hd hi hm h3 hml
          go_wp2_with fail
          refine Calls.mono HA.out ?_
          rintro e w2 ⟨rfl, rfl⟩
          go_wp2_with fail
          refine Calls.mono HC.out ?_
          rintro e w3 ⟨rfl, hb3⟩
          go_wp2_with fail
          refine Calls.mono (HD.out _ hb3) ?_
          rintro e w4 ⟨⟨v4, rfl⟩, hF4, hb4⟩
          have HR := Lib.hid (rays_any _ _ _ w4 hF4 hdl)
          rw [rays_down, HN.out] at HR
          have hB := (belowTo hb1 hb3).trans hb4
          clear hF4 hb4 hb1 hb3 HD HC HA
          go_wp2_with fail
          refine Calls.mono HR.out ?_
          rintro e w5 ⟨v5, rfl, hV, hb5⟩
          have HV5 := Lib.hid (hV.lower hB.size)
          have hB2 := belowTo hB hb5
          clear hV hb5 HR hB
          go_wp2
          go_returns
          exact ⟨_, rfl, HV5.out, hB2⟩
        · cases h
end Go.Proofs.YtcopcjlcfnamhaaDoor
