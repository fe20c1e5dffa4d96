/- Fans: of a list. -/
import Derived.Test.YtmencjdlfeojkaaDoorGk
import Derived.Test.YtmencjdlfeojkaaDoorGs
namespace Go.Proofs.YtmencjdlfeojkaaDoor
open Go.RowKit

set_option maxHeartbeats 4000000 in
theorem fanCheck_small (g : Nat) (n : Nat) (w : World) (c1 : w.cell? ⟨g, 1, none⟩ = some (.int .i64 n)) (h : n < 3 ∨ 20 < n) :
    Calls Tryd.prog 136 #[.pointer (some ⟨g, 0, none⟩)] w fun e w' => IsNone e ∧ Below w.heap.size w w' := by
  have HE := Lib.hid fanErr_none
  have q1 : g < w.heap.size := World.block_lt_of_cell? w _ c1
  unfold fanErr at HE
  by_cases h3 : n < 3
  · have j1 : (n : Int) < 3 := by omega
    go_enter Tryd.func136, Tryd.ntmps136
    go_wp2
    refine bodyPost_ret (by simp [results, Tryd.results136, go_sem, *]; try rfl) rfl ?_
    exact ⟨HE.out, by go_grown⟩
  · have j1 : ¬ (n : Int) < 3 := by omega
    have j2 : 20 < (n : Int) := by omega
    have j3 : decide ((n : Int) < 3) = false := by simpa using j1
    go_enter Tryd.func136, Tryd.ntmps136
    go_wp2
    refine bodyPost_ret (by simp [results, Tryd.results136, go_sem, *]; try rfl) rfl ?_
    exact ⟨HE.out, by go_grown⟩
theorem fanCheck_any (base g : Nat) (ns : List Node) (w : World) (hg : EtOk w) (hF : FanAt w base g ns) :
    Calls Tryd.prog 136 #[.pointer (some ⟨g, 0, none⟩)] w fun e w' => CheckEnd (fanB (rays ns)) e ∧ Below w.heap.size w w' := by
  by_cases h : 3 ≤ ns.length ∧ ns.length ≤ 20
  · exact callsIn_wide.1 (fanCheck_in 3 (by omega) base g ns w hg hF h.1 h.2)
  · have hr : rng (rays ns) = false := by
      unfold rng
      rw [rays_len]
      simp
      omega
    have hf : fanB (rays ns) = false := by simp [fanB, hr]
    rw [hf]
    exact fanCheck_small g ns.length w hF.head.c1 (by omega)
/-- a fan with the rays l, if they are one -/
def FanEnd (b : Bool) (l : List V2) (w : World) (e : Ending) (w' : World) : Prop :=
  ((b = true ∧ ∃ g ns, e = .returned (.tuple #[.pointer (some ⟨g, 0, none⟩), .bool true]) ∧ FanAt w' w.heap.size g ns ∧ rays ns = l) ∨ (b = false ∧ e = .returned (.tuple #[.pointer none, .bool false]))) ∧ Below w.heap.size w w'
set_option maxHeartbeats 4000000 in
theorem madeFan (g : Nat) (b : Bool) (w : World) (hg : EtOk w) (h : Calls Tryd.prog 136 #[.pointer (some ⟨g, 0, none⟩)] w fun e w' => CheckEnd b e ∧ Below w.heap.size w w') :
    Calls Tryd.prog 105 #[.pointer (some ⟨g, 0, none⟩)] w fun e w' => e = .returned (.tuple #[.pointer (if b then some ⟨g, 0, none⟩ else none), .bool b]) ∧ Below w.heap.size w w' := by
  have HH := Lib.hid h
  clear h
  cases b
  · go_enter Tryd.func105, Tryd.ntmps105
    go_wp2_with fail
    refine Calls.mono HH.out ?_
    rintro e w1 ⟨he, hb1⟩
    obtain ⟨s, rfl⟩ : IsNone e := he
    go_wp2_with fail
    refine Calls.mono (none_hit s _ (hg.below hb1)) ?_
    rintro e w2 ⟨rfl, hb2⟩
    have hb := belowTo hb1 hb2
    clear hb1 hb2
    go_wp2
    go_returns
    exact ⟨rfl, hb⟩
  · go_enter Tryd.func105, Tryd.ntmps105
    go_wp2_with fail
    refine Calls.mono HH.out ?_
    rintro e w1 ⟨he, hb1⟩
    obtain rfl : e = .returned .nilIface := he
    go_wp2_with fail
    refine Calls.mono (none_nil _) ?_
    rintro e w2 ⟨rfl, hb2⟩
    have hb := belowTo hb1 hb2
    clear hb1 hb2
    go_wp2
    go_returns
    exact ⟨rfl, hb⟩
set_option maxHeartbeats 4000000 in
theorem linked_nil (a : Option Addr) (c : Nat) (w : World) :
    Calls Tryd.prog 106 #[.slice a 0 c] w fun e w' => e = .returned (.pointer (some ⟨w.heap.size, 0, none⟩)) ∧ w' = w.alloc (.cells #[.pointer none, .int .i64 0] 111) := by
  go_enter Tryd.func106, Tryd.ntmps106
  go_wp2
  go_returns
  exact ⟨rfl, rfl⟩
set_option maxHeartbeats 4000000 in
theorem fanOf_any (v : Value) (l : List V2) (w : World) (hl : ReadsVecs w v l) (hg : EtOk w) :
    Calls Tryd.prog 80 #[v] w (FanEnd (fanB l) l w) := by
  have hl' := hl
  obtain ⟨a, c, rfl, hc, hm, _⟩ := hl'
  by_cases h20 : 20 < l.length
  · have hf : fanB l = false := by
      have : rng l = false := by unfold rng; simp; omega
      simp [fanB, this]
    rw [hf]
    have j1 : 20 < (l.length : Int) := by omega
    clear hl hc hm
    go_enter Tryd.func80, Tryd.ntmps80
    go_wp2
    go_returns
    exact ⟨.inr ⟨rfl, rfl⟩, Below.refl _ _⟩
  · have j1 : ¬ 20 < (l.length : Int) := by omega
    by_cases h0 : l.length = 0
    · have hf : fanB l = false := by
        have : rng l = false := by unfold rng; simp; omega
        simp [fanB, this]
      rw [hf, h0]
      rw [h0] at j1
      clear hl hc hm
      have hb : Below w.heap.size w (w.alloc (.cells #[.pointer none, .int .i64 0] 111)) := by go_grown
      have HM := Lib.hid (madeFan w.heap.size false (w.alloc (.cells #[.pointer none, .int .i64 0] 111)) (hg.below hb) (Calls.mono (fanCheck_small w.heap.size 0 _ (by simp) (by omega)) (fun e w' h => h)))
      go_enter Tryd.func80, Tryd.ntmps80
      go_wp2_with fail
      refine Calls.mono (linked_nil a c w) ?_
      rintro e w1 ⟨rfl, rfl⟩
      go_wp2_with fail
      refine Calls.mono HM.out ?_
      rintro e w2 ⟨rfl, hb2⟩
      have hB := belowTo hb hb2
      clear hb2
      go_wp2
      go_returns
      exact ⟨.inr ⟨rfl, rfl⟩, hB⟩
    · have HL := Lib.hid (linked_any _ l w hl (by omega) (by omega))
      have HM := Lib.hid (fun g ns w' hg' hF => madeFan g _ w' hg' (fanCheck_any w.heap.size g ns w' hg' hF))
      clear hl hc hm
      go_enter Tryd.func80, Tryd.ntmps80
      go_wp2_with fail
      refine Calls.mono HL.out ?_
      rintro e w1 ⟨g, ns, rfl, hF, rfl, hb1⟩
      go_wp2_with fail
      refine Calls.mono (HM.out g ns _ (hg.below hb1) hF) ?_
      rintro e w2 ⟨rfl, hb2⟩
      have hF2 := Lib.hid (hF.below hb2)
      have hB := belowTo hb1 hb2
      have HB := Lib.hid (rfl : rays ns = rays ns)
      clear hb1 hb2 hF
      cases hf : fanB (rays ns)
      · have HH := Lib.hid hf
        clear hf
        go_wp2
        go_returns
        exact ⟨.inr ⟨HH.out, rfl⟩, hB⟩
      · have HH := Lib.hid hf
        clear hf
        go_wp2
        go_returns
        exact ⟨.inl ⟨HH.out, g, ns, rfl, hF2.out, rfl⟩, hB⟩
set_option maxHeartbeats 4000000 in
theorem smoothFanOf_any (v : Value) (l : List V2) (w : World) (hl : ReadsVecs w v l) (hg : EtOk w) :
    Calls Tryd.prog 52 #[v] w (FanEnd (smoothB l) l w) := by
  have HO := Lib.hid (fanOf_any v l w hl hg)
  have HV := Lib.hid (fun h => fan_vec (l := l) h)
  have HLn := Lib.hid (fun h => fan_len (l := l) h)
  unfold smoothB
  clear hl
  go_enter Tryd.func52, Tryd.ntmps52
  go_wp2_with fail
  refine Calls.mono HO.out ?_
  rintro e w1 ⟨⟨hf, g, ns, rfl, hF, hn⟩ | ⟨hf, rfl⟩, hb1⟩
  · have HFb := Lib.hid hf
    have hs : ns.length ≤ 1000 := by have := HLn.out hf; rw [← hn, rays_len] at this; omega
    have HS := Lib.hid (fun w' (h : Below w1.heap.size w1 w') => callsIn_wide.1 (isSmooth_in 3 (by omega) _ g ns w' (hF.below h) hs (by rw [hn]; exact HV.out hf)))
    rw [hn] at HS
    have HF := Lib.hid hF
    have HN := Lib.hid hn
    clear hF hn hf
    generalize hk : allS l = k at HS
    have HK := Lib.hid hk
    clear hk
    go_wp2_with fail
    refine Calls.mono (HS.out _ (Below.refl _ _)) ?_
    rintro e w2 ⟨rfl, hb2⟩
    have hF2 := Lib.hid (HF.out.below hb2)
    have hB := belowTo hb1 hb2
    clear hb1 hb2 HF HS
    cases k
    · go_wp2
      go_returns
      exact ⟨.inr ⟨by rw [HFb.out, HK.out]; rfl, rfl⟩, hB⟩
    · go_wp2
      go_returns
      exact ⟨.inl ⟨by rw [HFb.out, HK.out]; rfl, g, ns, rfl, hF2.out, HN.out⟩, hB⟩
  · have HFb := Lib.hid hf
    clear hf HV HLn
    go_wp2
    go_returns
    exact ⟨.inr ⟨by rw [HFb.out]; rfl, rfl⟩, hb1⟩
end Go.Proofs.YtmencjdlfeojkaaDoor
