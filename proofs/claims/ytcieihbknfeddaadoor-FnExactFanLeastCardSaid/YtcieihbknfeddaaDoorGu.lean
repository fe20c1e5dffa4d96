/- Fans: the program's FanLeast. -/
import Derived.Test.YtcieihbknfeddaaDoorB9
import Derived.Test.YtcieihbknfeddaaDoorBb
namespace Go.Proofs.YtcieihbknfeddaaDoor
open Go.RowKit

/-- a fan on the way to the least one, and its first ray that can be blown down (or none) -/
def LeastI (w : World) (g : Nat) (l : List V2) (p : Value) (wr : World) : Prop :=
  ∃ ms : List Node, FanAt wr w.heap.size g ms ∧ ms.length ≤ 1000 ∧ Smooth (rays ms) ∧ leastL (rays ms) = leastL l ∧ Below w.heap.size w wr ∧ DownEnd ms (.returned p)
theorem firstDown_least (w : World) (g : Nat) (l : List V2) (ms : List Node) (wr : World) (hF : FanAt wr w.heap.size g ms) (hm : ms.length ≤ 1000) (hS : Smooth (rays ms)) (hl : leastL (rays ms) = leastL l) (hB : Below w.heap.size w wr) :
    Calls Tryd.prog 107 #[.pointer (some ⟨g, 0, none⟩)] wr fun e w' => ∃ p, e = .returned p ∧ LeastI w g l p w' ∧ w'.cell? ⟨g, 1, none⟩ = some (.int .i64 ms.length) := by
  refine Calls.mono (callsIn_wide.1 (firstDown_in 3 (by omega) w.heap.size g ms wr hF hm hS.1)) ?_
  rintro e w' ⟨hD, hb⟩
  have hF' := hF.below hb
  have hB' := belowTo hB hb
  rcases hD with ⟨k, hk, rfl, h1, h2⟩ | ⟨rfl, h2⟩
  · exact ⟨_, rfl, ⟨ms, hF', hm, hS, hl, hB', .inl ⟨k, hk, rfl, h1, h2⟩⟩, hF'.head.c1⟩
  · exact ⟨_, rfl, ⟨ms, hF', hm, hS, hl, hB', .inr ⟨rfl, h2⟩⟩, hF'.head.c1⟩
def countOf (g : Nat) (wr : World) : Nat := match wr.cell? ⟨g, 1, none⟩ with
  | some (.int _ n) => n.toNat
  | _ => 0
theorem countOf_is {g : Nat} {wr : World} {n : Nat} (h : wr.cell? ⟨g, 1, none⟩ = some (.int .i64 n)) : countOf g wr = n := by
  unfold countOf
  rw [h]
  rfl
set_option maxHeartbeats 8000000 in
theorem fanLeast_any (v : Value) (l : List V2) (w : World) (hl : ReadsVecs w v l) (hg : EtOk w) :
    Calls Tryd.prog 53 #[v] w (GivesVecsOk w (gV (smoothB l) (tidyL (leastL l))) (smoothB l)) := by
  have HO := Lib.hid (smoothFanOf_any v l w hl hg)
  have HV := Lib.hid (fun h => smooth_all (l := l) h)
  have HS := Lib.hid (fun (ns : List Node) h hn => fan_small (l := l) (ns := ns) (smooth_in h).1 hn)
  clear hl
  generalize hb : smoothB l = b at HO HV HS
  go_enter Tryd.func53, Tryd.ntmps53
  go_wp2_with fail
  refine Calls.mono HO.out ?_
  rintro e w1 ⟨⟨rfl, g, ns, rfl, hF, hn⟩ | ⟨rfl, rfl⟩, hb1⟩
  · obtain ⟨hs, hnl⟩ := HS.out ns (by simp) hn
    have HD := Lib.hid (firstDown_least w g l ns w1 hF hs (by rw [hn]; exact HV.out (by simp)) (by rw [hn]) hb1)
    clear hF hn hnl hb hb1 HO HV HS hs
    go_wp2_with fail
    refine Calls.mono HD.out ?_
    rintro e w2 ⟨p, rfl, hI0, _⟩
    have HI0 := Lib.hid hI0
    clear hI0 HD
    go_wp2
    go_loopw [6] (fun p wr => Hid (LeastI w g l p wr)) (fun _ wr => countOf g wr)
    case atStart => exact HI0
    case round =>
      obtain ⟨ms, hF, hm, hS, hl, hB, hD⟩ := hrel.out
      clear hrel HI0
      have HcO := Lib.hid (countOf_is hF.head.c1)
      rcases hD with ⟨k, hk, he, h1, h2⟩ | ⟨he, h2⟩
      · injection he with he
        subst he
        have h3 : 3 < ms.length := by
          have h' := h1
          unfold downB at h'
          rw [Bool.and_eq_true, rays_len] at h'
          exact of_decide_eq_true h'.1
        have HDn := Lib.hid (down_at _ g ms k wr hF hm hk (by omega) hB.size)
        have hr : rays (downL ms k) = downL (rays ms) k := rays_down ..
        have HNx := Lib.hid (fun w' (hF' : FanAt w' w.heap.size g (downL ms k)) (hB' : Below w.heap.size w w') => firstDown_least w g l (downL ms k) w' hF' (by rw [downL_len hk]; omega) (by rw [hr]; exact smooth_down hS (by rw [rays_len]; exact hk) h1) (by rw [hr, ← least_step (by rw [rays_len]; exact hk) h1 h2]; exact hl) hB')
        have HL : Hid ((downL ms k).length < ms.length) := by
          have := downL_len hk
          show (downL ms k).length < ms.length
          omega
        have HB := Lib.hid hB
        generalize downL ms k = ms' at *
        clear hF hm hS hl hB h1 h2 h3 hr hk
        generalize (cyc ms k).1 = q at *
        go_wp2_with fail
        refine Calls.mono HDn.out ?_
        rintro e w3 ⟨⟨v3, rfl⟩, hF3, hb3⟩
        have HNy := Lib.hid (HNx.out w3 hF3 (HB.out.trans hb3))
        clear hF3 hb3
        go_wp2_with fail
        refine Calls.mono HNy.out ?_
        rintro e w4 ⟨p4, rfl, hI4, hc4⟩
        have HI4 := Lib.hid hI4
        have Hc4 := Lib.hid (countOf_is hc4)
        clear hI4 hc4
        go_wp2
        go_roundw
        case rel => exact HI4
        case measure => rw [Hc4.out, HcO.out]; exact HL.out
      · injection he with he
        subst he
        have hp := hF.ring.pos
        have HE : Hid (rays ms = leastL l) := (least_end (fun i hi => h2 i (by rwa [rays_len] at hi))).symm.trans hl
        have HT := Lib.hid (callsIn_wide.1 (tidy_in 3 (by omega) w.heap.size g ms wr hF hm hS.1 hB.size))
        clear hF hS hl h2 HcO hp
        go_wp2_with fail
        refine Calls.mono HT.out ?_
        rintro e w3 ⟨⟨v3, rfl⟩, hF3, hb3⟩
        have HR := Lib.hid (rays_any _ _ _ w3 hF3 (by rw [rot_len]; exact hm))
        have hB3 := hB.trans hb3
        clear hF3 hb3 HT hB hm
        go_wp2_with fail
        refine Calls.mono HR.out ?_
        rintro e w4 ⟨v4, rfl, hV, hb4⟩
        have HV4 : Hid (Vecs w4 w.heap.size v4 (tidyL (leastL l))) := by
          have := hV.lower hB3.size
          rw [← HE.out]
          unfold tidyL
          unfold rays at this ⊢
          rw [rot_map] at this
          exact this
        have hB4 := belowTo hB3 hb4
        clear hV hb4 HR hB3 HE
        go_wp2
        go_returns
        exact ⟨_, rfl, HV4.out, hB4⟩
  · clear hb
    go_wp2
    go_returns
    exact ⟨_, rfl, Vecs.nil _ _, hb1⟩
end Go.Proofs.YtcieihbknfeddaaDoor
