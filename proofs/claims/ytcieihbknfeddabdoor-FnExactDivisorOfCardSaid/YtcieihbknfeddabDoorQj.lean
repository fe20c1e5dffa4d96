/- Divisors of vectors: the program's DivisorOf. -/
import Derived.Test.YtcieihbknfeddabDoorQi
namespace Go.Proofs.YtcieihbknfeddabDoor
open Go.RowKit

set_option maxHeartbeats 8000000 in
theorem divisorOf1_any (v : Value) (l : List V2) (x y : Int) (w : World) (hl : ReadsVecs w v l) (hg : EtOk w) :
    Calls Tryd.prog 26 #[v, .agg #[.int .i64 (x), .int .i64 (y)]] w (GivesIntsOk w (gV (ofDB l x y) (trivL l (x, y))) (ofDB l x y)) := by
  have HO := Lib.hid (fun w' (hb : Below w.heap.size w w') => smoothFanOf_any v l w' (hl.below hb) (hg.below hb))
  have HG := Lib.hid hg
  have HS := Lib.hid (fun base g (ns : List Node) w' (hF : FanAt w' base g ns) (hn : rays ns = l) (hs : smoothB l = true) (hv : vecB x y = true) => by
    have h := trivial_any base g ns x y w' hF (by have := smooth_len hs; rw [← hn, rays_len] at this; omega) (by rw [hn]; exact (smooth_all hs).1) (by have := szs hv; omega)
    rw [hn] at h
    exact h)
  have HT := Lib.hid (fun g n v' base w' (hb : Below w.heap.size w w') (c1 : (w' : World).cell? ⟨g, 1, none⟩ = some (.int .i64 (n : Nat))) (hI : Ints w' base v' (trivL l (x, y))) (hn : n = l.length) (hs : smoothB l = true) => by
    have := smooth_len hs
    have h := told_any g n v' (trivL l (x, y)) w' (hg.below hb) c1 (hI.reads (by rw [trivL_len]; omega)) (by omega)
    rw [hn] at h
    exact h)
  have HD : smoothB l = true → vecB x y = true → ofDB l x y = fitB l.length (trivL l (x, y)) := fun hs hv => by
    unfold ofDB
    rw [hs, hv, smooth_fit hs]
    rfl
  clear hl hg
  cases hs : smoothB l
  · have e0 : ofDB l x y = false := by unfold ofDB; rw [hs]; rfl
    rw [e0]
    rw [hs] at HO
    clear HD HT HS hs e0
    go_enter Tryd.func26, Tryd.ntmps26
    go_wp2_with fail
    refine Calls.mono (HO.out _ (by go_grown)) ?_
    rintro e w1 ⟨⟨h, _⟩ | ⟨_, rfl⟩, hb1⟩
    · cases h
    have hB : Below w.heap.size w w1 := belowTo (by go_grown) hb1
    clear hb1
    go_wp2
    go_returns
    exact ⟨_, rfl, Ints.nil _ _, hB⟩
  · cases hv : vecB x y
    · have e0 : ofDB l x y = false := by unfold ofDB; rw [hv, Bool.false_and, Bool.and_false]
      rw [e0]
      rw [hs] at HO
      have HC := Lib.hid (fun w' => check_out x y w' hv)
      clear HD HT HS hs e0 hv
      go_enter Tryd.func26, Tryd.ntmps26
      go_wp2_with fail
      refine Calls.mono (HO.out _ (by go_grown)) ?_
      rintro e w1 ⟨⟨_, g, ns, rfl, hF, hn⟩ | ⟨h, _⟩, hb1⟩
      case inr => cases h
      have hB : Below w.heap.size w w1 := belowTo (by go_grown) hb1
      have c0 : w1.cell? ⟨w.heap.size, 0, none⟩ = some (.int .i64 x) := (hb1.cell (p := ⟨w.heap.size, 0, none⟩) (by simp)).trans (by simp)
      have c1 : w1.cell? ⟨w.heap.size, 1, none⟩ = some (.int .i64 y) := (hb1.cell (p := ⟨w.heap.size, 1, none⟩) (by simp)).trans (by simp)
      clear hb1 hF hn
      go_wp2_with fail
      refine Calls.mono (HC.out _) ?_
      rintro e w2 ⟨rfl, hb2⟩
      replace hB := belowTo hB hb2
      clear hb2 c0 c1
      go_wp2_with fail
      refine Calls.mono (none_hit _ _ (HG.out.below hB)) ?_
      rintro e w3 ⟨rfl, hb3⟩
      replace hB := belowTo hB hb3
      clear hb3
      go_wp2
      go_returns
      exact ⟨_, rfl, Ints.nil _ _, hB⟩
    · rw [HD hs hv]
      rw [hs] at HO
      have HC := Lib.hid (fun w' => check_in x y w' hv)
      have HS2 := Lib.hid (fun base g ns w' hF hn => HS.out base g ns w' hF hn hs hv)
      have HT2 := Lib.hid (fun g n v' base w' hb c1 hI hn => HT.out g n v' base w' hb c1 hI hn hs)
      clear HD HS HT hs hv
      generalize trivL l (x, y) = S at *
      generalize fitB l.length S = K at *
      go_enter Tryd.func26, Tryd.ntmps26
      go_wp2_with fail
      refine Calls.mono (HO.out _ (by go_grown)) ?_
      rintro e w1 ⟨⟨_, g, ns, rfl, hF, hn⟩ | ⟨h, _⟩, hb1⟩
      case inr => cases h
      have hB : Below w.heap.size w w1 := belowTo (by go_grown) hb1
      have c0 : w1.cell? ⟨w.heap.size, 0, none⟩ = some (.int .i64 x) := (hb1.cell (p := ⟨w.heap.size, 0, none⟩) (by simp)).trans (by simp)
      have c1 : w1.cell? ⟨w.heap.size, 1, none⟩ = some (.int .i64 y) := (hb1.cell (p := ⟨w.heap.size, 1, none⟩) (by simp)).trans (by simp)
      have s0 := cell_lt c0
      have HF := Lib.hid hF
      have HN := Lib.hid hn
      clear hb1 hF hn
      go_wp2_with fail
      refine Calls.mono (HC.out _) ?_
      rintro e w2 ⟨rfl, hb2⟩
      replace hB := belowTo hB hb2
      replace HF := Lib.hid (HF.out.below hb2)
      have d0 := (hb2.cell (p := ⟨w.heap.size, 0, none⟩) s0).trans c0
      have d1 := (hb2.cell (p := ⟨w.heap.size, 1, none⟩) s0).trans c1
      have s1 := cell_lt d0
      clear hb2 c0 c1
      go_wp2_with fail
      refine Calls.mono (none_nil _) ?_
      rintro e w3 ⟨rfl, hb3⟩
      replace hB := belowTo hB hb3
      replace HF := Lib.hid (HF.out.below hb3)
      have c0 := (hb3.cell (p := ⟨w.heap.size, 0, none⟩) s1).trans d0
      have c1 := (hb3.cell (p := ⟨w.heap.size, 1, none⟩) s1).trans d1
      clear hb3 d0 d1
      go_wp2_with fail
      refine Calls.mono (HS2.out _ g ns _ HF.out HN.out) ?_
      rintro e w4 ⟨v4, rfl, hI, hb4⟩
      have hB4 := belowTo hB hb4
      have hI4 := hI.lower hB.size
      have HT3 := Lib.hid (HT2.out g ns.length v4 _ w4 hB4 ((hb4.cell (p := ⟨g, 1, none⟩) HF.out.head.lt).trans HF.out.head.c1) hI4 (by rw [← HN.out, rays_len]))
      clear hI hb4 c0 c1 hB
      go_wp2_with fail
      refine Calls.mono HT3.out ?_
      rintro e w5 ⟨rfl, hb5⟩
      have hB5 := belowTo hB4 hb5
      have HI5 := Lib.hid (told_v (b := K) (hI4.below hb5))
      clear hI4 hb5 hB4
      cases K
      all_goals
        go_wp2
        go_returns
        exact ⟨_, rfl, HI5.out, hB5⟩
end Go.Proofs.YtcieihbknfeddabDoor
