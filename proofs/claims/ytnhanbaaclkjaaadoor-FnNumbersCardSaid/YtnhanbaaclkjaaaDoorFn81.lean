/- FnNumbers: the walk. -/
import Derived.Test.YtnhanbaaclkjaaaDoorUc
import Derived.Test.YtnhanbaaclkjaaaDoorEh
import Derived.Test.YtnhanbaaclkjaaaDoorEa
import Derived.Test.YtnhanbaaclkjaaaDoorBh
import Derived.Test.YtnhanbaaclkjaaaDoorBf
import Derived.Test.YtnhanbaaclkjaaaDoorFg
namespace Go.Proofs.YtnhanbaaclkjaaaDoor
open Go.RowKit

/-- twelve: the sum of 3 and the number over all rays of a smooth fan -/
theorem sum3_twelve {l : List V2} (h : smoothB l = true) : sum3 l l.length = 12 := by
  have hS := smooth_all h
  have h3 := (smooth_len h).1
  have hv : SmV l.length (cyc l) := ⟨smooth_round h, fun i => by have := hS.2 i; unfold detV detZ at this; unfold dtV; exact this, h3⟩
  have h12 := noether l.length _ (hv.shift (l.length - 1))
  have e : ∀ n, sum3 l n = twV n (fun i => cyc l (l.length - 1 + i)) := by
    intro n
    induction n with
    | zero => rfl
    | succ n ih =>
      rw [sum3_succ, ih]
      unfold twV
      rw [sumI_succ]
      unfold numZ detV detZ dtV
      dsimp only
      rw [show n + l.length - 1 = l.length - 1 + n by omega, show l.length - 1 + (n + 2) = n + 1 + l.length by omega, cyc_add]
      omega
  rw [e, h12]
set_option maxRecDepth 100000 in
set_option maxHeartbeats 16000000 in
theorem fnNumbers_any (a : Option Addr) (len cap : Nat) (w : World) (h : Bytes w a len cap) (hg : EtOk w) :
    Calls Tryd.prog 3 #[.slice a len cap] w fun e w' => e = .returned (.bool true) ∧ Below w.heap.size w w' := by
  by_cases hlen : len ≤ 1048576
  case neg =>
    have j1 : (1048576 : Int) < (len : Int) := by omega
    clear h hg
    go_enter Tryd.func3, Tryd.ntmps3
    go_wp2
    go_returns
    exact ⟨rfl, by go_grown⟩
  case pos =>
  have j1 : (len : Int) ≤ 1048576 := by omega
  have HO := Lib.hid (drawFanNumbers_any w a len cap h)
  clear h
  go_enter Tryd.func3, Tryd.ntmps3
  go_wp2_with fail
  refine Calls.mono HO.out ?_
  rintro e w1 ⟨v, l, rfl, hV, h2, h20, hb1⟩
  have HG := Lib.hid (hg.below hb1)
  have HM := Lib.hid (fanNumbers_any v l w1 hV (hg.below hb1))
  have HS := Lib.hid (fun w' (hb : Below w1.heap.size w1 w') => specFanNumbers_any v l w' (hV.below hb))
  have HX := Lib.hid (fun v1 v2 b1 b2 w' h1 h2 => sameInts_same v1 v2 b1 b2 (gV (smoothB l) (numsZ l)) w' h1 h2)
  obtain ⟨va, vc, rfl, _, _, _⟩ := hV
  have hs1 := hb1.size
  have HB1 := Lib.hid hb1
  clear hb1 HO hg
  cases hk : smoothB l
  · rw [hk] at HM HS HX
    have HM2 : Hid (Calls Tryd.prog 13 #[.slice va l.length vc] w1 (GivesIntsOk w1 [] false)) := HM.out
    have HS2 : Hid (∀ w', Below w1.heap.size w1 w' → Calls Tryd.prog 14 #[.slice va l.length vc] w' (GivesIntsOk w' [] false)) := HS.out
    have HX2 : Hid (∀ (v1 v2 : Value) (b1 b2 : Nat) (w' : World), Ints w' b1 v1 [] → Ints w' b2 v2 [] → Calls Tryd.prog 15 #[v1, v2] w' fun e w'' => e = .returned (.bool true) ∧ Below w'.heap.size w' w'') := HX.out
    clear hk HM HS HX
    go_wp2_with fail
    refine Calls.mono HM2.out ?_
    rintro e w2 ⟨v2, rfl, hI2, hb2⟩
    have HI2 := Lib.hid hI2
    clear hI2
    go_wp2_with fail
    refine Calls.mono (HS2.out _ hb2) ?_
    rintro e w3 ⟨v3, rfl, hI3, hb3⟩
    have HI3 := Lib.hid hI3
    have HI23 := Lib.hid (HI2.out.below hb3)
    have hB3 := belowTo hb2 hb3
    clear hI3 hb2 hb3 HI2
    go_wp2_with fail
    refine Calls.mono (HX2.out _ _ _ _ _ HI23.out HI3.out) ?_
    rintro e w4 ⟨rfl, hb4⟩
    have HI4 := Lib.hid (HI3.out.below hb4)
    have HI24 := Lib.hid (HI23.out.below hb4)
    have hB4 := belowTo hB3 hb4
    clear HI3 HI23 hb4 hB3
    go_wp2_with fail
    refine Calls.mono (HX2.out _ _ _ _ _ HI24.out HI4.out) ?_
    rintro e w5 ⟨rfl, hb5⟩
    have hB5 := HB1.out.trans ((belowTo hB4 hb5).mono hs1)
    clear HI4 HI24 hb5 hB4
    go_wp2
    go_returns
    exact ⟨rfl, hB5⟩
  · have hS := smooth_all hk
    rw [hk] at HM HS HX
    have HM2 : Hid (Calls Tryd.prog 13 #[.slice va l.length vc] w1 (GivesIntsOk w1 (numsZ l) true)) := HM.out
    have HS2 : Hid (∀ w', Below w1.heap.size w1 w' → Calls Tryd.prog 14 #[.slice va l.length vc] w' (GivesIntsOk w' (numsZ l) true)) := HS.out
    have HX2 : Hid (∀ (v1 v2 : Value) (b1 b2 : Nat) (w' : World), Ints w' b1 v1 (numsZ l) → Ints w' b2 v2 (numsZ l) → Calls Tryd.prog 15 #[v1, v2] w' fun e w'' => e = .returned (.bool true) ∧ Below w'.heap.size w' w'') := HX.out
    have HNu := Lib.hid (fun k (h : k < l.length) => gz_numsE (l := l) h)
    have HBd := Lib.hid (fun k => num_bnd hS k)
    have HBs := Lib.hid (fun k (h : k ≤ 1000) => sum3_bnd hS h)
    have HSs := Lib.hid (fun k => sum3_succ l k)
    have H00 : Hid (sum3 l 0 = 0) := rfl
    have H12 := Lib.hid (sum3_twelve hk)
    have HLd : Hid ((numsZ l).length = l.length) := nums_len l
    have HNf := Lib.hid (fun v' w' h' hg' => numbersFan_any v' (numsZ l) w' h' hg')
    have HF2 := Lib.hid (fun v' w' h' hg' => fanNumbers_any v' (gV (nfB (numsZ l)) (raysN (numsZ l) (numsZ l).length)) w' h' hg')
    have HXl : Hid ((gV (nfB (numsZ l)) (raysN (numsZ l) (numsZ l).length)).length ≤ 576460752303423488) := gV_len (fun h => by rw [raysN_len]; have := (are_in (nf_in h).1).2.1; omega)
    have HP1 := Lib.hid (fun (h : nfB (numsZ l) = true) => (nf_smooth h))
    have HP2 := Lib.hid (fun (h : nfB (numsZ l) = true) => (nf_nums h))
    generalize numsZ l = L at *
    generalize numZ l = G at *
    generalize sum3 l = S at *
    clear hk HM HS HX hS
    obtain ⟨n, hn⟩ : ∃ n, n = l.length := ⟨_, rfl⟩
    rw [← hn] at HM2 HS2 HNu H12 HLd h2 h20 ⊢
    clear hn
    go_wp2_with fail
    refine Calls.mono HM2.out ?_
    rintro e w2 ⟨v2, rfl, hI2, hb2⟩
    have HI2 := Lib.hid hI2
    clear hI2
    go_wp2_with fail
    refine Calls.mono (HS2.out _ hb2) ?_
    rintro e w3 ⟨v3, rfl, hI3, hb3⟩
    have HI3 := Lib.hid hI3
    have HI23 := Lib.hid (HI2.out.below hb3)
    have hB3 := belowTo hb2 hb3
    clear hI3 hb2 hb3 HI2
    go_wp2_with fail
    refine Calls.mono (HX2.out _ _ _ _ _ HI23.out HI3.out) ?_
    rintro e w4 ⟨rfl, hb4⟩
    have HI4 := Lib.hid (HI23.out.below hb4)
    have hR4 := HI4.out.reads (by rw [HLd.out]; omega)
    have hB4 := belowTo hB3 hb4
    obtain ⟨bo, oo, co, rfl, _, hbo, hos⟩ := hR4.open (by rw [HLd.out]; omega)
    have HN4 := Lib.hid (HNf.out _ w4 hR4 (HG.out.below hB4))
    have HG4 := Lib.hid (HG.out.below hB4)
    rw [HLd.out] at hos
    have HOS := Lib.hid (hos w4 (Below.refl _ _))
    have HB4 := Lib.hid hB4
    have hs4 := hB4.size
    rw [HLd.out] at HN4 HF2 HXl HP1 HP2 ⊢
    clear HI3 HI23 hb4 hB3 hR4 hos HM2 HS2 hB4 HNf HG
    go_wp2
    go_loop [8, 9] (fun s8 s9 => ∃ k : Nat, k ≤ n ∧ s8 = .int .i64 (S k) ∧ s9 = .int .i64 k) (fun _ s9 => n - (intOf s9).toNat)
    case atStart => exact ⟨0, Nat.zero_le _, by rw [H00.out], rfl⟩
    case round =>
      obtain ⟨k, hk, rfl, rfl⟩ := hrel
      have i1 : (0 : Int) ≤ (k : Int) := by omega
      by_cases hlt : k < n
      · have i2 : (k : Int) < (n : Int) := by omega
        have o0 := HOS.out k hlt
        rw [HNu.out k hlt] at o0
        have b1 := HBd.out k
        have b2 := HBs.out k (by omega)
        have HSk := Lib.hid (HSs.out k)
        clear HNu HBd HBs HSs H12 HN4 HF2 HXl HP1 HP2
        generalize S k = x at *
        generalize G k = z at *
        have q1 : IntKind.i64.wrap (x + 3) = x + 3 := by rw [IntKind.wrap_i64]; omega
        have q2 : IntKind.i64.wrap (x + 3 + z) = x + 3 + z := by rw [IntKind.wrap_i64]; omega
        clear b1 b2
        go_wp2
        go_round
        case rel => exact ⟨k + 1, by omega, by rw [HSk.out]; congr 1; omega, by go_num⟩
        case measure => simp [intOf]; omega
      · obtain rfl : k = n := by omega
        have i2 : ¬ (k : Int) < (k : Int) := by omega
        have x12 := H12.out
        rw [x12]
        clear HNu HBd HBs HSs H12 H00 HOS
        cases hp : nfB L
        · rw [hp] at HN4 HF2 HXl
          have HN5 : Hid (Calls Tryd.prog 16 #[.slice (some ⟨bo, oo, none⟩) k co] w4 (GivesVecsOk w4 [] false)) := HN4.out
          have HF5 : Hid (∀ v' w', ReadsVecs w' v' [] → EtOk w' → Calls Tryd.prog 13 #[v'] w' (GivesIntsOk w' [] false)) := HF2.out
          clear HN4 HF2 HXl HP1 HP2 hp
          go_wp2_with fail
          refine Calls.mono HN5.out ?_
          rintro e w5 ⟨v5, rfl, hI5, hb5⟩
          have HF6 := Lib.hid (HF5.out _ _ (Vecs.reads hI5 (by simp)) (HG4.out.below hb5))
          clear hI5 HF5 HN5
          go_wp2_with fail
          refine Calls.mono HF6.out ?_
          rintro e w6 ⟨v6, rfl, hI6, hb6⟩
          have hBk := HB1.out.trans ((HB4.out.trans ((belowTo hb5 hb6).mono hs4)).mono hs1)
          clear hI6 HF6 hb5 hb6
          go_wp2
          go_returns
          exact ⟨rfl, hBk⟩
        · have p1 := HP1.out hp
          have p2 := HP2.out hp
          rw [hp] at HN4 HF2 HXl
          have HN5 : Hid (Calls Tryd.prog 16 #[.slice (some ⟨bo, oo, none⟩) k co] w4 (GivesVecsOk w4 (raysN L k) true)) := HN4.out
          have HF5 : Hid (∀ v' w', ReadsVecs w' v' (raysN L k) → EtOk w' → Calls Tryd.prog 13 #[v'] w' (GivesIntsOk w' (gV (smoothB (raysN L k)) (numsZ (raysN L k))) (smoothB (raysN L k)))) := HF2.out
          have HX5 : Hid ((raysN L k).length ≤ 576460752303423488) := HXl.out
          rw [p1, p2] at HF5
          have HF7 : Hid (∀ v' w', ReadsVecs w' v' (raysN L k) → EtOk w' → Calls Tryd.prog 13 #[v'] w' (GivesIntsOk w' L true)) := HF5.out
          clear HN4 HF2 HXl HP1 HP2 hp p1 p2 HF5
          generalize raysN L k = X at *
          go_wp2_with fail
          refine Calls.mono HN5.out ?_
          rintro e w5 ⟨v5, rfl, hI5, hb5⟩
          have HF6 := Lib.hid (HF7.out _ _ (Vecs.reads hI5 HX5.out) (HG4.out.below hb5))
          clear hI5 HF7 HN5
          go_wp2_with fail
          refine Calls.mono HF6.out ?_
          rintro e w6 ⟨v6, rfl, hI6, hb6⟩
          have HX6 := Lib.hid (HX2.out _ _ _ _ _ hI6 (HI4.out.below (belowTo hb5 hb6)))
          rw [HLd.out] at HX6
          have hB6 := belowTo hb5 hb6
          clear hI6 HF6 hb5 hb6 HX2 HI4
          go_wp2_with fail
          refine Calls.mono HX6.out ?_
          rintro e w7 ⟨rfl, hb7⟩
          have hBk := HB1.out.trans ((HB4.out.trans ((belowTo hB6 hb7).mono hs4)).mono hs1)
          clear hB6 hb7 HX6
          go_wp2
          go_returns
          exact ⟨rfl, hBk⟩
end Go.Proofs.YtnhanbaaclkjaaaDoor
