/- The draws of chapter 4 of a fan with a vector, and of a fan with two divisors that are often equivalent. -/
import Derived.Test.YtohojjoediibhaaGreatDoorUf
import Derived.Test.YtohojjoediibhaaGreatDoorBc
import Derived.Test.YtohojjoediibhaaGreatDoorQj
import Derived.Test.YtohojjoediibhaaGreatDoorQh
import Derived.Test.YtohojjoediibhaaGreatDoorBf
namespace Go.Proofs.YtohojjoediibhaaGreatDoor
open Go.RowKit

theorem VecsO.kept {w w' : World} {base B : Nat} {v : Value} {l : List V2} (h : VecsO w base v l) (hK : Kept w.heap.size B w w') (hB : B < base) : VecsO w' base v l := by
  obtain ⟨⟨a, c, rfl, hc, hm, hcell⟩, h2⟩ := h
  refine ⟨⟨a, c, rfl, hc, hm, fun h0 => ?_⟩, h2⟩
  obtain ⟨bb, off, rfl, hb, hcs⟩ := hcell h0
  have hbb := h2 bb off _ _ rfl
  exact ⟨bb, off, rfl, Nat.lt_of_lt_of_le hb hK.2, fun j hj => ⟨(hK.1 bb _ hb (by omega)).1.trans (hcs j hj).1, (hK.1 bb _ hb (by omega)).1.trans (hcs j hj).2⟩⟩
def GivenF (w : World) (e : Ending) (w' : World) : Prop :=
  ∃ (v : Value) (l : List V2) (x y : Int), e = .returned (.tuple #[v, .agg #[.int .i64 (x), .int .i64 (y)]]) ∧ ReadsVecs w' v l ∧ 2 ≤ l.length ∧ l.length ≤ 20 ∧ Below w.heap.size w w'
set_option maxHeartbeats 4000000 in
theorem drawDivisorOf_any (w : World) (a : Option Addr) (len cap : Nat) (h : Bytes w a len cap) :
    Calls Tryz.prog 13 #[.slice a len cap] w (GivenF w) := by
  go_enter Tryz.func13, Tryz.ntmps13
  go_wp2_with fail
  refine Calls.mono (l6Open_any _ a len cap (h.below (by go_grown))) ?_
  rintro e w1 ⟨l1, c1, rfl, r1, hb1, hs1⟩
  rw [World.size_alloc] at r1 hs1
  have hA : Below w.heap.size w w1 := belowTo (by go_grown) hb1
  have e0 : w1.cell? ⟨w.heap.size, 0, none⟩ = some (.int .i64 0) := (hb1.cell (p := ⟨w.heap.size, 0, none⟩) (by simp)).trans (by simp)
  have e1 : w1.cell? ⟨w.heap.size, 1, none⟩ = some (.int .i64 0) := (hb1.cell (p := ⟨w.heap.size, 1, none⟩) (by simp)).trans (by simp)
  have f0 : w1.frozen? ⟨w.heap.size, 0, none⟩ = false := (hb1.frozen (p := ⟨w.heap.size, 0, none⟩) (by simp)).trans (by simp)
  have f1 : w1.frozen? ⟨w.heap.size, 1, none⟩ = false := (hb1.frozen (p := ⟨w.heap.size, 1, none⟩) (by simp)).trans (by simp)
  clear hb1 h
  go_wp2_with fail
  refine Calls.mono (l91Smooth_any w1 (w.heap.size + 1) a l1 c1 0 r1 (by omega)) ?_
  rintro e w2 ⟨v, l, q, rfl, hV, h2, h20, r2, hq, hb2⟩
  replace e0 := (hb2.cell (p := ⟨w.heap.size, 0, none⟩) (by simp)).trans e0
  replace e1 := (hb2.cell (p := ⟨w.heap.size, 1, none⟩) (by simp)).trans e1
  replace f0 := (hb2.frozen (p := ⟨w.heap.size, 0, none⟩) (by simp)).trans f0
  replace f1 := (hb2.frozen (p := ⟨w.heap.size, 1, none⟩) (by simp)).trans f1
  have HV := Lib.hid hV
  have HB2 := Lib.hid (hA.trans (hb2.mono (by omega)))
  obtain ⟨va, vc, rfl, _⟩ := hV.1
  clear hV hA hb2 r1
  go_wp2_with fail
  refine Calls.mono (l91Vec_any _ (w.heap.size + 1) a l1 c1 q r2 (by omega)) ?_
  rintro e w3 ⟨x, y, q3, rfl, -, -, -, -, r3, b3, K3⟩
  replace e0 := (b3.cell (p := ⟨w.heap.size, 0, none⟩) (by simp)).trans e0
  replace e1 := (b3.cell (p := ⟨w.heap.size, 1, none⟩) (by simp)).trans e1
  replace f0 := (b3.frozen (p := ⟨w.heap.size, 0, none⟩) (by simp)).trans f0
  replace f1 := (b3.frozen (p := ⟨w.heap.size, 1, none⟩) (by simp)).trans f1
  have HV3 := Lib.hid ((HV.out.kept K3 (by omega)).lower (show w.heap.size + 1 ≤ w1.heap.size by omega))
  have HB3 := Lib.hid (HB2.out.trans (b3.mono (by omega)))
  have hlt : w.heap.size < w3.heap.size := by have := r3.2.2.2.2.1; omega
  have hB3 := HB3.out
  clear r2 r3 b3 K3 HB2 HV
  go_wp2
  refine bodyPost_ret (by simp [results, Tryz.results13, go_sem, *]; try rfl) rfl ?_
  refine ⟨_, l, _, _, rfl, ?_, h2, h20, by go_grown⟩
  exact (HV3.out.setTwo (by omega) _ _).1
set_option maxHeartbeats 8000000 in
theorem drawDivisorEquivalent_any (w : World) (a : Option Addr) (len cap : Nat) (h : Bytes w a len cap) :
    Calls Tryz.prog 23 #[.slice a len cap] w (GivenT w) := by
  have HO := Lib.hid (l92Two_any w a len cap h)
  clear h
  go_enter Tryz.func23, Tryz.ntmps23
  go_wp2_with fail
  refine Calls.mono HO.out ?_
  rintro e w1 ⟨v, u, t, l, d, d2, rfl, hV, hI, hJ, h2, h20, hd, hd2, hb⟩
  have hm5 : 0 ≤ (len : Int) % 5 ∧ (len : Int) % 5 < 5 := by omega
  have hm3 : 0 ≤ (len : Int) % 3 ∧ (len : Int) % 3 < 3 := by omega
  have HC1 := Lib.hid (fun w' (hb' : Below w1.heap.size w1 w') => specDivisorOf_any v l ((len : Int) % 5 - 2) ((len : Int) % 3 - 1) w' (hV.below hb'))
  have HL : Hid (∀ n, (trivL l ((len : Int) % 5 - 2, (len : Int) % 3 - 1)).length ≤ 20 ∧ (sumL d n (trivL l ((len : Int) % 5 - 2, (len : Int) % 3 - 1))).length = d.length ∧ (sumL d n []).length = d.length) := fun n => ⟨by rw [trivL_len]; omega, sumL_len _ _ _, sumL_len _ _ _⟩
  have HC2 := Lib.hid (fun v' L' w' (hb' : Below w1.heap.size w1 w') (hT : ReadsInts w' v' L') => specDivisorAdd_any v l u d v' L' w' (hV.below hb') (hI.below hb') hT)
  generalize trivL l ((len : Int) % 5 - 2, (len : Int) % 3 - 1) = T at *
  generalize ofDB l ((len : Int) % 5 - 2) ((len : Int) % 3 - 1) = P at *
  have HV := Lib.hid hV
  have HI := Lib.hid hI
  have HJ := Lib.hid hJ
  have HB := Lib.hid hb
  have HD := Lib.hid hd
  have HD2 := Lib.hid hd2
  clear hV hI hJ hb hd hd2 HO
  go_wp2_with fail
  refine Calls.mono (HC1.out _ (by go_grown)) ?_
  rintro e w2 ⟨v2, rfl, hI2, hb2⟩
  have hB2 := belowTo (a := w1) (by go_grown) hb2
  have hr2 := hI2.reads (by cases P; simp [gV]; exact Nat.le_trans ((HL.out 0).1) (by omega))
  have HC3 := Lib.hid (HC2.out v2 _ w2 hB2 hr2)
  have HLq : Hid ((sumL d 1 (gV P T)).length = d.length) := sumL_len _ _ _
  generalize sumL d 1 (gV P T) = S at *
  generalize addDB l d (gV P T) = Q at *
  have HB2 := Lib.hid hB2
  clear hI2 hb2 hr2 HC2 HC1 hB2
  go_wp2_with fail
  refine Calls.mono HC3.out ?_
  rintro e w3 ⟨v3, rfl, hI3, hb3⟩
  have hB3 := belowTo HB2.out hb3
  have HV3 := Lib.hid (HV.out.below hB3)
  have HI3 := Lib.hid (HI.out.below hB3)
  have HJ3 := Lib.hid (HJ.out.below hB3)
  have HB3 := Lib.hid (belowTo HB.out hB3)
  have HS := Lib.hid (fun h : Q = true => (by subst h; exact hI3.reads (by have := HLq.out; have := HD.out; show S.length ≤ _; omega) : ReadsInts w3 v3 S))
  clear hI3 hb3 hB3 HV HI HJ HB HB2 HC3
  have back : ∀ s4 : Value, True := fun _ => trivial
  cases P
  · go_wp2
    go_returns
    exact ⟨_, _, _, l, d, d2, rfl, HV3.out, HI3.out, HJ3.out, h2, h20, HD.out, HD2.out, HB3.out⟩
  · cases Q
    · go_wp2
      go_returns
      exact ⟨_, _, _, l, d, d2, rfl, HV3.out, HI3.out, HJ3.out, h2, h20, HD.out, HD2.out, HB3.out⟩
    · have HS2 := Lib.hid (HS.out rfl)
      have HLs := Lib.hid (HLq.out.trans HD.out)
      by_cases he : (len : Int) % 2 = 0
      · clear HS HLq
        go_wp2
        go_returns
        exact ⟨_, _, _, l, d, S, rfl, HV3.out, HI3.out, HS2.out, h2, h20, HD.out, HLs.out, HB3.out⟩
      · have he' : ((len : Int) % 2 == 0) = false := by simpa using he
        clear HS HLq HS2
        go_wp2
        go_returns
        exact ⟨_, _, _, l, d, d2, rfl, HV3.out, HI3.out, HJ3.out, h2, h20, HD.out, HD2.out, HB3.out⟩
end Go.Proofs.YtohojjoediibhaaGreatDoor
