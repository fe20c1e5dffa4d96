/- FnWhere: the walk. -/
import Derived.Test.YtdlofnkimikaiaaDoorUl
import Derived.Test.YtdlofnkimikaiaaDoorOa
import Derived.Test.YtdlofnkimikaiaaDoorSm
import Derived.Test.YtdlofnkimikaiaaDoorBx
import Derived.Test.YtdlofnkimikaiaaDoorGz
import Derived.Test.YtdlofnkimikaiaaDoorHc
import Derived.Test.YtdlofnkimikaiaaDoorB4
import Derived.Test.YtdlofnkimikaiaaDoorB2
namespace Go.Proofs.YtdlofnkimikaiaaDoor
open Go.RowKit

set_option maxRecDepth 100000 in
set_option maxHeartbeats 16000000 in
theorem fnWhere_any (a : Option Addr) (len cap : Nat) (w : World) (h : Bytes w a len cap) (hg : EtOk w) :
    Calls Tryd.prog 8 #[.slice a len cap] w fun e w' => e = .returned (.bool true) ∧ Below w.heap.size w w' := by
  by_cases hlen : len ≤ 1048576
  case neg =>
    have j1 : (1048576 : Int) < (len : Int) := by omega
    clear h hg
    go_enter Tryd.func8, Tryd.ntmps8
    go_wp2
    go_returns
    exact ⟨rfl, by go_grown⟩
  case pos =>
  have j1 : (len : Int) ≤ 1048576 := by omega
  have HO := Lib.hid (drawFanWhere_any w a len cap h)
  clear h
  go_enter Tryd.func8, Tryd.ntmps8
  go_wp2_with fail
  refine Calls.mono HO.out ?_
  rintro e w1 ⟨v, l, x, y, rfl, hV, h2, h20, hb1⟩
  have HG := Lib.hid (hg.below hb1)
  have Hf := Lib.hid hV
  have HB : Hid (Below w.heap.size w w1) := hb1
  clear hb1 HO hg hV
  cases hk : (fanB l && vecB x y)
  · have C1 : Hid (∀ (w' : World) (v0 : Value), ReadsVecs w' v0 (l) → EtOk w' → Calls Tryd.prog 33 #[v0, .agg #[.int .i64 (x), .int .i64 (y)]] w' (fun e w'' => e = .returned (.tuple #[.int .i64 (0), .bool (false)]) ∧ Below w'.heap.size w' w'')) := fun w' v0 h0 hg' => by
      have h := fanWhere_any v0 l x y w' h0 hg'
      rw [hk] at h
      exact h
    have C2 : Hid (∀ (w' : World) (v0 : Value), ReadsVecs w' v0 (l) → EtOk w' → Calls Tryd.prog 36 #[v0, .agg #[.int .i64 (x), .int .i64 (y)]] w' (fun e w'' => e = .returned (.tuple #[.int .i64 (0), .bool (false)]) ∧ Below w'.heap.size w' w'')) := fun w' v0 h0 hg' => by
      have h := specFanWhere_any v0 l x y w' h0
      rw [hk] at h
      exact h
    clear hk
    go_wp2_with fail
    refine Calls.mono (C1.out _ _ (Hf.out.below (by go_grown)) (HG.out.below (by go_grown))) ?_
    rintro e w2 ⟨rfl, hb2⟩
    have hB2 := belowTo (a := w1) (by go_grown) hb2
    replace Hf := Lib.hid (Hf.out.below hB2)
    have Hm : Hid (BoxAt w2 w1.heap.size [.int .i64 x, .int .i64 y]) := Lib.hid (BoxAt.below (BoxAt.made2 _ (.int .i64 x) (.int .i64 y) _) hb2)
    obtain ⟨mm0, mm1⟩ := Hm.out.two
    have ltm := Hm.out.1
    have nem := Nat.ne_of_lt ltm
    replace HG := Lib.hid (HG.out.below hB2)
    replace HB := Lib.hid (belowTo HB.out hB2)
    clear hb2 hB2
    go_wp2_with fail
    refine Calls.mono (C2.out _ _ (Hf.out.below (by go_grown)) (HG.out.below (by go_grown))) ?_
    rintro e w3 ⟨rfl, hb3⟩
    have hB3 := belowTo (a := w2) (by go_grown) hb3
    replace Hf := Lib.hid (Hf.out.below hB3)
    clear mm0 mm1 ltm nem
    replace Hm := Lib.hid (Hm.out.below hB3)
    obtain ⟨mm0, mm1⟩ := Hm.out.two
    have ltm := Hm.out.1
    have nem := Nat.ne_of_lt ltm
    replace HG := Lib.hid (HG.out.below hB3)
    replace HB := Lib.hid (belowTo HB.out hB3)
    clear hb3 hB3
    go_wp2
    go_returns
    exact ⟨rfl, HB.out⟩
  · have C1 : Hid (∀ (w' : World) (v0 : Value), ReadsVecs w' v0 (l) → EtOk w' → Calls Tryd.prog 33 #[v0, .agg #[.int .i64 (x), .int .i64 (y)]] w' (fun e w'' => e = .returned (.tuple #[.int .i64 (((firstI (fun i => inC l i (x, y)) l.length : Nat) : Int)), .bool (true)]) ∧ Below w'.heap.size w' w'')) := fun w' v0 h0 hg' => by
      have h := fanWhere_any v0 l x y w' h0 hg'
      rw [hk] at h
      exact h
    have C2 : Hid (∀ (w' : World) (v0 : Value), ReadsVecs w' v0 (l) → EtOk w' → Calls Tryd.prog 36 #[v0, .agg #[.int .i64 (x), .int .i64 (y)]] w' (fun e w'' => e = .returned (.tuple #[.int .i64 (((firstI (fun i => inC l i (x, y)) l.length : Nat) : Int)), .bool (true)]) ∧ Below w'.heap.size w' w'')) := fun w' v0 h0 hg' => by
      have h := specFanWhere_any v0 l x y w' h0
      rw [hk] at h
      exact h
    rw [Bool.and_eq_true] at hk
    obtain ⟨q0, q1⟩ := hk
    obtain ⟨q2, q3⟩ := where_inF q0 (x, y)
    have q4 := where_twice l x y
    have q5 : vecB 0 0 = true := rfl
    obtain ⟨m, hm⟩ : ∃ m, m = firstI (fun i => inC l i (x, y)) l.length := ⟨_, rfl⟩
    rw [← hm] at q2 q3 q4 C1 C2
    have q6 := where_has q0 q1 q3
    have q7 : idxB l (m : Int) = true := by unfold idxB; simp; omega
    have q8 : ((m : Nat) : Int).toNat = m := Int.toNat_natCast m
    have C3 : Hid (∀ (w' : World) (v0 : Value), ReadsVecs w' v0 (l) → EtOk w' → Calls Tryd.prog 28 #[v0, .int .i64 (m : Int)] w' (fun e w'' => e = .returned (.tuple #[.agg #[.int .i64 ((cyc l m).1), .int .i64 ((cyc l m).2), .int .i64 ((cyc l (m + 1)).1), .int .i64 ((cyc l (m + 1)).2)], .bool true]) ∧ Below w'.heap.size w' w'')) := fun w' v0 h0 hg' => by
      have h := fanCone_any v0 l (m : Int) w' h0 hg'
      rw [q0, q7, q8] at h
      exact h
    have C6 : Hid (∀ (w' : World),  EtOk w' → Calls Tryd.prog 38 #[.agg #[.int .i64 ((cyc l m).1), .int .i64 ((cyc l m).2), .int .i64 ((cyc l (m + 1)).1), .int .i64 ((cyc l (m + 1)).2)], .agg #[.int .i64 (x), .int .i64 (y)]] w' (fun e w'' => e = .returned (.bool (true)) ∧ Below w'.heap.size w' w'')) := fun w'  hg' => by
      have h := coneHas_any (cyc l m).1 (cyc l m).2 (cyc l (m + 1)).1 (cyc l (m + 1)).2 x y w' hg'
      rw [q6] at h
      exact h
    clear hm
    cases hk2 : vecB (x * 2) (y * 2)
    · have C4 : Hid (∀ (w' : World),  EtOk w' → Calls Tryd.prog 37 #[.agg #[.int .i64 (x), .int .i64 (y)], .int .i64 2] w' (fun e w'' => e = .returned (.tuple #[.agg #[.int .i64 (0), .int .i64 (0)], .bool false]) ∧ Below w'.heap.size w' w'')) := fun w'  hg' => by
        have h := vecTimes_any x y 2 w' hg'
        rw [show timesOk x y 2 = false by unfold timesOk; rw [hk2, Bool.and_false]] at h
        exact h
      obtain ⟨X, hX⟩ : ∃ X, X = ((firstI (fun i => inC l i (0, 0)) l.length : Nat) : Int) := ⟨_, rfl⟩
      have C5 : Hid (∀ (w' : World) (v0 : Value), ReadsVecs w' v0 (l) → EtOk w' → Calls Tryd.prog 33 #[v0, .agg #[.int .i64 (0), .int .i64 (0)]] w' (fun e w'' => e = .returned (.tuple #[.int .i64 (X), .bool (true)]) ∧ Below w'.heap.size w' w'')) := fun w' v0 h0 hg' => by
        have h := fanWhere_any v0 l 0 0 w' h0 hg'
        rw [q0, q5, Bool.and_true, ← hX] at h
        exact h
      clear hX
      clear q0 q1 q2 q3 q4 q5 q6 q7 q8 hk2
      generalize (cyc l m).1 = a at *
      generalize (cyc l m).2 = b at *
      generalize (cyc l (m + 1)).1 = c at *
      generalize (cyc l (m + 1)).2 = d at *
      go_wp2_with fail
      refine Calls.mono (C1.out _ _ (Hf.out.below (by go_grown)) (HG.out.below (by go_grown))) ?_
      rintro e w2 ⟨rfl, hb2⟩
      have hB2 := belowTo (a := w1) (by go_grown) hb2
      replace Hf := Lib.hid (Hf.out.below hB2)
      have Hm : Hid (BoxAt w2 w1.heap.size [.int .i64 x, .int .i64 y]) := Lib.hid (BoxAt.below (BoxAt.made2 _ (.int .i64 x) (.int .i64 y) _) hb2)
      obtain ⟨mm0, mm1⟩ := Hm.out.two
      have ltm := Hm.out.1
      have nem := Nat.ne_of_lt ltm
      replace HG := Lib.hid (HG.out.below hB2)
      replace HB := Lib.hid (belowTo HB.out hB2)
      clear hb2 hB2
      go_wp2_with fail
      refine Calls.mono (C2.out _ _ (Hf.out.below (by go_grown)) (HG.out.below (by go_grown))) ?_
      rintro e w3 ⟨rfl, hb3⟩
      have hB3 := belowTo (a := w2) (by go_grown) hb3
      replace Hf := Lib.hid (Hf.out.below hB3)
      clear mm0 mm1 ltm nem
      replace Hm := Lib.hid (Hm.out.below hB3)
      obtain ⟨mm0, mm1⟩ := Hm.out.two
      have ltm := Hm.out.1
      have nem := Nat.ne_of_lt ltm
      replace HG := Lib.hid (HG.out.below hB3)
      replace HB := Lib.hid (belowTo HB.out hB3)
      clear hb3 hB3
      go_wp2_with fail
      refine Calls.mono (C3.out _ _ (Hf.out.below (by go_grown)) (HG.out.below (by go_grown))) ?_
      rintro e w4 ⟨rfl, hb4⟩
      have hB4 := belowTo (a := w3) (by go_grown) hb4
      replace Hf := Lib.hid (Hf.out.below hB4)
      clear mm0 mm1 ltm nem
      replace Hm := Lib.hid (Hm.out.below hB4)
      obtain ⟨mm0, mm1⟩ := Hm.out.two
      have ltm := Hm.out.1
      have nem := Nat.ne_of_lt ltm
      replace HG := Lib.hid (HG.out.below hB4)
      replace HB := Lib.hid (belowTo HB.out hB4)
      clear hb4 hB4
      go_wp2_with fail
      refine Calls.mono (C4.out _   (HG.out.below (by go_grown))) ?_
      rintro e w5 ⟨rfl, hb5⟩
      have hB5 := belowTo (a := w4) (by go_grown) hb5
      replace Hf := Lib.hid (Hf.out.below hB5)
      clear mm0 mm1 ltm nem
      replace Hm := Lib.hid (Hm.out.below hB5)
      have Hc : Hid (BoxAt w5 w4.heap.size [.int .i64 a, .int .i64 b, .int .i64 c, .int .i64 d]) := Lib.hid (BoxAt.below (BoxAt.made4 _ (.int .i64 a) (.int .i64 b) (.int .i64 c) (.int .i64 d) _) hb5)
      obtain ⟨mm0, mm1⟩ := Hm.out.two
      have ltm := Hm.out.1
      have nem := Nat.ne_of_lt ltm
      obtain ⟨mc0, mc1, mc2, mc3⟩ := Hc.out.four
      have ltc := Hc.out.1
      have nec := Nat.ne_of_lt ltc
      replace HG := Lib.hid (HG.out.below hB5)
      replace HB := Lib.hid (belowTo HB.out hB5)
      clear hb5 hB5
      go_wp2_with fail
      refine Calls.mono (C5.out _ _ (Hf.out.below (by go_grown)) (HG.out.below (by go_grown))) ?_
      rintro e w6 ⟨rfl, hb6⟩
      have hB6 := belowTo (a := w5) (by go_grown) hb6
      replace Hf := Lib.hid (Hf.out.below hB6)
      clear mm0 mm1 ltm nem
      replace Hm := Lib.hid (Hm.out.below hB6)
      clear mc0 mc1 mc2 mc3 ltc nec
      replace Hc := Lib.hid (Hc.out.below hB6)
      have Ht : Hid (BoxAt w6 w5.heap.size [.int .i64 0, .int .i64 0]) := Lib.hid (BoxAt.below (BoxAt.made2 _ (.int .i64 0) (.int .i64 0) _) hb6)
      obtain ⟨mm0, mm1⟩ := Hm.out.two
      have ltm := Hm.out.1
      have nem := Nat.ne_of_lt ltm
      obtain ⟨mc0, mc1, mc2, mc3⟩ := Hc.out.four
      have ltc := Hc.out.1
      have nec := Nat.ne_of_lt ltc
      obtain ⟨mt0, mt1⟩ := Ht.out.two
      have ltt := Ht.out.1
      have net := Nat.ne_of_lt ltt
      replace HG := Lib.hid (HG.out.below hB6)
      replace HB := Lib.hid (belowTo HB.out hB6)
      clear hb6 hB6
      go_wp2_with fail
      refine Calls.mono (C6.out _   (HG.out.below (by go_grown))) ?_
      rintro e w7 ⟨rfl, hb7⟩
      have hB7 := belowTo (a := w6) (by go_grown) hb7
      replace Hf := Lib.hid (Hf.out.below hB7)
      clear mm0 mm1 ltm nem
      replace Hm := Lib.hid (Hm.out.below hB7)
      clear mc0 mc1 mc2 mc3 ltc nec
      replace Hc := Lib.hid (Hc.out.below hB7)
      clear mt0 mt1 ltt net
      replace Ht := Lib.hid (Ht.out.below hB7)
      obtain ⟨mm0, mm1⟩ := Hm.out.two
      have ltm := Hm.out.1
      have nem := Nat.ne_of_lt ltm
      obtain ⟨mc0, mc1, mc2, mc3⟩ := Hc.out.four
      have ltc := Hc.out.1
      have nec := Nat.ne_of_lt ltc
      obtain ⟨mt0, mt1⟩ := Ht.out.two
      have ltt := Ht.out.1
      have net := Nat.ne_of_lt ltt
      replace HG := Lib.hid (HG.out.below hB7)
      replace HB := Lib.hid (belowTo HB.out hB7)
      clear hb7 hB7
      go_wp2
      go_returns
      exact ⟨rfl, HB.out⟩
    · have C4 : Hid (∀ (w' : World),  EtOk w' → Calls Tryd.prog 37 #[.agg #[.int .i64 (x), .int .i64 (y)], .int .i64 2] w' (fun e w'' => e = .returned (.tuple #[.agg #[.int .i64 (x * 2), .int .i64 (y * 2)], .bool true]) ∧ Below w'.heap.size w' w'')) := fun w'  hg' => by
        have h := vecTimes_any x y 2 w' hg'
        rw [show timesOk x y 2 = true by unfold timesOk; rw [q1, hk2]; rfl] at h
        exact h
      have C5 : Hid (∀ (w' : World) (v0 : Value), ReadsVecs w' v0 (l) → EtOk w' → Calls Tryd.prog 33 #[v0, .agg #[.int .i64 (x * 2), .int .i64 (y * 2)]] w' (fun e w'' => e = .returned (.tuple #[.int .i64 ((m : Int)), .bool (true)]) ∧ Below w'.heap.size w' w'')) := fun w' v0 h0 hg' => by
        have h := fanWhere_any v0 l (x * 2) (y * 2) w' h0 hg'
        rw [q0, hk2, q4] at h
        exact h
      clear q0 q1 q2 q3 q4 q5 q6 q7 q8 hk2
      generalize (cyc l m).1 = a at *
      generalize (cyc l m).2 = b at *
      generalize (cyc l (m + 1)).1 = c at *
      generalize (cyc l (m + 1)).2 = d at *
      generalize x * 2 = x2 at *
      generalize y * 2 = y2 at *
      go_wp2_with fail
      refine Calls.mono (C1.out _ _ (Hf.out.below (by go_grown)) (HG.out.below (by go_grown))) ?_
      rintro e w2 ⟨rfl, hb2⟩
      have hB2 := belowTo (a := w1) (by go_grown) hb2
      replace Hf := Lib.hid (Hf.out.below hB2)
      have Hm : Hid (BoxAt w2 w1.heap.size [.int .i64 x, .int .i64 y]) := Lib.hid (BoxAt.below (BoxAt.made2 _ (.int .i64 x) (.int .i64 y) _) hb2)
      obtain ⟨mm0, mm1⟩ := Hm.out.two
      have ltm := Hm.out.1
      have nem := Nat.ne_of_lt ltm
      replace HG := Lib.hid (HG.out.below hB2)
      replace HB := Lib.hid (belowTo HB.out hB2)
      clear hb2 hB2
      go_wp2_with fail
      refine Calls.mono (C2.out _ _ (Hf.out.below (by go_grown)) (HG.out.below (by go_grown))) ?_
      rintro e w3 ⟨rfl, hb3⟩
      have hB3 := belowTo (a := w2) (by go_grown) hb3
      replace Hf := Lib.hid (Hf.out.below hB3)
      clear mm0 mm1 ltm nem
      replace Hm := Lib.hid (Hm.out.below hB3)
      obtain ⟨mm0, mm1⟩ := Hm.out.two
      have ltm := Hm.out.1
      have nem := Nat.ne_of_lt ltm
      replace HG := Lib.hid (HG.out.below hB3)
      replace HB := Lib.hid (belowTo HB.out hB3)
      clear hb3 hB3
      go_wp2_with fail
      refine Calls.mono (C3.out _ _ (Hf.out.below (by go_grown)) (HG.out.below (by go_grown))) ?_
      rintro e w4 ⟨rfl, hb4⟩
      have hB4 := belowTo (a := w3) (by go_grown) hb4
      replace Hf := Lib.hid (Hf.out.below hB4)
      clear mm0 mm1 ltm nem
      replace Hm := Lib.hid (Hm.out.below hB4)
      obtain ⟨mm0, mm1⟩ := Hm.out.two
      have ltm := Hm.out.1
      have nem := Nat.ne_of_lt ltm
      replace HG := Lib.hid (HG.out.below hB4)
      replace HB := Lib.hid (belowTo HB.out hB4)
      clear hb4 hB4
      go_wp2_with fail
      refine Calls.mono (C4.out _   (HG.out.below (by go_grown))) ?_
      rintro e w5 ⟨rfl, hb5⟩
      have hB5 := belowTo (a := w4) (by go_grown) hb5
      replace Hf := Lib.hid (Hf.out.below hB5)
      clear mm0 mm1 ltm nem
      replace Hm := Lib.hid (Hm.out.below hB5)
      have Hc : Hid (BoxAt w5 w4.heap.size [.int .i64 a, .int .i64 b, .int .i64 c, .int .i64 d]) := Lib.hid (BoxAt.below (BoxAt.made4 _ (.int .i64 a) (.int .i64 b) (.int .i64 c) (.int .i64 d) _) hb5)
      obtain ⟨mm0, mm1⟩ := Hm.out.two
      have ltm := Hm.out.1
      have nem := Nat.ne_of_lt ltm
      obtain ⟨mc0, mc1, mc2, mc3⟩ := Hc.out.four
      have ltc := Hc.out.1
      have nec := Nat.ne_of_lt ltc
      replace HG := Lib.hid (HG.out.below hB5)
      replace HB := Lib.hid (belowTo HB.out hB5)
      clear hb5 hB5
      go_wp2_with fail
      refine Calls.mono (C5.out _ _ (Hf.out.below (by go_grown)) (HG.out.below (by go_grown))) ?_
      rintro e w6 ⟨rfl, hb6⟩
      have hB6 := belowTo (a := w5) (by go_grown) hb6
      replace Hf := Lib.hid (Hf.out.below hB6)
      clear mm0 mm1 ltm nem
      replace Hm := Lib.hid (Hm.out.below hB6)
      clear mc0 mc1 mc2 mc3 ltc nec
      replace Hc := Lib.hid (Hc.out.below hB6)
      have Ht : Hid (BoxAt w6 w5.heap.size [.int .i64 x2, .int .i64 y2]) := Lib.hid (BoxAt.below (BoxAt.made2 _ (.int .i64 x2) (.int .i64 y2) _) hb6)
      obtain ⟨mm0, mm1⟩ := Hm.out.two
      have ltm := Hm.out.1
      have nem := Nat.ne_of_lt ltm
      obtain ⟨mc0, mc1, mc2, mc3⟩ := Hc.out.four
      have ltc := Hc.out.1
      have nec := Nat.ne_of_lt ltc
      obtain ⟨mt0, mt1⟩ := Ht.out.two
      have ltt := Ht.out.1
      have net := Nat.ne_of_lt ltt
      replace HG := Lib.hid (HG.out.below hB6)
      replace HB := Lib.hid (belowTo HB.out hB6)
      clear hb6 hB6
      go_wp2_with fail
      refine Calls.mono (C6.out _   (HG.out.below (by go_grown))) ?_
      rintro e w7 ⟨rfl, hb7⟩
      have hB7 := belowTo (a := w6) (by go_grown) hb7
      replace Hf := Lib.hid (Hf.out.below hB7)
      clear mm0 mm1 ltm nem
      replace Hm := Lib.hid (Hm.out.below hB7)
      clear mc0 mc1 mc2 mc3 ltc nec
      replace Hc := Lib.hid (Hc.out.below hB7)
      clear mt0 mt1 ltt net
      replace Ht := Lib.hid (Ht.out.below hB7)
      obtain ⟨mm0, mm1⟩ := Hm.out.two
      have ltm := Hm.out.1
      have nem := Nat.ne_of_lt ltm
      obtain ⟨mc0, mc1, mc2, mc3⟩ := Hc.out.four
      have ltc := Hc.out.1
      have nec := Nat.ne_of_lt ltc
      obtain ⟨mt0, mt1⟩ := Ht.out.two
      have ltt := Ht.out.1
      have net := Nat.ne_of_lt ltt
      replace HG := Lib.hid (HG.out.below hB7)
      replace HB := Lib.hid (belowTo HB.out hB7)
      clear hb7 hB7
      go_wp2
      go_returns
      exact ⟨rfl, HB.out⟩
end Go.Proofs.YtdlofnkimikaiaaDoor
