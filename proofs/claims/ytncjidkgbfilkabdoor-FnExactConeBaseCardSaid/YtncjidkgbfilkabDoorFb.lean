/- Fractions: the model's loop; FractionOf, both sides. -/
import Derived.Test.YtncjidkgbfilkabDoorSb
import Derived.Test.YtncjidkgbfilkabDoorTh
namespace Go.Proofs.YtncjidkgbfilkabDoor
open Go.RowKit

theorem Ints.empty (w : World) : Ints (w.alloc (.cells #[] 3)) w.heap.size (.slice (some ⟨w.heap.size, 0, none⟩) 0 0) [] :=
  World.ownsRow_made w #[] 0 (Nat.le_refl _) (by simp [maxLen]) rfl
set_option maxHeartbeats 4000000 in
theorem l2Fraction_any (n q : Int) (w : World) (h0 : 0 ≤ q) (h1 : q < n) (h2 : n ≤ 2000000) :
    Calls Tryd.prog 43 #[.int .i64 n, .int .i64 q] w (GivesInts w (fracZ n q)) := by
  obtain ⟨i0, hi, hz0, hz1, hz2⟩ := info_parts infoInt
  have hE := Lib.hid (Ints.empty w)
  go_enter Tryd.func43, Tryd.ntmps43
  go_wp2
  go_loopw [0, 1, 5] (fun s0 s1 s5 wr => ∃ (x y : Int) (done : List Int), s0 = .int .i64 x ∧ s1 = .int .i64 y ∧ Hid (Ints wr w.heap.size s5 done ∧ fracZ n q = done ++ fracZ x y) ∧ 0 ≤ y ∧ y < x ∧ x ≤ 2000000 ∧ done.length + y.toNat ≤ 2000000 ∧ Below w.heap.size w wr) (fun _ s1 _ _ => (intOf s1).toNat)
  case atStart => exact ⟨n, q, [], rfl, rfl, ⟨hE.out, rfl⟩, h0, h1, h2, by simp; omega, by go_grown⟩
  case round =>
    obtain ⟨x, y, done, rfl, rfl, HH, y0, yx, xm, hl, hB⟩ := hrel
    by_cases hy : 0 < y
    · have f1 : x ≤ (x + y - 1) / y * y := up_ge hy
      have f2 : (x + y - 1) / y * y < x + y := up_lt hy
      have f3 : (x + y - 1) / y ≤ x := up_le hy (by omega)
      have f4 : 2 ≤ (x + y - 1) / y := up_two hy yx
      have hown : wr.ownsRow w.heap.size 3 1 _ _ _ := HH.out.1
      have hbs := hB.size
      have hnext := HH.out.2
      rw [frac_pos x hy] at hnext
      have HN := Lib.hid hnext
      clear hnext HH hE
      go_wp2_with (at_builtin; refine wpList_append_own _ rfl _ _ 36 rfl w.heap.size 3 i0 (.int .i64 0) 1 8 Tryd.underlying36 hi hz0 hz1 hz2 rfl (by decide) _ _ _ rfl (hown.alloc _) ⟨wr.heap.size, 0, none⟩ 1 1 [.int .i64 ((x + y - 1) / y)] rfl rfl ?c1 ?c2 ?c3 ?c4 ?c5 ?_)
      case c1 =>
        intro j u hj
        match j, hj with
        | 0, hj => simp at hj; subst hj; simp [Addr.add]
      case c2 => intro u hu; simp at hu; subst hu; rfl
      case c3 => unfold maxLen; omega
      case c4 => omega
      case c5 => simp; omega
      intro v' w1 hown' hgrow _
      have hB1 : Below w.heap.size w w1 := (hB.alloc hbs _).grown hgrow (by simp; omega) (fun k hk => (hown.lt k hk).1)
      have H1 : Hid (Ints w1 w.heap.size v' (done ++ [upZ x y]) ∧ fracZ n q = (done ++ [upZ x y]) ++ fracZ y (upZ x y * y - x)) := by
        refine ⟨?_, by rw [HN.out]; simp⟩
        have : intsV (done ++ [upZ x y]) = intsV done ++ [.int .i64 ((x + y - 1) / y)] := by simp [intsV, upZ]
        unfold Ints
        rw [this, List.length_append]
        exact hown'
      clear hown hown' hgrow HN hB
      go_wp2
      go_roundw
      case rel => exact ⟨y, (x + y - 1) / y * y - x, done ++ [upZ x y], rfl, rfl, H1, by omega, by omega, by omega, by simp; omega, hB1⟩
      case measure => simp [intOf]; omega
    · have H := HH.out.1
      have he := HH.out.2
      rw [frac_zero x hy, List.append_nil] at he
      rw [← he] at H
      have H' := Lib.hid H
      clear H he HH hE
      go_wp2
      go_returns
      exact ⟨_, rfl, H'.out, hB⟩

/-! FractionOf -/
def gateL (b : Bool) (l : List Int) : List Int := if b then l else []
def fractOk (n q : Int) : Bool := decide (1 ≤ q) && (decide (q < n) && (decide (n ≤ 10000) && (gcdZ n q == 1)))
theorem fract_in {n q : Int} (h : fractOk n q = true) : 1 ≤ q ∧ q < n ∧ n ≤ 10000 ∧ gcdZ n q = 1 := by simpa [fractOk] using h
theorem fract_out {n q : Int} (h : fractOk n q = false) : q < 1 ∨ (1 ≤ q ∧ n ≤ q) ∨ (1 ≤ q ∧ q < n ∧ 10000 < n) ∨ (1 ≤ q ∧ q < n ∧ n ≤ 10000 ∧ gcdZ n q ≠ 1) := by
  by_cases h1 : 1 ≤ q <;> by_cases h2 : q < n <;> by_cases h3 : n ≤ 10000 <;> simp [fractOk, h1, h2, h3] at h ⊢ <;> omega
def FracGives (w : World) (n q : Int) (e : Ending) (w' : World) : Prop := GivesIntsOk w (gateL (fractOk n q) (fracZ n q)) (fractOk n q) e w'
theorem frac_none {w w' : World} {n q : Int} {v : Value} {e : Ending} (h : fractOk n q = false) (he : e = .returned (.tuple #[v, .bool false])) (hI : Ints w' w.heap.size v []) (hB : Below w.heap.size w w') : FracGives w n q e w' := by
  unfold FracGives
  rw [h]
  exact ⟨v, he, hI, hB⟩
set_option maxHeartbeats 4000000 in
theorem fractionOfE_any (n q : Int) (w : World) :
    Calls Tryd.prog 25 #[.int .i64 n, .int .i64 q] w (FracGives w n q) := by
  cases h : fractOk n q
  · have H := Lib.hid h
    rcases fract_out h with h' | ⟨h1, h'⟩ | ⟨h1, h2, h'⟩ | ⟨h1, h2, h3, h'⟩
    · clear h
      go_enter Tryd.func25, Tryd.ntmps25
      go_wp2
      go_returns
      exact frac_none H.out rfl (Ints.nil _ _) (by go_grown)
    · clear h
      go_enter Tryd.func25, Tryd.ntmps25
      go_wp2
      go_returns
      exact frac_none H.out rfl (Ints.nil _ _) (by go_grown)
    · clear h
      go_enter Tryd.func25, Tryd.ntmps25
      go_wp2
      go_returns
      exact frac_none H.out rfl (Ints.nil _ _) (by go_grown)
    · clear h
      have hne : (gcdZ n q != 1) = true := by simpa using h'
      clear h'
      go_enter Tryd.func25, Tryd.ntmps25
      (go_wp2_with fail; go_call (commonDivisor_big n q _ (by omega) (by omega)) as e w1 ⟨rfl, hb1⟩); obtain ⟨hc1, hf1⟩ := bcell hb1; have hz1 := bsize hb1
      go_wp2
      go_returns
      exact frac_none H.out rfl (Ints.nil _ _) (by go_grown)
  · obtain ⟨h1, h2, h3, h4⟩ := fract_in h
    have H := Lib.hid h
    have hne : (gcdZ n q != 1) = false := by simpa using h4
    clear h h4
    go_enter Tryd.func25, Tryd.ntmps25
    (go_wp2_with fail; go_call (commonDivisor_big n q _ (by omega) (by omega)) as e w1 ⟨rfl, hb1⟩); obtain ⟨hc1, hf1⟩ := bcell hb1; have hz1 := bsize hb1
    have hA : Below w.heap.size w w1 := by go_grown
    go_wp2_with fail
    refine Calls.mono (fractionOf_any n q _ (by omega) h2 (by omega)) ?_
    rintro e w2 ⟨v, rfl, hI, hb2⟩
    have hI' := Lib.hid (hI.lower hA.size)
    clear hI hc1 hf1 hz1
    go_wp2
    go_returns
    unfold FracGives
    rw [H.out]
    exact ⟨v, rfl, hI'.out, belowTo hA hb2⟩
set_option maxHeartbeats 4000000 in
theorem specFractionOf_any (n q : Int) (w : World) :
    Calls Tryd.prog 26 #[.int .i64 n, .int .i64 q] w (FracGives w n q) := by
  have hE := fun w' : World => Ints.empty w'
  cases h : fractOk n q
  · have H := Lib.hid h
    have HE := Lib.hid hE
    clear hE
    by_cases hn : 1 ≤ n ∧ n ≤ 10000
    · obtain ⟨n1, n2⟩ := hn
      by_cases hq : 1 ≤ q ∧ q ≤ n - 1
      · obtain ⟨q1, q2⟩ := hq
        have hne : (gcdZ n q != 1) = true := by
          rcases fract_out h with h' | ⟨h1, h'⟩ | ⟨h1, h2, h'⟩ | ⟨h1, h2, h3, h'⟩
          · omega
          · omega
          · omega
          · simpa using h'
        clear h
        go_enter Tryd.func26, Tryd.ntmps26
        go_wp2_with (go_at_call 41; refine (l6In_any _ _ _ _).mono ?_; rintro e w' ⟨rfl, rfl⟩)
        go_call (l1Gcd_big n q _ (by omega) (by omega)) as e w1 ⟨rfl, hb1⟩
        go_wp2
        go_returns
        exact frac_none H.out rfl ((HE.out w1).lower hb1.size) (hb1.alloc hb1.size _)
      · clear h
        have hd : (decide (1 ≤ q) && decide (q ≤ n - 1)) = false := by
          by_cases a : 1 ≤ q <;> by_cases b : q ≤ n - 1 <;> simp [a, b]; exact hq ⟨a, b⟩
        clear hq
        go_enter Tryd.func26, Tryd.ntmps26
        go_wp2_with (go_at_call 41; refine (l6In_any _ _ _ _).mono ?_; rintro e w' ⟨rfl, rfl⟩)
        go_returns
        exact frac_none H.out rfl (HE.out w) (by go_grown)
    · clear h
      have hd : (decide (1 ≤ n) && decide (n ≤ 10000)) = false := by
        by_cases a : 1 ≤ n <;> by_cases b : n ≤ 10000 <;> simp [a, b]; exact hn ⟨a, b⟩
      clear hn
      go_enter Tryd.func26, Tryd.ntmps26
      go_wp2_with (go_at_call 41; refine (l6In_any _ _ _ _).mono ?_; rintro e w' ⟨rfl, rfl⟩)
      go_returns
      exact frac_none H.out rfl (HE.out w) (by go_grown)
  · obtain ⟨h1, h2, h3, h4⟩ := fract_in h
    have H := Lib.hid h
    have hne : (gcdZ n q != 1) = false := by simpa using h4
    have h5 : q ≤ n - 1 := by omega
    clear h h4 hE
    go_enter Tryd.func26, Tryd.ntmps26
    go_wp2_with (go_at_call 41; refine (l6In_any _ _ _ _).mono ?_; rintro e w' ⟨rfl, rfl⟩)
    go_call (l1Gcd_big n q _ (by omega) (by omega)) as e w1 ⟨rfl, hb1⟩
    go_wp2_with fail
    refine Calls.mono (l2Fraction_any n q _ (by omega) h2 (by omega)) ?_
    rintro e w2 ⟨v, rfl, hI, hb2⟩
    have hI' := Lib.hid (hI.lower hb1.size)
    clear hI
    go_wp2
    go_returns
    unfold FracGives
    rw [H.out]
    exact ⟨v, rfl, hI'.out, belowTo hb1 hb2⟩
end Go.Proofs.YtncjidkgbfilkabDoor
