import Derived.Test.YtncjidkgbfilkabFb
import Derived.Test.YtncjidkgbfilkabSc
namespace Go.Proofs.Ytncjidkgbfilkab
open Go.RowKit

theorem fractionOf_gives (n q : Int) (w : World) : Calls Try.prog 5 #[.int .i64 n, .int .i64 q] w (GivesIntsOk w (gateL (fractOk n q) (fracZ n q)) (fractOk n q)) := fractionOfE_any n q w
theorem specFractionOf_gives (n q : Int) (w : World) : Calls Try.prog 4 #[.int .i64 n, .int .i64 q] w (GivesIntsOk w (gateL (fractOk n q) (fracZ n q)) (fractOk n q)) := specFractionOf_any n q w
theorem fract_len (n q : Int) : (gateL (fractOk n q) (fracZ n q)).length ≤ 1152921504606846976 := by
  cases h : fractOk n q
  · exact Nat.zero_le _
  · obtain ⟨h1, h2, h3, _⟩ := fract_in h
    have := frac_len n q
    show (fracZ n q).length ≤ _
    omega
set_option maxHeartbeats 4000000 in
theorem exactFractionOf_any (n q : Int) (w : World) :
    Calls Try.prog 3 #[.int .i64 n, .int .i64 q] w fun e w' => e = .returned (.bool true) ∧ Below w.heap.size w w' := by
  have hlen : (gateL (fractOk n q) (fracZ n q)).length ≤ 1152921504606846976 := fract_len n q
  have SP := Lib.hid (fun w' => specFractionOf_gives n q w')
  have IM := Lib.hid (fun w' => fractionOf_gives n q w')
  generalize hL : gateL (fractOk n q) (fracZ n q) = L at SP IM hlen
  generalize hK : fractOk n q = K at SP IM
  clear hL hK
  go_enter Try.func3, Try.ntmps3
  have hA : Below w.heap.size w w := Below.refl _ _
  go_wp2_with fail
  refine Calls.mono (SP.out _) ?_
  rintro e w1 ⟨v0, rfl, I0, hb1⟩
  replace I0 := Lib.hid I0
  replace hA := belowTo hA hb1
  clear hb1
  have B0 := Lib.hid (fun k hk => (I0.out.block k hk).2)
  go_wp2_with fail
  refine Calls.mono (IM.out _) ?_
  rintro e w2 ⟨v1, rfl, I1, hb2⟩
  have B1 := Lib.hid (fun k hk => (I1.block k hk).1)
  have hsz := hb2.size
  have hwb := hA.size
  replace I1 := Lib.hid I1
  replace I0 := Lib.hid (I0.out.below hb2)
  replace hA := belowTo hA hb2
  clear hb2
  go_wp2_with fail
  refine Calls.mono (eqIntS_same v1 v0 _ _ L _ I1.out I0.out) ?_
  rintro e w3 ⟨rfl, hb3⟩
  have hsz2 := Nat.le_trans hsz hb3.size
  replace I0 := Lib.hid (I0.out.below hb3)
  replace I1 := Lib.hid (I1.out.below hb3)
  replace hA := belowTo hA hb3
  clear hb3
  go_wp2_with fail
  refine Calls.mono (markIntS_own v1 _ L _ I1.out hlen) ?_
  rintro e w4 ⟨rfl, M1, hG⟩
  replace M1 := Lib.hid M1
  have hb4 := grown_below hG hsz2 B1.out
  replace I0 := Lib.hid (I0.out.far hG (fun k hk e => Nat.lt_irrefl _ (Nat.lt_of_lt_of_le (B0.out k hk) (B1.out k e))))
  replace hA := hA.trans (hb4.mono hwb)
  clear hb4 hG I1 hsz hsz2 B0 B1 hwb
  have hz : (0 : Int) ≤ ((1 + L.length : Nat) : Int) := by omega
  have HL : Hid (∀ w', Ints w' w1.heap.size v1 (marks 1 L.length) → Calls Try.prog 8 #[v1, .int .i64 1] w' fun e w2 => e = .returned (.int .i64 ((1 + L.length : Nat) : Int)) ∧ w' = w2) := fun w' h => heldIntS_own v1 _ L.length w' h hlen
  generalize ((1 + L.length : Nat) : Int) = z at hz HL
  go_wp2_with fail
  refine Calls.mono (HL.out _ M1.out) ?_
  rintro e w0 ⟨rfl, rfl⟩
  go_wp2_with fail
  refine Calls.mono (IM.out _) ?_
  rintro e w5 ⟨v2, rfl, I2, hb5⟩
  replace I2 := Lib.hid I2
  replace I0 := Lib.hid (I0.out.below hb5)
  replace M1 := Lib.hid (M1.out.below hb5)
  replace hA := belowTo hA hb5
  clear hb5
  go_wp2_with fail
  refine Calls.mono (eqIntS_same v2 v0 _ _ L _ I2.out I0.out) ?_
  rintro e w6 ⟨rfl, hb6⟩
  replace M1 := Lib.hid (M1.out.below hb6)
  replace hA := belowTo hA hb6
  clear hb6 I0 I2
  go_wp2_with fail
  refine Calls.mono (HL.out _ M1.out) ?_
  rintro e w0 ⟨rfl, rfl⟩
  go_wp2
  go_returns
  exact ⟨rfl, hA⟩
end Go.Proofs.Ytncjidkgbfilkab
