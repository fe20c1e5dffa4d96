import Derived.Test.YtncjidkgbfilkabDoorVi
namespace Go.Proofs.YtncjidkgbfilkabDoor
open Go.RowKit

set_option maxHeartbeats 4000000 in
theorem exactConeBase_any (a b c d : Int) (w : World) (hg : EtOk w) :
    Calls Tryd.prog 3 #[.agg #[.int .i64 (a), .int .i64 (b), .int .i64 (c), .int .i64 (d)]] w fun e w' => e = .returned (.bool true) ∧ Below w.heap.size w w' := by
  have hlen : (gateV (coneB a b c d) (baseL a b c d)).length ≤ 576460752303423488 := gateV_len (fun h => Nat.le_trans (baseL_len h) (by decide))
  have SP := Lib.hid (fun w' => specConeBase_any a b c d w')
  have IM := Lib.hid (fun w' (hg' : EtOk w') => coneBase_any a b c d w' hg')
  generalize hL : gateV (coneB a b c d) (baseL a b c d) = L at SP IM hlen
  generalize hK : coneB a b c d = K at SP IM
  clear hL hK
  go_enter Tryd.func3, Tryd.ntmps3
  go_wp2_with fail
  go_call (toCone_any a b c d _) as e w1 ⟨rfl, hb1⟩
  have c0 : w1.cell? ⟨w.heap.size, 0, none⟩ = some (.int .i64 a) := (hb1.cell (p := ⟨w.heap.size, 0, none⟩) (by simp only [World.size_alloc]; omega)).trans (by simp)
  have c1 : w1.cell? ⟨w.heap.size, 1, none⟩ = some (.int .i64 b) := (hb1.cell (p := ⟨w.heap.size, 1, none⟩) (by simp only [World.size_alloc]; omega)).trans (by simp)
  have c2 : w1.cell? ⟨w.heap.size, 2, none⟩ = some (.int .i64 c) := (hb1.cell (p := ⟨w.heap.size, 2, none⟩) (by simp only [World.size_alloc]; omega)).trans (by simp)
  have c3 : w1.cell? ⟨w.heap.size, 3, none⟩ = some (.int .i64 d) := (hb1.cell (p := ⟨w.heap.size, 3, none⟩) (by simp only [World.size_alloc]; omega)).trans (by simp)
  have hs0 : w.heap.size < w1.heap.size := bsize hb1 _ (by simp only [World.size_alloc]; omega)
  have hA : Below w.heap.size w w1 := belowTo (by go_grown) hb1
  clear hb1
  go_wp2_with fail
  refine Calls.mono (SP.out _) ?_
  rintro e w2 ⟨v0, rfl, I0, hb2⟩
  replace I0 := Lib.hid I0
  replace c0 := (hb2.cell (p := ⟨w.heap.size, 0, none⟩) hs0).trans c0
  replace c1 := (hb2.cell (p := ⟨w.heap.size, 1, none⟩) hs0).trans c1
  replace c2 := (hb2.cell (p := ⟨w.heap.size, 2, none⟩) hs0).trans c2
  replace c3 := (hb2.cell (p := ⟨w.heap.size, 3, none⟩) hs0).trans c3
  replace hs0 := Nat.lt_of_lt_of_le hs0 hb2.size
  replace hA := belowTo hA hb2
  clear hb2
  go_wp2_with fail
  go_call (toCone_any a b c d _) as e w3 ⟨rfl, hb3⟩
  replace c0 := (hb3.cell (p := ⟨w.heap.size, 0, none⟩) hs0).trans c0
  replace c1 := (hb3.cell (p := ⟨w.heap.size, 1, none⟩) hs0).trans c1
  replace c2 := (hb3.cell (p := ⟨w.heap.size, 2, none⟩) hs0).trans c2
  replace c3 := (hb3.cell (p := ⟨w.heap.size, 3, none⟩) hs0).trans c3
  replace hs0 := Nat.lt_of_lt_of_le hs0 hb3.size
  replace I0 := Lib.hid (I0.out.below hb3)
  replace hA := belowTo hA hb3
  clear hb3
  have B0 := Lib.hid (fun k hk => (I0.out.block k hk).2)
  go_wp2_with fail
  refine Calls.mono (IM.out _ (hg.below hA)) ?_
  rintro e w4 ⟨v1, rfl, I1, hb4⟩
  have B1 := Lib.hid (fun k hk => (I1.block k hk).1)
  have hsz := hb4.size
  have hk0 := hs0
  have hwb := hA.size
  replace I1 := Lib.hid I1
  replace c0 := (hb4.cell (p := ⟨w.heap.size, 0, none⟩) hs0).trans c0
  replace c1 := (hb4.cell (p := ⟨w.heap.size, 1, none⟩) hs0).trans c1
  replace c2 := (hb4.cell (p := ⟨w.heap.size, 2, none⟩) hs0).trans c2
  replace c3 := (hb4.cell (p := ⟨w.heap.size, 3, none⟩) hs0).trans c3
  replace hs0 := Nat.lt_of_lt_of_le hs0 hb4.size
  replace I0 := Lib.hid (I0.out.below hb4)
  replace hA := belowTo hA hb4
  clear hb4
  go_wp2_with fail
  refine Calls.mono (eqVecS_same v1 v0 _ _ L _ I1.out I0.out) ?_
  rintro e w5 ⟨rfl, hb5⟩
  have hsz2 := Nat.le_trans hsz hb5.size
  replace c0 := (hb5.cell (p := ⟨w.heap.size, 0, none⟩) hs0).trans c0
  replace c1 := (hb5.cell (p := ⟨w.heap.size, 1, none⟩) hs0).trans c1
  replace c2 := (hb5.cell (p := ⟨w.heap.size, 2, none⟩) hs0).trans c2
  replace c3 := (hb5.cell (p := ⟨w.heap.size, 3, none⟩) hs0).trans c3
  replace hs0 := Nat.lt_of_lt_of_le hs0 hb5.size
  replace I0 := Lib.hid (I0.out.below hb5)
  replace I1 := Lib.hid (I1.out.below hb5)
  replace hA := belowTo hA hb5
  clear hb5
  go_wp2_with fail
  refine Calls.mono (markVecS_own v1 _ L _ I1.out hlen) ?_
  rintro e w6 ⟨rfl, M1, hG⟩
  replace M1 := Lib.hid M1
  have hb6 := grown_below hG hsz2 B1.out
  replace I0 := Lib.hid (I0.out.far hG (fun k hk e => Nat.lt_irrefl _ (Nat.lt_of_lt_of_le (B0.out k hk) (B1.out k e))))
  replace c0 := (hb6.cell (p := ⟨w.heap.size, 0, none⟩) hk0).trans c0
  replace c1 := (hb6.cell (p := ⟨w.heap.size, 1, none⟩) hk0).trans c1
  replace c2 := (hb6.cell (p := ⟨w.heap.size, 2, none⟩) hk0).trans c2
  replace c3 := (hb6.cell (p := ⟨w.heap.size, 3, none⟩) hk0).trans c3
  replace hs0 := Nat.lt_of_lt_of_le hs0 hb6.size
  replace hA := hA.trans (hb6.mono hwb)
  clear hb6 hG I1 hsz hsz2 B0 B1 hk0 hwb
  have hz : (0 : Int) ≤ ((1 + L.length * 2 : Nat) : Int) := by omega
  have HL : Hid (∀ w', VRow w' w3.heap.size v1 L.length (marks 1 (L.length * 2)) → Calls Tryd.prog 15 #[v1, .int .i64 1] w' fun e w2 => e = .returned (.int .i64 ((1 + L.length * 2 : Nat) : Int)) ∧ w' = w2) := fun w' h => heldVecS_own v1 _ L.length w' h hlen
  generalize ((1 + L.length * 2 : Nat) : Int) = z at hz HL
  go_wp2_with fail
  refine Calls.mono (HL.out _ M1.out) ?_
  rintro e w0 ⟨rfl, rfl⟩
  go_wp2_with fail
  go_call (toCone_any a b c d _) as e w7 ⟨rfl, hb7⟩
  replace c0 := (hb7.cell (p := ⟨w.heap.size, 0, none⟩) hs0).trans c0
  replace c1 := (hb7.cell (p := ⟨w.heap.size, 1, none⟩) hs0).trans c1
  replace c2 := (hb7.cell (p := ⟨w.heap.size, 2, none⟩) hs0).trans c2
  replace c3 := (hb7.cell (p := ⟨w.heap.size, 3, none⟩) hs0).trans c3
  replace hs0 := Nat.lt_of_lt_of_le hs0 hb7.size
  replace I0 := Lib.hid (I0.out.below hb7)
  replace M1 := Lib.hid (M1.out.below hb7)
  replace hA := belowTo hA hb7
  clear hb7
  go_wp2_with fail
  refine Calls.mono (IM.out _ (hg.below hA)) ?_
  rintro e w8 ⟨v2, rfl, I2, hb8⟩
  replace I2 := Lib.hid I2
  replace c0 := (hb8.cell (p := ⟨w.heap.size, 0, none⟩) hs0).trans c0
  replace c1 := (hb8.cell (p := ⟨w.heap.size, 1, none⟩) hs0).trans c1
  replace c2 := (hb8.cell (p := ⟨w.heap.size, 2, none⟩) hs0).trans c2
  replace c3 := (hb8.cell (p := ⟨w.heap.size, 3, none⟩) hs0).trans c3
  replace hs0 := Nat.lt_of_lt_of_le hs0 hb8.size
  replace I0 := Lib.hid (I0.out.below hb8)
  replace M1 := Lib.hid (M1.out.below hb8)
  replace hA := belowTo hA hb8
  clear hb8
  go_wp2_with fail
  refine Calls.mono (eqVecS_same v2 v0 _ _ L _ I2.out I0.out) ?_
  rintro e w9 ⟨rfl, hb9⟩
  replace c0 := (hb9.cell (p := ⟨w.heap.size, 0, none⟩) hs0).trans c0
  replace c1 := (hb9.cell (p := ⟨w.heap.size, 1, none⟩) hs0).trans c1
  replace c2 := (hb9.cell (p := ⟨w.heap.size, 2, none⟩) hs0).trans c2
  replace c3 := (hb9.cell (p := ⟨w.heap.size, 3, none⟩) hs0).trans c3
  replace hs0 := Nat.lt_of_lt_of_le hs0 hb9.size
  replace M1 := Lib.hid (M1.out.below hb9)
  replace hA := belowTo hA hb9
  clear hb9 I0 I2
  go_wp2_with fail
  refine Calls.mono (HL.out _ M1.out) ?_
  rintro e w0 ⟨rfl, rfl⟩
  go_wp2
  go_returns
  exact ⟨rfl, hA⟩
end Go.Proofs.YtncjidkgbfilkabDoor
