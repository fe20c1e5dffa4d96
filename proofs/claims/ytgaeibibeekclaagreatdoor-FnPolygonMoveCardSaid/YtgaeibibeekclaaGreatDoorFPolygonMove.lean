/- FnPolygonMove: the walk. -/
import Derived.Test.YtgaeibibeekclaaGreatDoorUv
import Derived.Test.YtgaeibibeekclaaGreatDoorK7
import Derived.Test.YtgaeibibeekclaaGreatDoorK0
import Derived.Test.YtgaeibibeekclaaGreatDoorJ2
import Derived.Test.YtgaeibibeekclaaGreatDoorBg
import Derived.Test.YtgaeibibeekclaaGreatDoorK1
import Derived.Test.YtgaeibibeekclaaGreatDoorL2
namespace Go.Proofs.YtgaeibibeekclaaGreatDoor
open Go.RowKit

set_option maxRecDepth 100000 in
set_option maxHeartbeats 16000000 in
theorem fnPolygonMove_any (a : Option Addr) (len cap : Nat) (w : World) (h : Bytes w a len cap) (hg : EtOk w) :
    Calls Tryz.prog 4 #[.slice a len cap] w fun e w' => e = .returned (.bool true) ∧ Below w.heap.size w w' := by
  by_cases hlen : len ≤ 1048576
  case neg =>
    have j1 : (1048576 : Int) < (len : Int) := by omega
    clear h hg
    go_enter Tryz.func4, Tryz.ntmps4
    go_wp2
    go_returns
    exact ⟨rfl, by go_grown⟩
  case pos =>
  have j1 : (len : Int) ≤ 1048576 := by omega
  have HO := Lib.hid (drawPolygonMove_any w a len cap h)
  clear h
  go_enter Tryz.func4, Tryz.ntmps4
  go_wp2_with fail
  refine Calls.mono HO.out ?_
  rintro e w1 ⟨v, l, x, y, z, u, rfl, hV, h2, h20, hb1⟩
  have HG := Lib.hid (hg.below hb1)
  have Hf := Lib.hid hV
  have HB : Hid (Below w.heap.size w w1) := hb1
  clear hb1 HO hg hV
  cases hk : (MoveB l x y z u && polyB (moveL x y z u l))
  · have C1 : Hid (∀ (w' : World) (v0 : Value), ReadsVecs w' v0 (l) → EtOk w' → Calls Tryz.prog 15 #[v0, .agg #[.int .i64 (x), .int .i64 (y), .int .i64 (z), .int .i64 (u)]] w' (GivesVecsR w' ([]) (false))) := fun w' v0 h0 hg' => by
      have h := polygonMove_any v0 l x y z u w' h0 hg'
      unfold MoveL at h; rw [hk] at h
      exact h
    have C2 : Hid (∀ (w' : World) (v0 : Value), ReadsVecs w' v0 (l) → EtOk w' → Calls Tryz.prog 16 #[v0, .agg #[.int .i64 (x), .int .i64 (y), .int .i64 (z), .int .i64 (u)]] w' (GivesVecsOk w' ([]) (false))) := fun w' v0 h0 hg' => by
      have h := specPolygonMove_any v0 l x y z u w' h0
      unfold MoveL at h; rw [hk] at h
      exact h
    clear hk
    go_wp2_with fail
    refine Calls.mono (C1.out _ _ (Hf.out.below (by go_grown)) (HG.out.below (by go_grown))) ?_
    rintro e w2 ⟨v2, rfl, hI2, hb2⟩
    have hB2 := belowTo (a := w1) (by go_grown) hb2
    replace Hf := Lib.hid (Hf.out.below hB2)
    have Hm : Hid (BoxAt w2 w1.heap.size [.int .i64 x, .int .i64 y, .int .i64 z, .int .i64 u]) := Lib.hid (BoxAt.below (BoxAt.made4 _ (.int .i64 x) (.int .i64 y) (.int .i64 z) (.int .i64 u) _) hb2)
    obtain ⟨mm0, mm1, mm2, mm3⟩ := Hm.out.four
    have ltm := Hm.out.1
    have nem := Nat.ne_of_lt ltm
    replace HG := Lib.hid (HG.out.below hB2)
    replace HB := Lib.hid (belowTo HB.out hB2)
    clear hb2 hB2
    have Ho1 := Lib.hid (VecsR.reads hI2 (by simp))
    clear hI2
    go_wp2_with fail
    refine Calls.mono (C2.out _ _ (Hf.out.below (by go_grown)) (HG.out.below (by go_grown))) ?_
    rintro e w3 ⟨v3, rfl, hI3, hb3⟩
    have hB3 := belowTo (a := w2) (by go_grown) hb3
    replace Hf := Lib.hid (Hf.out.below hB3)
    clear mm0 mm1 mm2 mm3 ltm nem
    replace Hm := Lib.hid (Hm.out.below hB3)
    replace Ho1 := Lib.hid (Ho1.out.below hB3)
    obtain ⟨mm0, mm1, mm2, mm3⟩ := Hm.out.four
    have ltm := Hm.out.1
    have nem := Nat.ne_of_lt ltm
    replace HG := Lib.hid (HG.out.below hB3)
    replace HB := Lib.hid (belowTo HB.out hB3)
    clear hb3 hB3
    have Ho2 := Lib.hid (Vecs.reads hI3 (by simp))
    clear hI3
    go_wp2_with fail
    refine Calls.mono (sameVecs_eq _ _ _ _ (Ho1.out.below (by go_grown)) (Ho2.out.below (by go_grown))) ?_
    rintro e w4 ⟨rfl, hb4⟩
    have hB4 := belowTo (a := w3) (by go_grown) hb4
    replace Hf := Lib.hid (Hf.out.below hB4)
    clear mm0 mm1 mm2 mm3 ltm nem
    replace Hm := Lib.hid (Hm.out.below hB4)
    replace Ho1 := Lib.hid (Ho1.out.below hB4)
    replace Ho2 := Lib.hid (Ho2.out.below hB4)
    obtain ⟨mm0, mm1, mm2, mm3⟩ := Hm.out.four
    have ltm := Hm.out.1
    have nem := Nat.ne_of_lt ltm
    replace HG := Lib.hid (HG.out.below hB4)
    replace HB := Lib.hid (belowTo HB.out hB4)
    clear hb4 hB4
    go_wp2_with fail
    refine Calls.mono (sameVecs_eq _ _ _ _ (Ho1.out.below (by go_grown)) (Ho2.out.below (by go_grown))) ?_
    rintro e w5 ⟨rfl, hb5⟩
    have hB5 := belowTo (a := w4) (by go_grown) hb5
    replace Hf := Lib.hid (Hf.out.below hB5)
    clear mm0 mm1 mm2 mm3 ltm nem
    replace Hm := Lib.hid (Hm.out.below hB5)
    replace Ho1 := Lib.hid (Ho1.out.below hB5)
    replace Ho2 := Lib.hid (Ho2.out.below hB5)
    obtain ⟨mm0, mm1, mm2, mm3⟩ := Hm.out.four
    have ltm := Hm.out.1
    have nem := Nat.ne_of_lt ltm
    replace HG := Lib.hid (HG.out.below hB5)
    replace HB := Lib.hid (belowTo HB.out hB5)
    clear hb5 hB5
    go_wp2
    go_returns
    exact ⟨rfl, HB.out⟩
  · have C1 : Hid (∀ (w' : World) (v0 : Value), ReadsVecs w' v0 (l) → EtOk w' → Calls Tryz.prog 15 #[v0, .agg #[.int .i64 (x), .int .i64 (y), .int .i64 (z), .int .i64 (u)]] w' (GivesVecsR w' (tidyP (moveL x y z u l)) (true))) := fun w' v0 h0 hg' => by
      have h := polygonMove_any v0 l x y z u w' h0 hg'
      unfold MoveL at h; rw [hk] at h
      exact h
    have C2 : Hid (∀ (w' : World) (v0 : Value), ReadsVecs w' v0 (l) → EtOk w' → Calls Tryz.prog 16 #[v0, .agg #[.int .i64 (x), .int .i64 (y), .int .i64 (z), .int .i64 (u)]] w' (GivesVecsOk w' (tidyP (moveL x y z u l)) (true))) := fun w' v0 h0 hg' => by
      have h := specPolygonMove_any v0 l x y z u w' h0
      unfold MoveL at h; rw [hk] at h
      exact h
    rw [Bool.and_eq_true] at hk
    obtain ⟨q0, q1⟩ := hk
    unfold MoveB at q0
    rw [Bool.and_eq_true] at q0
    obtain ⟨hk, hM⟩ := q0
    have pt : polyB (tidyP (moveL x y z u l)) = true := by rw [tidyP_poly]; exact q1
    obtain ⟨q3, q4, q6⟩ := pe_numsM hk hM
    have q5 := pe_move hk hM q1
    have C3 : Hid (∀ (w' : World) (v0 : Value), ReadsVecs w' v0 (tidyP (moveL x y z u l)) → EtOk w' → Calls Tryz.prog 11 #[v0] w' (fun e w'' => e = .returned (.tuple #[.int .i64 (areaZ l), .bool (true)]) ∧ Below w'.heap.size w' w'')) := fun w' v0 h0 hg' => by
      have h := polygonArea_any v0 (tidyP (moveL x y z u l)) w' h0 hg'
      rw [pt, show gate true (areaZ (tidyP (moveL x y z u l))) = areaZ (tidyP (moveL x y z u l)) from rfl, q3] at h
      exact h
    have C4 : Hid (∀ (w' : World) (v0 : Value), ReadsVecs w' v0 (l) → EtOk w' → Calls Tryz.prog 11 #[v0] w' (fun e w'' => e = .returned (.tuple #[.int .i64 (areaZ l), .bool (true)]) ∧ Below w'.heap.size w' w'')) := fun w' v0 h0 hg' => by
      have h := polygonArea_any v0 (l) w' h0 hg'
      rw [hk] at h
      exact h
    have C5 : Hid (∀ (w' : World) (v0 : Value), ReadsVecs w' v0 (tidyP (moveL x y z u l)) → EtOk w' → Calls Tryz.prog 12 #[v0] w' (fun e w'' => e = .returned (.tuple #[.int .i64 (edgeZ l l.length), .bool (true)]) ∧ Below w'.heap.size w' w'')) := fun w' v0 h0 hg' => by
      have h := polygonEdge_any v0 (tidyP (moveL x y z u l)) w' h0 hg'
      rw [pt, show gate true (edgeZ (tidyP (moveL x y z u l)) (tidyP (moveL x y z u l)).length) = edgeZ (tidyP (moveL x y z u l)) (tidyP (moveL x y z u l)).length from rfl, q4] at h
      exact h
    have C6 : Hid (∀ (w' : World) (v0 : Value), ReadsVecs w' v0 (l) → EtOk w' → Calls Tryz.prog 12 #[v0] w' (fun e w'' => e = .returned (.tuple #[.int .i64 (edgeZ l l.length), .bool (true)]) ∧ Below w'.heap.size w' w'')) := fun w' v0 h0 hg' => by
      have h := polygonEdge_any v0 (l) w' h0 hg'
      rw [hk] at h
      exact h
    have C8 : Hid (∀ (w' : World) (v0 : Value), ReadsVecs w' v0 (tidyP (moveL x y z u l)) → EtOk w' → Calls Tryz.prog 17 #[v0] w' (fun e w'' => e = .returned (.tuple #[.int .i64 (innerZ l), .bool (true)]) ∧ Below w'.heap.size w' w'')) := fun w' v0 h0 hg' => by
      have h := polygonInner_any v0 (tidyP (moveL x y z u l)) w' h0 hg'
      rw [pt, show gate true (innerZ (tidyP (moveL x y z u l))) = innerZ (tidyP (moveL x y z u l)) from rfl, q6] at h
      exact h
    have C9 : Hid (∀ (w' : World) (v0 : Value), ReadsVecs w' v0 (l) → EtOk w' → Calls Tryz.prog 17 #[v0] w' (fun e w'' => e = .returned (.tuple #[.int .i64 (innerZ l), .bool (true)]) ∧ Below w'.heap.size w' w'')) := fun w' v0 h0 hg' => by
      have h := polygonInner_any v0 (l) w' h0 hg'
      rw [hk] at h
      exact h
    have C7 : Hid (∀ (w' : World) (v0 : Value) (v1 : Value), ReadsVecs w' v0 (l) → ReadsVecs w' v1 (tidyP (moveL x y z u l)) → EtOk w' → Calls Tryz.prog 13 #[v0, v1] w' (fun e w'' => e = .returned (.bool (true)) ∧ Below w'.heap.size w' w'')) := fun w' v0 v1 h0 h1 hg' => by
      have h := polygonSame_any v0 v1 l (tidyP (moveL x y z u l)) w' h0 h1 hg'
      rw [q5] at h
      exact h
    have HL : Hid ((tidyP (moveL x y z u l)).length ≤ 1000) := by show _ ≤ _; rw [tidyP_len, moveL_len]; omega
    generalize tidyP (moveL x y z u l) = m at *
    generalize areaZ l = A at *
    generalize edgeZ l l.length = E at *
    generalize innerZ l = N at *
    clear q1 q3 q4 q5 q6 pt hk hM
    go_wp2_with fail
    refine Calls.mono (C1.out _ _ (Hf.out.below (by go_grown)) (HG.out.below (by go_grown))) ?_
    rintro e w2 ⟨v2, rfl, hI2, hb2⟩
    have hB2 := belowTo (a := w1) (by go_grown) hb2
    replace Hf := Lib.hid (Hf.out.below hB2)
    have Hm : Hid (BoxAt w2 w1.heap.size [.int .i64 x, .int .i64 y, .int .i64 z, .int .i64 u]) := Lib.hid (BoxAt.below (BoxAt.made4 _ (.int .i64 x) (.int .i64 y) (.int .i64 z) (.int .i64 u) _) hb2)
    obtain ⟨mm0, mm1, mm2, mm3⟩ := Hm.out.four
    have ltm := Hm.out.1
    have nem := Nat.ne_of_lt ltm
    replace HG := Lib.hid (HG.out.below hB2)
    replace HB := Lib.hid (belowTo HB.out hB2)
    clear hb2 hB2
    have Ho := Lib.hid (VecsR.reads hI2 (by have := HL.out; omega))
    clear hI2
    go_wp2_with fail
    refine Calls.mono (C2.out _ _ (Hf.out.below (by go_grown)) (HG.out.below (by go_grown))) ?_
    rintro e w3 ⟨v3, rfl, hI3, hb3⟩
    have hB3 := belowTo (a := w2) (by go_grown) hb3
    replace Hf := Lib.hid (Hf.out.below hB3)
    clear mm0 mm1 mm2 mm3 ltm nem
    replace Hm := Lib.hid (Hm.out.below hB3)
    replace Ho := Lib.hid (Ho.out.below hB3)
    obtain ⟨mm0, mm1, mm2, mm3⟩ := Hm.out.four
    have ltm := Hm.out.1
    have nem := Nat.ne_of_lt ltm
    replace HG := Lib.hid (HG.out.below hB3)
    replace HB := Lib.hid (belowTo HB.out hB3)
    clear hb3 hB3
    have Ho2 := Lib.hid (Vecs.reads hI3 (by have := HL.out; omega))
    clear hI3
    go_wp2_with fail
    refine Calls.mono (sameVecs_eq _ _ _ _ (Ho.out.below (by go_grown)) (Ho2.out.below (by go_grown))) ?_
    rintro e w4 ⟨rfl, hb4⟩
    have hB4 := belowTo (a := w3) (by go_grown) hb4
    replace Hf := Lib.hid (Hf.out.below hB4)
    clear mm0 mm1 mm2 mm3 ltm nem
    replace Hm := Lib.hid (Hm.out.below hB4)
    replace Ho := Lib.hid (Ho.out.below hB4)
    replace Ho2 := Lib.hid (Ho2.out.below hB4)
    obtain ⟨mm0, mm1, mm2, mm3⟩ := Hm.out.four
    have ltm := Hm.out.1
    have nem := Nat.ne_of_lt ltm
    replace HG := Lib.hid (HG.out.below hB4)
    replace HB := Lib.hid (belowTo HB.out hB4)
    clear hb4 hB4
    clear Ho2
    go_wp2_with fail
    refine Calls.mono (C3.out _ _ (Ho.out.below (by go_grown)) (HG.out.below (by go_grown))) ?_
    rintro e w5 ⟨rfl, hb5⟩
    have hB5 := belowTo (a := w4) (by go_grown) hb5
    replace Hf := Lib.hid (Hf.out.below hB5)
    clear mm0 mm1 mm2 mm3 ltm nem
    replace Hm := Lib.hid (Hm.out.below hB5)
    replace Ho := Lib.hid (Ho.out.below hB5)
    obtain ⟨mm0, mm1, mm2, mm3⟩ := Hm.out.four
    have ltm := Hm.out.1
    have nem := Nat.ne_of_lt ltm
    replace HG := Lib.hid (HG.out.below hB5)
    replace HB := Lib.hid (belowTo HB.out hB5)
    clear hb5 hB5
    go_wp2_with fail
    refine Calls.mono (C4.out _ _ (Hf.out.below (by go_grown)) (HG.out.below (by go_grown))) ?_
    rintro e w6 ⟨rfl, hb6⟩
    have hB6 := belowTo (a := w5) (by go_grown) hb6
    replace Hf := Lib.hid (Hf.out.below hB6)
    clear mm0 mm1 mm2 mm3 ltm nem
    replace Hm := Lib.hid (Hm.out.below hB6)
    replace Ho := Lib.hid (Ho.out.below hB6)
    obtain ⟨mm0, mm1, mm2, mm3⟩ := Hm.out.four
    have ltm := Hm.out.1
    have nem := Nat.ne_of_lt ltm
    replace HG := Lib.hid (HG.out.below hB6)
    replace HB := Lib.hid (belowTo HB.out hB6)
    clear hb6 hB6
    go_wp2_with fail
    refine Calls.mono (C5.out _ _ (Ho.out.below (by go_grown)) (HG.out.below (by go_grown))) ?_
    rintro e w7 ⟨rfl, hb7⟩
    have hB7 := belowTo (a := w6) (by go_grown) hb7
    replace Hf := Lib.hid (Hf.out.below hB7)
    clear mm0 mm1 mm2 mm3 ltm nem
    replace Hm := Lib.hid (Hm.out.below hB7)
    replace Ho := Lib.hid (Ho.out.below hB7)
    obtain ⟨mm0, mm1, mm2, mm3⟩ := Hm.out.four
    have ltm := Hm.out.1
    have nem := Nat.ne_of_lt ltm
    replace HG := Lib.hid (HG.out.below hB7)
    replace HB := Lib.hid (belowTo HB.out hB7)
    clear hb7 hB7
    go_wp2_with fail
    refine Calls.mono (C6.out _ _ (Hf.out.below (by go_grown)) (HG.out.below (by go_grown))) ?_
    rintro e w8 ⟨rfl, hb8⟩
    have hB8 := belowTo (a := w7) (by go_grown) hb8
    replace Hf := Lib.hid (Hf.out.below hB8)
    clear mm0 mm1 mm2 mm3 ltm nem
    replace Hm := Lib.hid (Hm.out.below hB8)
    replace Ho := Lib.hid (Ho.out.below hB8)
    obtain ⟨mm0, mm1, mm2, mm3⟩ := Hm.out.four
    have ltm := Hm.out.1
    have nem := Nat.ne_of_lt ltm
    replace HG := Lib.hid (HG.out.below hB8)
    replace HB := Lib.hid (belowTo HB.out hB8)
    clear hb8 hB8
    go_wp2_with fail
    refine Calls.mono (C8.out _ _ (Ho.out.below (by go_grown)) (HG.out.below (by go_grown))) ?_
    rintro e w9 ⟨rfl, hb9⟩
    have hB9 := belowTo (a := w8) (by go_grown) hb9
    replace Hf := Lib.hid (Hf.out.below hB9)
    clear mm0 mm1 mm2 mm3 ltm nem
    replace Hm := Lib.hid (Hm.out.below hB9)
    replace Ho := Lib.hid (Ho.out.below hB9)
    obtain ⟨mm0, mm1, mm2, mm3⟩ := Hm.out.four
    have ltm := Hm.out.1
    have nem := Nat.ne_of_lt ltm
    replace HG := Lib.hid (HG.out.below hB9)
    replace HB := Lib.hid (belowTo HB.out hB9)
    clear hb9 hB9
    go_wp2_with fail
    refine Calls.mono (C9.out _ _ (Hf.out.below (by go_grown)) (HG.out.below (by go_grown))) ?_
    rintro e w10 ⟨rfl, hb10⟩
    have hB10 := belowTo (a := w9) (by go_grown) hb10
    replace Hf := Lib.hid (Hf.out.below hB10)
    clear mm0 mm1 mm2 mm3 ltm nem
    replace Hm := Lib.hid (Hm.out.below hB10)
    replace Ho := Lib.hid (Ho.out.below hB10)
    obtain ⟨mm0, mm1, mm2, mm3⟩ := Hm.out.four
    have ltm := Hm.out.1
    have nem := Nat.ne_of_lt ltm
    replace HG := Lib.hid (HG.out.below hB10)
    replace HB := Lib.hid (belowTo HB.out hB10)
    clear hb10 hB10
    go_wp2_with fail
    refine Calls.mono (C7.out _ _ _ (Hf.out.below (by go_grown)) (Ho.out.below (by go_grown)) (HG.out.below (by go_grown))) ?_
    rintro e w11 ⟨rfl, hb11⟩
    have hB11 := belowTo (a := w10) (by go_grown) hb11
    replace Hf := Lib.hid (Hf.out.below hB11)
    clear mm0 mm1 mm2 mm3 ltm nem
    replace Hm := Lib.hid (Hm.out.below hB11)
    replace Ho := Lib.hid (Ho.out.below hB11)
    obtain ⟨mm0, mm1, mm2, mm3⟩ := Hm.out.four
    have ltm := Hm.out.1
    have nem := Nat.ne_of_lt ltm
    replace HG := Lib.hid (HG.out.below hB11)
    replace HB := Lib.hid (belowTo HB.out hB11)
    clear hb11 hB11
    go_wp2
    go_returns
    exact ⟨rfl, HB.out⟩
end Go.Proofs.YtgaeibibeekclaaGreatDoor
