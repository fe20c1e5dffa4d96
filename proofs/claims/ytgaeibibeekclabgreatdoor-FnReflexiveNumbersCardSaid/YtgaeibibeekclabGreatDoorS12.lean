import Derived.Test.YtgaeibibeekclabGreatDoorProg
import Derived.Test.YtgaeibibeekclabGreatDoorS01
import Derived.Test.YtgaeibibeekclabGreatDoorS03
import Derived.Test.YtgaeibibeekclabGreatDoorS04
import Derived.Test.YtgaeibibeekclabGreatDoorS06
import Derived.Test.YtgaeibibeekclabGreatDoorS07
import Derived.Test.YtgaeibibeekclabGreatDoorS08
import Derived.Test.YtgaeibibeekclabGreatDoorS09
import Derived.Test.YtgaeibibeekclabGreatDoorS11
import Derived.WalkKit
import Derived.LaidEql
import Derived.Stop.Asserts
import Derived.RowKitTokens
import Derived.Handy
import Derived.WalkSpells
import Derived.WalkLawsBesides
import Derived.Deep.QuietTactic
import Derived.BigQuiet
import Derived.Lib.Hide
import Derived.Deep.RegionHeld3
import Derived.Deep.DeepCutAuto
import Derived.Deep.AppendLies
import Derived.Laws.OwnMore
import Derived.Laws.MakeOwn
import Derived.OwnWalk
import Derived.WalkSmall
import Derived.Maps.AppendAt
import Derived.RangeFuncBox
import Derived.RegionTactic
import Derived.ChangeAlike
import Derived.RangeFuncNested
import Derived.StillTail
import Derived.OrdersIn
import Derived.AtR
import Derived.RangeFuncBound
import Derived.RangeFuncCalls
import Derived.RangeFuncLeaves
import Derived.Shelf.Abstract
import Derived.OwnWalkIn
import Derived.TacticsInMore
import Derived.LoopNIn
import Derived.LoopIn
import Derived.LaidEqlPtr
import Derived.BigRegion
import Derived.StillTailTactics
import Derived.Deep.RegionHeld
import Derived.Laws.StructEq
import Derived.Lib.MinMax
namespace Go.Proofs.YtgaeibibeekclabGreatDoor
open Go.RowKit
/-- the vectors with one X of which P holds -/
def colS (P : V2 → Bool) (x y0 : Int) (k : Nat) : List V2 := (List.range k).flatMap fun (j : Nat) => if P (x, y0 + (j : Int)) then [(x, y0 + (j : Int))] else []
def rowsS (P : V2 → Bool) (x0 y0 : Int) (m n : Nat) : List V2 := (List.range n).flatMap fun (i : Nat) => colS P (x0 + (i : Int)) y0 m
theorem colS_succ (P : V2 → Bool) (x y0 : Int) (k : Nat) : colS P x y0 (k + 1) = colS P x y0 k ++ (if P (x, y0 + (k : Int)) then [(x, y0 + (k : Int))] else []) := by
  unfold colS
  rw [List.range_succ, List.flatMap_append]
  simp
theorem rowsS_succ (P : V2 → Bool) (x0 y0 : Int) (m n : Nat) : rowsS P x0 y0 m (n + 1) = rowsS P x0 y0 m n ++ colS P (x0 + (n : Int)) y0 m := by
  unfold rowsS
  rw [List.range_succ, List.flatMap_append]
  simp
theorem colS_len (P : V2 → Bool) (x y0 : Int) (k : Nat) : (colS P x y0 k).length ≤ k := by
  induction k with
  | zero => exact Nat.le_refl _
  | succ k ih =>
    rw [colS_succ, List.length_append]
    split <;> simp <;> omega
theorem rowsS_len (P : V2 → Bool) (x0 y0 : Int) (m n : Nat) : (rowsS P x0 y0 m n).length ≤ n * m := by
  induction n with
  | zero => exact Nat.zero_le _
  | succ n ih =>
    have := colS_len P (x0 + (n : Int)) y0 m
    rw [rowsS_succ, List.length_append, Nat.succ_mul]
    omega
def boxA (l : List V2) (d : List Int) : Nat → Int
  | 0 => -bndZ l d (1, 0)
  | 1 => bndZ l d (-1, 0)
  | 2 => -bndZ l d (0, 1)
  | _ => bndZ l d (0, -1)
def widN (a b : Int) : Nat := (b - a + 1).toNat
def sz4A (A : Nat → Int) : Bool := szB (A 0) && (szB (A 1) && (szB (A 2) && szB (A 3)))
def roomB (A : Nat → Int) : Bool := decide (widN (A 0) (A 1) * widN (A 2) (A 3) ≤ 10000)
/-- is there a box within the limits; its sections -/
def secB (l : List V2) (d : List Int) : Bool := divB l d && (sz4A (boxA l d) && roomB (boxA l d))
def secL (l : List V2) (d : List Int) : List V2 := rowsS (hasZ l d) (boxA l d 0) (boxA l d 2) (widN (boxA l d 2) (boxA l d 3)) (widN (boxA l d 0) (boxA l d 1))
theorem sz4A_no {A : Nat → Int} {k : Nat} (hk : k < 4) (h : szB (A k) = false) : sz4A A = false := by
  unfold sz4A
  rcases (show k = 0 ∨ k = 1 ∨ k = 2 ∨ k = 3 by omega) with rfl | rfl | rfl | rfl <;> rw [h] <;> simp
theorem sz4A_yes {A : Nat → Int} (h : ∀ k, k < 4 → szB (A k) = true) : sz4A A = true := by
  unfold sz4A
  rw [h 0 (by omega), h 1 (by omega), h 2 (by omega), h 3 (by omega)]
  rfl
theorem BoxAt.grown {w w' : World} {M : Nat} {vs : List Value} {row : Option Nat} (h : BoxAt w M vs) (hg : w.grownBy w' row) (hne : row ≠ some M) : BoxAt w' M vs :=
  ⟨Nat.lt_of_lt_of_le h.1 hg.size, fun i v hv => (World.cell?_of_block (a := ⟨M, i, none⟩) (hg.block M h.1 (fun e => hne e.symm))).trans (h.2 i v hv)⟩
theorem BoxAt.made4w (w : World) (x y z u : Int) : BoxAt (w.alloc (.cells #[.int .i64 x, .int .i64 y, .int .i64 z, .int .i64 u] 138)) w.heap.size [.int .i64 x, .int .i64 y, .int .i64 z, .int .i64 u] := BoxAt.made4 _ _ _ _ _ _
def Box4 (w : World) (M : Nat) (A : Nat → Int) : Prop := BoxAt w M [.int .i64 (A 0), .int .i64 (A 1), .int .i64 (A 2), .int .i64 (A 3)]
theorem Box4.at {w : World} {M : Nat} {A : Nat → Int} (h : Box4 w M A) {k : Nat} (hk : k < 4) : w.cell? ⟨M, k, none⟩ = some (.int .i64 (A k)) := by
  rcases (show k = 0 ∨ k = 1 ∨ k = 2 ∨ k = 3 by omega) with rfl | rfl | rfl | rfl
  · exact h.2 0 _ rfl
  · exact h.2 1 _ rfl
  · exact h.2 2 _ rfl
  · exact h.2 3 _ rfl
theorem Box4.below {w w' : World} {M : Nat} {A : Nat → Int} (h : Box4 w M A) (hb : Below w.heap.size w w') : Box4 w' M A := BoxAt.below h hb
theorem Box4.grown {w w' : World} {M : Nat} {A : Nat → Int} {row : Option Nat} (h : Box4 w M A) (hg : w.grownBy w' row) (hne : row ≠ some M) : Box4 w' M A := BoxAt.grown h hg hne
theorem Box4.alloc {w : World} {M : Nat} {A : Nat → Int} (h : Box4 w M A) (o : Obj) : Box4 (w.alloc o) M A := h.below ((Below.refl _ w).alloc (Nat.le_refl _) o)
theorem vec_ofS {x y : Int} (h : (-1000 ≤ x ∧ x ≤ 1000) ∧ -1000 ≤ y ∧ y ≤ 1000) : vecB x y = true := by
  unfold vecB szB
  simp
  omega
set_option maxRecDepth 100000 in
set_option maxHeartbeats 32000000 in
theorem l5List_any (v : Value) (l : List V2) (u : Value) (d : List Int) (w : World) (hl : ReadsVecs w v l) (hd : ReadsInts w u d) :
    Calls Tryz.prog 100 #[v, u] w (GivesVecsOk w (gV (secB l d) (secL l d)) (secB l d)) := by
  obtain ⟨i0, hi, hz0, hz1, hz2⟩ := info_parts infoVec
  have HE := Lib.hid (Vecs.empty w)
  have HO := Lib.hid (fun w' (hb : Below w.heap.size w w') => specDivisorIn_any v l u d w' (hl.below hb) (hd.below hb))
  cases hk : divB l d
  · have e1 : secB l d = false := by unfold secB; rw [hk]; rfl
    rw [e1]
    rw [hk] at HO
    obtain ⟨va, vc, rfl, _⟩ := hl
    obtain ⟨a, c, rfl, _⟩ := hd.len
    clear hd hk e1
    go_enter Tryz.func100, Tryz.ntmps100
    go_wp2_with fail
    refine Calls.mono (HO.out _ (by go_grown)) ?_
    rintro e w1 ⟨rfl, hb1⟩
    have hB : Below w.heap.size w w1 := belowTo (by go_grown) hb1
    have HV := Lib.hid (HE.out.below hb1)
    clear hb1 HE HO
    go_wp2
    go_returns
    exact ⟨_, rfl, HV.out, hB⟩
  · have hlen := div_len hk
    have hal := (div_smooth hk).1
    have hbd := div_bnd hk
    have HX : Hid (∀ w', Below w.heap.size w w' → Calls Tryz.prog 129 #[v, u] w' fun e w'' => e = .returned (.agg #[.int .i64 (boxA l d 0), .int .i64 (boxA l d 1), .int .i64 (boxA l d 2), .int .i64 (boxA l d 3)]) ∧ Below w'.heap.size w' w'') := fun w' hb => l5Box_any v l u d w' (hl.below hb) (hd.below hb) (smooth_in (div_in hk).1).1 (div_in hk).2.1 hbd
    have HH := Lib.hid (fun x y w' (hb : Below w.heap.size w w') (ha : vecB x y = true) => by
      have h := l5Has_any v l u d x y 0 w' (hl.below hb) (hd.below hb) (by omega) (by omega) hal (div_in hk).2.1 (bnd_mono hbd (by omega)) ha (by omega)
      rw [hasE_zero] at h
      exact h)
    have HZ := Lib.hid (fun x w' => l1Size_any x w')
    rw [hk] at HO
    have e1 : secB l d = (sz4A (boxA l d) && roomB (boxA l d)) := by unfold secB; rw [hk]; rfl
    rw [e1]
    unfold secL
    obtain ⟨va, vc, rfl, _⟩ := hl
    obtain ⟨a, c, rfl, _⟩ := hd.len
    clear hd hk e1 hal hbd hlen
    generalize boxA l d = A at *
    generalize hasZ l d = P at *
    have HN4 : Hid (∀ k, k < 4 → szB (A k) = false → sz4A A = false) := fun k hk h => sz4A_no hk h
    have HY4 : Hid ((∀ k, k < 4 → szB (A k) = true) → sz4A A = true) := fun h => sz4A_yes h
    have HRm : Hid (roomB A = decide (widN (A 0) (A 1) * widN (A 2) (A 3) ≤ 10000)) := Lib.hid rfl
    generalize sz4A A = s4 at *
    generalize roomB A = rm at *
    have HWN : Hid (max 0 (A 1 - A 0 + 1) = ((widN (A 0) (A 1) : Nat) : Int) ∧ max 0 (A 3 - A 2 + 1) = ((widN (A 2) (A 3) : Nat) : Int)) := by
      show _ ∧ _
      unfold widN
      omega
    generalize widN (A 0) (A 1) = N at *
    generalize widN (A 2) (A 3) = M at *
    go_enter Tryz.func100, Tryz.ntmps100
    go_wp2_with fail
    refine Calls.mono (HO.out _ (by go_grown)) ?_
    rintro e w1 ⟨rfl, hb1⟩
    have hB1 : Below w.heap.size w w1 := belowTo (by go_grown) hb1
    have HV1 := Lib.hid (HE.out.below hb1)
    have hz1' : w.heap.size < w1.heap.size := by have := hb1.size; simp at this; omega
    clear hb1 HE HO
    go_wp2_with fail
    refine Calls.mono (HX.out _ hB1) ?_
    rintro e w2 ⟨rfl, hb2⟩
    have HB2 := Lib.hid (belowTo hB1 hb2)
    have HV2 := Lib.hid (HV1.out.below hb2)
    have hlt : w.heap.size < w2.heap.size := Nat.lt_of_lt_of_le hz1' hb2.size
    clear hb2 HX HV1 hB1 hz1'
    have HBx : Hid (Box4 (w2.alloc (.cells #[.int .i64 (A 0), .int .i64 (A 1), .int .i64 (A 2), .int .i64 (A 3)] 138)) w2.heap.size A) := Lib.hid (BoxAt.made4w w2 _ _ _ _)
    have HBb : Hid (Below w2.heap.size w2 (w2.alloc (.cells #[.int .i64 (A 0), .int .i64 (A 1), .int .i64 (A 2), .int .i64 (A 3)] 138))) := (by go_grown : Below _ _ _)
    go_wp2
    go_loopw [8] (fun s8 wr => ∃ k : Nat, k ≤ 4 ∧ s8 = .int .i64 k ∧ Hid (∀ j, j < k → szB (A j) = true) ∧ Hid (Box4 wr w2.heap.size A) ∧ Hid (Below w2.heap.size w2 wr)) (fun s8 _ => 4 - (intOf s8).toNat)
    case atStart => exact ⟨0, by omega, rfl, Lib.hid (fun j hj => by omega), HBx, HBb⟩
    case round =>
      clear HBx HBb
      obtain ⟨k, hk, rfl, HS, HBx, HBb⟩ := hrel
      have i1 : (0 : Int) ≤ (k : Int) := by omega
      by_cases hk4 : k < 4
      · have i2 : (k : Int) < 4 := by omega
        have cA := HBx.out.at hk4
        have HZk := Lib.hid (HZ.out (A k) wr)
        cases hz : szB (A k)
        · rw [hz] at HZk
          obtain rfl := HN4.out k hk4 hz
          have HV4 := Lib.hid (HV2.out.below HBb.out)
          have HB4 := Lib.hid (belowTo HB2.out HBb.out)
          clear hz HS HH HZ HN4 HY4 HRm HWN HV2 HB2
          go_wp2_with fail
          refine Calls.mono HZk.out ?_
          rintro e w3 ⟨rfl, rfl⟩
          go_wp2
          go_returns
          exact ⟨_, rfl, HV4.out, HB4.out⟩
        · rw [hz] at HZk
          have HS2 : Hid (∀ j, j < k + 1 → szB (A j) = true) := Lib.hid (fun j hj => by
            rcases Nat.lt_or_ge j k with c | c
            · exact HS.out j c
            · obtain rfl : j = k := by omega
              exact hz)
          clear hz HS HH HZ HN4 HY4 HRm HWN HV2 HB2
          go_wp2_with fail
          refine Calls.mono HZk.out ?_
          rintro e w3 ⟨rfl, rfl⟩
          go_wp2
          go_roundw
          case rel => exact ⟨k + 1, by omega, by go_num, HS2, HBx, HBb⟩
          case measure => simp [intOf]; omega
      · obtain rfl : k = 4 := by omega
        obtain rfl := HY4.out HS.out
        have b0 := szB_true (HS.out 0 (by omega))
        have b1 := szB_true (HS.out 1 (by omega))
        have b2 := szB_true (HS.out 2 (by omega))
        have b3 := szB_true (HS.out 3 (by omega))
        obtain ⟨w4, hw4⟩ : ∃ w4, w4 = wr := ⟨_, rfl⟩
        subst hw4
        have HV4 := Lib.hid (HV2.out.below HBb.out)
        have HB4 := Lib.hid (belowTo HB2.out HBb.out)
        have hlt4 : w2.heap.size < w4.heap.size := HBx.out.1
        have c0 := HBx.out.at (k := 0) (by omega)
        have c1 := HBx.out.at (k := 1) (by omega)
        have c2 := HBx.out.at (k := 2) (by omega)
        have c3 := HBx.out.at (k := 3) (by omega)
        obtain ⟨e1, e2⟩ := HWN.out
        have n1 : (0 : Int) ≤ (N : Int) ∧ (N : Int) ≤ 2001 := by omega
        have n2 : (0 : Int) ≤ (M : Int) ∧ (M : Int) ≤ 2001 := by omega
        have m1 := mul_le (a := (N : Int)) (b := (M : Int)) (A := 2001) (B := 2001) ⟨by omega, by omega⟩ ⟨by omega, by omega⟩
        have qa : IntKind.i64.wrap (A 1 - A 0) = A 1 - A 0 := by rw [IntKind.wrap_i64]; omega
        have qb : IntKind.i64.wrap (A 1 - A 0 + 1) = A 1 - A 0 + 1 := by rw [IntKind.wrap_i64]; omega
        have qc : IntKind.i64.wrap (A 3 - A 2) = A 3 - A 2 := by rw [IntKind.wrap_i64]; omega
        have qd : IntKind.i64.wrap (A 3 - A 2 + 1) = A 3 - A 2 + 1 := by rw [IntKind.wrap_i64]; omega
        obtain ⟨p, hp⟩ : ∃ p : Int, p = (N : Int) * (M : Int) := ⟨_, rfl⟩
        rw [← hp] at m1
        have qp : IntKind.i64.wrap ((N : Int) * (M : Int)) = p := by rw [← hp, IntKind.wrap_i64]; omega
        have HNM : Hid (N * M ≤ 10000 ↔ p ≤ 10000) := by
          show _ ↔ _
          have : ((N * M : Nat) : Int) = p := by rw [hp]; exact Int.natCast_mul N M
          omega
        clear hp m1 HS HY4 HN4 HV2 HB2 hk hk4 i1 HBb
        by_cases hT : p ≤ 10000
        case neg =>
          obtain rfl : rm = false := by rw [HRm.out]; exact decide_eq_false (fun h => hT (HNM.out.1 h))
          have hT' : 10000 < p := by omega
          clear hT HNM HRm HWN HBx HH HZ b0 b1 b2 b3 n1 n2
          go_wp2
          go_returns
          exact ⟨_, rfl, HV4.out, HB4.out⟩
        case pos =>
          obtain rfl : rm = true := by rw [HRm.out]; exact decide_eq_true (HNM.out.2 hT)
          have hNM := HNM.out.2 hT
          have HNMn := Lib.hid hNM
          have hT' : ¬ 10000 < p := by omega
          have w1 : ∀ i : Nat, i < N → A 0 + (i : Int) ≤ A 1 := fun i hi => by omega
          have w2' : ¬ A 0 + (N : Int) ≤ A 1 := by omega
          have w3 : ∀ i : Nat, i < M → A 2 + (i : Int) ≤ A 3 := fun i hi => by omega
          have w4' : ¬ A 2 + (M : Int) ≤ A 3 := by omega
          have HW := Lib.hid (And.intro w1 (And.intro w2' (And.intro w3 w4')))
          have HOb : Hid (∀ q, (Value.slice (some ⟨w.heap.size, 0, none⟩) 0 0).ownBlock = some q → q ≠ w2.heap.size) := Lib.hid (fun q hq => by
            simp [Value.ownBlock] at hq
            omega)
          clear w1 w2' w3 w4' hNM hT HNM HRm HWN HZ
          go_wp2
          clear qa qb qc qd qp e1 e2 hT'
          go_loopw [6, 9] (fun s6 s9 wr => ∃ i : Nat, i ≤ N ∧ s9 = .int .i64 (A 0 + (i : Int)) ∧ Hid (Vecs wr w.heap.size s6 (rowsS P (A 0) (A 2) M i)) ∧ Hid (∀ q, s6.ownBlock = some q → q ≠ w2.heap.size) ∧ Hid (Box4 wr w2.heap.size A) ∧ Hid (Below w.heap.size w wr)) (fun _ s9 _ => (A 0 + (N : Int) - intOf s9).toNat)
          case atStart => exact ⟨0, Nat.zero_le _, by simp, HV4, HOb, HBx, HB4⟩
          case round =>
            clear HV4 HOb HBx HB4 c0 c1 c2 c3 hlt4
            obtain ⟨i, hiN, rfl, HV, HOb, HBx, HB⟩ := hrel
            have c1 := HBx.out.at (k := 1) (by omega)
            have c2 := HBx.out.at (k := 2) (by omega)
            by_cases hlt : i < N
            · have j1 := HW.out.1 i hlt
              go_wp2
              go_loopw [6, 10] (fun s6 s10 wr => ∃ j : Nat, j ≤ M ∧ s10 = .int .i64 (A 2 + (j : Int)) ∧ Hid (Vecs wr w.heap.size s6 (rowsS P (A 0) (A 2) M i ++ colS P (A 0 + (i : Int)) (A 2) j)) ∧ Hid (∀ q, s6.ownBlock = some q → q ≠ w2.heap.size) ∧ Hid (Box4 wr w2.heap.size A) ∧ Hid (Below w.heap.size w wr)) (fun _ s10 _ => (A 2 + (M : Int) - intOf s10).toNat)
              case atStart => exact ⟨0, Nat.zero_le _, by simp, by rw [show colS P (A 0 + (i : Int)) (A 2) 0 = [] from rfl, List.append_nil]; exact HV, HOb, HBx, HB⟩
              case round =>
                clear HV HOb HBx HB c1 c2
                obtain ⟨j, hjM, rfl, HV, HOb, HBx, HB⟩ := hrel
                have c3 := HBx.out.at (k := 3) (by omega)
                by_cases hjt : j < M
                · have j2 := HW.out.2.2.1 j hjt
                  have hv : vecB (A 0 + (i : Int)) (A 2 + (j : Int)) = true := vec_ofS ⟨⟨by omega, by omega⟩, by omega, by omega⟩
                  have HH2 := Lib.hid (fun w' hb => HH.out (A 0 + (i : Int)) (A 2 + (j : Int)) w' hb hv)
                  have HLe : Hid (rowsS P (A 0) (A 2) M i ++ colS P (A 0 + (i : Int)) (A 2) (j + 1) = rowsS P (A 0) (A 2) M i ++ colS P (A 0 + (i : Int)) (A 2) j ++ (if P (A 0 + (i : Int), A 2 + (j : Int)) then [(A 0 + (i : Int), A 2 + (j : Int))] else [])) := by
                    show _ = _
                    rw [colS_succ, List.append_assoc]
                  have HLn : Hid ((rowsS P (A 0) (A 2) M i ++ colS P (A 0 + (i : Int)) (A 2) j).length ≤ 10000) := by
                    show _ ≤ _
                    have x1 := rowsS_len P (A 0) (A 2) M i
                    have x2 := colS_len P (A 0 + (i : Int)) (A 2) j
                    have x3 : (i + 1) * M ≤ N * M := Nat.mul_le_mul_right _ hlt
                    rw [Nat.succ_mul] at x3
                    have := HNMn.out
                    rw [List.length_append]
                    omega
                  have qy : IntKind.i64.wrap (A 2 + (j : Int) + 1) = A 2 + (j : Int) + 1 := by rw [IntKind.wrap_i64]; omega
                  have HQy : Hid (A 2 + (j : Int) + 1 = A 2 + ((j + 1 : Nat) : Int)) := by show _ = _; omega
                  clear hv HH HW HNMn
                  obtain ⟨L', hL'⟩ : ∃ L', rowsS P (A 0) (A 2) M i ++ colS P (A 0 + (i : Int)) (A 2) (j + 1) = L' := ⟨_, rfl⟩
                  rw [hL'] at HLe
                  have HLp := Lib.hid hL'
                  clear hL'
                  generalize rowsS P (A 0) (A 2) M i ++ colS P (A 0 + (i : Int)) (A 2) j = L at *
                  have hbr := HB.out
                  have hwr : w.heap.size ≤ wr.heap.size := hbr.size
                  go_wp2_with fail
                  refine Calls.mono (HH2.out _ (by go_grown)) ?_
                  rintro e w5 ⟨rfl, hb5⟩
                  have hr5 : Below wr.heap.size wr w5 := belowTo (by go_grown) hb5
                  have m0 : w5.cell? ⟨wr.heap.size, 0, none⟩ = some (.int .i64 (A 0 + (i : Int))) := (hb5.cell (p := ⟨wr.heap.size, 0, none⟩) (by simp)).trans (by simp)
                  have m1 : w5.cell? ⟨wr.heap.size, 1, none⟩ = some (.int .i64 (A 2 + (j : Int))) := (hb5.cell (p := ⟨wr.heap.size, 1, none⟩) (by simp)).trans (by simp)
                  have HV5 := Lib.hid (HV.out.below hr5)
                  have HBx5 := Lib.hid (HBx.out.below hr5)
                  have HB5 := Lib.hid (belowTo hbr hr5)
                  have hs5 := HB5.out.size
                  have hl5 : w2.heap.size < w5.heap.size := HBx5.out.1
                  clear hb5 hr5 hbr HV HBx HB HH2 c3
                  cases hP : P (A 0 + (i : Int), A 2 + (j : Int))
                  · have HE6 : Hid (L' = L) := Lib.hid (by rw [HLe.out, hP]; simp)
                    clear hP HLe HLn m0 m1
                    go_wp2
                    go_roundw
                    case rel => exact ⟨j + 1, by omega, by rw [HQy.out], by rw [HLp.out, HE6.out]; exact HV5, HOb, HBx5, HB5⟩
                    case measure => simp [intOf]; omega
                  · have HE6 : Hid (L' = L ++ [(A 0 + (i : Int), A 2 + (j : Int))]) := Lib.hid (by rw [HLe.out, hP]; rfl)
                    have hown := HV5.out
                    unfold Vecs VRow at hown
                    clear hP HLe HV5
                    go_wp2_with (at_builtin; refine wpList_append_own_at _ rfl _ _ 23 rfl w.heap.size 55 i0 (.agg #[.int .i64 (0), .int .i64 (0)]) 2 16 Tryz.underlying23 hi hz0 hz1 hz2 rfl (by decide) _ _ _ rfl (hown.alloc _) ⟨w5.heap.size, 0, none⟩ 1 1 [.int .i64 (A 0 + (i : Int)), .int .i64 (A 2 + (j : Int))] rfl rfl (vec_cellsL _ (A 0 + (i : Int)) (A 2 + (j : Int)) _) (vec_oneL _ _) ?c3 ?c4 ?c5 ?_)
                    case c3 => have := HLn.out; unfold maxLen; omega
                    case c4 => have := HLn.out; omega
                    case c5 => simp; omega
                    intro v' w6 hown' hgrow _ hob
                    have hg6 : Below w.heap.size w5 w6 := ((Below.refl _ w5).alloc hs5 _).grown hgrow (by simp; omega) (fun k hk => (hown.lt k hk).1)
                    have HVv := Lib.hid (Vecs.snoc (l := L) rfl hown')
                    have HBx6 := Lib.hid ((HBx5.out.alloc _).grown hgrow (fun e => HOb.out _ e rfl))
                    have HOb6 : Hid (∀ q, v'.ownBlock = some q → q ≠ w2.heap.size) := Lib.hid (fun q hq => by
                      rcases hob with h | h
                      · exact HOb.out q (by rw [← h]; exact hq)
                      · rw [h] at hq
                        simp at hq
                        omega)
                    have HB6 := Lib.hid (HB5.out.trans hg6)
                    clear hown hown' hgrow hob hg6 HLn HOb HBx5 HB5 m0 m1
                    go_wp2
                    go_roundw
                    case rel => exact ⟨j + 1, by omega, by rw [HQy.out], by rw [HLp.out, HE6.out]; exact HVv, HOb6, HBx6, HB6⟩
                    case measure => simp [intOf]; omega
                · obtain rfl : j = M := by omega
                  have j2 := HW.out.2.2.2
                  have qx : IntKind.i64.wrap (A 0 + (i : Int) + 1) = A 0 + (i : Int) + 1 := by rw [IntKind.wrap_i64]; omega
                  have HQx : Hid (A 0 + (i : Int) + 1 = A 0 + ((i + 1 : Nat) : Int)) := by show _ = _; omega
                  have HRs := Lib.hid (rowsS_succ P (A 0) (A 2) j i)
                  clear HH HW HNMn
                  go_wp2
                  go_roundw
                  case rel => exact ⟨i + 1, by omega, by rw [HQx.out], by rw [HRs.out]; exact HV, HOb, HBx, HB⟩
                  case measure => simp [intOf]; omega
            · obtain rfl : i = N := by omega
              have j1 := HW.out.2.1
              clear HH HW HNMn c2
              go_wp2
              go_returns
              exact ⟨_, rfl, HV.out, HB.out⟩
end Go.Proofs.YtgaeibibeekclabGreatDoor
