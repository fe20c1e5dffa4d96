/- FnConeFraction. -/
import Derived.Test.YtjlobpccnplebaaDoorPc
import Derived.Test.YtjlobpccnplebaaDoorB4
import Derived.Test.YtjlobpccnplebaaDoorFf
import Derived.Test.YtjlobpccnplebaaDoorFg
namespace Go.Proofs.YtjlobpccnplebaaDoor
open Go.RowKit

theorem valueC_any (v : Value) (l : List Int) (w : World) (h : ReadsInts w v l) (hg : EtOk w) {K : Bool} (hv : valB l = K) {N Q : Int} (hN : contN l = N) (hQ : contQ l = Q) :
    Calls Tryd.prog 37 #[v] w fun e w' => e = .returned (.tuple #[.int .i64 (gate K N), .int .i64 (gate K Q), .bool K]) ∧ Below w.heap.size w w' := by
  subst hv hN hQ
  exact fractionValue_any v l w h hg
theorem conefrac_facts {a b c d : Int} (k : coneB a b c d = true) : contN (fracC a b c d) = detZ a b c d ∧ contQ (fracC a b c d) = kindC a b c d ∧ (fracC a b c d).length ≤ 2000000 ∧ ((fracC a b c d = [] ∧ detZ a b c d = 1) ∨ (fracC a b c d ≠ [] ∧ 1 < detZ a b c d)) := by
  obtain ⟨v1, o1, v2, o2, hp⟩ := cone_in k
  have kr := kindC_rng k
  have kg : gcdZ (detZ a b c d) (kindC a b c d) = 1 := kind_gcd (oneB_true o1) (oneB_true o2)
  obtain ⟨e1, e2⟩ := cont_frac _ _ kr.1 kr.2 kg
  refine ⟨e1, e2, fracC_len k, ?_⟩
  by_cases hq : 0 < kindC a b c d
  · refine .inr ⟨?_, by omega⟩
    unfold fracC
    rw [frac_pos _ hq]
    simp
  · have h0 : kindC a b c d = 0 := by omega
    refine .inl ⟨frac_zero _ hq, ?_⟩
    rw [h0, gcdZ_zero] at kg
    have := posB_true hp
    omega
set_option maxHeartbeats 8000000 in
theorem fnConeFraction_any (a : Option Addr) (len cap : Nat) (w : World) (h : Bytes w a len cap) (hg : EtOk w) :
    Calls Tryd.prog 8 #[.slice a len cap] w fun e w' => e = .returned (.bool true) ∧ Below w.heap.size w w' := by
  by_cases hl : 1048576 < len
  · have hl' : (1048576 : Int) < (len : Int) := by omega
    go_enter Tryd.func8, Tryd.ntmps8
    go_wp2
    go_returns
    exact ⟨rfl, Below.refl _ _⟩
  · have hl' : (len : Int) ≤ 1048576 := by omega
    have HD := Lib.hid (drawConeFraction_any w a len cap h)
    have HG := Lib.hid hg
    clear h hg
    go_enter Tryd.func8, Tryd.ntmps8
    go_wp2_with fail
    refine Calls.mono HD.out ?_
    rintro e w0 ⟨x, y, z, u, rfl, hb0⟩
    have hA0 : Below w.heap.size w w0 := hb0
    clear hb0 HD
    have HM := Lib.hid (fun w' hg' => coneFraction_any x y z u w' hg')
    have HS := Lib.hid (fun w' => specConeFraction_any x y z u w')
    cases k : coneB x y z u
    case false =>
      rw [k] at HM HS
      clear k
      go_wp2_with fail
      refine Calls.mono (HM.out _ (HG.out.below (by have := hA0.size; go_grown))) ?_
      rintro e w1 ⟨v1, rfl, I1, hb⟩
      have hA1 : Below w.heap.size w w1 := belowTo (by have := hA0.size; go_grown) hb
      have ca0 : w1.cell? ⟨w0.heap.size, 0, none⟩ = some (.int .i64 (x)) := (hb.cell (p := ⟨w0.heap.size, 0, none⟩) (by first | assumption | (go_size; done) | (simp; omega) | (simp only [World.size_alloc]; omega))).trans (by first | assumption | (go_cell; done) | (go_simp; done) | simp [*]); have ca1 : w1.cell? ⟨w0.heap.size, 1, none⟩ = some (.int .i64 (y)) := (hb.cell (p := ⟨w0.heap.size, 1, none⟩) (by first | assumption | (go_size; done) | (simp; omega) | (simp only [World.size_alloc]; omega))).trans (by first | assumption | (go_cell; done) | (go_simp; done) | simp [*]); have ca2 : w1.cell? ⟨w0.heap.size, 2, none⟩ = some (.int .i64 (z)) := (hb.cell (p := ⟨w0.heap.size, 2, none⟩) (by first | assumption | (go_size; done) | (simp; omega) | (simp only [World.size_alloc]; omega))).trans (by first | assumption | (go_cell; done) | (go_simp; done) | simp [*]); have ca3 : w1.cell? ⟨w0.heap.size, 3, none⟩ = some (.int .i64 (u)) := (hb.cell (p := ⟨w0.heap.size, 3, none⟩) (by first | assumption | (go_size; done) | (simp; omega) | (simp only [World.size_alloc]; omega))).trans (by first | assumption | (go_cell; done) | (go_simp; done) | simp [*]); have cas : w0.heap.size < w1.heap.size := Nat.lt_of_lt_of_le (by first | assumption | (go_size; done) | (simp; omega) | (simp only [World.size_alloc]; omega)) hb.size
      replace I1 := Lib.hid I1
      clear hb hA0 HM
      go_wp2_with fail
      refine Calls.mono (HS.out _) ?_
      rintro e w2 ⟨v2, rfl, I2, hb⟩
      have hA2 : Below w.heap.size w w2 := belowTo hA1 hb
      replace I1 := Lib.hid (I1.out.below hb)
      replace I2 := Lib.hid I2
      clear hb hA1 ca0 ca1 ca2 ca3 cas HS
      go_wp2_with fail
      refine Calls.mono (sameInts_same v1 v2 _ _ _ _ I1.out I2.out) ?_
      rintro e w3 ⟨rfl, hb⟩
      have hA3 : Below w.heap.size w w3 := belowTo hA2 hb
      replace I1 := Lib.hid (I1.out.below hb)
      replace I2 := Lib.hid (I2.out.below hb)
      clear hb hA2
      go_wp2_with fail
      refine Calls.mono (sameInts_same v1 v2 _ _ _ _ I1.out I2.out) ?_
      rintro e w4 ⟨rfl, hb⟩
      have hA4 : Below w.heap.size w w4 := belowTo hA3 hb
      clear hb hA3
      go_wp2
      go_returns
      exact ⟨by simp, hA4⟩
    case true =>
      rw [k] at HM HS
      obtain ⟨e1, e2, hlen, hE⟩ := conefrac_facts k
      have HI : Hid (∀ w' (hg' : EtOk w'), Calls Tryd.prog 18 #[.agg #[.int .i64 (x), .int .i64 (y), .int .i64 (z), .int .i64 (u)]] w' fun e w2 => e = .returned (.tuple #[.int .i64 (detZ x y z u), .bool true]) ∧ Below w'.heap.size w' w2) := fun w' hg' => giv (coneIndex_any x y z u w' hg') (by rw [k]; rfl)
      have HK : Hid (∀ w' (hg' : EtOk w'), Calls Tryd.prog 25 #[.agg #[.int .i64 (x), .int .i64 (y), .int .i64 (z), .int .i64 (u)]] w' fun e w2 => e = .returned (.tuple #[.int .i64 (kindC x y z u), .bool true]) ∧ Below w'.heap.size w' w2) := fun w' hg' => giv (coneKind_any x y z u w' hg') (by rw [k]; rfl)
      have HV := Lib.hid (fun v' w' h' hg' => valueC_any v' (fracC x y z u) w' h' hg' rfl e1 e2)
      have HR := Lib.hid (fun (w' : World) (b : Nat) (v' : Value) (h' : Ints w' b v' (fracC x y z u)) => h'.reads (by omega))
      have HEn := Lib.hid hE
      clear e1 e2 hE k
      generalize kindC x y z u = q at *
      generalize detZ x y z u = n at *
      generalize fracC x y z u = L at *
      go_wp2_with fail
      refine Calls.mono (HM.out _ (HG.out.below (by have := hA0.size; go_grown))) ?_
      rintro e w1 ⟨v1, rfl, I1, hb⟩
      have hA1 : Below w.heap.size w w1 := belowTo (by have := hA0.size; go_grown) hb
      have ca0 : w1.cell? ⟨w0.heap.size, 0, none⟩ = some (.int .i64 (x)) := (hb.cell (p := ⟨w0.heap.size, 0, none⟩) (by first | assumption | (go_size; done) | (simp; omega) | (simp only [World.size_alloc]; omega))).trans (by first | assumption | (go_cell; done) | (go_simp; done) | simp [*]); have ca1 : w1.cell? ⟨w0.heap.size, 1, none⟩ = some (.int .i64 (y)) := (hb.cell (p := ⟨w0.heap.size, 1, none⟩) (by first | assumption | (go_size; done) | (simp; omega) | (simp only [World.size_alloc]; omega))).trans (by first | assumption | (go_cell; done) | (go_simp; done) | simp [*]); have ca2 : w1.cell? ⟨w0.heap.size, 2, none⟩ = some (.int .i64 (z)) := (hb.cell (p := ⟨w0.heap.size, 2, none⟩) (by first | assumption | (go_size; done) | (simp; omega) | (simp only [World.size_alloc]; omega))).trans (by first | assumption | (go_cell; done) | (go_simp; done) | simp [*]); have ca3 : w1.cell? ⟨w0.heap.size, 3, none⟩ = some (.int .i64 (u)) := (hb.cell (p := ⟨w0.heap.size, 3, none⟩) (by first | assumption | (go_size; done) | (simp; omega) | (simp only [World.size_alloc]; omega))).trans (by first | assumption | (go_cell; done) | (go_simp; done) | simp [*]); have cas : w0.heap.size < w1.heap.size := Nat.lt_of_lt_of_le (by first | assumption | (go_size; done) | (simp; omega) | (simp only [World.size_alloc]; omega)) hb.size
      have J1 : Hid (Ints w1 _ v1 L) := I1
      clear hb hA0 HM I1
      go_wp2_with fail
      refine Calls.mono (HS.out _) ?_
      rintro e w2 ⟨v2, rfl, I2, hb⟩
      have hA2 : Below w.heap.size w w2 := belowTo hA1 hb
      have cb0 : w2.cell? ⟨w0.heap.size, 0, none⟩ = some (.int .i64 (x)) := (hb.cell (p := ⟨w0.heap.size, 0, none⟩) (by first | assumption | (go_size; done) | (simp; omega) | (simp only [World.size_alloc]; omega))).trans (by first | assumption | (go_cell; done) | (go_simp; done) | simp [*]); have cb1 : w2.cell? ⟨w0.heap.size, 1, none⟩ = some (.int .i64 (y)) := (hb.cell (p := ⟨w0.heap.size, 1, none⟩) (by first | assumption | (go_size; done) | (simp; omega) | (simp only [World.size_alloc]; omega))).trans (by first | assumption | (go_cell; done) | (go_simp; done) | simp [*]); have cb2 : w2.cell? ⟨w0.heap.size, 2, none⟩ = some (.int .i64 (z)) := (hb.cell (p := ⟨w0.heap.size, 2, none⟩) (by first | assumption | (go_size; done) | (simp; omega) | (simp only [World.size_alloc]; omega))).trans (by first | assumption | (go_cell; done) | (go_simp; done) | simp [*]); have cb3 : w2.cell? ⟨w0.heap.size, 3, none⟩ = some (.int .i64 (u)) := (hb.cell (p := ⟨w0.heap.size, 3, none⟩) (by first | assumption | (go_size; done) | (simp; omega) | (simp only [World.size_alloc]; omega))).trans (by first | assumption | (go_cell; done) | (go_simp; done) | simp [*]); have cbs : w0.heap.size < w2.heap.size := Nat.lt_of_lt_of_le (by first | assumption | (go_size; done) | (simp; omega) | (simp only [World.size_alloc]; omega)) hb.size
      replace J1 := Lib.hid (J1.out.below hb)
      have J2 : Hid (Ints w2 _ v2 L) := I2
      clear hb hA1 ca0 ca1 ca2 ca3 cas HS I2
      go_wp2_with fail
      refine Calls.mono (sameInts_same v1 v2 _ _ _ _ J1.out J2.out) ?_
      rintro e w3 ⟨rfl, hb⟩
      have hA3 : Below w.heap.size w w3 := belowTo hA2 hb
      have cc0 : w3.cell? ⟨w0.heap.size, 0, none⟩ = some (.int .i64 (x)) := (hb.cell (p := ⟨w0.heap.size, 0, none⟩) (by first | assumption | (go_size; done) | (simp; omega) | (simp only [World.size_alloc]; omega))).trans (by first | assumption | (go_cell; done) | (go_simp; done) | simp [*]); have cc1 : w3.cell? ⟨w0.heap.size, 1, none⟩ = some (.int .i64 (y)) := (hb.cell (p := ⟨w0.heap.size, 1, none⟩) (by first | assumption | (go_size; done) | (simp; omega) | (simp only [World.size_alloc]; omega))).trans (by first | assumption | (go_cell; done) | (go_simp; done) | simp [*]); have cc2 : w3.cell? ⟨w0.heap.size, 2, none⟩ = some (.int .i64 (z)) := (hb.cell (p := ⟨w0.heap.size, 2, none⟩) (by first | assumption | (go_size; done) | (simp; omega) | (simp only [World.size_alloc]; omega))).trans (by first | assumption | (go_cell; done) | (go_simp; done) | simp [*]); have cc3 : w3.cell? ⟨w0.heap.size, 3, none⟩ = some (.int .i64 (u)) := (hb.cell (p := ⟨w0.heap.size, 3, none⟩) (by first | assumption | (go_size; done) | (simp; omega) | (simp only [World.size_alloc]; omega))).trans (by first | assumption | (go_cell; done) | (go_simp; done) | simp [*]); have ccs : w0.heap.size < w3.heap.size := Nat.lt_of_lt_of_le (by first | assumption | (go_size; done) | (simp; omega) | (simp only [World.size_alloc]; omega)) hb.size
      replace J1 := Lib.hid (J1.out.below hb)
      clear hb hA2 cb0 cb1 cb2 cb3 cbs J2
      go_wp2_with fail
      refine Calls.mono (HI.out _ (HG.out.below hA3)) ?_
      rintro e w4 ⟨rfl, hb⟩
      have hA4 : Below w.heap.size w w4 := belowTo hA3 hb
      have cd0 : w4.cell? ⟨w0.heap.size, 0, none⟩ = some (.int .i64 (x)) := (hb.cell (p := ⟨w0.heap.size, 0, none⟩) (by first | assumption | (go_size; done) | (simp; omega) | (simp only [World.size_alloc]; omega))).trans (by first | assumption | (go_cell; done) | (go_simp; done) | simp [*]); have cd1 : w4.cell? ⟨w0.heap.size, 1, none⟩ = some (.int .i64 (y)) := (hb.cell (p := ⟨w0.heap.size, 1, none⟩) (by first | assumption | (go_size; done) | (simp; omega) | (simp only [World.size_alloc]; omega))).trans (by first | assumption | (go_cell; done) | (go_simp; done) | simp [*]); have cd2 : w4.cell? ⟨w0.heap.size, 2, none⟩ = some (.int .i64 (z)) := (hb.cell (p := ⟨w0.heap.size, 2, none⟩) (by first | assumption | (go_size; done) | (simp; omega) | (simp only [World.size_alloc]; omega))).trans (by first | assumption | (go_cell; done) | (go_simp; done) | simp [*]); have cd3 : w4.cell? ⟨w0.heap.size, 3, none⟩ = some (.int .i64 (u)) := (hb.cell (p := ⟨w0.heap.size, 3, none⟩) (by first | assumption | (go_size; done) | (simp; omega) | (simp only [World.size_alloc]; omega))).trans (by first | assumption | (go_cell; done) | (go_simp; done) | simp [*]); have cds : w0.heap.size < w4.heap.size := Nat.lt_of_lt_of_le (by first | assumption | (go_size; done) | (simp; omega) | (simp only [World.size_alloc]; omega)) hb.size
      replace J1 := Lib.hid (J1.out.below hb)
      clear hb hA3 cc0 cc1 cc2 cc3 ccs
      go_wp2_with fail
      refine Calls.mono (HK.out _ (HG.out.below hA4)) ?_
      rintro e w5 ⟨rfl, hb⟩
      have hA5 : Below w.heap.size w w5 := belowTo hA4 hb
      replace J1 := Lib.hid (J1.out.below hb)
      clear hb hA4 cd0 cd1 cd2 cd3 cds
      have hJ := J1.out
      rcases HEn.out with ⟨h0, h1⟩ | ⟨h0, h1⟩
      · rcases hJ.form with ⟨_, a', c', rfl⟩ | ⟨h2, _⟩
        · subst h1
          clear hJ J1 HV HR HI HK HEn
          go_wp2
          go_returns
          exact ⟨by simp, hA5⟩
        · exact absurd h0 h2
      · rcases hJ.form with ⟨h2, _⟩ | ⟨_, g, c', rfl, _, _, _⟩
        · exact absurd h2 h0
        · have hpos : 0 < L.length := List.length_pos_iff.2 h0
          have HV2 := Lib.hid (HV.out _ w5 (HR.out _ _ _ hJ) (HG.out.below hA5))
          clear hJ J1 HV HR HI HK HEn h0
          generalize valB L = K at HV2
          generalize L.length = m at *
          have m0 : ((m : Int) == 0) = false := by simp; omega
          have m1 : ¬ (m : Int) = 0 := by omega
          have m2 : ¬ m = 0 := by omega
          clear hlen hpos
          go_wp2_with fail
          refine Calls.mono HV2.out ?_
          rintro e w6 ⟨rfl, hb⟩
          have hA6 : Below w.heap.size w w6 := belowTo hA5 hb
          clear hb hA5 HV2
          cases K
          · go_wp2
            go_returns
            exact ⟨by simp [gate], hA6⟩
          · have s1 : gate true n = n := rfl
            have s2 : gate true q = q := rfl
            rw [s1, s2]
            go_wp2
            go_returns
            exact ⟨by simp, hA6⟩
end Go.Proofs.YtjlobpccnplebaaDoor
