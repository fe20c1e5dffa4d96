/- FnBase. -/
import Derived.Test.YtjlobpccnplebaaDoorPc
import Derived.Test.YtjlobpccnplebaaDoorPb
import Derived.Test.YtjlobpccnplebaaDoorRg
import Derived.Test.YtjlobpccnplebaaDoorB4
import Derived.Test.YtjlobpccnplebaaDoorVi
import Derived.Test.YtjlobpccnplebaaDoorVh
namespace Go.Proofs.YtjlobpccnplebaaDoor
open Go.RowKit

theorem Ints.form2 {w : World} {base : Nat} {v : Value} {F : List Int} (h : Ints w base v F) : ∃ (a : Option Addr) (c : Nat), v = .slice a F.length c ∧ F.length ≤ c ∧ ∀ j, j < F.length → ∃ g, a = some ⟨g, 0, none⟩ ∧ g < w.heap.size ∧ w.cell? ⟨g, j, none⟩ = some (.int .i64 (F[j]?.getD 0)) := by
  rcases h.form with ⟨rfl, a, c, rfl⟩ | ⟨_, g, c, rfl, _, hg, hc⟩
  · exact ⟨a, c, rfl, Nat.zero_le _, fun j hj => absurd hj (by simp)⟩
  · exact ⟨_, c, rfl, hc, fun j hj => ⟨g, rfl, hg, h.cell j hj⟩⟩
set_option maxRecDepth 100000 in
set_option maxHeartbeats 16000000 in
theorem fnBase_any (a : Option Addr) (len cap : Nat) (w : World) (h : Bytes w a len cap) (hg : EtOk w) :
    Calls Tryd.prog 7 #[.slice a len cap] w fun e w' => e = .returned (.bool true) ∧ Below w.heap.size w w' := by
  by_cases hl : 1048576 < len
  · have hl' : (1048576 : Int) < (len : Int) := by omega
    go_enter Tryd.func7, Tryd.ntmps7
    go_wp2
    go_returns
    exact ⟨rfl, Below.refl _ _⟩
  · have hl' : (len : Int) ≤ 1048576 := by omega
    have HD := Lib.hid (drawConeBase_any w a len cap h)
    have HG := Lib.hid hg
    clear h hg
    go_enter Tryd.func7, Tryd.ntmps7
    go_wp2_with fail
    refine Calls.mono HD.out ?_
    rintro e w0 ⟨x, y, z, u, rfl, hb0⟩
    have hA0 : Below w.heap.size w w0 := hb0
    clear hb0 HD
    have HM := Lib.hid (fun w' hg' => coneBase_any x y z u w' hg')
    have HS := Lib.hid (fun w' => specConeBase_any x y z u w')
    cases k : coneB x y z u
    case false =>
      rw [k] at HM HS
      clear k
      go_wp2_with fail
      refine Calls.mono (HM.out _ (HG.out.below (by have := hA0.size; go_grown))) ?_
      rintro e w1 ⟨v1, rfl, I1, hb⟩
      have hA1 : Below w.heap.size w w1 := belowTo (by have := hA0.size; go_grown) hb
      have ca0 : w1.cell? ⟨w0.heap.size, 0, none⟩ = some (.int .i64 (x)) := (hb.cell (p := ⟨w0.heap.size, 0, none⟩) (by first | assumption | (go_size; done) | (simp; omega) | (simp only [World.size_alloc]; omega))).trans (by first | assumption | (go_cell; done) | (go_simp; done) | simp [*]); have ca1 : w1.cell? ⟨w0.heap.size, 1, none⟩ = some (.int .i64 (y)) := (hb.cell (p := ⟨w0.heap.size, 1, none⟩) (by first | assumption | (go_size; done) | (simp; omega) | (simp only [World.size_alloc]; omega))).trans (by first | assumption | (go_cell; done) | (go_simp; done) | simp [*]); have ca2 : w1.cell? ⟨w0.heap.size, 2, none⟩ = some (.int .i64 (z)) := (hb.cell (p := ⟨w0.heap.size, 2, none⟩) (by first | assumption | (go_size; done) | (simp; omega) | (simp only [World.size_alloc]; omega))).trans (by first | assumption | (go_cell; done) | (go_simp; done) | simp [*]); have ca3 : w1.cell? ⟨w0.heap.size, 3, none⟩ = some (.int .i64 (u)) := (hb.cell (p := ⟨w0.heap.size, 3, none⟩) (by first | assumption | (go_size; done) | (simp; omega) | (simp only [World.size_alloc]; omega))).trans (by first | assumption | (go_cell; done) | (go_simp; done) | simp [*]); have cas : w0.heap.size < w1.heap.size := Nat.lt_of_lt_of_le (by first | assumption | (go_size; done) | (simp; omega) | (simp only [World.size_alloc]; omega)) hb.size
      replace I1 := Lib.hid I1
      clear hb hA0 HM
      go_wp2_with fail
      refine Calls.mono (HS.out _) ?_
      rintro e w2 ⟨v2, rfl, I2, hb⟩
      have hA2 : Below w.heap.size w w2 := belowTo hA1 hb
      replace I1 := Lib.hid (I1.out.below hb)
      replace I2 := Lib.hid I2
      clear hb hA1 ca0 ca1 ca2 ca3 cas HS
      go_wp2_with fail
      refine Calls.mono (sameVecs_same v1 v2 _ _ _ _ I1.out I2.out) ?_
      rintro e w3 ⟨rfl, hb⟩
      have hA3 : Below w.heap.size w w3 := belowTo hA2 hb
      replace I1 := Lib.hid (I1.out.below hb)
      replace I2 := Lib.hid (I2.out.below hb)
      clear hb hA2
      go_wp2_with fail
      refine Calls.mono (sameVecs_same v1 v2 _ _ _ _ I1.out I2.out) ?_
      rintro e w4 ⟨rfl, hb⟩
      have hA4 : Below w.heap.size w w4 := belowTo hA3 hb
      clear hb hA3
      go_wp2
      go_returns
      exact ⟨by simp, hA4⟩
    case true =>
      have HF := Lib.hid (fun w' hg' => coneFraction_any x y z u w' hg')
      rw [k] at HM HS HF
      have hN := base_count x y z u
      have hm : (fracC x y z u).length ≤ 2000000 := fracC_len k
      have e0 : at2 (baseL x y z u) 0 = (x, y) := rfl
      have eN := base_last k
      have HB := Lib.hid (fun i => base_all k i)
      have HH : Hid (∀ (p q : Int) w' (hg' : EtOk w'), hasV x y z u (p, q) → Calls Tryd.prog 16 #[.agg #[.int .i64 (x), .int .i64 (y), .int .i64 (z), .int .i64 (u)], .agg #[.int .i64 (p), .int .i64 (q)]] w' fun e w2 => e = .returned (.bool true) ∧ Below w'.heap.size w' w2) := fun p q w' hg' h => giv (coneHas_any x y z u p q w' hg') (by rw [show hasOk x y z u p q = true from h])
      have HV : Hid (∀ (p q r s : Int) w' (hg' : EtOk w'), hasV x y z u (p, q) → hasV x y z u (r, s) → detZ p q r s = 1 → Calls Tryd.prog 33 #[.agg #[.int .i64 (p), .int .i64 (q)], .agg #[.int .i64 (r), .int .i64 (s)]] w' fun e w2 => e = .returned (.tuple #[.int .i64 1, .bool true]) ∧ Below w'.heap.size w' w2) := fun p q r s w' hg' h1 h2 h3 => giv (vecDet_any p q r s w' hg') (by rw [two_mk (hasOk_in h1).2.1 (hasOk_in h2).2.1, gate_true, h3])
      have HX : Hid (∀ p q : Int, hasV x y z u (p, q) → (-1000 ≤ p ∧ p ≤ 1000) ∧ (-1000 ≤ q ∧ q ≤ 1000)) := fun p q h => szs (hasOk_in h).2.1
      clear k
      generalize baseL x y z u = L at *
      generalize fracC x y z u = F at *
      obtain ⟨m, hmF⟩ : ∃ m, m = F.length := ⟨_, rfl⟩
      rw [← hmF] at hN hm eN HB
      have HmF := Lib.hid hmF
      have HLN := Lib.hid hN
      have HE0 := Lib.hid e0
      have HEN := Lib.hid eN
      clear hmF hN e0 eN
      go_wp2_with fail
      refine Calls.mono (HM.out _ (HG.out.below (by have := hA0.size; go_grown))) ?_
      rintro e w1 ⟨v1, rfl, I1, hb⟩
      have hA1 : Below w.heap.size w w1 := belowTo (by have := hA0.size; go_grown) hb
      have ca0 : w1.cell? ⟨w0.heap.size, 0, none⟩ = some (.int .i64 (x)) := (hb.cell (p := ⟨w0.heap.size, 0, none⟩) (by first | assumption | (go_size; done) | (simp; omega) | (simp only [World.size_alloc]; omega))).trans (by first | assumption | (go_cell; done) | (go_simp; done) | simp [*]); have ca1 : w1.cell? ⟨w0.heap.size, 1, none⟩ = some (.int .i64 (y)) := (hb.cell (p := ⟨w0.heap.size, 1, none⟩) (by first | assumption | (go_size; done) | (simp; omega) | (simp only [World.size_alloc]; omega))).trans (by first | assumption | (go_cell; done) | (go_simp; done) | simp [*]); have ca2 : w1.cell? ⟨w0.heap.size, 2, none⟩ = some (.int .i64 (z)) := (hb.cell (p := ⟨w0.heap.size, 2, none⟩) (by first | assumption | (go_size; done) | (simp; omega) | (simp only [World.size_alloc]; omega))).trans (by first | assumption | (go_cell; done) | (go_simp; done) | simp [*]); have ca3 : w1.cell? ⟨w0.heap.size, 3, none⟩ = some (.int .i64 (u)) := (hb.cell (p := ⟨w0.heap.size, 3, none⟩) (by first | assumption | (go_size; done) | (simp; omega) | (simp only [World.size_alloc]; omega))).trans (by first | assumption | (go_cell; done) | (go_simp; done) | simp [*]); have cas : w0.heap.size < w1.heap.size := Nat.lt_of_lt_of_le (by first | assumption | (go_size; done) | (simp; omega) | (simp only [World.size_alloc]; omega)) hb.size
      have J1 : Hid (Vecs w1 _ v1 L) := I1
      clear hb hA0 HM I1
      go_wp2_with fail
      refine Calls.mono (HS.out _) ?_
      rintro e w2 ⟨v2, rfl, I2, hb⟩
      have hA2 : Below w.heap.size w w2 := belowTo hA1 hb
      have cb0 : w2.cell? ⟨w0.heap.size, 0, none⟩ = some (.int .i64 (x)) := (hb.cell (p := ⟨w0.heap.size, 0, none⟩) (by first | assumption | (go_size; done) | (simp; omega) | (simp only [World.size_alloc]; omega))).trans (by first | assumption | (go_cell; done) | (go_simp; done) | simp [*]); have cb1 : w2.cell? ⟨w0.heap.size, 1, none⟩ = some (.int .i64 (y)) := (hb.cell (p := ⟨w0.heap.size, 1, none⟩) (by first | assumption | (go_size; done) | (simp; omega) | (simp only [World.size_alloc]; omega))).trans (by first | assumption | (go_cell; done) | (go_simp; done) | simp [*]); have cb2 : w2.cell? ⟨w0.heap.size, 2, none⟩ = some (.int .i64 (z)) := (hb.cell (p := ⟨w0.heap.size, 2, none⟩) (by first | assumption | (go_size; done) | (simp; omega) | (simp only [World.size_alloc]; omega))).trans (by first | assumption | (go_cell; done) | (go_simp; done) | simp [*]); have cb3 : w2.cell? ⟨w0.heap.size, 3, none⟩ = some (.int .i64 (u)) := (hb.cell (p := ⟨w0.heap.size, 3, none⟩) (by first | assumption | (go_size; done) | (simp; omega) | (simp only [World.size_alloc]; omega))).trans (by first | assumption | (go_cell; done) | (go_simp; done) | simp [*]); have cbs : w0.heap.size < w2.heap.size := Nat.lt_of_lt_of_le (by first | assumption | (go_size; done) | (simp; omega) | (simp only [World.size_alloc]; omega)) hb.size
      replace J1 := Lib.hid (J1.out.below hb)
      have J2 : Hid (Vecs w2 _ v2 L) := I2
      clear hb hA1 ca0 ca1 ca2 ca3 cas HS I2
      go_wp2_with fail
      refine Calls.mono (sameVecs_same v1 v2 _ _ _ _ J1.out J2.out) ?_
      rintro e w3 ⟨rfl, hb⟩
      have hA3 : Below w.heap.size w w3 := belowTo hA2 hb
      have cc0 : w3.cell? ⟨w0.heap.size, 0, none⟩ = some (.int .i64 (x)) := (hb.cell (p := ⟨w0.heap.size, 0, none⟩) (by first | assumption | (go_size; done) | (simp; omega) | (simp only [World.size_alloc]; omega))).trans (by first | assumption | (go_cell; done) | (go_simp; done) | simp [*]); have cc1 : w3.cell? ⟨w0.heap.size, 1, none⟩ = some (.int .i64 (y)) := (hb.cell (p := ⟨w0.heap.size, 1, none⟩) (by first | assumption | (go_size; done) | (simp; omega) | (simp only [World.size_alloc]; omega))).trans (by first | assumption | (go_cell; done) | (go_simp; done) | simp [*]); have cc2 : w3.cell? ⟨w0.heap.size, 2, none⟩ = some (.int .i64 (z)) := (hb.cell (p := ⟨w0.heap.size, 2, none⟩) (by first | assumption | (go_size; done) | (simp; omega) | (simp only [World.size_alloc]; omega))).trans (by first | assumption | (go_cell; done) | (go_simp; done) | simp [*]); have cc3 : w3.cell? ⟨w0.heap.size, 3, none⟩ = some (.int .i64 (u)) := (hb.cell (p := ⟨w0.heap.size, 3, none⟩) (by first | assumption | (go_size; done) | (simp; omega) | (simp only [World.size_alloc]; omega))).trans (by first | assumption | (go_cell; done) | (go_simp; done) | simp [*]); have ccs : w0.heap.size < w3.heap.size := Nat.lt_of_lt_of_le (by first | assumption | (go_size; done) | (simp; omega) | (simp only [World.size_alloc]; omega)) hb.size
      replace J1 := Lib.hid (J1.out.below hb)
      clear hb hA2 cb0 cb1 cb2 cb3 cbs J2
      go_wp2_with fail
      refine Calls.mono (HF.out _ (HG.out.below hA3)) ?_
      rintro e w4 ⟨v4, rfl, I4, hb⟩
      have hA4 : Below w.heap.size w w4 := belowTo hA3 hb
      have cd0 : w4.cell? ⟨w0.heap.size, 0, none⟩ = some (.int .i64 (x)) := (hb.cell (p := ⟨w0.heap.size, 0, none⟩) (by first | assumption | (go_size; done) | (simp; omega) | (simp only [World.size_alloc]; omega))).trans (by first | assumption | (go_cell; done) | (go_simp; done) | simp [*]); have cd1 : w4.cell? ⟨w0.heap.size, 1, none⟩ = some (.int .i64 (y)) := (hb.cell (p := ⟨w0.heap.size, 1, none⟩) (by first | assumption | (go_size; done) | (simp; omega) | (simp only [World.size_alloc]; omega))).trans (by first | assumption | (go_cell; done) | (go_simp; done) | simp [*]); have cd2 : w4.cell? ⟨w0.heap.size, 2, none⟩ = some (.int .i64 (z)) := (hb.cell (p := ⟨w0.heap.size, 2, none⟩) (by first | assumption | (go_size; done) | (simp; omega) | (simp only [World.size_alloc]; omega))).trans (by first | assumption | (go_cell; done) | (go_simp; done) | simp [*]); have cd3 : w4.cell? ⟨w0.heap.size, 3, none⟩ = some (.int .i64 (u)) := (hb.cell (p := ⟨w0.heap.size, 3, none⟩) (by first | assumption | (go_size; done) | (simp; omega) | (simp only [World.size_alloc]; omega))).trans (by first | assumption | (go_cell; done) | (go_simp; done) | simp [*]); have cds : w0.heap.size < w4.heap.size := Nat.lt_of_lt_of_le (by first | assumption | (go_size; done) | (simp; omega) | (simp only [World.size_alloc]; omega)) hb.size
      replace J1 := Lib.hid (J1.out.below hb)
      have J4 : Ints w4 _ v4 F := I4
      clear hb hA3 cc0 cc1 cc2 cc3 ccs HF I4
      obtain ⟨a4, c4, rfl, _, hcell4⟩ := J4.form2
      have HL4 : Hid (∀ j, j < m → ∃ g, a4 = some ⟨g, 0, none⟩ ∧ g < w4.heap.size ∧ w4.cell? ⟨g, j, none⟩ = some (.int .i64 (F[j]?.getD 0))) := fun j hj => hcell4 j (by rw [← HmF.out]; exact hj)
      rw [← HmF.out]
      clear hcell4 J4
      have hJ1 := J1.out
      obtain ⟨g, c, rfl, _, hgl, hcc⟩ := hJ1.form2 (by rw [HLN.out]; omega)
      have HC : Hid (∀ j, j < m + 2 → w4.cell? ⟨g, j * 2, none⟩ = some (.int .i64 (at2 L j).1) ∧ w4.cell? ⟨g, j * 2 + 1, none⟩ = some (.int .i64 (at2 L j).2)) := fun j hj => hJ1.cells2 j (by rw [HLN.out]; exact hj)
      rw [HLN.out] at hcc
      rw [HLN.out]
      clear hJ1 J1
      obtain ⟨q1, q2⟩ := HC.out 0 (by omega)
      obtain ⟨q3, q4⟩ := HC.out (m + 1) (by omega)
      rw [HE0.out] at q1 q2
      rw [HEN.out] at q3 q4
      dsimp only at q1 q2 q3 q4
      have qe1 := fun w' => run_neSame x y w'
      have qe2 := fun w' => run_neSame z u w'
      have t1 : IntKind.i64.wrap ((m : Int) + 2) = (m : Int) + 2 := IntWalk.i64_in _ (by omega)
      have t2 : IntKind.i64.wrap ((m : Int) + 2 - 1) = (m : Int) + 1 := (IntWalk.i64_in _ (by omega)).trans (by omega)
      have t3 : (0 : Int) ≤ (m : Int) + 1 := by omega
      have t4 : (m : Int) + 1 < (m : Int) + 2 := by omega
      have t5 : ((m : Int) + 1).toNat = m + 1 := by omega
      have t6 : m + 1 < m + 2 := by omega
      go_wp2_with fail
      go_quiet (fail)
      have HA := Lib.hid hA4
      have hgc := cds
      clear q1 q2 q3 q4 qe1 qe2 t1 t3 t4 t5 t6 HE0 HEN HLN HmF
      obtain ⟨N, hN⟩ : ∃ N, N = m + 2 := ⟨_, rfl⟩
      have hNi : (m : Int) + 2 = (N : Int) := by omega
      rw [← hN]
      try rw [hNi]
      have HNN := Lib.hid hN
      clear hN hNi t2
      go_wp2
      go_loopw [11] (fun s11 wr => ∃ i : Nat, s11 = .int .i64 ((i : Int) + 1) ∧ i ≤ m + 1 ∧ Below w4.heap.size w4 wr) (fun s11 _ => m + 2 - (intOf s11).toNat)
      case atStart => exact ⟨0, rfl, by omega, below_drewN (Below.refl _ _) _⟩
      case round =>
        obtain ⟨i, rfl, hi, hB⟩ := hrel
        have hN := HNN.out
        by_cases hlt : i < m + 1
        case neg =>
          have n1 : ¬ (i : Int) + 1 < (N : Int) := by omega
          clear hN
          have hA5 := hA4.trans (hB.mono hA4.size)
          clear HC HL4 HB HH HV HX cd0 cd1 cd2 cd3
          go_wp2
          go_returns
          exact ⟨by simp, hA5⟩
        case pos =>
          have d0 := (hB.cell (p := ⟨w0.heap.size, 0, none⟩) cds).trans cd0
          have d1 := (hB.cell (p := ⟨w0.heap.size, 1, none⟩) cds).trans cd1
          have d2 := (hB.cell (p := ⟨w0.heap.size, 2, none⟩) cds).trans cd2
          have d3 := (hB.cell (p := ⟨w0.heap.size, 3, none⟩) cds).trans cd3
          obtain ⟨o1, o2⟩ := HC.out i (by omega)
          obtain ⟨o3, o4⟩ := HC.out (i + 1) (by omega)
          replace o1 := (hB.cell (p := ⟨g, i * 2, none⟩) hgl).trans o1
          replace o2 := (hB.cell (p := ⟨g, i * 2 + 1, none⟩) hgl).trans o2
          replace o3 := (hB.cell (p := ⟨g, (i + 1) * 2, none⟩) hgl).trans o3
          replace o4 := (hB.cell (p := ⟨g, (i + 1) * 2 + 1, none⟩) hgl).trans o4
          have hA5 := hA4.trans (hB.mono hA4.size)
          have HEt : Hid (∀ w', Below wr.heap.size wr w' → EtOk w') := fun w' hb => HG.out.below (belowTo hA5 hb)
          have hdet := (HB.out i).1 (by omega)
          have hv0 := (HB.out i).2.1 (by omega)
          have hv1 := (HB.out (i + 1)).2.1 (by omega)
          have HDet := Lib.hid (fun w' hg' => HV.out (at2 L i).1 (at2 L i).2 (at2 L (i + 1)).1 (at2 L (i + 1)).2 w' hg' hv0 hv1 hdet)
          have HHas := Lib.hid (fun w' hg' => HH.out (at2 L (i + 1)).1 (at2 L (i + 1)).2 w' hg' hv1)
          have hx0 := HX.out (at2 L i).1 (at2 L i).2 hv0
          have hx1 := HX.out (at2 L (i + 1)).1 (at2 L (i + 1)).2 hv1
          have HSm := Lib.hid (fun h => (HB.out i).2.2 h)
          have HC2 := Lib.hid (fun (h : i < m) => HC.out (i + 2) (by omega))
          have HX2 := Lib.hid (fun (h : i < m) => HX.out (at2 L (i + 2)).1 (at2 L (i + 2)).2 ((HB.out (i + 2)).2.1 (by omega)))
          clear hdet hv0 hv1
          have HO3 : Hid (wr.cell? ⟨g, (i + 1) * 2, none⟩ = some (.int .i64 (at2 L (i + 1)).1) ∧ wr.cell? ⟨g, (i + 1) * 2 + 1, none⟩ = some (.int .i64 (at2 L (i + 1)).2)) := ⟨o3, o4⟩
          have HO : Hid (wr.cell? ⟨g, i * 2, none⟩ = some (.int .i64 (at2 L i).1) ∧ wr.cell? ⟨g, i * 2 + 1, none⟩ = some (.int .i64 (at2 L i).2)) := ⟨o1, o2⟩
          generalize at2 L i = P0 at *
          generalize at2 L (i + 1) = P1 at *
          obtain ⟨x0, y0⟩ := P0
          obtain ⟨x1, y1⟩ := P1
          dsimp only at o1 o2 o3 o4 HDet HHas hx0 hx1 HSm HO HO3
          have r1 : IntKind.i64.wrap (i : Int) = (i : Int) := IntWalk.i64_in _ (by omega)
          have r2 : (0 : Int) ≤ (i : Int) := by omega
          have r3 : (i : Int) < (N : Int) := by omega
          have r4 : (0 : Int) ≤ (i : Int) + 1 := by omega
          have r5 : (i : Int) + 1 < (N : Int) := by omega
          have r6 : ((i : Int) + 1).toNat = i + 1 := by omega
          have r7 : i < N := by omega
          have r8 : i + 1 < N := by omega
          clear hN
          have hgr : g < wr.heap.size := Nat.lt_of_lt_of_le hgl hB.size
          have hcr : w0.heap.size < wr.heap.size := Nat.lt_of_lt_of_le cds hB.size
          clear HC HB HH HV cd0 cd1 cd2 cd3
          go_wp2_with fail
          refine wp_region_any (by kernel_rfl) ?_
          try (change wpAny _ _ _ _ _ _ _ (World.drew _))
          refine wpAny_take (i := 0) (v := ?_) rfl (by kernel_rfl) (by kernel_rfl) (by kernel_rfl) (fun _ _ _ h => h) (Or.inl ⟨by rfl, ?_⟩) ?_
          rotate_left
          focus (intro w0; go_simp; try with_reducible rfl)
          refine wpAny_take (i := 1) (v := ?_) rfl (by kernel_rfl) (by kernel_rfl) (by kernel_rfl) (fun _ _ _ h => h) (Or.inl ⟨by rfl, ?_⟩) ?_
          rotate_left
          focus (intro w0; go_simp; try with_reducible rfl)
          refine wpAny_take (i := 2) (v := ?_) rfl (by kernel_rfl) (by kernel_rfl) (by kernel_rfl) (fun _ _ _ h => h) (Or.inl ⟨by rfl, ?_⟩) ?_
          rotate_left
          focus (intro w0; go_simp; try with_reducible rfl)
          refine wpAny_take (i := 3) (v := ?_) rfl (by kernel_rfl) (by kernel_rfl) (by kernel_rfl) (fun _ _ _ h => h) (Or.inl ⟨by rfl, ?_⟩) ?_
          rotate_left
          focus (intro w0; go_simp; try with_reducible rfl)
          refine wpAny_take (i := 5) (v := ?_) rfl (by kernel_rfl) (by kernel_rfl) (by kernel_rfl) (fun _ _ _ h => h) (Or.inl ⟨by rfl, ?_⟩) ?_
          rotate_left
          focus (intro w0; go_simp; try with_reducible rfl)
          refine wpAny_take (i := 6) (v := ?_) rfl (by kernel_rfl) (by kernel_rfl) (by kernel_rfl) (fun _ _ _ h => h) (Or.inl ⟨by rfl, ?_⟩) ?_
          rotate_left
          focus (intro w0; go_simp; try with_reducible rfl)
          refine wpAny_take (i := 7) (v := ?_) rfl (by kernel_rfl) (by kernel_rfl) (by kernel_rfl) (fun _ _ _ h => h) (Or.inl ⟨by rfl, ?_⟩) ?_
          rotate_left
          focus (intro w0; go_simp; try with_reducible rfl)
          refine wpAny_ready (rs := [4, 8]) (by kernel_rfl) (by simp) (AllReady.cons rfl (fun K hK => ?_) (AllReady.cons rfl (fun K hK => ?_) (AllReady.nil)))
          focus
            go_simp
            refine hK _ _ ?_
            clear hK K
            refine wpAny_ready (rs := [8]) (by kernel_rfl) (by simp) (AllReady.cons rfl (fun K hK => ?_) (AllReady.nil))
            go_simp
            refine hK _ _ ?_
            clear hK K
            refine wpAny_ready (rs := [9]) (by kernel_rfl) (by simp) (AllReady.cons rfl (fun K hK => ?_) (AllReady.nil))
            go_simp
            (refine Calls.mono (HDet.out _ (HEt.out _ (by go_grown))) ?_; rintro e w5 ⟨rfl, hb⟩; have hT : Below wr.heap.size wr w5 := belowTo (by go_grown) hb; clear hb)
            refine hK _ _ ?_
            clear hK K
            refine wpAny_take (i := 10) (v := ?_) rfl (by kernel_rfl) (by kernel_rfl) (by kernel_rfl) (fun _ _ _ h => h) (Or.inl ⟨by rfl, ?_⟩) ?_
            rotate_left
            focus (intro w0; go_simp; try with_reducible rfl)
            refine wpAny_take (i := 11) (v := ?_) rfl (by kernel_rfl) (by kernel_rfl) (by kernel_rfl) (fun _ _ _ h => h) (Or.inl ⟨by rfl, ?_⟩) ?_
            rotate_left
            focus (intro w0; go_simp; try with_reducible rfl)
            refine wpAny_take (i := 12) (v := ?_) rfl (by kernel_rfl) (by kernel_rfl) (by kernel_rfl) (fun _ _ _ h => h) (Or.inl ⟨by rfl, ?_⟩) ?_
            rotate_left
            focus (intro w0; go_simp; try with_reducible rfl)
            refine wpAny_take (i := 13) (v := ?_) rfl (by kernel_rfl) (by kernel_rfl) (by kernel_rfl) (fun _ _ _ h => h) (Or.inl ⟨by rfl, ?_⟩) ?_
            rotate_left
            focus (intro w0; go_simp; try with_reducible rfl)
            refine wpAny_take (i := 14) (v := ?_) rfl (by kernel_rfl) (by kernel_rfl) (by kernel_rfl) (fun _ _ _ h => h) (Or.inl ⟨by rfl, ?_⟩) ?_
            rotate_left
            focus (intro w0; go_simp; try with_reducible rfl)
            refine wpAny_seq 15 rfl (by kernel_rfl) ?_
            simp only [List.drop_succ_cons, List.drop_zero]
          rotate_left 1
          focus
            go_simp
            refine hK _ _ ?_
            clear hK K
            refine wpAny_ready (rs := [4]) (by kernel_rfl) (by simp) (AllReady.cons rfl (fun K hK => ?_) (AllReady.nil))
            go_simp
            refine hK _ _ ?_
            clear hK K
            refine wpAny_ready (rs := [9]) (by kernel_rfl) (by simp) (AllReady.cons rfl (fun K hK => ?_) (AllReady.nil))
            go_simp
            (refine Calls.mono (HDet.out _ (HEt.out _ (by go_grown))) ?_; rintro e w5 ⟨rfl, hb⟩; have hT : Below wr.heap.size wr w5 := belowTo (by go_grown) hb; clear hb)
            refine hK _ _ ?_
            clear hK K
            refine wpAny_take (i := 10) (v := ?_) rfl (by kernel_rfl) (by kernel_rfl) (by kernel_rfl) (fun _ _ _ h => h) (Or.inl ⟨by rfl, ?_⟩) ?_
            rotate_left
            focus (intro w0; go_simp; try with_reducible rfl)
            refine wpAny_take (i := 11) (v := ?_) rfl (by kernel_rfl) (by kernel_rfl) (by kernel_rfl) (fun _ _ _ h => h) (Or.inl ⟨by rfl, ?_⟩) ?_
            rotate_left
            focus (intro w0; go_simp; try with_reducible rfl)
            refine wpAny_take (i := 12) (v := ?_) rfl (by kernel_rfl) (by kernel_rfl) (by kernel_rfl) (fun _ _ _ h => h) (Or.inl ⟨by rfl, ?_⟩) ?_
            rotate_left
            focus (intro w0; go_simp; try with_reducible rfl)
            refine wpAny_take (i := 13) (v := ?_) rfl (by kernel_rfl) (by kernel_rfl) (by kernel_rfl) (fun _ _ _ h => h) (Or.inl ⟨by rfl, ?_⟩) ?_
            rotate_left
            focus (intro w0; go_simp; try with_reducible rfl)
            refine wpAny_take (i := 14) (v := ?_) rfl (by kernel_rfl) (by kernel_rfl) (by kernel_rfl) (fun _ _ _ h => h) (Or.inl ⟨by rfl, ?_⟩) ?_
            rotate_left
            focus (intro w0; go_simp; try with_reducible rfl)
            refine wpAny_seq 15 rfl (by kernel_rfl) ?_
            simp only [List.drop_succ_cons, List.drop_zero]
          all_goals
            replace d0 := (hT.cell (p := ⟨w0.heap.size, 0, none⟩) hcr).trans d0
            replace d1 := (hT.cell (p := ⟨w0.heap.size, 1, none⟩) hcr).trans d1
            replace d2 := (hT.cell (p := ⟨w0.heap.size, 2, none⟩) hcr).trans d2
            replace d3 := (hT.cell (p := ⟨w0.heap.size, 3, none⟩) hcr).trans d3
            replace o3 := (hT.cell (p := ⟨g, (i + 1) * 2, none⟩) hgr).trans o3
            replace o4 := (hT.cell (p := ⟨g, (i + 1) * 2 + 1, none⟩) hgr).trans o4
            have hTs := hT.size
            clear o1 o2
            go_wp2
            refine wp_region_any (by kernel_rfl) ?_
            try (change wpAny _ _ _ _ _ _ _ (World.drew _))
            refine wpAny_take (i := 0) (v := ?_) rfl (by kernel_rfl) (by kernel_rfl) (by kernel_rfl) (fun _ _ _ h => h) (Or.inl ⟨by rfl, ?_⟩) ?_
            rotate_left
            focus (intro w0; go_simp; try with_reducible rfl)
            refine wpAny_take (i := 1) (v := ?_) rfl (by kernel_rfl) (by kernel_rfl) (by kernel_rfl) (fun _ _ _ h => h) (Or.inl ⟨by rfl, ?_⟩) ?_
            rotate_left
            focus (intro w0; go_simp; try with_reducible rfl)
            refine wpAny_take (i := 2) (v := ?_) rfl (by kernel_rfl) (by kernel_rfl) (by kernel_rfl) (fun _ _ _ h => h) (Or.inl ⟨by rfl, ?_⟩) ?_
            rotate_left
            focus (intro w0; go_simp; try with_reducible rfl)
            refine wpAny_take (i := 3) (v := ?_) rfl (by kernel_rfl) (by kernel_rfl) (by kernel_rfl) (fun _ _ _ h => h) (Or.inl ⟨by kernel_rfl, ?_⟩) ?_
            rotate_left
            focus (intro w0; go_simp; try with_reducible rfl)
            refine wpAny_take (i := 4) (v := ?_) rfl (by kernel_rfl) (by kernel_rfl) (by kernel_rfl) (fun _ _ _ h => h) (Or.inl ⟨by kernel_rfl, ?_⟩) ?_
            rotate_left
            focus (intro w0; go_simp; try with_reducible rfl)
            refine wpAny_take (i := 5) (v := ?_) rfl (by kernel_rfl) (by kernel_rfl) (by kernel_rfl) (fun _ _ _ h => h) (Or.inl ⟨by rfl, ?_⟩) ?_
            rotate_left
            focus (intro w0; go_simp; try with_reducible rfl)
            refine wpAny_take (i := 6) (v := ?_) rfl (by kernel_rfl) (by kernel_rfl) (by kernel_rfl) (fun _ _ _ h => h) (Or.inl ⟨by rfl, ?_⟩) ?_
            rotate_left
            focus (intro w0; go_simp; try with_reducible rfl)
            refine wpAny_take (i := 8) (v := ?_) rfl (by kernel_rfl) (by kernel_rfl) (by kernel_rfl) (fun _ _ _ h => h) (Or.inl ⟨by kernel_rfl, ?_⟩) ?_
            rotate_left
            focus (intro w0; go_simp; try with_reducible rfl)
            refine wpAny_take (i := 9) (v := ?_) rfl (by kernel_rfl) (by kernel_rfl) (by kernel_rfl) (fun _ _ _ h => h) (Or.inl ⟨by kernel_rfl, ?_⟩) ?_
            rotate_left
            focus (intro w0; go_simp; try with_reducible rfl)
            refine wpAny_take (i := 10) (v := ?_) rfl (by kernel_rfl) (by kernel_rfl) (by kernel_rfl) (fun _ _ _ h => h) (Or.inl ⟨by kernel_rfl, ?_⟩) ?_
            rotate_left
            focus (intro w0; go_simp; try with_reducible rfl)
            refine wpAny_ready (rs := [7, 11]) (by kernel_rfl) (by simp) (AllReady.cons rfl (fun K hK => ?_) (AllReady.cons rfl (fun K hK => ?_) (AllReady.nil)))
            focus
              go_simp
              refine hK _ _ ?_
              clear hK K
              refine wpAny_ready (rs := [11]) (by kernel_rfl) (by simp) (AllReady.cons rfl (fun K hK => ?_) (AllReady.nil))
              go_simp
              refine hK _ _ ?_
              clear hK K
              refine wpAny_ready (rs := [12]) (by kernel_rfl) (by simp) (AllReady.cons rfl (fun K hK => ?_) (AllReady.nil))
              go_simp
              (refine Calls.mono (HHas.out _ (HEt.out _ (by go_grown))) ?_; rintro e w6 ⟨rfl, hb⟩; have hT6 : Below wr.heap.size wr w6 := belowTo (by go_grown) hb; clear hb)
              refine hK _ _ ?_
              clear hK K
              refine wpAny_take (i := 13) (v := ?_) rfl (by kernel_rfl) (by kernel_rfl) (by kernel_rfl) (fun _ _ _ h => h) (Or.inl ⟨by kernel_rfl, ?_⟩) ?_
              rotate_left
              focus (intro w0; go_simp; try with_reducible rfl)
              refine wpAny_seq 14 rfl (by kernel_rfl) ?_
              simp only [List.drop_succ_cons, List.drop_zero]
            rotate_left 1
            focus
              go_simp
              refine hK _ _ ?_
              clear hK K
              refine wpAny_ready (rs := [7]) (by kernel_rfl) (by simp) (AllReady.cons rfl (fun K hK => ?_) (AllReady.nil))
              go_simp
              refine hK _ _ ?_
              clear hK K
              refine wpAny_ready (rs := [12]) (by kernel_rfl) (by simp) (AllReady.cons rfl (fun K hK => ?_) (AllReady.nil))
              go_simp
              (refine Calls.mono (HHas.out _ (HEt.out _ (by go_grown))) ?_; rintro e w6 ⟨rfl, hb⟩; have hT6 : Below wr.heap.size wr w6 := belowTo (by go_grown) hb; clear hb)
              refine hK _ _ ?_
              clear hK K
              refine wpAny_take (i := 13) (v := ?_) rfl (by kernel_rfl) (by kernel_rfl) (by kernel_rfl) (fun _ _ _ h => h) (Or.inl ⟨by kernel_rfl, ?_⟩) ?_
              rotate_left
              focus (intro w0; go_simp; try with_reducible rfl)
              refine wpAny_seq 14 rfl (by kernel_rfl) ?_
              simp only [List.drop_succ_cons, List.drop_zero]
            all_goals
              have hTs6 := hT6.size
              by_cases him : i = m
              · have z1 : (i : Int) + 1 = (N : Int) - 1 := by have := HNN.out; omega
                have z2 : IntKind.i64.wrap ((N : Int) - 1) = (N : Int) - 1 := IntWalk.i64_in _ (by have := HNN.out; omega)
                have hB6 := hB.trans (hT6.mono hB.size)
                clear d0 d1 d2 d3 o3 o4 hT HDet HHas HSm HC2 HX2 HL4
                go_wp2
                go_roundw
                case rel => exact ⟨i + 1, by go_num, by omega, hB6⟩
                case measure => simp [intOf]; omega
              · have him2 : i < m := by omega
                have z1 : ¬ (i : Int) + 1 = (N : Int) - 1 := by have := HNN.out; omega
                have z2 : IntKind.i64.wrap ((N : Int) - 1) = (N : Int) - 1 := IntWalk.i64_in _ (by have := HNN.out; omega)
                have z3 : (((i : Int) + 1) == ((N : Int) - 1)) = false := by simpa using z1
                obtain ⟨o5, o6⟩ := HC2.out him2
                obtain ⟨g4, rfl, hg4, o7⟩ := HL4.out i him2
                obtain ⟨p1, p2⟩ := HSm.out him2
                obtain ⟨hx2, hy2⟩ := HX2.out him2
                obtain ⟨o1, o2⟩ := HO.out
                replace o1 := (hT6.cell (p := ⟨g, i * 2, none⟩) hgr).trans o1
                replace o2 := (hT6.cell (p := ⟨g, i * 2 + 1, none⟩) hgr).trans o2
                clear o3 o4 d0 d1 d2 d3
                obtain ⟨o3, o4⟩ := HO3.out
                replace o3 := (hT6.cell (p := ⟨g, (i + 1) * 2, none⟩) hgr).trans o3
                replace o4 := (hT6.cell (p := ⟨g, (i + 1) * 2 + 1, none⟩) hgr).trans o4
                replace o5 := (hT6.cell (p := ⟨g, (i + 2) * 2, none⟩) hgr).trans ((hB.cell (p := ⟨g, (i + 2) * 2, none⟩) hgl).trans o5)
                replace o6 := (hT6.cell (p := ⟨g, (i + 2) * 2 + 1, none⟩) hgr).trans ((hB.cell (p := ⟨g, (i + 2) * 2 + 1, none⟩) hgl).trans o6)
                replace o7 := (hT6.cell (p := ⟨g4, i, none⟩) (Nat.lt_of_lt_of_le hg4 hB.size)).trans ((hB.cell (p := ⟨g4, i, none⟩) hg4).trans o7)
                have hB6 := hB.trans (hT6.mono hB.size)
                have hg6 : g < w6.heap.size := Nat.lt_of_lt_of_le hgr hT6.size
                have hg46 : g4 < w6.heap.size := Nat.lt_of_lt_of_le hg4 hB6.size
                generalize at2 L (i + 2) = P2 at *
                obtain ⟨x2, y2⟩ := P2
                dsimp only at o5 o6 p1 p2 hx2 hy2
                generalize F[i]?.getD 0 = f at *
                have z4 : IntKind.i64.wrap (x0 + x2) = x0 + x2 := IntWalk.i64_in _ (by omega)
                have z5 : IntKind.i64.wrap (y0 + y2) = y0 + y2 := IntWalk.i64_in _ (by omega)
                have z6 : IntKind.i64.wrap (f * x1) = x0 + x2 := (IntWalk.i64_in _ (by omega)).trans p1.symm
                have z7 : IntKind.i64.wrap (f * y1) = y0 + y2 := (IntWalk.i64_in _ (by omega)).trans p2.symm
                have z8 : IntKind.i64.wrap ((i : Int) + 1 + 1) = (i : Int) + 2 := (IntWalk.i64_in _ (by omega)).trans (by omega)
                have z9 : IntKind.i64.wrap ((i : Int) + 2) = (i : Int) + 2 := IntWalk.i64_in _ (by omega)
                have za : (0 : Int) ≤ (i : Int) + 2 := by omega
                have zb : (i : Int) + 2 < (N : Int) := by have := HNN.out; omega
                have zc : ((i : Int) + 2).toNat = i + 2 := by omega
                have zd : i + 2 < N := by have := HNN.out; omega
                have ze : (i : Int) < (m : Int) := by omega
                have qe := fun w' => run_neSame (x0 + x2) (y0 + y2) w'
                have HB6 := Lib.hid hB6
                clear HO HO3 HSm HC2 HX2 HL4 HDet HHas hT hT6 hB hx0 hx1 hx2 hy2 p1 p2 hB6 hTs hTs6
                have hS0 : Below w6.heap.size w6 w6 := Below.refl _ _
                go_wp2_with fail
                go_region_held3 (fun w' => w'.cell? ⟨g, i * 2, none⟩ = some (.int .i64 (x0)) ∧ w'.cell? ⟨g, i * 2 + 1, none⟩ = some (.int .i64 (y0)) ∧ w'.cell? ⟨g, (i + 2) * 2, none⟩ = some (.int .i64 (x2)) ∧ w'.cell? ⟨g, (i + 2) * 2 + 1, none⟩ = some (.int .i64 (y2)) ∧ Below w6.heap.size w6 w') ((go_split_ands; refine ⟨by (first | (with_reducible assumption) | (go_keep; done) | (go_cell; done) | (go_simp; done) | (simp [*]; done)), by (first | (with_reducible assumption) | (go_keep; done) | (go_cell; done) | (go_simp; done) | (simp [*]; done)), by (first | (with_reducible assumption) | (go_keep; done) | (go_cell; done) | (go_simp; done) | (simp [*]; done)), by (first | (with_reducible assumption) | (go_keep; done) | (go_cell; done) | (go_simp; done) | (simp [*]; done)), by first | (with_reducible assumption) | (go_grown; done)⟩)) (fail)
                all_goals
                  have hW : Below w6.heap.size w6 (w6.alloc (.cells #[.int .i64 (x0 + x2), .int .i64 (y0 + y2)] 24)).drew := by go_grown
                  replace o3 := (hW.cell (p := ⟨g, (i + 1) * 2, none⟩) hg6).trans o3
                  replace o4 := (hW.cell (p := ⟨g, (i + 1) * 2 + 1, none⟩) hg6).trans o4
                  replace o7 := (hW.cell (p := ⟨g4, i, none⟩) hg46).trans o7
                  have b0 : (w6.alloc (.cells #[.int .i64 (x0 + x2), .int .i64 (y0 + y2)] 24)).drew.cell? ⟨w6.heap.size, 0, none⟩ = some (.int .i64 (x0 + x2)) := by simp
                  have b1 : (w6.alloc (.cells #[.int .i64 (x0 + x2), .int .i64 (y0 + y2)] 24)).drew.cell? ⟨w6.heap.size, 1, none⟩ = some (.int .i64 (y0 + y2)) := by simp
                  have hB7 := HB6.out.trans (hW.mono HB6.out.size)
                  clear o1 o2 o5 o6 hW HB6 hS0
                  generalize (w6.alloc (.cells #[.int .i64 (x0 + x2), .int .i64 (y0 + y2)] 24)).drew = w7 at *
                  go_wp2_with fail
                  go_quiet (fail)
                  go_wp2
                  go_roundw
                  case rel => exact ⟨i + 1, by go_num, by omega, below_drewN hB7 _⟩
                  case measure => simp [intOf]; omega
end Go.Proofs.YtjlobpccnplebaaDoor
