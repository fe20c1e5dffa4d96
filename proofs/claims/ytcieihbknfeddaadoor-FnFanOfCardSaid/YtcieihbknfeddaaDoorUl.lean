/- The draws of chapter 3 of a fan that is often not smooth: alone, with an index, with a vector. -/
import Derived.Test.YtcieihbknfeddaaDoorI2
import Derived.Test.YtcieihbknfeddaaDoorBd
import Derived.Test.YtcieihbknfeddaaDoorBs
import Derived.Test.YtcieihbknfeddaaDoorSu
namespace Go.Proofs.YtcieihbknfeddaaDoor
open Go.RowKit

set_option maxHeartbeats 4000000 in
theorem l91PrimG_any (w : World) (B : Nat) (a : Option Addr) (len cap : Nat) (p : Int) (h : Reads w B a len cap p) (hp : p ≤ 90000) :
    Calls Tryd.prog 115 #[.pointer (some ⟨B, 0, none⟩)] w (fun e w' => DrewPrim w B a len cap p e w' ∧ w.grownBy w' (some B)) := by
  have hB : B < w.heap.size := h.2.2.2.2.1
  have b0 : w.heap.size ≠ B := by omega
  have b3 : ¬ w.heap.size + 1 = w.heap.size := by omega
  go_enter Tryd.func115, Tryd.ntmps115
  go_wp2_with fail
  refine Calls.mono (pickG_any _ B a len cap p 13 (h.below (by go_grown)) (by omega) (by omega)) ?_
  rintro e w1 ⟨⟨x, rfl, x0, x1, r1, k1, f1, s1, q1⟩, g1⟩
  have G1 : w.grownBy w1 (some B) := grown_trans (grown_of_below (by go_grown) _) g1
  have K1 : Kept w.heap.size B w w1 := (Kept.of_below (by go_grown)).trans (Kept.of_pick k1 f1 s1)
  have Q1 : Below B w w1 := Below.trans ((Below.refl B w).alloc (Nat.le_of_lt hB) _) q1
  rw [World.size_alloc] at s1
  go_wp2_with fail
  refine Calls.mono (pickG_any _ B a len cap (p + 1) 13 r1 (by omega) (by omega)) ?_
  rintro e w2 ⟨⟨y, rfl, y0, y1, r2, k2, f2, s2, q2⟩, g2⟩
  have G2 : Hid (w.grownBy w2 (some B)) := grown_trans G1 g2
  clear G1 g1 g2
  have K2 := K1.trans (Kept.of_pick k2 f2 s2)
  have Q2 := Q1.trans q2
  rw [s1] at s2
  clear K1 Q1 q1 q2 s1
  have g0 : w2.cell? ⟨w.heap.size, 0, none⟩ = some (.int .i64 0) := by rw [k2 _ _ b0, k1 _ _ b0]; simp
  have g1 : w2.cell? ⟨w.heap.size, 1, none⟩ = some (.int .i64 0) := by rw [k2 _ _ b0, k1 _ _ b0]; simp
  have g2 : w2.frozen? ⟨w.heap.size, 0, none⟩ = false := by rw [f2 _ _ b0, f1 _ _ b0]; simp
  have g3 : w2.frozen? ⟨w.heap.size, 1, none⟩ = false := by rw [f2 _ _ b0, f1 _ _ b0]; simp
  clear k1 f1 k2 f2 r1
  have v1 : -6 ≤ x - 6 ∧ x - 6 ≤ 6 := by omega
  have v2 : -6 ≤ y - 6 ∧ y - 6 ≤ 6 := by omega
  by_cases hz : x - 6 = 0 ∧ y - 6 = 0
  · obtain rfl : x = 6 := by omega
    obtain rfl : y = 6 := by omega
    clear hz x0 x1 y0 y1 v1 v2
    have hsz : w.heap.size < w2.heap.size := by omega
    go_wp2
    refine bodyPost_ret (by simp [results, Tryd.results115, go_sem, g0, g1, hsz]; try rfl) rfl ?_
    exact ⟨⟨_, _, _, rfl, ⟨by omega, by omega⟩, ⟨by omega, by omega⟩, by omega, by omega, r2.below (by have := s2; go_grown), by go_grown, K2.trans (Kept.of_below (by have := s2; go_grown))⟩, grown_then G2.out (by have := s2; go_grown)⟩
  · have hn : nzB (x - 6) (y - 6) = true := by
      unfold nzB
      cases h1 : (x - 6 == 0) <;> cases h2 : (y - 6 == 0) <;> simp at h1 h2 ⊢
      exact hz ⟨h1, h2⟩
    have HP := Lib.hid (fun w' => l1Primitive_any (x - 6) (y - 6) w' (six_vec v1 v2) hn)
    have t1 := tdiv_bd (m := gcdZ (x - 6) (y - 6)) v1
    have t2 := tdiv_bd (m := gcdZ (x - 6) (y - 6)) v2
    have qe : ∀ w', (binOp .eql 26 (.agg #[.int .i64 (x - 6), .int .i64 (y - 6)]) (.agg #[.int .i64 (0), .int .i64 (0)])).run Tryd.prog w' = .ok (.bool false) w' := fun w' => by
      have hS : Tryd.prog.underlying 26 = some (.struct (Tryd.prog.fieldsOf 26)) := by kernel_rfl
      have hp : Tryd.prog.stoodInHeld 26 = false := by kernel_rfl
      have u3 := Tryd.underlying3
      have a3 := Tryd.isAgg3
      have z3 := Tryd.sizeOf3
      rw [run_eql_struct, show (10000 : Nat) = 9999 + 1 from rfl, run_equalIn_agg w' 9999 26 _ _ hS hp]
      simp only [Program.fieldsOf, Tryd.underlying26]
      go_simp
      by_cases h1 : x - 6 = 0 <;> by_cases h2 : y - 6 = 0 <;> simp [h1, h2]
      exact hz ⟨h1, h2⟩
    generalize (x - 6).tdiv (gcdZ (x - 6) (y - 6)) = u at *
    generalize (y - 6).tdiv (gcdZ (x - 6) (y - 6)) = v at *
    clear hn v1 v2
    go_wp2_with fail
    refine Calls.mono (HP.out _) ?_
    rintro e w3 ⟨rfl, hb3⟩
    have c0 : w3.cell? ⟨w.heap.size, 0, none⟩ = some (.int .i64 0) := (hb3.cell (p := ⟨w.heap.size, 0, none⟩) (by simp; omega)).trans (by rw [World.cell?_alloc_lt _ _ ⟨w.heap.size, 0, none⟩ (by show w.heap.size < w2.heap.size; omega)]; exact g0)
    have c1 : w3.cell? ⟨w.heap.size, 1, none⟩ = some (.int .i64 0) := (hb3.cell (p := ⟨w.heap.size, 1, none⟩) (by simp; omega)).trans (by rw [World.cell?_alloc_lt _ _ ⟨w.heap.size, 1, none⟩ (by show w.heap.size < w2.heap.size; omega)]; exact g1)
    have c2 : w3.frozen? ⟨w.heap.size, 0, none⟩ = false := (hb3.frozen (p := ⟨w.heap.size, 0, none⟩) (by simp; omega)).trans (by rw [World.frozen?_alloc_old _ _ ⟨w.heap.size, 0, none⟩ (by show w.heap.size ≠ w2.heap.size; omega)]; exact g2)
    have c3 : w3.frozen? ⟨w.heap.size, 1, none⟩ = false := (hb3.frozen (p := ⟨w.heap.size, 1, none⟩) (by simp; omega)).trans (by rw [World.frozen?_alloc_old _ _ ⟨w.heap.size, 1, none⟩ (by show w.heap.size ≠ w2.heap.size; omega)]; exact g3)
    have hA : Below w2.heap.size w2 w3 := belowTo (by go_grown) hb3
    have r3 := r2.below (hA.mono (by omega))
    have Q3 : Below B w w3 := Q2.trans (hA.mono (by omega))
    have K3 := K2.trans (Kept.of_below (hA.mono (by omega)))
    have G3 : Hid (w.grownBy w3 (some B)) := grown_then G2.out (hA.mono (by omega))
    have s3 := hA.size
    clear hb3 hA r2 Q2 K2 g0 g1 g2 g3
    go_wp2
    refine bodyPost_ret (by simp [results, Tryd.results115, go_sem, c0, c1]; try rfl) rfl ?_
    exact ⟨⟨_, _, _, rfl, t1, t2, by omega, by omega, r3.below (by go_grown), by go_grown, K3.trans (Kept.of_below (by go_grown))⟩, grown_then G3.out (by go_grown)⟩
/-- a list of vectors, from block w.heap.size on; the reader in block B goes on from some place -/
def DrewFanL (w : World) (B : Nat) (a : Option Addr) (len cap : Nat) (p : Int) (e : Ending) (w' : World) : Prop :=
  ∃ (v : Value) (l : List V2) (q : Int), e = .returned v ∧ VecsO w' w.heap.size v l ∧ 2 ≤ l.length ∧ l.length ≤ 20 ∧ Reads w' B a len cap q ∧ q ≤ p + 100 ∧ Below B w w'
set_option maxRecDepth 100000 in
set_option maxHeartbeats 16000000 in
theorem l91Fan_any (w : World) (B : Nat) (a : Option Addr) (len cap : Nat) (p : Int) (h : Reads w B a len cap p) (hp : p ≤ 80000) :
    Calls Tryd.prog 113 #[.pointer (some ⟨B, 0, none⟩)] w (DrewFanL w B a len cap p) := by
  obtain ⟨i0, hi, hz0, hz1, hz2⟩ := info_parts infoVec
  have hB : B < w.heap.size := h.2.2.2.2.1
  have HR := Lib.hid h
  have HSm := Lib.hid (fun w' q (h : Reads w' B a len cap q) (hq : q ≤ 90000) => l91Smooth_any w' B a len cap q h hq)
  have HPr := Lib.hid (fun w' q (h : Reads w' B a len cap q) (hq : q ≤ 90000) => l91PrimG_any w' B a len cap q h hq)
  have HFo := Lib.hid (fun v' l' w' hV (hm : l'.length ≤ 1048576) => specFanOf_any v' l' w' hV hm)
  have HE := Lib.hid (fun w' => Vecs.empty w')
  have HN : Hid (∀ L : List V2, ofB L = true → 3 ≤ (sortL L).length ∧ (sortL L).length ≤ 20) := fun L hL => by
    unfold ofB at hL
    rw [Bool.and_eq_true] at hL
    exact fan_len hL.2
  clear h
  go_enter Tryd.func113, Tryd.ntmps113
  go_wp2_with fail
  refine Calls.mono (pickG_any _ B a len cap p 3 HR.out (by omega) (by omega)) ?_
  rintro e w1 ⟨⟨x, rfl, x0, x3, R1, -, -, -, q1⟩, -⟩
  have hs1 := q1.size
  have HR1 := Lib.hid R1
  have HQ1 := Lib.hid q1
  clear R1 q1 HR
  by_cases hx : x = 0
  · subst hx
    go_wp2_with fail
    refine Calls.mono (HSm.out _ _ HR1.out (by omega)) ?_
    rintro e w2 ⟨v, l, q, rfl, hV, h2, h20, r2, hq, hb2⟩
    have HV := Lib.hid (hV.lower hs1)
    have HR2 := Lib.hid r2
    have HB2 := Lib.hid (HQ1.out.trans hb2)
    clear hV r2 hb2
    go_wp2
    go_returns
    exact ⟨_, l, q, rfl, HV.out, h2, h20, HR2.out, by omega, HB2.out⟩
  · have hx' : (x == 0) = false := by simpa using hx
    have HE1 := Lib.hid (HE.out w1)
    have hBs : B < w1.heap.size := by omega
    clear hx HE
    go_wp2_with fail
    refine Calls.mono (pickG_any _ B a len cap (p + 1) 4 (HR1.out.below (by go_grown)) (by omega) (by omega)) ?_
    rintro e w2 ⟨⟨y, rfl, y0, y4, R2, -, -, -, q2⟩, g2⟩
    have HV2 := Lib.hid (HE1.out.pickedL g2 hBs)
    have HQ2 := Lib.hid (HQ1.out.trans (Below.trans (by go_grown) q2))
    have HR2 := Lib.hid R2
    have hs2 : w1.heap.size ≤ w2.heap.size := by have := q2.size; simp at this; omega
    obtain ⟨n, hn⟩ : ∃ n, n = 3 + y := ⟨_, rfl⟩
    have qn : IntKind.i64.wrap (3 + y) = n := by rw [IntKind.wrap_i64]; omega
    have n3 : 3 ≤ n := by omega
    have n6 : n ≤ 6 := by omega
    clear HE1 g2 q2 R2 HR1 HQ1 hn
    go_wp2
    go_loopw [3, 5] (fun s3 s5 wr => ∃ (k : Nat) (L : List V2) (q : Int), s5 = .int .i64 k ∧ (k : Int) ≤ n ∧ L.length = k ∧ Hid (Vecs wr w1.heap.size s3 L) ∧ Hid (Reads wr B a len cap q) ∧ q ≤ p + 2 + 10 * k ∧ Hid (Below B w wr) ∧ w1.heap.size ≤ wr.heap.size) (fun _ s5 _ => (n - intOf s5).toNat)
    case atStart => exact ⟨0, [], p + 1 + 1, rfl, by omega, rfl, HV2, HR2, by omega, HQ2, hs2⟩
    case round =>
      clear HV2 HR2 HQ2
      obtain ⟨k, L, q, rfl, hk, hL, HV, HR, hq, HQ, hsr⟩ := hrel
      have i1 : (0 : Int) ≤ (k : Int) := by omega
      by_cases hlt : (k : Int) < n
      · go_wp2_with fail
        refine Calls.mono (HPr.out _ q HR.out (by omega)) ?_
        rintro e w3 ⟨⟨X, Y, p', rfl, -, -, p1, p2, r3, b3, -⟩, g3⟩
        have hown := HV.out.pickedL g3 hBs
        have hb3 := HQ.out.trans b3
        have hs3 : w1.heap.size ≤ w3.heap.size := Nat.le_trans hsr b3.size
        have HR3 := Lib.hid r3
        have HB3 := Lib.hid hb3
        unfold Vecs VRow at hown
        rw [hL] at hown
        clear r3 b3 hb3 g3 HV HR HQ
        go_wp2_with (at_builtin; refine wpList_append_own_at _ rfl _ _ 39 rfl w1.heap.size 26 i0 (.agg #[.int .i64 (0), .int .i64 (0)]) 2 16 Tryd.underlying39 hi hz0 hz1 hz2 rfl (by decide) _ _ _ rfl (hown.alloc _) ⟨w3.heap.size, 0, none⟩ 1 1 [.int .i64 X, .int .i64 Y] rfl rfl (vec_cellsL _ X Y _) (vec_oneL X Y) ?c3 ?c4 ?c5 ?_)
        case c3 => unfold maxLen; omega
        case c4 => omega
        case c5 => simp; omega
        intro v' w4 hown' hgrow _ _
        have hg4 : Below w1.heap.size w3 w4 := ((Below.refl w1.heap.size w3).alloc hs3 _).grown hgrow (by simp; omega) (fun k hk => (hown.lt k hk).1)
        have HVv := Lib.hid (Vecs.snoc (l := L) hL.symm hown')
        have hs4 : w1.heap.size ≤ w4.heap.size := Nat.le_trans hs3 hg4.size
        have HR4 := Lib.hid (HR3.out.below (hg4.mono (by omega)))
        have HB4 := Lib.hid (HB3.out.trans (hg4.mono (by omega)))
        have hLl : (L ++ [(X, Y)]).length = k + 1 := by simp [hL]
        have HLl := Lib.hid hLl
        clear hown hown' hgrow hg4 HR3 HB3 hL hLl
        go_wp2
        go_roundw
        case rel => exact ⟨k + 1, L ++ [(X, Y)], p', by go_num, by omega, HLl.out, HVv, HR4, by omega, HB4, hs4⟩
        case measure => simp [intOf]; omega
      · have hkn : (k : Int) = n := by omega
        have HFL := Lib.hid (HFo.out _ L wr (HV.out.reads (by omega)) (by omega))
        have HNL := Lib.hid (HN.out L)
        have hs3 : w.heap.size ≤ wr.heap.size := HQ.out.size
        clear HV HFo HN hL
        generalize ofB L = K at *
        generalize sortL L = S at *
        go_wp2_with fail
        refine Calls.mono HFL.out ?_
        rintro e w5 ⟨v5, rfl, hV5, hb5⟩
        have hR5 := HR.out.below (hb5.mono (by omega))
        have hB5 := HQ.out.trans (hb5.mono (by omega))
        have hs5 := hb5.size
        have HR5 := Lib.hid hR5
        have HB5 := Lib.hid hB5
        cases K
        · clear hV5 hb5 HFL HR HQ hR5 hB5
          go_wp2_with fail
          refine Calls.mono (HSm.out _ q HR5.out (by omega)) ?_
          rintro e w6 ⟨v, l, q6, rfl, hV, h2, h20, r6, hq6, hb6⟩
          have HV6 := Lib.hid (hV.lower (show w.heap.size ≤ w5.heap.size by omega))
          have HR6 := Lib.hid r6
          have HB6 := Lib.hid (HB5.out.trans hb6)
          clear hV r6 hb6
          go_wp2
          go_returns
          exact ⟨_, l, q6, rfl, HV6.out, h2, h20, HR6.out, by omega, HB6.out⟩
        · obtain ⟨s1, s2⟩ := HNL.out rfl
          have HV5 : Hid (VecsO w5 w.heap.size v5 S) := VecsO.of (Vecs.lower hV5 hs3) (by omega) (by omega)
          clear hV5 hb5 HFL HR HQ hR5 hB5 HNL
          go_wp2
          go_returns
          exact ⟨_, S, q, rfl, HV5.out, by omega, by omega, HR5.out, by omega, HB5.out⟩
def GivenFI (w : World) (e : Ending) (w' : World) : Prop :=
  ∃ (v : Value) (l : List V2) (i : Int), e = .returned (.tuple #[v, .int .i64 i]) ∧ ReadsVecs w' v l ∧ 2 ≤ l.length ∧ l.length ≤ 20 ∧ Below w.heap.size w w'
def GivenFV (w : World) (e : Ending) (w' : World) : Prop :=
  ∃ (v : Value) (l : List V2) (x y : Int), e = .returned (.tuple #[v, .agg #[.int .i64 (x), .int .i64 (y)]]) ∧ ReadsVecs w' v l ∧ 2 ≤ l.length ∧ l.length ≤ 20 ∧ Below w.heap.size w w'
end Go.Proofs.YtcieihbknfeddaaDoor
