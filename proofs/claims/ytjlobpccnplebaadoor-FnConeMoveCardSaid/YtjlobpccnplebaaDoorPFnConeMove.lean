/- FnConeMove. -/
import Derived.Test.YtjlobpccnplebaaDoorPe
import Derived.Test.YtjlobpccnplebaaDoorPk
import Derived.Test.YtjlobpccnplebaaDoorB4
import Derived.Test.YtjlobpccnplebaaDoorCh
import Derived.Test.YtjlobpccnplebaaDoorFg
import Derived.Test.YtjlobpccnplebaaDoorTr
namespace Go.Proofs.YtjlobpccnplebaaDoor
open Go.RowKit

theorem frac_rev {n q k : Int} (hq0 : 0 ≤ q) (hq : q < n) (hk0 : 0 ≤ k) (hk : k < n) (hg : gcdZ n q = 1) (hi : n ∣ 1 - q * k) : fracZ n k = (fracZ n q).reverse := by
  obtain ⟨e1, e2⟩ := cont_frac n q hq0 hq hg
  obtain ⟨r1, y, r2⟩ := cont_rev (fracZ n q)
  have h5 := frac_two n q hq
  have h6 : twoUp (fracZ n q).reverse := fun b hb => h5 b (List.mem_reverse.1 hb)
  have h7 := cont_lt h6
  have h8 := frac_cont h6
  rw [r1, e1] at h7 h8
  rw [e1, e2] at r2
  generalize contQ (fracZ n q).reverse = s at *
  obtain ⟨t, ht⟩ := hi
  have hd : n ∣ k - s := dvd_one hg (Int.dvd_mul_left _ _) ⟨-t - y, by grind⟩
  obtain ⟨m, hm⟩ := hd
  have e3 : k % n = k := Int.emod_eq_of_lt hk0 hk
  have e4 : s % n = s := Int.emod_eq_of_lt h7.1 h7.2
  have e5 : k = s + n * m := by omega
  rw [e5, Int.add_mul_emod_self_left, e4] at e3
  rw [← h8]
  congr 1
  omega
theorem move_det (e f g h a b c d : Int) : detZ (moveX e f a b) (moveX g h a b) (moveX e f c d) (moveX g h c d) = detM e f g h * detZ a b c d := by
  unfold detZ detM moveX
  grind
theorem cmv_in {a b c d e f g h : Int} (k : cmvOk a b c d e f g h = true) : coneB a b c d = true ∧ matB e f g h = true ∧ coneB (cmA a b c d e f g h) (cmB a b c d e f g h) (cmC a b c d e f g h) (cmD a b c d e f g h) = true := by
  unfold cmvOk at k
  rw [Bool.and_eq_true] at k
  obtain ⟨k1, k2⟩ := k
  obtain ⟨k3, k4⟩ := cm_in k1
  exact ⟨k3, k4, k2⟩
theorem detZ_dvd {n q a c : Int} (h : n ∣ q * a + c) {b d : Int} (h2 : n ∣ q * b + d) (e f : Int) : n ∣ q * moveX e f a b + moveX e f c d := by
  have : q * moveX e f a b + moveX e f c d = e * (q * a + c) + f * (q * b + d) := by unfold moveX; grind
  rw [this]
  exact Int.dvd_add (Int.dvd_trans h (Int.dvd_mul_left _ _)) (Int.dvd_trans h2 (Int.dvd_mul_left _ _))
/-- a cone that is moved the same way round: its index and fraction -/
theorem move_same {a b c d e f g h : Int} (k : cmvOk a b c d e f g h = true) (hn : negM e f g h = false) :
    detZ (cmA a b c d e f g h) (cmB a b c d e f g h) (cmC a b c d e f g h) (cmD a b c d e f g h) = detZ a b c d ∧ fracC (cmA a b c d e f g h) (cmB a b c d e f g h) (cmC a b c d e f g h) (cmD a b c d e f g h) = fracC a b c d := by
  obtain ⟨k1, k2, k3⟩ := cmv_in k
  obtain ⟨_, hd⟩ := mat_in k2
  have h1 : detM e f g h = 1 := by
    have : ¬ detM e f g h < 0 := by simpa [negM] using hn
    obtain h1 | h1 : detM e f g h = 1 ∨ detM e f g h = -1 := by simpa [detOk] using hd
    · exact h1
    · omega
  have eA : cmA a b c d e f g h = moveX e f a b := by unfold cmA; rw [hn]; rfl
  have eB : cmB a b c d e f g h = moveX g h a b := by unfold cmB; rw [hn]; rfl
  have eC : cmC a b c d e f g h = moveX e f c d := by unfold cmC; rw [hn]; rfl
  have eD : cmD a b c d e f g h = moveX g h c d := by unfold cmD; rw [hn]; rfl
  rw [eA, eB, eC, eD] at k3 ⊢
  have e0 : detZ (moveX e f a b) (moveX g h a b) (moveX e f c d) (moveX g h c d) = detZ a b c d := by rw [move_det, h1, Int.one_mul]
  refine ⟨e0, ?_⟩
  obtain ⟨v1, o1, v2, o2, hp⟩ := cone_in k1
  obtain ⟨_, o3, _, _, _⟩ := cone_in k3
  have kr := kindC_rng k1
  obtain ⟨dx, dy⟩ := kind_fits (vx := c) (vy := d) (oneB_true o1)
  have hk : kindC a b c d = kindC (moveX e f a b) (moveX g h a b) (moveX e f c d) (moveX g h c d) := by
    refine kind_only (oneB_true o3) kr.1 ?_ ?_ ?_
    · show _ < detZ (moveX e f a b) (moveX g h a b) (moveX e f c d) (moveX g h c d)
      rw [e0]
      exact kr.2
    · show detZ (moveX e f a b) (moveX g h a b) (moveX e f c d) (moveX g h c d) ∣ _
      rw [e0]
      exact detZ_dvd dx dy e f
    · show detZ (moveX e f a b) (moveX g h a b) (moveX e f c d) (moveX g h c d) ∣ _
      rw [e0]
      exact detZ_dvd dx dy g h
  unfold fracC
  rw [e0, ← hk]
/-- .. the other way round -/
theorem move_back {a b c d e f g h : Int} (k : cmvOk a b c d e f g h = true) (hn : negM e f g h = true) :
    detZ (cmA a b c d e f g h) (cmB a b c d e f g h) (cmC a b c d e f g h) (cmD a b c d e f g h) = detZ a b c d ∧ fracC (cmA a b c d e f g h) (cmB a b c d e f g h) (cmC a b c d e f g h) (cmD a b c d e f g h) = (fracC a b c d).reverse := by
  obtain ⟨k1, k2, k3⟩ := cmv_in k
  obtain ⟨_, hd⟩ := mat_in k2
  have h1 : detM e f g h = -1 := by
    have : detM e f g h < 0 := by simpa [negM] using hn
    obtain h1 | h1 : detM e f g h = 1 ∨ detM e f g h = -1 := by simpa [detOk] using hd
    · omega
    · exact h1
  have eA : cmA a b c d e f g h = moveX e f c d := by unfold cmA; rw [hn]; rfl
  have eB : cmB a b c d e f g h = moveX g h c d := by unfold cmB; rw [hn]; rfl
  have eC : cmC a b c d e f g h = moveX e f a b := by unfold cmC; rw [hn]; rfl
  have eD : cmD a b c d e f g h = moveX g h a b := by unfold cmD; rw [hn]; rfl
  rw [eA, eB, eC, eD] at k3 ⊢
  have e0 : detZ (moveX e f c d) (moveX g h c d) (moveX e f a b) (moveX g h a b) = detZ a b c d := by
    rw [move_det, h1]
    unfold detZ
    grind
  refine ⟨e0, ?_⟩
  obtain ⟨v1, o1, v2, o2, hp⟩ := cone_in k1
  obtain ⟨_, o3, _, _, _⟩ := cone_in k3
  have ks := swap_in k1
  obtain ⟨_, o4, _, _, _⟩ := cone_in ks
  have kr := kindC_rng ks
  rw [swap_det] at kr
  have kr1 := kindC_rng k1
  obtain ⟨dx, dy⟩ := kind_fits (vx := b) (vy := a) (oneB_true o4)
  have dx' : detZ a b c d ∣ kindC d c b a * d + b := by rw [← swap_det]; exact dx
  have dy' : detZ a b c d ∣ kindC d c b a * c + a := by rw [← swap_det]; exact dy
  have hk : kindC d c b a = kindC (moveX e f c d) (moveX g h c d) (moveX e f a b) (moveX g h a b) := by
    refine kind_only (oneB_true o3) kr.1 ?_ ?_ ?_
    · show _ < detZ (moveX e f c d) (moveX g h c d) (moveX e f a b) (moveX g h a b)
      rw [e0]
      exact kr.2
    · show detZ (moveX e f c d) (moveX g h c d) (moveX e f a b) (moveX g h a b) ∣ _
      rw [e0]
      exact detZ_dvd dy' dx' e f
    · show detZ (moveX e f c d) (moveX g h c d) (moveX e f a b) (moveX g h a b) ∣ _
      rw [e0]
      exact detZ_dvd dy' dx' g h
  unfold fracC
  rw [e0, ← hk]
  exact frac_rev kr1.1 kr1.2 kr.1 kr.2 (kind_gcd (oneB_true o1) (oneB_true o2)) (kind_inv k1)
theorem small_det {x y z u : Int} (hx : -6 ≤ x ∧ x ≤ 6) (hy : -6 ≤ y ∧ y ≤ 6) (hz : -6 ≤ z ∧ z ≤ 6) (hu : -6 ≤ u ∧ u ≤ 6) : detZ x y z u ≤ 2000000 ∧ (detZ x y z u).toNat ≤ 1000000 := by
  have m1 : (x * u).natAbs ≤ 6 * 6 := by rw [Int.natAbs_mul]; exact Nat.mul_le_mul (by omega) (by omega)
  have m2 : (y * z).natAbs ≤ 6 * 6 := by rw [Int.natAbs_mul]; exact Nat.mul_le_mul (by omega) (by omega)
  unfold detZ
  omega
theorem mat_wraps2 {a b c d : Int} (k : matB a b c d = true) : IntKind.i64.wrap (a * d) = a * d ∧ IntKind.i64.wrap (b * c) = b * c ∧ IntKind.i64.wrap (a * d - b * c) = detM a b c d := by
  obtain ⟨⟨ha, hb, hc, hd⟩, hk⟩ := mat_in k
  have h1 := one_bd hk
  have h2 := det_bd ha hb hc hd
  exact ⟨IntWalk.i64_in _ (by omega), IntWalk.i64_in _ (by omega), IntWalk.i64_in _ (by omega)⟩
/-- two lists compared: some answer -/
theorem sameInts_row2 (g g2 c d b1 b2 : Nat) (l l2 : List Int) (w : World) (h1 : Ints w b1 (.slice (some ⟨g, 0, none⟩) l.length c) l) (h2 : Ints w b2 (.slice (some ⟨g2, 0, none⟩) l2.length d) l2) (he : l.length = l2.length)
    (hg : g < w.heap.size) (hg2 : g2 < w.heap.size) :
    Calls Tryd.prog 36 #[.slice (some ⟨g, 0, none⟩) l.length c, .slice (some ⟨g2, 0, none⟩) l2.length d] w fun e w' => (∃ b, e = .returned (.bool b)) ∧ Below w.heap.size w w' := by
  obtain ⟨n, hn⟩ : ∃ n, n = l.length := ⟨_, rfl⟩
  have hm : n ≤ 9223372036854775807 := by have := h1.len_le; unfold maxLen at this; omega
  have HC : Hid (∀ j, j < n → w.cell? ⟨g, j, none⟩ = some (.int .i64 (l[j]?.getD 0)) ∧ w.cell? ⟨g2, j, none⟩ = some (.int .i64 (l2[j]?.getD 0))) := by
    intro j hj
    exact ⟨h1.cell j (by omega), h2.cell j (by omega)⟩
  rw [← he, ← hn]
  clear h1 h2 hn he
  go_enter Tryd.func36, Tryd.ntmps36
  go_wp2
  go_loopw [5] (fun i wr => ∃ k : Nat, k ≤ n ∧ i = .int .i64 k ∧ Below w.heap.size w wr) (fun i _ => n - (intOf i).toNat)
  case atStart => exact ⟨0, Nat.zero_le _, rfl, Below.refl _ _⟩
  case round =>
    obtain ⟨k, hk, rfl, hB⟩ := hrel
    by_cases hlt : k < n
    · have c1 : wr.cell? ⟨g, k, none⟩ = some (.int .i64 (l[k]?.getD 0)) := (hB.cell (p := ⟨g, k, none⟩) hg).trans (HC.out k hlt).1
      have c2 : wr.cell? ⟨g2, k, none⟩ = some (.int .i64 (l2[k]?.getD 0)) := (hB.cell (p := ⟨g2, k, none⟩) hg2).trans (HC.out k hlt).2
      generalize l[k]?.getD 0 = z at c1 c2
      generalize l2[k]?.getD 0 = z2 at c1 c2
      have i1 : (0 : Int) ≤ (k : Int) := by omega
      have i2 : (k : Int) < (n : Int) := by omega
      by_cases hz : z = z2
      · subst hz
        go_wp2_with fail
        go_quiet (fail)
        go_wp2
        go_roundw
        case rel => exact ⟨k + 1, by omega, by go_num, below_drewN hB _⟩
        case measure => simp [intOf]; omega
      · have zb : (z == z2) = false := by simpa using hz
        go_wp2_with fail
        go_quiet (fail)
        go_wp2
        go_returns
        exact ⟨⟨_, rfl⟩, below_drewN hB _⟩
    · go_wp2
      go_returns
      exact ⟨⟨_, rfl⟩, hB⟩
theorem sameInts_some (v1 v2 : Value) (b1 b2 : Nat) (l l2 : List Int) (w : World) (h1 : Ints w b1 v1 l) (h2 : Ints w b2 v2 l2) (he : l.length = l2.length) :
    Calls Tryd.prog 36 #[v1, v2] w fun e w' => (∃ b, e = .returned (.bool b)) ∧ Below w.heap.size w w' := by
  rcases h1.form with ⟨rfl, a, c, rfl⟩ | ⟨hne, g, c, rfl, _, hg, _⟩
  · rcases h2.form with ⟨_, a2, d, rfl⟩ | ⟨hne, _⟩
    · exact Calls.mono (sameInts_nil a a2 c d w) (fun e w' h => ⟨⟨true, h.1⟩, h.2⟩)
    · exact absurd (List.eq_nil_of_length_eq_zero he.symm) hne
  · rcases h2.form with ⟨h, _⟩ | ⟨_, g2, d, rfl, _, hg2, _⟩
    · subst h
      exact absurd (List.eq_nil_of_length_eq_zero he) hne
    · exact sameInts_row2 g g2 c d b1 b2 l l2 w h1 h2 he hg hg2

set_option maxHeartbeats 16000000 in
theorem fnConeMove_any (a : Option Addr) (len cap : Nat) (w : World) (h : Bytes w a len cap) (hg : EtOk w) :
    Calls Tryd.prog 10 #[.slice a len cap] w fun e w' => e = .returned (.bool true) ∧ Below w.heap.size w w' := by
  by_cases hl : 1048576 < len
  · have hl' : (1048576 : Int) < (len : Int) := by omega
    go_enter Tryd.func10, Tryd.ntmps10
    go_wp2
    go_returns
    exact ⟨rfl, Below.refl _ _⟩
  · have hl' : (len : Int) ≤ 1048576 := by omega
    have HD := Lib.hid (drawConeMove_any w a len cap h)
    have HG := Lib.hid hg
    clear h hg
    go_enter Tryd.func10, Tryd.ntmps10
    go_wp2_with fail
    refine Calls.mono HD.out ?_
    rintro e w0 ⟨x, y, z, u, p, q, r, s, rfl, hbd, hb0⟩
    have hA0 : Below w.heap.size w w0 := hb0
    clear hb0 HD
    cases k : cmvOk x y z u p q r s
    case false =>
      have H1 : Hid (∀ w' (hg' : EtOk w'), Calls Tryd.prog 27 #[.agg #[.int .i64 (x), .int .i64 (y), .int .i64 (z), .int .i64 (u)], .agg #[.int .i64 (p), .int .i64 (q), .int .i64 (r), .int .i64 (s)]] w' fun e w2 => e = .returned (.tuple #[.agg #[.int .i64 (0), .int .i64 (0), .int .i64 (0), .int .i64 (0)], .bool false]) ∧ Below w'.heap.size w' w2) := fun w' hg' => giv (coneMove_any x y z u p q r s w' hg') (by rw [k]; rfl)
      have H2 : Hid (∀ w', Calls Tryd.prog 41 #[.agg #[.int .i64 (x), .int .i64 (y), .int .i64 (z), .int .i64 (u)], .agg #[.int .i64 (p), .int .i64 (q), .int .i64 (r), .int .i64 (s)]] w' fun e w2 => e = .returned (.tuple #[.agg #[.int .i64 (0), .int .i64 (0), .int .i64 (0), .int .i64 (0)], .bool false]) ∧ Below w'.heap.size w' w2) := fun w' => giv (specConeMove_any x y z u p q r s w') (by rw [k]; rfl)
      go_wp2_with fail
      refine Calls.mono (H1.out _ (HG.out.below (by have := hA0.size; go_grown))) ?_
      rintro e w1 ⟨rfl, hb⟩
      have hA1 : Below w.heap.size w w1 := belowTo (by have := hA0.size; go_grown) hb
      have cb0 : w1.cell? ⟨w0.heap.size, 0, none⟩ = some (.int .i64 (x)) := (hb.cell (p := ⟨w0.heap.size, 0, none⟩) (by first | assumption | (go_size; done) | (simp; omega) | (simp only [World.size_alloc]; omega))).trans (by first | assumption | (go_cell; done) | (go_simp; done) | simp [*]); have cb1 : w1.cell? ⟨w0.heap.size, 1, none⟩ = some (.int .i64 (y)) := (hb.cell (p := ⟨w0.heap.size, 1, none⟩) (by first | assumption | (go_size; done) | (simp; omega) | (simp only [World.size_alloc]; omega))).trans (by first | assumption | (go_cell; done) | (go_simp; done) | simp [*]); have cb2 : w1.cell? ⟨w0.heap.size, 2, none⟩ = some (.int .i64 (z)) := (hb.cell (p := ⟨w0.heap.size, 2, none⟩) (by first | assumption | (go_size; done) | (simp; omega) | (simp only [World.size_alloc]; omega))).trans (by first | assumption | (go_cell; done) | (go_simp; done) | simp [*]); have cb3 : w1.cell? ⟨w0.heap.size, 3, none⟩ = some (.int .i64 (u)) := (hb.cell (p := ⟨w0.heap.size, 3, none⟩) (by first | assumption | (go_size; done) | (simp; omega) | (simp only [World.size_alloc]; omega))).trans (by first | assumption | (go_cell; done) | (go_simp; done) | simp [*]); have cbs : w0.heap.size < w1.heap.size := Nat.lt_of_lt_of_le (by first | assumption | (go_size; done) | (simp; omega) | (simp only [World.size_alloc]; omega)) hb.size
      have mb0 : w1.cell? ⟨w0.heap.size + 1, 0, none⟩ = some (.int .i64 (p)) := (hb.cell (p := ⟨w0.heap.size + 1, 0, none⟩) (by first | assumption | (go_size; done) | (simp; omega) | (simp only [World.size_alloc]; omega))).trans (by first | assumption | (go_cell; done) | (go_simp; done) | simp [*]); have mb1 : w1.cell? ⟨w0.heap.size + 1, 1, none⟩ = some (.int .i64 (q)) := (hb.cell (p := ⟨w0.heap.size + 1, 1, none⟩) (by first | assumption | (go_size; done) | (simp; omega) | (simp only [World.size_alloc]; omega))).trans (by first | assumption | (go_cell; done) | (go_simp; done) | simp [*]); have mb2 : w1.cell? ⟨w0.heap.size + 1, 2, none⟩ = some (.int .i64 (r)) := (hb.cell (p := ⟨w0.heap.size + 1, 2, none⟩) (by first | assumption | (go_size; done) | (simp; omega) | (simp only [World.size_alloc]; omega))).trans (by first | assumption | (go_cell; done) | (go_simp; done) | simp [*]); have mb3 : w1.cell? ⟨w0.heap.size + 1, 3, none⟩ = some (.int .i64 (s)) := (hb.cell (p := ⟨w0.heap.size + 1, 3, none⟩) (by first | assumption | (go_size; done) | (simp; omega) | (simp only [World.size_alloc]; omega))).trans (by first | assumption | (go_cell; done) | (go_simp; done) | simp [*]); have mbs : w0.heap.size + 1 < w1.heap.size := Nat.lt_of_lt_of_le (by first | assumption | (go_size; done) | (simp; omega) | (simp only [World.size_alloc]; omega)) hb.size
      clear hA0  
      clear hb
      go_wp2_with fail
      refine Calls.mono (H2.out _) ?_
      rintro e w2 ⟨rfl, hb⟩
      have hA2 : Below w.heap.size w w2 := belowTo (by have := hA1.size; go_grown) hb
      have oc0 : w2.cell? ⟨w1.heap.size, 0, none⟩ = some (.int .i64 (0)) := (hb.cell (p := ⟨w1.heap.size, 0, none⟩) (by first | assumption | (go_size; done) | (simp; omega) | (simp only [World.size_alloc]; omega))).trans (by first | assumption | (go_cell; done) | (go_simp; done) | simp [*]); have oc1 : w2.cell? ⟨w1.heap.size, 1, none⟩ = some (.int .i64 (0)) := (hb.cell (p := ⟨w1.heap.size, 1, none⟩) (by first | assumption | (go_size; done) | (simp; omega) | (simp only [World.size_alloc]; omega))).trans (by first | assumption | (go_cell; done) | (go_simp; done) | simp [*]); have oc2 : w2.cell? ⟨w1.heap.size, 2, none⟩ = some (.int .i64 (0)) := (hb.cell (p := ⟨w1.heap.size, 2, none⟩) (by first | assumption | (go_size; done) | (simp; omega) | (simp only [World.size_alloc]; omega))).trans (by first | assumption | (go_cell; done) | (go_simp; done) | simp [*]); have oc3 : w2.cell? ⟨w1.heap.size, 3, none⟩ = some (.int .i64 (0)) := (hb.cell (p := ⟨w1.heap.size, 3, none⟩) (by first | assumption | (go_size; done) | (simp; omega) | (simp only [World.size_alloc]; omega))).trans (by first | assumption | (go_cell; done) | (go_simp; done) | simp [*]); have ocs : w1.heap.size < w2.heap.size := Nat.lt_of_lt_of_le (by first | assumption | (go_size; done) | (simp; omega) | (simp only [World.size_alloc]; omega)) hb.size
      clear hA1 cb0 cb1 cb2 cb3 mb0 mb1 mb2 mb3 cbs mbs
      clear hb
      have hs2 := hA2.size
      go_wp2
      go_returns
      exact ⟨by simp, by go_grown⟩
    case true =>
      obtain ⟨k1, k2, k3⟩ := cmv_in k
      obtain ⟨e1, e2, e3⟩ := mat_wraps2 k2
      have hdn : (detZ x y z u).toNat ≤ 1000000 := by obtain ⟨⟨_, _⟩, ⟨_, _⟩, ⟨_, _⟩, _, _⟩ := hbd; have := small_det (x := x) (y := y) (z := z) (u := u) (by omega) (by omega) (by omega) (by omega); omega
      have hlen : (fracC x y z u).length ≤ 1000000 := by have h1 := frac_len (detZ x y z u) (kindC x y z u); have h2 := kindC_rng k1; unfold fracC; omega
      have HR := Lib.hid (fun (w' : World) (b : Nat) (v' : Value) (h' : Ints w' b v' (fracC x y z u)) => h'.reads (by omega))
      have HT := Lib.hid (fun v' w' h' => turned_any v' (fracC x y z u) w' h' (by omega))
      have H1 : Hid (∀ w' (hg' : EtOk w'), Calls Tryd.prog 27 #[.agg #[.int .i64 (x), .int .i64 (y), .int .i64 (z), .int .i64 (u)], .agg #[.int .i64 (p), .int .i64 (q), .int .i64 (r), .int .i64 (s)]] w' fun e w2 => e = .returned (.tuple #[.agg #[.int .i64 (cmA x y z u p q r s), .int .i64 (cmB x y z u p q r s), .int .i64 (cmC x y z u p q r s), .int .i64 (cmD x y z u p q r s)], .bool true]) ∧ Below w'.heap.size w' w2) := fun w' hg' => giv (coneMove_any x y z u p q r s w' hg') (by rw [k]; rfl)
      have H2 : Hid (∀ w', Calls Tryd.prog 41 #[.agg #[.int .i64 (x), .int .i64 (y), .int .i64 (z), .int .i64 (u)], .agg #[.int .i64 (p), .int .i64 (q), .int .i64 (r), .int .i64 (s)]] w' fun e w2 => e = .returned (.tuple #[.agg #[.int .i64 (cmA x y z u p q r s), .int .i64 (cmB x y z u p q r s), .int .i64 (cmC x y z u p q r s), .int .i64 (cmD x y z u p q r s)], .bool true]) ∧ Below w'.heap.size w' w2) := fun w' => giv (specConeMove_any x y z u p q r s w') (by rw [k]; rfl)
      have H3 : Hid (∀ w' (hg' : EtOk w'), Calls Tryd.prog 18 #[.agg #[.int .i64 (x), .int .i64 (y), .int .i64 (z), .int .i64 (u)]] w' fun e w2 => e = .returned (.tuple #[.int .i64 (detZ x y z u), .bool true]) ∧ Below w'.heap.size w' w2) := fun w' hg' => giv (coneIndex_any x y z u w' hg') (by rw [k1]; rfl)
      have H5 := Lib.hid (fun w' hg' => coneFraction_any x y z u w' hg')
      have H6 := Lib.hid (fun w' hg' => coneFraction_any (cmA x y z u p q r s) (cmB x y z u p q r s) (cmC x y z u p q r s) (cmD x y z u p q r s) w' hg')
      rw [k1] at H5
      rw [k3] at H6
      cases hn : negM p q r s
      case false =>
        obtain ⟨d1, d2⟩ := move_same k hn
        have hneg : ¬ detM p q r s < 0 := by simpa [negM] using hn
        have H4 : Hid (∀ w' (hg' : EtOk w'), Calls Tryd.prog 18 #[.agg #[.int .i64 (cmA x y z u p q r s), .int .i64 (cmB x y z u p q r s), .int .i64 (cmC x y z u p q r s), .int .i64 (cmD x y z u p q r s)]] w' fun e w2 => e = .returned (.tuple #[.int .i64 (detZ x y z u), .bool true]) ∧ Below w'.heap.size w' w2) := fun w' hg' => giv (coneIndex_any (cmA x y z u p q r s) (cmB x y z u p q r s) (cmC x y z u p q r s) (cmD x y z u p q r s) w' hg') (by rw [k3, gate_true, d1])
        rw [d2] at H6
        clear d1 d2 hn k k1 k2 k3 hbd hdn
        generalize cmA x y z u p q r s = A at *
        generalize cmB x y z u p q r s = B at *
        generalize cmC x y z u p q r s = C at *
        generalize cmD x y z u p q r s = D at *
        generalize fracC x y z u = L at *
        generalize detZ x y z u = n at *
        generalize detM p q r s = dt at *
        clear hlen
        go_wp2_with fail
        refine Calls.mono (H1.out _ (HG.out.below (by have := hA0.size; go_grown))) ?_
        rintro e w1 ⟨rfl, hb⟩
        have hA1 : Below w.heap.size w w1 := belowTo (by have := hA0.size; go_grown) hb
        have cb0 : w1.cell? ⟨w0.heap.size, 0, none⟩ = some (.int .i64 (x)) := (hb.cell (p := ⟨w0.heap.size, 0, none⟩) (by first | assumption | (go_size; done) | (simp; omega) | (simp only [World.size_alloc]; omega))).trans (by first | assumption | (go_cell; done) | (go_simp; done) | simp [*]); have cb1 : w1.cell? ⟨w0.heap.size, 1, none⟩ = some (.int .i64 (y)) := (hb.cell (p := ⟨w0.heap.size, 1, none⟩) (by first | assumption | (go_size; done) | (simp; omega) | (simp only [World.size_alloc]; omega))).trans (by first | assumption | (go_cell; done) | (go_simp; done) | simp [*]); have cb2 : w1.cell? ⟨w0.heap.size, 2, none⟩ = some (.int .i64 (z)) := (hb.cell (p := ⟨w0.heap.size, 2, none⟩) (by first | assumption | (go_size; done) | (simp; omega) | (simp only [World.size_alloc]; omega))).trans (by first | assumption | (go_cell; done) | (go_simp; done) | simp [*]); have cb3 : w1.cell? ⟨w0.heap.size, 3, none⟩ = some (.int .i64 (u)) := (hb.cell (p := ⟨w0.heap.size, 3, none⟩) (by first | assumption | (go_size; done) | (simp; omega) | (simp only [World.size_alloc]; omega))).trans (by first | assumption | (go_cell; done) | (go_simp; done) | simp [*]); have cbs : w0.heap.size < w1.heap.size := Nat.lt_of_lt_of_le (by first | assumption | (go_size; done) | (simp; omega) | (simp only [World.size_alloc]; omega)) hb.size
        have mb0 : w1.cell? ⟨w0.heap.size + 1, 0, none⟩ = some (.int .i64 (p)) := (hb.cell (p := ⟨w0.heap.size + 1, 0, none⟩) (by first | assumption | (go_size; done) | (simp; omega) | (simp only [World.size_alloc]; omega))).trans (by first | assumption | (go_cell; done) | (go_simp; done) | simp [*]); have mb1 : w1.cell? ⟨w0.heap.size + 1, 1, none⟩ = some (.int .i64 (q)) := (hb.cell (p := ⟨w0.heap.size + 1, 1, none⟩) (by first | assumption | (go_size; done) | (simp; omega) | (simp only [World.size_alloc]; omega))).trans (by first | assumption | (go_cell; done) | (go_simp; done) | simp [*]); have mb2 : w1.cell? ⟨w0.heap.size + 1, 2, none⟩ = some (.int .i64 (r)) := (hb.cell (p := ⟨w0.heap.size + 1, 2, none⟩) (by first | assumption | (go_size; done) | (simp; omega) | (simp only [World.size_alloc]; omega))).trans (by first | assumption | (go_cell; done) | (go_simp; done) | simp [*]); have mb3 : w1.cell? ⟨w0.heap.size + 1, 3, none⟩ = some (.int .i64 (s)) := (hb.cell (p := ⟨w0.heap.size + 1, 3, none⟩) (by first | assumption | (go_size; done) | (simp; omega) | (simp only [World.size_alloc]; omega))).trans (by first | assumption | (go_cell; done) | (go_simp; done) | simp [*]); have mbs : w0.heap.size + 1 < w1.heap.size := Nat.lt_of_lt_of_le (by first | assumption | (go_size; done) | (simp; omega) | (simp only [World.size_alloc]; omega)) hb.size
        clear hA0  
        clear hb
        go_wp2_with fail
        refine Calls.mono (H2.out _) ?_
        rintro e w2 ⟨rfl, hb⟩
        have hA2 : Below w.heap.size w w2 := belowTo (by have := hA1.size; go_grown) hb
        have cc0 : w2.cell? ⟨w0.heap.size, 0, none⟩ = some (.int .i64 (x)) := (hb.cell (p := ⟨w0.heap.size, 0, none⟩) (by first | assumption | (go_size; done) | (simp; omega) | (simp only [World.size_alloc]; omega))).trans (by first | assumption | (go_cell; done) | (go_simp; done) | simp [*]); have cc1 : w2.cell? ⟨w0.heap.size, 1, none⟩ = some (.int .i64 (y)) := (hb.cell (p := ⟨w0.heap.size, 1, none⟩) (by first | assumption | (go_size; done) | (simp; omega) | (simp only [World.size_alloc]; omega))).trans (by first | assumption | (go_cell; done) | (go_simp; done) | simp [*]); have cc2 : w2.cell? ⟨w0.heap.size, 2, none⟩ = some (.int .i64 (z)) := (hb.cell (p := ⟨w0.heap.size, 2, none⟩) (by first | assumption | (go_size; done) | (simp; omega) | (simp only [World.size_alloc]; omega))).trans (by first | assumption | (go_cell; done) | (go_simp; done) | simp [*]); have cc3 : w2.cell? ⟨w0.heap.size, 3, none⟩ = some (.int .i64 (u)) := (hb.cell (p := ⟨w0.heap.size, 3, none⟩) (by first | assumption | (go_size; done) | (simp; omega) | (simp only [World.size_alloc]; omega))).trans (by first | assumption | (go_cell; done) | (go_simp; done) | simp [*]); have ccs : w0.heap.size < w2.heap.size := Nat.lt_of_lt_of_le (by first | assumption | (go_size; done) | (simp; omega) | (simp only [World.size_alloc]; omega)) hb.size
        have mc0 : w2.cell? ⟨w0.heap.size + 1, 0, none⟩ = some (.int .i64 (p)) := (hb.cell (p := ⟨w0.heap.size + 1, 0, none⟩) (by first | assumption | (go_size; done) | (simp; omega) | (simp only [World.size_alloc]; omega))).trans (by first | assumption | (go_cell; done) | (go_simp; done) | simp [*]); have mc1 : w2.cell? ⟨w0.heap.size + 1, 1, none⟩ = some (.int .i64 (q)) := (hb.cell (p := ⟨w0.heap.size + 1, 1, none⟩) (by first | assumption | (go_size; done) | (simp; omega) | (simp only [World.size_alloc]; omega))).trans (by first | assumption | (go_cell; done) | (go_simp; done) | simp [*]); have mc2 : w2.cell? ⟨w0.heap.size + 1, 2, none⟩ = some (.int .i64 (r)) := (hb.cell (p := ⟨w0.heap.size + 1, 2, none⟩) (by first | assumption | (go_size; done) | (simp; omega) | (simp only [World.size_alloc]; omega))).trans (by first | assumption | (go_cell; done) | (go_simp; done) | simp [*]); have mc3 : w2.cell? ⟨w0.heap.size + 1, 3, none⟩ = some (.int .i64 (s)) := (hb.cell (p := ⟨w0.heap.size + 1, 3, none⟩) (by first | assumption | (go_size; done) | (simp; omega) | (simp only [World.size_alloc]; omega))).trans (by first | assumption | (go_cell; done) | (go_simp; done) | simp [*]); have mcs : w0.heap.size + 1 < w2.heap.size := Nat.lt_of_lt_of_le (by first | assumption | (go_size; done) | (simp; omega) | (simp only [World.size_alloc]; omega)) hb.size
        have oc0 : w2.cell? ⟨w1.heap.size, 0, none⟩ = some (.int .i64 (A)) := (hb.cell (p := ⟨w1.heap.size, 0, none⟩) (by first | assumption | (go_size; done) | (simp; omega) | (simp only [World.size_alloc]; omega))).trans (by first | assumption | (go_cell; done) | (go_simp; done) | simp [*]); have oc1 : w2.cell? ⟨w1.heap.size, 1, none⟩ = some (.int .i64 (B)) := (hb.cell (p := ⟨w1.heap.size, 1, none⟩) (by first | assumption | (go_size; done) | (simp; omega) | (simp only [World.size_alloc]; omega))).trans (by first | assumption | (go_cell; done) | (go_simp; done) | simp [*]); have oc2 : w2.cell? ⟨w1.heap.size, 2, none⟩ = some (.int .i64 (C)) := (hb.cell (p := ⟨w1.heap.size, 2, none⟩) (by first | assumption | (go_size; done) | (simp; omega) | (simp only [World.size_alloc]; omega))).trans (by first | assumption | (go_cell; done) | (go_simp; done) | simp [*]); have oc3 : w2.cell? ⟨w1.heap.size, 3, none⟩ = some (.int .i64 (D)) := (hb.cell (p := ⟨w1.heap.size, 3, none⟩) (by first | assumption | (go_size; done) | (simp; omega) | (simp only [World.size_alloc]; omega))).trans (by first | assumption | (go_cell; done) | (go_simp; done) | simp [*]); have ocs : w1.heap.size < w2.heap.size := Nat.lt_of_lt_of_le (by first | assumption | (go_size; done) | (simp; omega) | (simp only [World.size_alloc]; omega)) hb.size
        clear hA1 cb0 cb1 cb2 cb3 mb0 mb1 mb2 mb3 cbs mbs
        clear hb
        go_wp2_with fail
        refine Calls.mono (H3.out _ (HG.out.below (by have := hA2.size; go_grown))) ?_
        rintro e w3 ⟨rfl, hb⟩
        have hA3 : Below w.heap.size w w3 := belowTo (by have := hA2.size; go_grown) hb
        have cd0 : w3.cell? ⟨w0.heap.size, 0, none⟩ = some (.int .i64 (x)) := (hb.cell (p := ⟨w0.heap.size, 0, none⟩) (by first | assumption | (go_size; done) | (simp; omega) | (simp only [World.size_alloc]; omega))).trans (by first | assumption | (go_cell; done) | (go_simp; done) | simp [*]); have cd1 : w3.cell? ⟨w0.heap.size, 1, none⟩ = some (.int .i64 (y)) := (hb.cell (p := ⟨w0.heap.size, 1, none⟩) (by first | assumption | (go_size; done) | (simp; omega) | (simp only [World.size_alloc]; omega))).trans (by first | assumption | (go_cell; done) | (go_simp; done) | simp [*]); have cd2 : w3.cell? ⟨w0.heap.size, 2, none⟩ = some (.int .i64 (z)) := (hb.cell (p := ⟨w0.heap.size, 2, none⟩) (by first | assumption | (go_size; done) | (simp; omega) | (simp only [World.size_alloc]; omega))).trans (by first | assumption | (go_cell; done) | (go_simp; done) | simp [*]); have cd3 : w3.cell? ⟨w0.heap.size, 3, none⟩ = some (.int .i64 (u)) := (hb.cell (p := ⟨w0.heap.size, 3, none⟩) (by first | assumption | (go_size; done) | (simp; omega) | (simp only [World.size_alloc]; omega))).trans (by first | assumption | (go_cell; done) | (go_simp; done) | simp [*]); have cds : w0.heap.size < w3.heap.size := Nat.lt_of_lt_of_le (by first | assumption | (go_size; done) | (simp; omega) | (simp only [World.size_alloc]; omega)) hb.size
        have md0 : w3.cell? ⟨w0.heap.size + 1, 0, none⟩ = some (.int .i64 (p)) := (hb.cell (p := ⟨w0.heap.size + 1, 0, none⟩) (by first | assumption | (go_size; done) | (simp; omega) | (simp only [World.size_alloc]; omega))).trans (by first | assumption | (go_cell; done) | (go_simp; done) | simp [*]); have md1 : w3.cell? ⟨w0.heap.size + 1, 1, none⟩ = some (.int .i64 (q)) := (hb.cell (p := ⟨w0.heap.size + 1, 1, none⟩) (by first | assumption | (go_size; done) | (simp; omega) | (simp only [World.size_alloc]; omega))).trans (by first | assumption | (go_cell; done) | (go_simp; done) | simp [*]); have md2 : w3.cell? ⟨w0.heap.size + 1, 2, none⟩ = some (.int .i64 (r)) := (hb.cell (p := ⟨w0.heap.size + 1, 2, none⟩) (by first | assumption | (go_size; done) | (simp; omega) | (simp only [World.size_alloc]; omega))).trans (by first | assumption | (go_cell; done) | (go_simp; done) | simp [*]); have md3 : w3.cell? ⟨w0.heap.size + 1, 3, none⟩ = some (.int .i64 (s)) := (hb.cell (p := ⟨w0.heap.size + 1, 3, none⟩) (by first | assumption | (go_size; done) | (simp; omega) | (simp only [World.size_alloc]; omega))).trans (by first | assumption | (go_cell; done) | (go_simp; done) | simp [*]); have mds : w0.heap.size + 1 < w3.heap.size := Nat.lt_of_lt_of_le (by first | assumption | (go_size; done) | (simp; omega) | (simp only [World.size_alloc]; omega)) hb.size
        have od0 : w3.cell? ⟨w1.heap.size, 0, none⟩ = some (.int .i64 (A)) := (hb.cell (p := ⟨w1.heap.size, 0, none⟩) (by first | assumption | (go_size; done) | (simp; omega) | (simp only [World.size_alloc]; omega))).trans (by first | assumption | (go_cell; done) | (go_simp; done) | simp [*]); have od1 : w3.cell? ⟨w1.heap.size, 1, none⟩ = some (.int .i64 (B)) := (hb.cell (p := ⟨w1.heap.size, 1, none⟩) (by first | assumption | (go_size; done) | (simp; omega) | (simp only [World.size_alloc]; omega))).trans (by first | assumption | (go_cell; done) | (go_simp; done) | simp [*]); have od2 : w3.cell? ⟨w1.heap.size, 2, none⟩ = some (.int .i64 (C)) := (hb.cell (p := ⟨w1.heap.size, 2, none⟩) (by first | assumption | (go_size; done) | (simp; omega) | (simp only [World.size_alloc]; omega))).trans (by first | assumption | (go_cell; done) | (go_simp; done) | simp [*]); have od3 : w3.cell? ⟨w1.heap.size, 3, none⟩ = some (.int .i64 (D)) := (hb.cell (p := ⟨w1.heap.size, 3, none⟩) (by first | assumption | (go_size; done) | (simp; omega) | (simp only [World.size_alloc]; omega))).trans (by first | assumption | (go_cell; done) | (go_simp; done) | simp [*]); have ods : w1.heap.size < w3.heap.size := Nat.lt_of_lt_of_le (by first | assumption | (go_size; done) | (simp; omega) | (simp only [World.size_alloc]; omega)) hb.size
        clear hA2 cc0 cc1 cc2 cc3 mc0 mc1 mc2 mc3 oc0 oc1 oc2 oc3 ccs mcs ocs
        clear hb
        go_wp2_with fail
        refine Calls.mono (H4.out _ (HG.out.below (by have := hA3.size; go_grown))) ?_
        rintro e w4 ⟨rfl, hb⟩
        have hA4 : Below w.heap.size w w4 := belowTo (by have := hA3.size; go_grown) hb
        have ce0 : w4.cell? ⟨w0.heap.size, 0, none⟩ = some (.int .i64 (x)) := (hb.cell (p := ⟨w0.heap.size, 0, none⟩) (by first | assumption | (go_size; done) | (simp; omega) | (simp only [World.size_alloc]; omega))).trans (by first | assumption | (go_cell; done) | (go_simp; done) | simp [*]); have ce1 : w4.cell? ⟨w0.heap.size, 1, none⟩ = some (.int .i64 (y)) := (hb.cell (p := ⟨w0.heap.size, 1, none⟩) (by first | assumption | (go_size; done) | (simp; omega) | (simp only [World.size_alloc]; omega))).trans (by first | assumption | (go_cell; done) | (go_simp; done) | simp [*]); have ce2 : w4.cell? ⟨w0.heap.size, 2, none⟩ = some (.int .i64 (z)) := (hb.cell (p := ⟨w0.heap.size, 2, none⟩) (by first | assumption | (go_size; done) | (simp; omega) | (simp only [World.size_alloc]; omega))).trans (by first | assumption | (go_cell; done) | (go_simp; done) | simp [*]); have ce3 : w4.cell? ⟨w0.heap.size, 3, none⟩ = some (.int .i64 (u)) := (hb.cell (p := ⟨w0.heap.size, 3, none⟩) (by first | assumption | (go_size; done) | (simp; omega) | (simp only [World.size_alloc]; omega))).trans (by first | assumption | (go_cell; done) | (go_simp; done) | simp [*]); have ces : w0.heap.size < w4.heap.size := Nat.lt_of_lt_of_le (by first | assumption | (go_size; done) | (simp; omega) | (simp only [World.size_alloc]; omega)) hb.size
        have me0 : w4.cell? ⟨w0.heap.size + 1, 0, none⟩ = some (.int .i64 (p)) := (hb.cell (p := ⟨w0.heap.size + 1, 0, none⟩) (by first | assumption | (go_size; done) | (simp; omega) | (simp only [World.size_alloc]; omega))).trans (by first | assumption | (go_cell; done) | (go_simp; done) | simp [*]); have me1 : w4.cell? ⟨w0.heap.size + 1, 1, none⟩ = some (.int .i64 (q)) := (hb.cell (p := ⟨w0.heap.size + 1, 1, none⟩) (by first | assumption | (go_size; done) | (simp; omega) | (simp only [World.size_alloc]; omega))).trans (by first | assumption | (go_cell; done) | (go_simp; done) | simp [*]); have me2 : w4.cell? ⟨w0.heap.size + 1, 2, none⟩ = some (.int .i64 (r)) := (hb.cell (p := ⟨w0.heap.size + 1, 2, none⟩) (by first | assumption | (go_size; done) | (simp; omega) | (simp only [World.size_alloc]; omega))).trans (by first | assumption | (go_cell; done) | (go_simp; done) | simp [*]); have me3 : w4.cell? ⟨w0.heap.size + 1, 3, none⟩ = some (.int .i64 (s)) := (hb.cell (p := ⟨w0.heap.size + 1, 3, none⟩) (by first | assumption | (go_size; done) | (simp; omega) | (simp only [World.size_alloc]; omega))).trans (by first | assumption | (go_cell; done) | (go_simp; done) | simp [*]); have mes : w0.heap.size + 1 < w4.heap.size := Nat.lt_of_lt_of_le (by first | assumption | (go_size; done) | (simp; omega) | (simp only [World.size_alloc]; omega)) hb.size
        have oe0 : w4.cell? ⟨w1.heap.size, 0, none⟩ = some (.int .i64 (A)) := (hb.cell (p := ⟨w1.heap.size, 0, none⟩) (by first | assumption | (go_size; done) | (simp; omega) | (simp only [World.size_alloc]; omega))).trans (by first | assumption | (go_cell; done) | (go_simp; done) | simp [*]); have oe1 : w4.cell? ⟨w1.heap.size, 1, none⟩ = some (.int .i64 (B)) := (hb.cell (p := ⟨w1.heap.size, 1, none⟩) (by first | assumption | (go_size; done) | (simp; omega) | (simp only [World.size_alloc]; omega))).trans (by first | assumption | (go_cell; done) | (go_simp; done) | simp [*]); have oe2 : w4.cell? ⟨w1.heap.size, 2, none⟩ = some (.int .i64 (C)) := (hb.cell (p := ⟨w1.heap.size, 2, none⟩) (by first | assumption | (go_size; done) | (simp; omega) | (simp only [World.size_alloc]; omega))).trans (by first | assumption | (go_cell; done) | (go_simp; done) | simp [*]); have oe3 : w4.cell? ⟨w1.heap.size, 3, none⟩ = some (.int .i64 (D)) := (hb.cell (p := ⟨w1.heap.size, 3, none⟩) (by first | assumption | (go_size; done) | (simp; omega) | (simp only [World.size_alloc]; omega))).trans (by first | assumption | (go_cell; done) | (go_simp; done) | simp [*]); have oes : w1.heap.size < w4.heap.size := Nat.lt_of_lt_of_le (by first | assumption | (go_size; done) | (simp; omega) | (simp only [World.size_alloc]; omega)) hb.size
        clear hA3 cd0 cd1 cd2 cd3 md0 md1 md2 md3 od0 od1 od2 od3 cds mds ods
        clear hb
        go_wp2_with fail
        refine Calls.mono (H5.out _ (HG.out.below (by have := hA4.size; go_grown))) ?_
        rintro e w5 ⟨v5, rfl, I5, hb⟩
        have hA5 : Below w.heap.size w w5 := belowTo (by have := hA4.size; go_grown) hb
        have mf0 : w5.cell? ⟨w0.heap.size + 1, 0, none⟩ = some (.int .i64 (p)) := (hb.cell (p := ⟨w0.heap.size + 1, 0, none⟩) (by first | assumption | (go_size; done) | (simp; omega) | (simp only [World.size_alloc]; omega))).trans (by first | assumption | (go_cell; done) | (go_simp; done) | simp [*]); have mf1 : w5.cell? ⟨w0.heap.size + 1, 1, none⟩ = some (.int .i64 (q)) := (hb.cell (p := ⟨w0.heap.size + 1, 1, none⟩) (by first | assumption | (go_size; done) | (simp; omega) | (simp only [World.size_alloc]; omega))).trans (by first | assumption | (go_cell; done) | (go_simp; done) | simp [*]); have mf2 : w5.cell? ⟨w0.heap.size + 1, 2, none⟩ = some (.int .i64 (r)) := (hb.cell (p := ⟨w0.heap.size + 1, 2, none⟩) (by first | assumption | (go_size; done) | (simp; omega) | (simp only [World.size_alloc]; omega))).trans (by first | assumption | (go_cell; done) | (go_simp; done) | simp [*]); have mf3 : w5.cell? ⟨w0.heap.size + 1, 3, none⟩ = some (.int .i64 (s)) := (hb.cell (p := ⟨w0.heap.size + 1, 3, none⟩) (by first | assumption | (go_size; done) | (simp; omega) | (simp only [World.size_alloc]; omega))).trans (by first | assumption | (go_cell; done) | (go_simp; done) | simp [*]); have mfs : w0.heap.size + 1 < w5.heap.size := Nat.lt_of_lt_of_le (by first | assumption | (go_size; done) | (simp; omega) | (simp only [World.size_alloc]; omega)) hb.size
        have of0 : w5.cell? ⟨w1.heap.size, 0, none⟩ = some (.int .i64 (A)) := (hb.cell (p := ⟨w1.heap.size, 0, none⟩) (by first | assumption | (go_size; done) | (simp; omega) | (simp only [World.size_alloc]; omega))).trans (by first | assumption | (go_cell; done) | (go_simp; done) | simp [*]); have of1 : w5.cell? ⟨w1.heap.size, 1, none⟩ = some (.int .i64 (B)) := (hb.cell (p := ⟨w1.heap.size, 1, none⟩) (by first | assumption | (go_size; done) | (simp; omega) | (simp only [World.size_alloc]; omega))).trans (by first | assumption | (go_cell; done) | (go_simp; done) | simp [*]); have of2 : w5.cell? ⟨w1.heap.size, 2, none⟩ = some (.int .i64 (C)) := (hb.cell (p := ⟨w1.heap.size, 2, none⟩) (by first | assumption | (go_size; done) | (simp; omega) | (simp only [World.size_alloc]; omega))).trans (by first | assumption | (go_cell; done) | (go_simp; done) | simp [*]); have of3 : w5.cell? ⟨w1.heap.size, 3, none⟩ = some (.int .i64 (D)) := (hb.cell (p := ⟨w1.heap.size, 3, none⟩) (by first | assumption | (go_size; done) | (simp; omega) | (simp only [World.size_alloc]; omega))).trans (by first | assumption | (go_cell; done) | (go_simp; done) | simp [*]); have ofs : w1.heap.size < w5.heap.size := Nat.lt_of_lt_of_le (by first | assumption | (go_size; done) | (simp; omega) | (simp only [World.size_alloc]; omega)) hb.size
        clear hA4 ce0 ce1 ce2 ce3 me0 me1 me2 me3 oe0 oe1 oe2 oe3 ces mes oes
        have J5 : Hid (Ints w5 _ v5 L) := I5
        clear hb I5
        go_wp2_with fail
        refine Calls.mono (H6.out _ (HG.out.below (by have := hA5.size; go_grown))) ?_
        rintro e w6 ⟨v6, rfl, I6, hb⟩
        have hA6 : Below w.heap.size w w6 := belowTo (by have := hA5.size; go_grown) hb
        have mg0 : w6.cell? ⟨w0.heap.size + 1, 0, none⟩ = some (.int .i64 (p)) := (hb.cell (p := ⟨w0.heap.size + 1, 0, none⟩) (by first | assumption | (go_size; done) | (simp; omega) | (simp only [World.size_alloc]; omega))).trans (by first | assumption | (go_cell; done) | (go_simp; done) | simp [*]); have mg1 : w6.cell? ⟨w0.heap.size + 1, 1, none⟩ = some (.int .i64 (q)) := (hb.cell (p := ⟨w0.heap.size + 1, 1, none⟩) (by first | assumption | (go_size; done) | (simp; omega) | (simp only [World.size_alloc]; omega))).trans (by first | assumption | (go_cell; done) | (go_simp; done) | simp [*]); have mg2 : w6.cell? ⟨w0.heap.size + 1, 2, none⟩ = some (.int .i64 (r)) := (hb.cell (p := ⟨w0.heap.size + 1, 2, none⟩) (by first | assumption | (go_size; done) | (simp; omega) | (simp only [World.size_alloc]; omega))).trans (by first | assumption | (go_cell; done) | (go_simp; done) | simp [*]); have mg3 : w6.cell? ⟨w0.heap.size + 1, 3, none⟩ = some (.int .i64 (s)) := (hb.cell (p := ⟨w0.heap.size + 1, 3, none⟩) (by first | assumption | (go_size; done) | (simp; omega) | (simp only [World.size_alloc]; omega))).trans (by first | assumption | (go_cell; done) | (go_simp; done) | simp [*]); have mgs : w0.heap.size + 1 < w6.heap.size := Nat.lt_of_lt_of_le (by first | assumption | (go_size; done) | (simp; omega) | (simp only [World.size_alloc]; omega)) hb.size
        replace J5 := Lib.hid (J5.out.below hb)
        clear hA5 mf0 mf1 mf2 mf3 of0 of1 of2 of3 mfs ofs
        have J6 : Hid (Ints w6 _ v6 L) := I6
        clear hb I6
        go_wp2_with fail
        refine Calls.mono (sameInts_same v5 v6 _ _ _ _ J5.out J6.out) ?_
        rintro e w7 ⟨rfl, hb⟩
        have hA7 : Below w.heap.size w w7 := belowTo (by have := hA6.size; go_grown) hb
        have mh0 : w7.cell? ⟨w0.heap.size + 1, 0, none⟩ = some (.int .i64 (p)) := (hb.cell (p := ⟨w0.heap.size + 1, 0, none⟩) (by first | assumption | (go_size; done) | (simp; omega) | (simp only [World.size_alloc]; omega))).trans (by first | assumption | (go_cell; done) | (go_simp; done) | simp [*]); have mh1 : w7.cell? ⟨w0.heap.size + 1, 1, none⟩ = some (.int .i64 (q)) := (hb.cell (p := ⟨w0.heap.size + 1, 1, none⟩) (by first | assumption | (go_size; done) | (simp; omega) | (simp only [World.size_alloc]; omega))).trans (by first | assumption | (go_cell; done) | (go_simp; done) | simp [*]); have mh2 : w7.cell? ⟨w0.heap.size + 1, 2, none⟩ = some (.int .i64 (r)) := (hb.cell (p := ⟨w0.heap.size + 1, 2, none⟩) (by first | assumption | (go_size; done) | (simp; omega) | (simp only [World.size_alloc]; omega))).trans (by first | assumption | (go_cell; done) | (go_simp; done) | simp [*]); have mh3 : w7.cell? ⟨w0.heap.size + 1, 3, none⟩ = some (.int .i64 (s)) := (hb.cell (p := ⟨w0.heap.size + 1, 3, none⟩) (by first | assumption | (go_size; done) | (simp; omega) | (simp only [World.size_alloc]; omega))).trans (by first | assumption | (go_cell; done) | (go_simp; done) | simp [*]); have mhs : w0.heap.size + 1 < w7.heap.size := Nat.lt_of_lt_of_le (by first | assumption | (go_size; done) | (simp; omega) | (simp only [World.size_alloc]; omega)) hb.size
        clear hA6 mg0 mg1 mg2 mg3 mgs
        clear hb J5 J6 HR HT
        have hs7 := hA7.size
        go_wp2
        go_returns
        exact ⟨by simp, by go_grown⟩
      case true =>
        obtain ⟨d1, d2⟩ := move_back k hn
        have hneg : detM p q r s < 0 := by simpa [negM] using hn
        have H4 : Hid (∀ w' (hg' : EtOk w'), Calls Tryd.prog 18 #[.agg #[.int .i64 (cmA x y z u p q r s), .int .i64 (cmB x y z u p q r s), .int .i64 (cmC x y z u p q r s), .int .i64 (cmD x y z u p q r s)]] w' fun e w2 => e = .returned (.tuple #[.int .i64 (detZ x y z u), .bool true]) ∧ Below w'.heap.size w' w2) := fun w' hg' => giv (coneIndex_any (cmA x y z u p q r s) (cmB x y z u p q r s) (cmC x y z u p q r s) (cmD x y z u p q r s) w' hg') (by rw [k3, gate_true, d1])
        rw [d2] at H6
        clear d1 d2 hn k k1 k2 k3 hbd hdn
        generalize cmA x y z u p q r s = A at *
        generalize cmB x y z u p q r s = B at *
        generalize cmC x y z u p q r s = C at *
        generalize cmD x y z u p q r s = D at *
        generalize fracC x y z u = L at *
        generalize detZ x y z u = n at *
        generalize detM p q r s = dt at *
        have hlr : L.length = L.reverse.length := by simp
        have HLR := Lib.hid hlr
        clear hlr hlen
        go_wp2_with fail
        refine Calls.mono (H1.out _ (HG.out.below (by have := hA0.size; go_grown))) ?_
        rintro e w1 ⟨rfl, hb⟩
        have hA1 : Below w.heap.size w w1 := belowTo (by have := hA0.size; go_grown) hb
        have cb0 : w1.cell? ⟨w0.heap.size, 0, none⟩ = some (.int .i64 (x)) := (hb.cell (p := ⟨w0.heap.size, 0, none⟩) (by first | assumption | (go_size; done) | (simp; omega) | (simp only [World.size_alloc]; omega))).trans (by first | assumption | (go_cell; done) | (go_simp; done) | simp [*]); have cb1 : w1.cell? ⟨w0.heap.size, 1, none⟩ = some (.int .i64 (y)) := (hb.cell (p := ⟨w0.heap.size, 1, none⟩) (by first | assumption | (go_size; done) | (simp; omega) | (simp only [World.size_alloc]; omega))).trans (by first | assumption | (go_cell; done) | (go_simp; done) | simp [*]); have cb2 : w1.cell? ⟨w0.heap.size, 2, none⟩ = some (.int .i64 (z)) := (hb.cell (p := ⟨w0.heap.size, 2, none⟩) (by first | assumption | (go_size; done) | (simp; omega) | (simp only [World.size_alloc]; omega))).trans (by first | assumption | (go_cell; done) | (go_simp; done) | simp [*]); have cb3 : w1.cell? ⟨w0.heap.size, 3, none⟩ = some (.int .i64 (u)) := (hb.cell (p := ⟨w0.heap.size, 3, none⟩) (by first | assumption | (go_size; done) | (simp; omega) | (simp only [World.size_alloc]; omega))).trans (by first | assumption | (go_cell; done) | (go_simp; done) | simp [*]); have cbs : w0.heap.size < w1.heap.size := Nat.lt_of_lt_of_le (by first | assumption | (go_size; done) | (simp; omega) | (simp only [World.size_alloc]; omega)) hb.size
        have mb0 : w1.cell? ⟨w0.heap.size + 1, 0, none⟩ = some (.int .i64 (p)) := (hb.cell (p := ⟨w0.heap.size + 1, 0, none⟩) (by first | assumption | (go_size; done) | (simp; omega) | (simp only [World.size_alloc]; omega))).trans (by first | assumption | (go_cell; done) | (go_simp; done) | simp [*]); have mb1 : w1.cell? ⟨w0.heap.size + 1, 1, none⟩ = some (.int .i64 (q)) := (hb.cell (p := ⟨w0.heap.size + 1, 1, none⟩) (by first | assumption | (go_size; done) | (simp; omega) | (simp only [World.size_alloc]; omega))).trans (by first | assumption | (go_cell; done) | (go_simp; done) | simp [*]); have mb2 : w1.cell? ⟨w0.heap.size + 1, 2, none⟩ = some (.int .i64 (r)) := (hb.cell (p := ⟨w0.heap.size + 1, 2, none⟩) (by first | assumption | (go_size; done) | (simp; omega) | (simp only [World.size_alloc]; omega))).trans (by first | assumption | (go_cell; done) | (go_simp; done) | simp [*]); have mb3 : w1.cell? ⟨w0.heap.size + 1, 3, none⟩ = some (.int .i64 (s)) := (hb.cell (p := ⟨w0.heap.size + 1, 3, none⟩) (by first | assumption | (go_size; done) | (simp; omega) | (simp only [World.size_alloc]; omega))).trans (by first | assumption | (go_cell; done) | (go_simp; done) | simp [*]); have mbs : w0.heap.size + 1 < w1.heap.size := Nat.lt_of_lt_of_le (by first | assumption | (go_size; done) | (simp; omega) | (simp only [World.size_alloc]; omega)) hb.size
        clear hA0  
        clear hb
        go_wp2_with fail
        refine Calls.mono (H2.out _) ?_
        rintro e w2 ⟨rfl, hb⟩
        have hA2 : Below w.heap.size w w2 := belowTo (by have := hA1.size; go_grown) hb
        have cc0 : w2.cell? ⟨w0.heap.size, 0, none⟩ = some (.int .i64 (x)) := (hb.cell (p := ⟨w0.heap.size, 0, none⟩) (by first | assumption | (go_size; done) | (simp; omega) | (simp only [World.size_alloc]; omega))).trans (by first | assumption | (go_cell; done) | (go_simp; done) | simp [*]); have cc1 : w2.cell? ⟨w0.heap.size, 1, none⟩ = some (.int .i64 (y)) := (hb.cell (p := ⟨w0.heap.size, 1, none⟩) (by first | assumption | (go_size; done) | (simp; omega) | (simp only [World.size_alloc]; omega))).trans (by first | assumption | (go_cell; done) | (go_simp; done) | simp [*]); have cc2 : w2.cell? ⟨w0.heap.size, 2, none⟩ = some (.int .i64 (z)) := (hb.cell (p := ⟨w0.heap.size, 2, none⟩) (by first | assumption | (go_size; done) | (simp; omega) | (simp only [World.size_alloc]; omega))).trans (by first | assumption | (go_cell; done) | (go_simp; done) | simp [*]); have cc3 : w2.cell? ⟨w0.heap.size, 3, none⟩ = some (.int .i64 (u)) := (hb.cell (p := ⟨w0.heap.size, 3, none⟩) (by first | assumption | (go_size; done) | (simp; omega) | (simp only [World.size_alloc]; omega))).trans (by first | assumption | (go_cell; done) | (go_simp; done) | simp [*]); have ccs : w0.heap.size < w2.heap.size := Nat.lt_of_lt_of_le (by first | assumption | (go_size; done) | (simp; omega) | (simp only [World.size_alloc]; omega)) hb.size
        have mc0 : w2.cell? ⟨w0.heap.size + 1, 0, none⟩ = some (.int .i64 (p)) := (hb.cell (p := ⟨w0.heap.size + 1, 0, none⟩) (by first | assumption | (go_size; done) | (simp; omega) | (simp only [World.size_alloc]; omega))).trans (by first | assumption | (go_cell; done) | (go_simp; done) | simp [*]); have mc1 : w2.cell? ⟨w0.heap.size + 1, 1, none⟩ = some (.int .i64 (q)) := (hb.cell (p := ⟨w0.heap.size + 1, 1, none⟩) (by first | assumption | (go_size; done) | (simp; omega) | (simp only [World.size_alloc]; omega))).trans (by first | assumption | (go_cell; done) | (go_simp; done) | simp [*]); have mc2 : w2.cell? ⟨w0.heap.size + 1, 2, none⟩ = some (.int .i64 (r)) := (hb.cell (p := ⟨w0.heap.size + 1, 2, none⟩) (by first | assumption | (go_size; done) | (simp; omega) | (simp only [World.size_alloc]; omega))).trans (by first | assumption | (go_cell; done) | (go_simp; done) | simp [*]); have mc3 : w2.cell? ⟨w0.heap.size + 1, 3, none⟩ = some (.int .i64 (s)) := (hb.cell (p := ⟨w0.heap.size + 1, 3, none⟩) (by first | assumption | (go_size; done) | (simp; omega) | (simp only [World.size_alloc]; omega))).trans (by first | assumption | (go_cell; done) | (go_simp; done) | simp [*]); have mcs : w0.heap.size + 1 < w2.heap.size := Nat.lt_of_lt_of_le (by first | assumption | (go_size; done) | (simp; omega) | (simp only [World.size_alloc]; omega)) hb.size
        have oc0 : w2.cell? ⟨w1.heap.size, 0, none⟩ = some (.int .i64 (A)) := (hb.cell (p := ⟨w1.heap.size, 0, none⟩) (by first | assumption | (go_size; done) | (simp; omega) | (simp only [World.size_alloc]; omega))).trans (by first | assumption | (go_cell; done) | (go_simp; done) | simp [*]); have oc1 : w2.cell? ⟨w1.heap.size, 1, none⟩ = some (.int .i64 (B)) := (hb.cell (p := ⟨w1.heap.size, 1, none⟩) (by first | assumption | (go_size; done) | (simp; omega) | (simp only [World.size_alloc]; omega))).trans (by first | assumption | (go_cell; done) | (go_simp; done) | simp [*]); have oc2 : w2.cell? ⟨w1.heap.size, 2, none⟩ = some (.int .i64 (C)) := (hb.cell (p := ⟨w1.heap.size, 2, none⟩) (by first | assumption | (go_size; done) | (simp; omega) | (simp only [World.size_alloc]; omega))).trans (by first | assumption | (go_cell; done) | (go_simp; done) | simp [*]); have oc3 : w2.cell? ⟨w1.heap.size, 3, none⟩ = some (.int .i64 (D)) := (hb.cell (p := ⟨w1.heap.size, 3, none⟩) (by first | assumption | (go_size; done) | (simp; omega) | (simp only [World.size_alloc]; omega))).trans (by first | assumption | (go_cell; done) | (go_simp; done) | simp [*]); have ocs : w1.heap.size < w2.heap.size := Nat.lt_of_lt_of_le (by first | assumption | (go_size; done) | (simp; omega) | (simp only [World.size_alloc]; omega)) hb.size
        clear hA1 cb0 cb1 cb2 cb3 mb0 mb1 mb2 mb3 cbs mbs
        clear hb
        go_wp2_with fail
        refine Calls.mono (H3.out _ (HG.out.below (by have := hA2.size; go_grown))) ?_
        rintro e w3 ⟨rfl, hb⟩
        have hA3 : Below w.heap.size w w3 := belowTo (by have := hA2.size; go_grown) hb
        have cd0 : w3.cell? ⟨w0.heap.size, 0, none⟩ = some (.int .i64 (x)) := (hb.cell (p := ⟨w0.heap.size, 0, none⟩) (by first | assumption | (go_size; done) | (simp; omega) | (simp only [World.size_alloc]; omega))).trans (by first | assumption | (go_cell; done) | (go_simp; done) | simp [*]); have cd1 : w3.cell? ⟨w0.heap.size, 1, none⟩ = some (.int .i64 (y)) := (hb.cell (p := ⟨w0.heap.size, 1, none⟩) (by first | assumption | (go_size; done) | (simp; omega) | (simp only [World.size_alloc]; omega))).trans (by first | assumption | (go_cell; done) | (go_simp; done) | simp [*]); have cd2 : w3.cell? ⟨w0.heap.size, 2, none⟩ = some (.int .i64 (z)) := (hb.cell (p := ⟨w0.heap.size, 2, none⟩) (by first | assumption | (go_size; done) | (simp; omega) | (simp only [World.size_alloc]; omega))).trans (by first | assumption | (go_cell; done) | (go_simp; done) | simp [*]); have cd3 : w3.cell? ⟨w0.heap.size, 3, none⟩ = some (.int .i64 (u)) := (hb.cell (p := ⟨w0.heap.size, 3, none⟩) (by first | assumption | (go_size; done) | (simp; omega) | (simp only [World.size_alloc]; omega))).trans (by first | assumption | (go_cell; done) | (go_simp; done) | simp [*]); have cds : w0.heap.size < w3.heap.size := Nat.lt_of_lt_of_le (by first | assumption | (go_size; done) | (simp; omega) | (simp only [World.size_alloc]; omega)) hb.size
        have md0 : w3.cell? ⟨w0.heap.size + 1, 0, none⟩ = some (.int .i64 (p)) := (hb.cell (p := ⟨w0.heap.size + 1, 0, none⟩) (by first | assumption | (go_size; done) | (simp; omega) | (simp only [World.size_alloc]; omega))).trans (by first | assumption | (go_cell; done) | (go_simp; done) | simp [*]); have md1 : w3.cell? ⟨w0.heap.size + 1, 1, none⟩ = some (.int .i64 (q)) := (hb.cell (p := ⟨w0.heap.size + 1, 1, none⟩) (by first | assumption | (go_size; done) | (simp; omega) | (simp only [World.size_alloc]; omega))).trans (by first | assumption | (go_cell; done) | (go_simp; done) | simp [*]); have md2 : w3.cell? ⟨w0.heap.size + 1, 2, none⟩ = some (.int .i64 (r)) := (hb.cell (p := ⟨w0.heap.size + 1, 2, none⟩) (by first | assumption | (go_size; done) | (simp; omega) | (simp only [World.size_alloc]; omega))).trans (by first | assumption | (go_cell; done) | (go_simp; done) | simp [*]); have md3 : w3.cell? ⟨w0.heap.size + 1, 3, none⟩ = some (.int .i64 (s)) := (hb.cell (p := ⟨w0.heap.size + 1, 3, none⟩) (by first | assumption | (go_size; done) | (simp; omega) | (simp only [World.size_alloc]; omega))).trans (by first | assumption | (go_cell; done) | (go_simp; done) | simp [*]); have mds : w0.heap.size + 1 < w3.heap.size := Nat.lt_of_lt_of_le (by first | assumption | (go_size; done) | (simp; omega) | (simp only [World.size_alloc]; omega)) hb.size
        have od0 : w3.cell? ⟨w1.heap.size, 0, none⟩ = some (.int .i64 (A)) := (hb.cell (p := ⟨w1.heap.size, 0, none⟩) (by first | assumption | (go_size; done) | (simp; omega) | (simp only [World.size_alloc]; omega))).trans (by first | assumption | (go_cell; done) | (go_simp; done) | simp [*]); have od1 : w3.cell? ⟨w1.heap.size, 1, none⟩ = some (.int .i64 (B)) := (hb.cell (p := ⟨w1.heap.size, 1, none⟩) (by first | assumption | (go_size; done) | (simp; omega) | (simp only [World.size_alloc]; omega))).trans (by first | assumption | (go_cell; done) | (go_simp; done) | simp [*]); have od2 : w3.cell? ⟨w1.heap.size, 2, none⟩ = some (.int .i64 (C)) := (hb.cell (p := ⟨w1.heap.size, 2, none⟩) (by first | assumption | (go_size; done) | (simp; omega) | (simp only [World.size_alloc]; omega))).trans (by first | assumption | (go_cell; done) | (go_simp; done) | simp [*]); have od3 : w3.cell? ⟨w1.heap.size, 3, none⟩ = some (.int .i64 (D)) := (hb.cell (p := ⟨w1.heap.size, 3, none⟩) (by first | assumption | (go_size; done) | (simp; omega) | (simp only [World.size_alloc]; omega))).trans (by first | assumption | (go_cell; done) | (go_simp; done) | simp [*]); have ods : w1.heap.size < w3.heap.size := Nat.lt_of_lt_of_le (by first | assumption | (go_size; done) | (simp; omega) | (simp only [World.size_alloc]; omega)) hb.size
        clear hA2 cc0 cc1 cc2 cc3 mc0 mc1 mc2 mc3 oc0 oc1 oc2 oc3 ccs mcs ocs
        clear hb
        go_wp2_with fail
        refine Calls.mono (H4.out _ (HG.out.below (by have := hA3.size; go_grown))) ?_
        rintro e w4 ⟨rfl, hb⟩
        have hA4 : Below w.heap.size w w4 := belowTo (by have := hA3.size; go_grown) hb
        have ce0 : w4.cell? ⟨w0.heap.size, 0, none⟩ = some (.int .i64 (x)) := (hb.cell (p := ⟨w0.heap.size, 0, none⟩) (by first | assumption | (go_size; done) | (simp; omega) | (simp only [World.size_alloc]; omega))).trans (by first | assumption | (go_cell; done) | (go_simp; done) | simp [*]); have ce1 : w4.cell? ⟨w0.heap.size, 1, none⟩ = some (.int .i64 (y)) := (hb.cell (p := ⟨w0.heap.size, 1, none⟩) (by first | assumption | (go_size; done) | (simp; omega) | (simp only [World.size_alloc]; omega))).trans (by first | assumption | (go_cell; done) | (go_simp; done) | simp [*]); have ce2 : w4.cell? ⟨w0.heap.size, 2, none⟩ = some (.int .i64 (z)) := (hb.cell (p := ⟨w0.heap.size, 2, none⟩) (by first | assumption | (go_size; done) | (simp; omega) | (simp only [World.size_alloc]; omega))).trans (by first | assumption | (go_cell; done) | (go_simp; done) | simp [*]); have ce3 : w4.cell? ⟨w0.heap.size, 3, none⟩ = some (.int .i64 (u)) := (hb.cell (p := ⟨w0.heap.size, 3, none⟩) (by first | assumption | (go_size; done) | (simp; omega) | (simp only [World.size_alloc]; omega))).trans (by first | assumption | (go_cell; done) | (go_simp; done) | simp [*]); have ces : w0.heap.size < w4.heap.size := Nat.lt_of_lt_of_le (by first | assumption | (go_size; done) | (simp; omega) | (simp only [World.size_alloc]; omega)) hb.size
        have me0 : w4.cell? ⟨w0.heap.size + 1, 0, none⟩ = some (.int .i64 (p)) := (hb.cell (p := ⟨w0.heap.size + 1, 0, none⟩) (by first | assumption | (go_size; done) | (simp; omega) | (simp only [World.size_alloc]; omega))).trans (by first | assumption | (go_cell; done) | (go_simp; done) | simp [*]); have me1 : w4.cell? ⟨w0.heap.size + 1, 1, none⟩ = some (.int .i64 (q)) := (hb.cell (p := ⟨w0.heap.size + 1, 1, none⟩) (by first | assumption | (go_size; done) | (simp; omega) | (simp only [World.size_alloc]; omega))).trans (by first | assumption | (go_cell; done) | (go_simp; done) | simp [*]); have me2 : w4.cell? ⟨w0.heap.size + 1, 2, none⟩ = some (.int .i64 (r)) := (hb.cell (p := ⟨w0.heap.size + 1, 2, none⟩) (by first | assumption | (go_size; done) | (simp; omega) | (simp only [World.size_alloc]; omega))).trans (by first | assumption | (go_cell; done) | (go_simp; done) | simp [*]); have me3 : w4.cell? ⟨w0.heap.size + 1, 3, none⟩ = some (.int .i64 (s)) := (hb.cell (p := ⟨w0.heap.size + 1, 3, none⟩) (by first | assumption | (go_size; done) | (simp; omega) | (simp only [World.size_alloc]; omega))).trans (by first | assumption | (go_cell; done) | (go_simp; done) | simp [*]); have mes : w0.heap.size + 1 < w4.heap.size := Nat.lt_of_lt_of_le (by first | assumption | (go_size; done) | (simp; omega) | (simp only [World.size_alloc]; omega)) hb.size
        have oe0 : w4.cell? ⟨w1.heap.size, 0, none⟩ = some (.int .i64 (A)) := (hb.cell (p := ⟨w1.heap.size, 0, none⟩) (by first | assumption | (go_size; done) | (simp; omega) | (simp only [World.size_alloc]; omega))).trans (by first | assumption | (go_cell; done) | (go_simp; done) | simp [*]); have oe1 : w4.cell? ⟨w1.heap.size, 1, none⟩ = some (.int .i64 (B)) := (hb.cell (p := ⟨w1.heap.size, 1, none⟩) (by first | assumption | (go_size; done) | (simp; omega) | (simp only [World.size_alloc]; omega))).trans (by first | assumption | (go_cell; done) | (go_simp; done) | simp [*]); have oe2 : w4.cell? ⟨w1.heap.size, 2, none⟩ = some (.int .i64 (C)) := (hb.cell (p := ⟨w1.heap.size, 2, none⟩) (by first | assumption | (go_size; done) | (simp; omega) | (simp only [World.size_alloc]; omega))).trans (by first | assumption | (go_cell; done) | (go_simp; done) | simp [*]); have oe3 : w4.cell? ⟨w1.heap.size, 3, none⟩ = some (.int .i64 (D)) := (hb.cell (p := ⟨w1.heap.size, 3, none⟩) (by first | assumption | (go_size; done) | (simp; omega) | (simp only [World.size_alloc]; omega))).trans (by first | assumption | (go_cell; done) | (go_simp; done) | simp [*]); have oes : w1.heap.size < w4.heap.size := Nat.lt_of_lt_of_le (by first | assumption | (go_size; done) | (simp; omega) | (simp only [World.size_alloc]; omega)) hb.size
        clear hA3 cd0 cd1 cd2 cd3 md0 md1 md2 md3 od0 od1 od2 od3 cds mds ods
        clear hb
        go_wp2_with fail
        refine Calls.mono (H5.out _ (HG.out.below (by have := hA4.size; go_grown))) ?_
        rintro e w5 ⟨v5, rfl, I5, hb⟩
        have hA5 : Below w.heap.size w w5 := belowTo (by have := hA4.size; go_grown) hb
        have mf0 : w5.cell? ⟨w0.heap.size + 1, 0, none⟩ = some (.int .i64 (p)) := (hb.cell (p := ⟨w0.heap.size + 1, 0, none⟩) (by first | assumption | (go_size; done) | (simp; omega) | (simp only [World.size_alloc]; omega))).trans (by first | assumption | (go_cell; done) | (go_simp; done) | simp [*]); have mf1 : w5.cell? ⟨w0.heap.size + 1, 1, none⟩ = some (.int .i64 (q)) := (hb.cell (p := ⟨w0.heap.size + 1, 1, none⟩) (by first | assumption | (go_size; done) | (simp; omega) | (simp only [World.size_alloc]; omega))).trans (by first | assumption | (go_cell; done) | (go_simp; done) | simp [*]); have mf2 : w5.cell? ⟨w0.heap.size + 1, 2, none⟩ = some (.int .i64 (r)) := (hb.cell (p := ⟨w0.heap.size + 1, 2, none⟩) (by first | assumption | (go_size; done) | (simp; omega) | (simp only [World.size_alloc]; omega))).trans (by first | assumption | (go_cell; done) | (go_simp; done) | simp [*]); have mf3 : w5.cell? ⟨w0.heap.size + 1, 3, none⟩ = some (.int .i64 (s)) := (hb.cell (p := ⟨w0.heap.size + 1, 3, none⟩) (by first | assumption | (go_size; done) | (simp; omega) | (simp only [World.size_alloc]; omega))).trans (by first | assumption | (go_cell; done) | (go_simp; done) | simp [*]); have mfs : w0.heap.size + 1 < w5.heap.size := Nat.lt_of_lt_of_le (by first | assumption | (go_size; done) | (simp; omega) | (simp only [World.size_alloc]; omega)) hb.size
        have of0 : w5.cell? ⟨w1.heap.size, 0, none⟩ = some (.int .i64 (A)) := (hb.cell (p := ⟨w1.heap.size, 0, none⟩) (by first | assumption | (go_size; done) | (simp; omega) | (simp only [World.size_alloc]; omega))).trans (by first | assumption | (go_cell; done) | (go_simp; done) | simp [*]); have of1 : w5.cell? ⟨w1.heap.size, 1, none⟩ = some (.int .i64 (B)) := (hb.cell (p := ⟨w1.heap.size, 1, none⟩) (by first | assumption | (go_size; done) | (simp; omega) | (simp only [World.size_alloc]; omega))).trans (by first | assumption | (go_cell; done) | (go_simp; done) | simp [*]); have of2 : w5.cell? ⟨w1.heap.size, 2, none⟩ = some (.int .i64 (C)) := (hb.cell (p := ⟨w1.heap.size, 2, none⟩) (by first | assumption | (go_size; done) | (simp; omega) | (simp only [World.size_alloc]; omega))).trans (by first | assumption | (go_cell; done) | (go_simp; done) | simp [*]); have of3 : w5.cell? ⟨w1.heap.size, 3, none⟩ = some (.int .i64 (D)) := (hb.cell (p := ⟨w1.heap.size, 3, none⟩) (by first | assumption | (go_size; done) | (simp; omega) | (simp only [World.size_alloc]; omega))).trans (by first | assumption | (go_cell; done) | (go_simp; done) | simp [*]); have ofs : w1.heap.size < w5.heap.size := Nat.lt_of_lt_of_le (by first | assumption | (go_size; done) | (simp; omega) | (simp only [World.size_alloc]; omega)) hb.size
        clear hA4 ce0 ce1 ce2 ce3 me0 me1 me2 me3 oe0 oe1 oe2 oe3 ces mes oes
        have J5 : Hid (Ints w5 _ v5 L) := I5
        clear hb I5
        go_wp2_with fail
        refine Calls.mono (H6.out _ (HG.out.below (by have := hA5.size; go_grown))) ?_
        rintro e w6 ⟨v6, rfl, I6, hb⟩
        have hA6 : Below w.heap.size w w6 := belowTo (by have := hA5.size; go_grown) hb
        have mg0 : w6.cell? ⟨w0.heap.size + 1, 0, none⟩ = some (.int .i64 (p)) := (hb.cell (p := ⟨w0.heap.size + 1, 0, none⟩) (by first | assumption | (go_size; done) | (simp; omega) | (simp only [World.size_alloc]; omega))).trans (by first | assumption | (go_cell; done) | (go_simp; done) | simp [*]); have mg1 : w6.cell? ⟨w0.heap.size + 1, 1, none⟩ = some (.int .i64 (q)) := (hb.cell (p := ⟨w0.heap.size + 1, 1, none⟩) (by first | assumption | (go_size; done) | (simp; omega) | (simp only [World.size_alloc]; omega))).trans (by first | assumption | (go_cell; done) | (go_simp; done) | simp [*]); have mg2 : w6.cell? ⟨w0.heap.size + 1, 2, none⟩ = some (.int .i64 (r)) := (hb.cell (p := ⟨w0.heap.size + 1, 2, none⟩) (by first | assumption | (go_size; done) | (simp; omega) | (simp only [World.size_alloc]; omega))).trans (by first | assumption | (go_cell; done) | (go_simp; done) | simp [*]); have mg3 : w6.cell? ⟨w0.heap.size + 1, 3, none⟩ = some (.int .i64 (s)) := (hb.cell (p := ⟨w0.heap.size + 1, 3, none⟩) (by first | assumption | (go_size; done) | (simp; omega) | (simp only [World.size_alloc]; omega))).trans (by first | assumption | (go_cell; done) | (go_simp; done) | simp [*]); have mgs : w0.heap.size + 1 < w6.heap.size := Nat.lt_of_lt_of_le (by first | assumption | (go_size; done) | (simp; omega) | (simp only [World.size_alloc]; omega)) hb.size
        replace J5 := Lib.hid (J5.out.below hb)
        clear hA5 mf0 mf1 mf2 mf3 of0 of1 of2 of3 mfs ofs
        have J6 : Hid (Ints w6 _ v6 L.reverse) := I6
        clear hb I6
        go_wp2_with fail
        refine Calls.mono (sameInts_some v5 v6 _ _ _ _ _ J5.out J6.out HLR.out) ?_
        rintro e w7 ⟨⟨b7, rfl⟩, hb⟩
        have hA7 : Below w.heap.size w w7 := belowTo (by have := hA6.size; go_grown) hb
        have mh0 : w7.cell? ⟨w0.heap.size + 1, 0, none⟩ = some (.int .i64 (p)) := (hb.cell (p := ⟨w0.heap.size + 1, 0, none⟩) (by first | assumption | (go_size; done) | (simp; omega) | (simp only [World.size_alloc]; omega))).trans (by first | assumption | (go_cell; done) | (go_simp; done) | simp [*]); have mh1 : w7.cell? ⟨w0.heap.size + 1, 1, none⟩ = some (.int .i64 (q)) := (hb.cell (p := ⟨w0.heap.size + 1, 1, none⟩) (by first | assumption | (go_size; done) | (simp; omega) | (simp only [World.size_alloc]; omega))).trans (by first | assumption | (go_cell; done) | (go_simp; done) | simp [*]); have mh2 : w7.cell? ⟨w0.heap.size + 1, 2, none⟩ = some (.int .i64 (r)) := (hb.cell (p := ⟨w0.heap.size + 1, 2, none⟩) (by first | assumption | (go_size; done) | (simp; omega) | (simp only [World.size_alloc]; omega))).trans (by first | assumption | (go_cell; done) | (go_simp; done) | simp [*]); have mh3 : w7.cell? ⟨w0.heap.size + 1, 3, none⟩ = some (.int .i64 (s)) := (hb.cell (p := ⟨w0.heap.size + 1, 3, none⟩) (by first | assumption | (go_size; done) | (simp; omega) | (simp only [World.size_alloc]; omega))).trans (by first | assumption | (go_cell; done) | (go_simp; done) | simp [*]); have mhs : w0.heap.size + 1 < w7.heap.size := Nat.lt_of_lt_of_le (by first | assumption | (go_size; done) | (simp; omega) | (simp only [World.size_alloc]; omega)) hb.size
        replace J5 := Lib.hid (J5.out.below hb)
        replace J6 := Lib.hid (J6.out.below hb)
        clear hA6 mg0 mg1 mg2 mg3 mgs
        clear hb HLR
        go_wp2_with fail
        refine Calls.mono (HT.out _ _ (HR.out _ _ _ J5.out)) ?_
        rintro e w8 ⟨v8, rfl, I8, hb⟩
        have hA8 : Below w.heap.size w w8 := belowTo (by have := hA7.size; go_grown) hb
        replace J6 := Lib.hid (J6.out.below hb)
        clear hA7 mh0 mh1 mh2 mh3 mhs
        replace I8 := Lib.hid I8
        clear hb J5 HT HR
        go_wp2_with fail
        refine Calls.mono (sameInts_same v8 v6 _ _ _ _ I8.out J6.out) ?_
        rintro e w9 ⟨rfl, hb⟩
        have hA9 : Below w.heap.size w w9 := belowTo (by have := hA8.size; go_grown) hb
        clear hA8  
        clear hb J6 I8
        have hs9 := hA9.size
        go_wp2
        go_returns
        exact ⟨by simp, by go_grown⟩
end Go.Proofs.YtjlobpccnplebaaDoor
