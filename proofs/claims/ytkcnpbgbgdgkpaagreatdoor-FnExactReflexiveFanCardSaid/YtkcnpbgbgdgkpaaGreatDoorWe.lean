/- Polygons: edges, normals, the exported functions: the program. -/
import Derived.Test.YtkcnpbgbgdgkpaaGreatDoorBj
import Derived.Test.YtkcnpbgbgdgkpaaGreatDoorTi
namespace Go.Proofs.YtkcnpbgbgdgkpaaGreatDoor
open Go.RowKit

theorem polyEnd_cases {b : Bool} {e : Ending} (h : PolyEnd b e) : (b = true ∧ e = .returned .nilIface) ∨ (b = false ∧ ∃ s, e = .returned (.iface 66 (.agg #[.string s]))) := polyEnd_of h
theorem way_nz {l : List V2} (h : polyB l = true) (i : Nat) : ¬ ((wayZ l i).1 = 0 ∧ (wayZ l i).2 = 0) := by
  rintro ⟨h1, h2⟩
  have t : 0 < detV (wayZ l i) (wayZ l (i + 1)) := (poly_conv h).turn i
  unfold detV detZ at t
  rw [h1, h2] at t
  omega
theorem way_vec {l : List V2} (h : polyB l = true) (i : Nat) : vecB (wayZ l i).1 (wayZ l i).2 = true := vec_of (by have := way_small (allK_all (poly_in h).2.1 (by have := poly_len h; omega)) i; omega)
/-- the vectors on the edges -/
def edgeZ (l : List V2) (k : Nat) : Int := sumZ (fun i => gcdZ (wayZ l i).1 (wayZ l i).2) k
theorem edge_bnd {l : List V2} (h : polyB l = true) : ∀ k, 0 ≤ edgeZ l k ∧ edgeZ l k ≤ 1000 * k := by
  intro k
  induction k with
  | zero => exact ⟨Int.le_refl _, Int.le_refl _⟩
  | succ k ih =>
    have := szs (way_vec h k)
    have a := gcdZ_le (n := 1000) this.1 this.2
    have b := gcdZ_nonneg (wayZ l k).1 (wayZ l k).2
    unfold edgeZ at *
    rw [show sumZ (fun i => gcdZ (wayZ l i).1 (wayZ l i).2) (k + 1) = sumZ (fun i => gcdZ (wayZ l i).1 (wayZ l i).2) k + gcdZ (wayZ l k).1 (wayZ l k).2 from rfl]
    omega
set_option maxRecDepth 100000 in
set_option maxHeartbeats 16000000 in
theorem edge_any (v : Value) (l : List V2) (w : World) (h : ReadsVecs w v l) (hp : polyB l = true) :
    Calls Tryz.prog 31 #[v] w fun e w' => e = .returned (.int .i64 (edgeZ l l.length)) ∧ Below w.heap.size w w' := by
  have h30 := poly_len hp
  have h0 : 0 < l.length := by omega
  have HWy := Lib.hid (fun w' (hb : Below w.heap.size w w') => ways_any v l w' (h.below hb) h0 (by omega) (fun i => by have := poly_small hp i; unfold big; omega))
  have HWc := Lib.hid (fun i => cyc_ways h0 i)
  have HWs := Lib.hid (fun i => szs (way_vec hp i))
  have HWl := Lib.hid (waysL_len l)
  have HEb := Lib.hid (fun k => edge_bnd hp k)
  have HSu : Hid (∀ k, edgeZ l (k + 1) = edgeZ l k + gcdZ (wayZ l k).1 (wayZ l k).2) := fun _ => rfl
  have HS0 : Hid (edgeZ l 0 = 0) := rfl
  have HGb := Lib.hid (fun k => (gcdZ_nonneg (wayZ l k).1 (wayZ l k).2))
  obtain ⟨a, c, rfl, _⟩ := h
  generalize edgeZ l = Q at *
  clear hp
  go_enter Tryz.func31, Tryz.ntmps31
  go_wp2_with fail
  refine Calls.mono (HWy.out _ (by go_grown)) ?_
  rintro e W1 ⟨v1, rfl, hI, hb1⟩
  have HB1 := Lib.hid (show Below w.heap.size w W1 from belowTo (by go_grown) hb1)
  obtain ⟨bw, ow, wc, rfl, _, _, hbw, hws⟩ := (hI.reads (by rw [waysL_len]; omega)).open (by rw [waysL_len]; exact h0)
  have HWS := Lib.hid hws
  clear hb1 hI hws HWy
  have hsW := HB1.out.size
  have hwl := HWl.out
  generalize hn : (waysL l).length = n at *
  subst hwl
  clear hn
  go_wp2
  go_loopw [3, 9] (fun s3 s wr => ∃ k : Nat, k ≤ l.length ∧ s3 = .int .i64 (Q k) ∧ s = .int .i64 k ∧ Below W1.heap.size W1 wr) (fun _ s _ => l.length - (intOf s).toNat)
  case atStart => exact ⟨0, Nat.zero_le _, by rw [HS0.out], rfl, Below.refl _ _⟩
  case round =>
    obtain ⟨k, hk, rfl, rfl, hB⟩ := hrel
    have i1 : (0 : Int) ≤ (k : Int) := by omega
    by_cases hlt : k < l.length
    · have i2 : (k : Int) < (l.length : Int) := by omega
      obtain ⟨d0, d1⟩ := HWS.out wr hB k hlt
      rw [HWc.out k] at d0 d1
      have b1 := HWs.out k
      have e1 := HEb.out k
      have e2 := HEb.out (k + 1)
      have HSk := Lib.hid (HSu.out k)
      have e3 := HSu.out k
      generalize wayZ l k = U at *
      obtain ⟨u1, u2⟩ := U
      dsimp only at d0 d1 b1 HSk e3
      have HG := Lib.hid (fun w' => commonDivisor_any u1 u2 w' b1.1 b1.2)
      generalize gcdZ u1 u2 = g at *
      have q1 : IntKind.i64.wrap (Q k + g) = Q k + g := by rw [IntKind.wrap_i64]; omega
      have hs := hB.size
      clear HWs HEb HSu HS0 HGb HWc HWS e1 e2 e3 b1
      go_wp2_with fail
      refine Calls.mono (HG.out _) ?_
      rintro e w2 ⟨rfl, hb2⟩
      have hBk := hB.trans ((belowTo (a := wr) (by go_grown) hb2).mono hs)
      clear hb2 HG
      go_wp2
      go_roundw
      case rel => exact ⟨k + 1, by omega, by rw [HSk.out], by go_num, hBk⟩
      case measure => simp [intOf]; omega
    · obtain rfl : k = l.length := by omega
      have i2 : ¬ ((l.length : Nat) : Int) < (l.length : Int) := by omega
      go_wp2
      go_returns
      exact ⟨rfl, HB1.out.trans (hB.mono hsW)⟩
theorem poly_allV {l : List V2} (h : polyB l = true) : allV l = true := allV_good (fun k _ => poly_vec h k)
/-- the inner vectors, by Pick's formula -/
def innerZ (l : List V2) : Int := (areaZ l - edgeZ l l.length + 2).tdiv 2
theorem poly_nums {l : List V2} (h : polyB l = true) : (-2000000000 ≤ areaZ l ∧ areaZ l ≤ 2000000000) ∧ 0 ≤ edgeZ l l.length ∧ edgeZ l l.length ≤ 30000 := by
  have h30 := poly_len h
  have a := area_bnd (poly_allV h) (by omega) (k := l.length) (by omega)
  have b := edge_bnd h l.length
  exact ⟨a, b.1, by omega⟩
end Go.Proofs.YtkcnpbgbgdgkpaaGreatDoor
