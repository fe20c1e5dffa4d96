/- FanConvex: the program, the model. -/
import Derived.Test.YtkcnpbgbgdgkpaaDoorB9
import Derived.Test.YtkcnpbgbgdgkpaaDoorBf
import Derived.Test.YtkcnpbgbgdgkpaaDoorBe
namespace Go.Proofs.YtkcnpbgbgdgkpaaDoor
open Go.RowKit

def cvxP (n : Int) : Bool := decide (-2 ≤ n)
def cvxL (d : List Int) : Bool := d.all cvxP
def convB (l : List V2) : Bool := smoothB l && cvxL (numsZ l)
theorem cvx_bad {d : List Int} {k : Nat} (hk : k < d.length) (h : cvxP (gz d k) = false) : cvxL d = false := by
  unfold cvxL
  rw [List.all_eq_false]
  exact ⟨_, gz_mem hk, by rw [h]; decide⟩
theorem cvx_good {d : List Int} (h : ∀ k, k < d.length → cvxP (gz d k) = true) : cvxL d = true := by
  unfold cvxL
  rw [List.all_eq_true]
  intro x hx
  obtain ⟨i, hi, rfl⟩ := List.mem_iff_getElem.1 hx
  have := h i hi
  unfold gz at this
  rwa [List.getElem?_eq_getElem hi] at this
set_option maxHeartbeats 400000 in
theorem convex1_any (n : Int) (w : World) :
    Calls Tryd.prog 51 #[.int .i64 n] w fun e w' => e = .returned (.bool (cvxP n)) ∧ w' = w := by
  unfold cvxP
  go_enter Tryd.func51, Tryd.ntmps51
  go_wp2
  all_goals go_returns
  all_goals (refine ⟨ret_bool ?_, rfl⟩; first | rfl | simp | (rw [Bool.eq_iff_iff]; simp; try omega))
set_option maxHeartbeats 4000000 in
theorem everyConvex_any (v : Value) (d : List Int) (w : World) (h : ReadsInts w v d) :
    Calls Tryd.prog 49 #[v, .func (.func 51) #[] #[]] w fun e w' => e = .returned (.bool (cvxL d)) ∧ w' = w := by
  obtain ⟨a, c, rfl, hm, hc⟩ := h
  have HC := Lib.hid hc
  have HB := Lib.hid (fun k hk h => cvx_bad (d := d) (k := k) hk h)
  have HG := Lib.hid (fun h => cvx_good (d := d) h)
  obtain ⟨n, hn⟩ : ∃ n, n = d.length := ⟨_, rfl⟩
  have HN := Lib.hid hn
  rw [← hn] at hm ⊢
  clear hc hn
  go_enter Tryd.func49, Tryd.ntmps49
  go_wp2
  go_loop [9] (fun s => ∃ k : Nat, s = .int .i64 k ∧ k ≤ n ∧ Hid (∀ j, j < k → cvxP (gz d j) = true)) (fun s => n - (intOf s).toNat)
  case atStart => exact ⟨0, rfl, Nat.zero_le _, fun j hj => absurd hj (Nat.not_lt_zero _)⟩
  case round =>
    obtain ⟨k, rfl, hk, HR⟩ := hrel
    by_cases hlt : k < n
    · have hkl : k < d.length := by have := HN.out; omega
      obtain ⟨bb, off, rfl, hb, hcell⟩ := HC.out (by omega)
      have c1 : w.cell? ⟨bb, off + k, none⟩ = some (.int .i64 (gz d k)) := hcell k hkl
      have j1 : (0 : Int) ≤ (k : Int) := by omega
      have j2 : (k : Int) < (n : Int) := by omega
      have HI := Lib.hid (fun w' => convex1_any (gz d k) w')
      cases hz : cvxP (gz d k)
      · have HB2 := Lib.hid (HB.out k hkl hz)
        rw [hz] at HI
        clear hz hcell HR
        generalize gz d k = z at c1 HI
        go_wp2_with fail
        refine Calls.mono (HI.out _) ?_
        rintro e w1 ⟨rfl, rfl⟩
        go_wp2
        go_returns
        exact ⟨by rw [HB2.out]; rfl, rfl⟩
      · have HR2 : Hid (∀ j, j < k + 1 → cvxP (gz d j) = true) := fun j hj => by
          by_cases e : j = k
          · subst e; exact hz
          · exact HR.out j (by omega)
        rw [hz] at HI
        clear hz hcell HR
        generalize gz d k = z at c1 HI
        go_wp2_with fail
        refine Calls.mono (HI.out _) ?_
        rintro e w1 ⟨rfl, rfl⟩
        go_wp2
        go_round
        case rel => exact ⟨k + 1, by go_num, by omega, HR2⟩
        case measure => simp [intOf]; omega
    · have hkn : k = n := by omega
      subst hkn
      have HA := Lib.hid (HG.out (fun j hj => HR.out j (by have := HN.out; omega)))
      clear HR HC
      go_wp2
      go_returns
      exact ⟨by rw [HA.out]; rfl, rfl⟩
set_option maxHeartbeats 4000000 in
theorem fanConvex_any (v : Value) (l : List V2) (w : World) (hl : ReadsVecs w v l) (hg : EtOk w) :
    Calls Tryd.prog 25 #[v] w fun e w' => e = .returned (.bool (convB l)) ∧ Below w.heap.size w w' := by
  have HO := Lib.hid (smoothFanOf_any v l w hl hg)
  have HV := Lib.hid (fun h => (smooth_all (l := l) h).1)
  have HS := Lib.hid (fun (ns : List Node) h hn => fan_small (l := l) (ns := ns) (smooth_in h).1 hn)
  have HE := Lib.hid (fun v' b' w' (hI : Ints w' b' v' (numsZ l)) (hm : (numsZ l).length ≤ 1152921504606846976) => everyConvex_any v' (numsZ l) w' (hI.reads hm))
  have HLn := Lib.hid (fun h => (show (numsZ l).length ≤ 1152921504606846976 by rw [nums_len]; have := fan_len (smooth_in (l := l) h).1; omega))
  clear hl
  unfold convB
  generalize hb : smoothB l = b at HO HV HS HLn ⊢
  generalize cvxL (numsZ l) = K at *
  go_enter Tryd.func25, Tryd.ntmps25
  go_wp2_with fail
  refine Calls.mono HO.out ?_
  rintro e w1 ⟨⟨rfl, g, ns, rfl, hF, hn⟩ | ⟨rfl, rfl⟩, hb1⟩
  · obtain ⟨hs, hnl⟩ := HS.out ns (by simp) hn
    have HT := Lib.hid (callsIn_wide.1 (numbers_in 3 (by omega) w.heap.size g ns w1 hF hs (by rw [hn]; exact HV.out (by simp))))
    rw [hn] at HT
    have HL := Lib.hid (HLn.out rfl)
    clear hn hnl hF HV HS hb
    go_wp2_with fail
    refine Calls.mono HT.out ?_
    rintro e w2 ⟨v2, rfl, hV, hb2⟩
    have HE2 := Lib.hid (HE.out v2 _ w2 hV HL.out)
    have hB := belowTo hb1 hb2
    clear hV hb2 HT HE
    go_wp2_with fail
    refine Calls.mono HE2.out ?_
    rintro e w3 ⟨rfl, rfl⟩
    go_wp2
    go_returns
    exact ⟨by cases K <;> rfl, hB⟩
  · clear hb
    go_wp2
    go_returns
    exact ⟨rfl, hb1⟩
set_option maxHeartbeats 4000000 in
theorem specFanConvex_any (v : Value) (l : List V2) (w : World) (hl : ReadsVecs w v l) :
    Calls Tryd.prog 24 #[v] w fun e w' => e = .returned (.bool (convB l)) ∧ Below w.heap.size w w' := by
  have HF := Lib.hid (specFanNumbers_any v l w hl)
  have hlen : (gV (smoothB l) (numsZ l)).length ≤ 1152921504606846976 := gV_len (fun h => by rw [nums_len]; have := fan_len (smooth_in (l := l) h).1; omega)
  have HC : Hid (convB l = (smoothB l && cvxL (gV (smoothB l) (numsZ l)))) := by
    show _ = _
    unfold convB
    cases smoothB l <;> rfl
  rw [HC.out]
  clear hl HC
  generalize smoothB l = b at *
  generalize gV b (numsZ l) = d at *
  go_enter Tryd.func24, Tryd.ntmps24
  go_wp2_with fail
  refine Calls.mono HF.out ?_
  rintro e w1 ⟨v1, rfl, hI, hb1⟩
  obtain ⟨a, c, rfl, hm, hc⟩ := hI.reads hlen
  have HCl := Lib.hid hc
  have HB := Lib.hid (fun k hk h => cvx_bad (d := d) (k := k) hk h)
  have HG := Lib.hid (fun h => cvx_good (d := d) h)
  obtain ⟨n, hn⟩ : ∃ n, n = d.length := ⟨_, rfl⟩
  have HN := Lib.hid hn
  rw [← hn] at hm ⊢
  clear hc hn hI HF hlen
  go_wp2
  go_loop [4, 5] (fun s4 s => ∃ (k : Nat) (K : Bool), s4 = .bool K ∧ s = .int .i64 k ∧ k ≤ n ∧ Hid (K = (b && (d.take k).all cvxP))) (fun _ s => n - (intOf s).toNat)
  case atStart => exact ⟨0, b, rfl, rfl, Nat.zero_le _, by show _ = _; simp⟩
  case round =>
    obtain ⟨k, K, rfl, rfl, hk, HR⟩ := hrel
    by_cases hlt : k < n
    · have hkl : k < d.length := by have := HN.out; omega
      obtain ⟨bb, off, rfl, hbb, hcell⟩ := HCl.out (by omega)
      have c1 : w1.cell? ⟨bb, off + k, none⟩ = some (.int .i64 (gz d k)) := hcell k hkl
      have j1 : (0 : Int) ≤ (k : Int) := by omega
      have j2 : (k : Int) < (n : Int) := by omega
      have HX : Hid ((d.take (k + 1)).all cvxP = ((d.take k).all cvxP && cvxP (gz d k))) := by
        show _ = _
        rw [List.take_succ_eq_append_getElem hkl, List.all_append]
        unfold gz
        rw [List.getElem?_eq_getElem hkl]
        simp
      have HZ : Hid (cvxP (gz d k) = decide (-2 ≤ gz d k)) := rfl
      generalize gz d k = z at *
      cases K
      · clear hcell
        go_wp2
        go_round
        case rel => exact ⟨k + 1, false, rfl, by go_num, by omega, by show _ = _; rw [HX.out, ← Bool.and_assoc, ← HR.out]; rfl⟩
        case measure => simp [intOf]; omega
      · by_cases hz : -2 ≤ z
        · clear hcell
          go_wp2
          go_round
          case rel => exact ⟨k + 1, true, by first | rfl | simp [hz], by go_num, by omega, by show _ = _; rw [HX.out, ← Bool.and_assoc, ← HR.out, HZ.out]; simp [hz]⟩
          case measure => simp [intOf]; omega
        · clear hcell
          go_wp2
          go_round
          case rel => exact ⟨k + 1, false, by first | rfl | simp [hz], by go_num, by omega, by show _ = _; rw [HX.out, ← Bool.and_assoc, ← HR.out, HZ.out]; simp [hz]⟩
          case measure => simp [intOf]; omega
    · have hkn : k = n := by omega
      subst hkn
      have HA : Hid (K = (b && cvxL d)) := by
        have := HR.out
        rw [HN.out, List.take_of_length_le (Nat.le_refl _)] at this
        exact this
      clear HR HCl
      go_wp2
      go_returns
      exact ⟨by rw [← HA.out]; rfl, hb1⟩
end Go.Proofs.YtkcnpbgbgdgkpaaDoor
