/- Surfaces by their numbers: sums of numbers, rank, square, ample: the model. -/
import Derived.Test.YtohojjoediibhaaDoorBm
import Derived.Test.YtohojjoediibhaaDoorBf
namespace Go.Proofs.YtohojjoediibhaaDoor
open Go.RowKit

set_option maxHeartbeats 4000000 in
theorem specSurfaceRank_any (v : Value) (l : List V2) (w : World) (hl : ReadsVecs w v l) :
    Calls Tryd.prog 66 #[v] w fun e w' => e = .returned (.tuple #[.int .i64 (gate (smoothB l) ((l.length : Int) - 2)), .bool (smoothB l)]) ∧ Below w.heap.size w w' := by
  have HF := Lib.hid (specFanSmooth_any v l w hl)
  have HL : Hid (smoothB l = true → 3 ≤ l.length ∧ l.length ≤ 20) := fun h => smooth_len h
  obtain ⟨a, c, rfl, _, _, _⟩ := hl
  cases hs : smoothB l
  · rw [hs] at HF
    clear hs HL
    go_enter Tryd.func66, Tryd.ntmps66
    go_wp2_with fail
    refine Calls.mono HF.out ?_
    rintro e w1 ⟨rfl, hb1⟩
    go_wp2
    go_returns
    exact ⟨rfl, hb1⟩
  · rw [hs] at HF
    obtain ⟨h1, h2⟩ := HL.out hs
    clear hs HL
    rw [gate_true]
    generalize l.length = n at *
    have q1 : IntKind.i64.wrap ((n : Int) - 2) = (n : Int) - 2 := by rw [IntKind.wrap_i64]; omega
    go_enter Tryd.func66, Tryd.ntmps66
    go_wp2_with fail
    refine Calls.mono HF.out ?_
    rintro e w1 ⟨rfl, hb1⟩
    go_wp2
    go_returns
    exact ⟨rfl, hb1⟩
def sqZ (l : List V2) : Int := prodZ l (canL l.length) (canL l.length)
set_option maxHeartbeats 4000000 in
theorem specSurfaceSquare_any (v : Value) (l : List V2) (w : World) (hl : ReadsVecs w v l) :
    Calls Tryd.prog 69 #[v] w fun e w' => e = .returned (.tuple #[.int .i64 (gate (smoothB l) (sqZ l)), .bool (smoothB l)]) ∧ Below w.heap.size w w' := by
  have HF := Lib.hid (specFanSmooth_any v l w hl)
  have HC := Lib.hid (fun w' (hb : Below w.heap.size w w') (h : smoothB l = true) => l4Canonical_any v l w' (hl.below hb) (by have := smooth_len h; omega))
  have HP := Lib.hid (fun u1 w' (hb : Below w.heap.size w w') (h1 : ReadsInts w' u1 (canL l.length)) (h : smoothB l = true) => l4Product_any v u1 u1 l (canL l.length) (canL l.length) w' (hl.below hb) h1 h1 (by simp [canL]) (by simp [canL]) (smooth_len h).2 (by have := smooth_len h; omega) (smooth_all h) (bnd_mono (can_bnd _) (by omega)) (bnd_mono (can_bnd _) (by omega)))
  have HK : Hid (smoothB l = true → (canL l.length).length ≤ 1152921504606846976) := fun h => by have := smooth_len h; simp [canL]; omega
  obtain ⟨a, c, rfl, _, _, _⟩ := hl
  unfold sqZ
  cases hs : smoothB l
  · rw [hs] at HF
    clear hs HC HP HK
    go_enter Tryd.func69, Tryd.ntmps69
    go_wp2_with fail
    refine Calls.mono HF.out ?_
    rintro e w1 ⟨rfl, hb1⟩
    go_wp2
    go_returns
    exact ⟨rfl, hb1⟩
  · have hk := HK.out hs
    have HC2 := Lib.hid (fun w' hb => HC.out w' hb hs)
    have HP2 := Lib.hid (fun u1 w' hb h1 => HP.out u1 w' hb h1 hs)
    rw [hs] at HF
    have HK2 := Lib.hid hk
    clear hs HC HP HK hk
    rw [gate_true]
    generalize prodZ l (canL l.length) (canL l.length) = z at *
    generalize canL l.length = d at *
    generalize l.length = n at *
    go_enter Tryd.func69, Tryd.ntmps69
    go_wp2_with fail
    refine Calls.mono HF.out ?_
    rintro e w1 ⟨rfl, hb1⟩
    go_wp2_with fail
    refine Calls.mono (HC2.out _ hb1) ?_
    rintro e w2 ⟨v2, rfl, hI, hb2⟩
    have hB := belowTo hb1 hb2
    have HP3 := Lib.hid (HP2.out v2 w2 hB (hI.reads HK2.out))
    clear hI hb1 hb2
    go_wp2_with fail
    refine Calls.mono HP3.out ?_
    rintro e w3 ⟨rfl, hb3⟩
    have hB2 := belowTo hB hb3
    clear hb3
    go_wp2
    go_returns
    exact ⟨rfl, hB2⟩
set_option maxHeartbeats 4000000 in
theorem specNumbersSum_any (v : Value) (l : List V2) (w : World) (hl : ReadsVecs w v l) :
    Calls Tryd.prog 59 #[v] w fun e w' => e = .returned (.tuple #[.int .i64 (gate (smoothB l) (sum3 l l.length)), .bool (smoothB l)]) ∧ Below w.heap.size w w' := by
  have HF := Lib.hid (specFanNumbers_any v l w hl)
  have hlen : (gV (smoothB l) (numsZ l)).length ≤ 1152921504606846976 := gV_len (fun h => by rw [nums_len]; have := smooth_len h; omega)
  cases hs : smoothB l
  · rw [hs] at HF
    clear hl hs hlen
    go_enter Tryd.func59, Tryd.ntmps59
    go_wp2_with fail
    refine Calls.mono HF.out ?_
    rintro e w1 ⟨v1, rfl, hI, hb1⟩
    obtain ⟨a, c, rfl, _⟩ := (hI.reads (by simp [gV])).len
    have j0 : ¬ ((0 : Nat) : Int) < 0 := by omega
    simp only [gV, Bool.false_eq_true, if_false, List.length_nil]
    clear hI HF
    go_wp2
    go_loop [6, 7] (fun s4 s5 => s4 = .int .i64 0 ∧ s5 = .int .i64 0) (fun _ _ => 0)
    case atStart => exact ⟨rfl, rfl⟩
    case round =>
      obtain ⟨rfl, rfl⟩ := hrel
      go_wp2
      go_returns
      exact ⟨rfl, hb1⟩
  · have hS := smooth_all hs
    have hn := smooth_len hs
    rw [hs] at HF hlen
    have e1 : gV true (numsZ l) = numsZ l := rfl
    rw [e1] at HF hlen
    rw [gate_true]
    have HG := Lib.hid (fun k (h : k < l.length) => gz_numsE (l := l) h)
    have HN := Lib.hid (fun k => num_bnd hS k)
    have HB := Lib.hid (fun k (h : k ≤ 1000) => sum3_bnd hS h)
    have HS := Lib.hid (fun k => sum3_succ l k)
    have HD : Hid (numsZ l = numsZ l ∧ (numsZ l).length = l.length) := ⟨rfl, nums_len l⟩
    have h00 : Hid (sum3 l 0 = 0) := rfl
    clear hl hs e1 hS
    generalize numsZ l = d at *
    obtain ⟨n, hnn⟩ : ∃ n, n = l.length := ⟨_, rfl⟩
    rw [← hnn] at HG HD hn ⊢
    clear hnn
    go_enter Tryd.func59, Tryd.ntmps59
    go_wp2_with fail
    refine Calls.mono HF.out ?_
    rintro e w1 ⟨v1, rfl, hI, hb1⟩
    obtain ⟨bb, off, c, rfl, _, hbb, hcs⟩ := (hI.reads hlen).open (by rw [HD.out.2]; omega)
    rw [HD.out.2] at hcs ⊢
    have HC := Lib.hid (hcs w1 (Below.refl _ _))
    clear hI hcs hlen HF
    go_wp2
    go_loop [6, 7] (fun s4 s5 => ∃ k : Nat, k ≤ n ∧ s5 = .int .i64 k ∧ s4 = .int .i64 (sum3 l k)) (fun _ s5 => n - (intOf s5).toNat)
    case atStart => exact ⟨0, Nat.zero_le _, rfl, by rw [h00.out]⟩
    case round =>
      obtain ⟨k, hk, rfl, rfl⟩ := hrel
      have i1 : (0 : Int) ≤ (k : Int) := by omega
      by_cases hlt : k < n
      · have i2 : (k : Int) < (n : Int) := by omega
        have c1 := HC.out k hlt
        rw [HG.out k hlt] at c1
        have b1 := HN.out k
        have b2 := HB.out k (by omega)
        have HSk := Lib.hid (HS.out k)
        generalize sum3 l k = x at *
        generalize numZ l k = z at *
        have q1 : IntKind.i64.wrap (x + 3) = x + 3 := by rw [IntKind.wrap_i64]; omega
        have q2 : IntKind.i64.wrap (x + 3 + z) = x + 3 + z := by rw [IntKind.wrap_i64]; omega
        go_wp2
        go_round
        case rel => exact ⟨k + 1, by omega, by go_num, by rw [HSk.out]; go_num⟩
        case measure => simp [intOf]; omega
      · obtain rfl : k = n := by omega
        have i2 : ¬ (k : Int) < (k : Int) := by omega
        go_wp2
        go_returns
        exact ⟨rfl, hb1⟩
def ampL8 (d : List Int) : Bool := d.all ampN
set_option maxHeartbeats 4000000 in
theorem specSurfaceAmple_any (v : Value) (l : List V2) (w : World) (hl : ReadsVecs w v l) :
    Calls Tryd.prog 76 #[v] w fun e w' => e = .returned (.bool (amp8 l)) ∧ Below w.heap.size w w' := by
  have HF := Lib.hid (specFanNumbers_any v l w hl)
  have hlen : (gV (smoothB l) (numsZ l)).length ≤ 1152921504606846976 := gV_len (fun h => by rw [nums_len]; have := smooth_len h; omega)
  have HC : Hid (amp8 l = (smoothB l && ampL8 (gV (smoothB l) (numsZ l)))) := by
    show _ = _
    unfold amp8 ampL8
    cases smoothB l <;> rfl
  rw [HC.out]
  clear hl HC
  generalize smoothB l = b at *
  generalize gV b (numsZ l) = d at *
  go_enter Tryd.func76, Tryd.ntmps76
  go_wp2_with fail
  refine Calls.mono HF.out ?_
  rintro e w1 ⟨v1, rfl, hI, hb1⟩
  obtain ⟨a, c, rfl, hm, hc⟩ := hI.reads hlen
  have HCl := Lib.hid hc
  obtain ⟨n, hn⟩ : ∃ n, n = d.length := ⟨_, rfl⟩
  have HN := Lib.hid hn
  rw [← hn] at hm ⊢
  clear hc hn hI HF hlen
  go_wp2
  go_loop [4, 5] (fun s4 s => ∃ (k : Nat) (K : Bool), s4 = .bool K ∧ s = .int .i64 k ∧ k ≤ n ∧ Hid (K = (b && ampL8 (d.take k)))) (fun _ s => n - (intOf s).toNat)
  case atStart => exact ⟨0, b, rfl, rfl, Nat.zero_le _, by show _ = _; simp [ampL8]⟩
  case round =>
    obtain ⟨k, K, rfl, rfl, hk, HR⟩ := hrel
    by_cases hlt : k < n
    · have hkl : k < d.length := by have := HN.out; omega
      obtain ⟨bb, off, rfl, hbb, hcell⟩ := HCl.out (by omega)
      have c1 : w1.cell? ⟨bb, off + k, none⟩ = some (.int .i64 (gz d k)) := hcell k hkl
      have j1 : (0 : Int) ≤ (k : Int) := by omega
      have j2 : (k : Int) < (n : Int) := by omega
      have HX : Hid (ampL8 (d.take (k + 1)) = (ampL8 (d.take k) && ampN (gz d k))) := by
        show _ = _
        unfold ampL8
        rw [List.take_succ_eq_append_getElem hkl, List.all_append]
        unfold gz
        rw [List.getElem?_eq_getElem hkl]
        simp
      have HZ : Hid (ampN (gz d k) = decide (-1 ≤ gz d k)) := rfl
      generalize gz d k = z at *
      cases K
      · clear hcell
        go_wp2
        go_round
        case rel => exact ⟨k + 1, false, rfl, by go_num, by omega, by show _ = _; rw [HX.out, ← Bool.and_assoc, ← HR.out]; rfl⟩
        case measure => simp [intOf]; omega
      · by_cases hz : -1 ≤ z
        · clear hcell
          go_wp2
          go_round
          case rel => exact ⟨k + 1, true, by first | rfl | simp [hz], by go_num, by omega, by show _ = _; rw [HX.out, ← Bool.and_assoc, ← HR.out, HZ.out]; simp [hz]⟩
          case measure => simp [intOf]; omega
        · clear hcell
          go_wp2
          go_round
          case rel => exact ⟨k + 1, false, by first | rfl | simp [hz], by go_num, by omega, by show _ = _; rw [HX.out, ← Bool.and_assoc, ← HR.out, HZ.out]; simp [hz]⟩
          case measure => simp [intOf]; omega
    · have hkn : k = n := by omega
      subst hkn
      have HA : Hid (K = (b && ampL8 d)) := by
        have := HR.out
        rw [HN.out, List.take_of_length_le (Nat.le_refl _)] at this
        exact this
      clear HR HCl
      go_wp2
      go_returns
      exact ⟨by rw [← HA.out]; rfl, hb1⟩
end Go.Proofs.YtohojjoediibhaaDoor
