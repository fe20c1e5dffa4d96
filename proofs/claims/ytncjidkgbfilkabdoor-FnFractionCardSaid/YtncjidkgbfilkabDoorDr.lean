/- FnFraction. -/
import Derived.Test.YtncjidkgbfilkabDoorDq
namespace Go.Proofs.YtncjidkgbfilkabDoor
open Go.RowKit

/-! a list turned over -/
set_option maxHeartbeats 4000000 in
theorem turned_any (v : Value) (l : List Int) (w : World) (h : ReadsInts w v l) (hm : l.length ≤ 1048576) :
    Calls Tryd.prog 28 #[v] w (GivesInts w l.reverse) := by
  obtain ⟨i0, hi, hz0, hz1, hz2⟩ := info_parts infoInt
  obtain ⟨a, c, rfl, _, hc⟩ := h
  have HC := Lib.hid hc
  have hE := Lib.hid (Ints.empty w)
  obtain ⟨n, hn⟩ : ∃ n, n = l.length := ⟨_, rfl⟩
  have HN := Lib.hid hn
  have hn2 : n ≤ 1048576 := by omega
  rw [← hn]
  clear hc hm hn
  go_enter Tryd.func28, Tryd.ntmps28
  go_wp2
  go_loopw [3, 4] (fun s3 s4 wr => ∃ k : Nat, s4 = .int .i64 ((n : Int) - 1 - k) ∧ k ≤ n ∧ Hid (Ints wr w.heap.size s3 (l.drop (n - k)).reverse) ∧ Below w.heap.size w wr) (fun _ s4 _ => (intOf s4 + 1).toNat)
  case atStart =>
    have e0 : l.drop (n - 0) = [] := List.drop_of_length_le (by have := HN.out; omega)
    exact ⟨0, by simp, Nat.zero_le _, by rw [e0]; exact hE, by go_grown⟩
  case round =>
    obtain ⟨k, rfl, hk, HI, hB⟩ := hrel
    clear hE
    by_cases hlt : k < n
    · obtain ⟨i, hi'⟩ : ∃ i : Nat, i = n - 1 - k := ⟨_, rfl⟩
      have hi2 : (n : Int) - 1 - k = (i : Int) := by omega
      have hil : i < l.length := by have := HN.out; omega
      obtain ⟨bb, off, rfl, hb, hcell⟩ := HC.out (by omega)
      have c1 : wr.cell? ⟨bb, off + i, none⟩ = some (.int .i64 (l[i]?.getD 0)) := (hB.cell (p := ⟨bb, off + i, none⟩) hb).trans (hcell i hil)
      have HD : Hid ((l.drop i).reverse = (l.drop (n - k)).reverse ++ [l[i]?.getD 0]) := by
        show _ = _
        rw [drop_get hil, List.reverse_cons, show n - k = i + 1 by omega]
      have hown : wr.ownsRow w.heap.size 3 1 _ _ _ := HI.out
      have hbs := hB.size
      have HK := Lib.hid hi'
      have hlen : (l.drop (n - k)).reverse.length ≤ 1048576 := by rw [List.length_reverse, List.length_drop]; have := HN.out; omega
      generalize (l.drop (n - k)).reverse = ld at *
      rw [hi2]
      clear hi' HI hcell HC hil
      generalize l[i]?.getD 0 = z at *
      have j1 : (0 : Int) ≤ (i : Int) := by omega
      have j2 : (i : Int) < (n : Int) := by omega
      go_wp2_with (at_builtin; refine wpList_append_own _ rfl _ _ 36 rfl w.heap.size 3 i0 (.int .i64 0) 1 8 Tryd.underlying36 hi hz0 hz1 hz2 rfl (by decide) _ _ _ rfl (hown.alloc _) ⟨wr.heap.size, 0, none⟩ 1 1 [.int .i64 z] rfl rfl ?c1 ?c2 ?c3 ?c4 ?c5 ?_)
      case c1 =>
        intro j u hj
        match j, hj with
        | 0, hj => simp at hj; subst hj; simp [Addr.add]
      case c2 => intro u hu; simp at hu; subst hu; rfl
      case c3 => unfold maxLen; omega
      case c4 => omega
      case c5 => simp; omega
      intro v' w1 hown' hgrow _
      have hB1 : Below w.heap.size w w1 := (hB.alloc hbs _).grown hgrow (by simp; omega) (fun k hk => (hown.lt k hk).1)
      have H1 : Hid (Ints w1 w.heap.size v' (ld ++ [z])) := by
        have : intsV (ld ++ [z]) = intsV ld ++ [.int .i64 z] := by simp [intsV]
        show Ints w1 w.heap.size v' (ld ++ [z])
        unfold Ints
        rw [this, List.length_append]
        exact hown'
      clear hown hown' hgrow hB
      go_wp2
      go_roundw
      case rel => exact ⟨k + 1, by first | (go_num; done) | (congr 1; omega) | (simp; omega), by omega, by rw [show n - (k + 1) = i by have := HK.out; omega, HD.out]; exact H1, hB1⟩
      case measure => first | (simp [intOf]; done) | (simp [intOf]; omega)
    · have hkn : k = n := by omega
      have e0 : l.drop (n - k) = l := by rw [hkn, Nat.sub_self, List.drop_zero]
      have hi2 : (n : Int) - 1 - k = -1 := by omega
      have H3 := HI.out
      rw [e0] at H3
      have H4 := Lib.hid H3
      rw [hi2]
      clear HI H3 e0
      go_wp2
      go_returns
      exact ⟨_, rfl, H4.out, hB⟩

theorem lst_rev (l : List Int) : lstB l.reverse = lstB l := by simp [lstB]
theorem val_rev (l : List Int) : valB l.reverse = valB l := by
  unfold valB
  rw [lst_rev, (cont_rev l).1]
theorem value_gate (v : Value) (l : List Int) (w : World) (h : ReadsInts w v l) (hg : EtOk w) {K : Bool} (hv : valB l = K) {N Q : Int} (hN : contN l = N) (hQ : contQ l = Q) :
    Calls Tryd.prog 18 #[v] w fun e w' => e = .returned (.tuple #[.int .i64 (gate K N), .int .i64 (gate K Q), .bool K]) ∧ Below w.heap.size w w' := by
  subst hv hN hQ
  exact fractionValue_any v l w h hg
theorem frac_gives (n q : Int) (w : World) {K : Bool} (hk : fractOk n q = K) {L : List Int} (hL : fracZ n q = L) :
    Calls Tryd.prog 25 #[.int .i64 n, .int .i64 q] w (GivesIntsOk w (gateL K L) K) := by
  subst hk hL
  exact fractionOfE_any n q w
theorem specFrac_gives (n q : Int) (w : World) {K : Bool} (hk : fractOk n q = K) {L : List Int} (hL : fracZ n q = L) :
    Calls Tryd.prog 26 #[.int .i64 n, .int .i64 q] w (GivesIntsOk w (gateL K L) K) := by
  subst hk hL
  exact specFractionOf_any n q w
theorem frac_facts {n q : Int} (h : fractOk n q = true) : contN (fracZ n q) = n ∧ contQ (fracZ n q) = q ∧ fracZ n q ≠ [] ∧ (∀ b ∈ fracZ n q, 2 ≤ b) ∧ (fracZ n q).length ≤ 10000 ∧ (1 ≤ q ∧ q < n ∧ n ≤ 10000) ∧ (0 ≤ contQ (fracZ n q).reverse ∧ contQ (fracZ n q).reverse < n) ∧ (∃ y, q * contQ (fracZ n q).reverse - 1 = n * y) := by
  obtain ⟨h1, h2, h3, h4⟩ := fract_in h
  obtain ⟨e1, e2⟩ := cont_frac n q (by omega) h2 h4
  have h5 := frac_two n q h2
  have h6 := frac_len n q
  obtain ⟨r1, y, r2⟩ := cont_rev (fracZ n q)
  have h7 := cont_lt (l := (fracZ n q).reverse) (fun b hb => h5 b (List.mem_reverse.1 hb))
  refine ⟨e1, e2, by rw [frac_pos n (by omega)]; simp, h5, by omega, ⟨h1, h2, h3⟩, by rw [r1, e1] at h7; exact h7, y, by rw [e1, e2] at r2; exact r2⟩

set_option maxHeartbeats 4000000 in
theorem fnFraction_any (a : Option Addr) (len cap : Nat) (w : World) (h : Bytes w a len cap) (hg : EtOk w) :
    Calls Tryd.prog 6 #[.slice a len cap] w fun e w' => e = .returned (.bool true) ∧ Below w.heap.size w w' := by
  by_cases hl : 1048576 < len
  · have hl' : (1048576 : Int) < (len : Int) := by omega
    go_enter Tryd.func6, Tryd.ntmps6
    go_wp2
    go_returns
    exact ⟨rfl, Below.refl _ _⟩
  · have hl' : (len : Int) ≤ 1048576 := by omega
    have HD := Lib.hid (drawFractionOf_any w a len cap h)
    clear h
    go_enter Tryd.func6, Tryd.ntmps6
    go_wp2_with fail
    refine Calls.mono HD.out ?_
    rintro e w0 ⟨n, q, rfl, hA⟩
    clear HD
    cases hk : fractOk n q
    · have HM := Lib.hid (fun w' => frac_gives n q w' hk rfl)
      have HS := Lib.hid (fun w' => specFrac_gives n q w' hk rfl)
      clear hk
      go_wp2_with fail
      refine Calls.mono (HM.out _) ?_
      rintro e w1 ⟨v1, rfl, I1, hb1⟩
      replace I1 := Lib.hid I1
      replace hA := belowTo hA hb1
      clear hb1
      go_wp2_with fail
      refine Calls.mono (HS.out _) ?_
      rintro e w2 ⟨v2, rfl, I2, hb2⟩
      replace I1 := Lib.hid (I1.out.below hb2)
      replace I2 := Lib.hid I2
      replace hA := belowTo hA hb2
      clear hb2
      go_wp2_with fail
      refine Calls.mono (sameInts_same v1 v2 _ _ _ _ I1.out I2.out) ?_
      rintro e w3 ⟨rfl, hb3⟩
      replace I1 := Lib.hid (I1.out.below hb3)
      replace I2 := Lib.hid (I2.out.below hb3)
      replace hA := belowTo hA hb3
      clear hb3
      go_wp2_with fail
      refine Calls.mono (sameInts_same v1 v2 _ _ _ _ I1.out I2.out) ?_
      rintro e w4 ⟨rfl, hb4⟩
      replace hA := belowTo hA hb4
      clear hb4
      go_wp2
      go_returns
      exact ⟨by simp, hA⟩
    · obtain ⟨e1, e2, hne, ht, hlen, hb, hr, hy⟩ := frac_facts hk
      have HM := Lib.hid (fun w' => frac_gives n q w' hk rfl)
      have HS := Lib.hid (fun w' => specFrac_gives n q w' hk rfl)
      generalize fracZ n q = L at *
      have HV := Lib.hid (fun v' w' h' hg' => value_gate v' L w' h' hg' rfl e1 e2)
      have HW := Lib.hid (fun v' w' h' hg' => value_gate v' L.reverse w' h' hg' (val_rev L) ((cont_rev L).1.trans e1) rfl)
      have HT := Lib.hid (fun v' w' h' => turned_any v' L w' h' (by omega))
      have HR := Lib.hid (fun (w' : World) (b : Nat) (v' : Value) (h' : Ints w' b v' L) => h'.reads (by omega))
      have HRR := Lib.hid (fun (w' : World) (b : Nat) (v' : Value) (h' : Ints w' b v' L.reverse) => h'.reads (by rw [List.length_reverse]; omega))
      generalize contQ L.reverse = d at *
      obtain ⟨hb1', hb2', hb3'⟩ := hb
      obtain ⟨hr1, hr2⟩ := hr
      obtain ⟨y, hy⟩ := hy
      have hdv : (q * d - 1).tmod n = 0 := Int.tmod_eq_zero_of_dvd ⟨y, hy⟩
      have hqd0 : 0 ≤ q * d := Int.mul_nonneg (by omega) hr1
      have hqd1 : q * d ≤ 10000 * 10000 := Int.mul_le_mul (by omega) (by omega) hr1 (by omega)
      have hnb : (n == 0) = false := by simp; omega
      have hnn : ¬ n = 0 := by omega
      have HY := Lib.hid hy
      clear hk e1 e2 hy
      go_wp2_with fail
      refine Calls.mono (HM.out _) ?_
      rintro e w1 ⟨v1, rfl, I1, hb1⟩
      have J1 : Hid (Ints w1 w0.heap.size v1 L) := I1
      replace hA := belowTo hA hb1
      clear hb1 I1
      go_wp2_with fail
      refine Calls.mono (HS.out _) ?_
      rintro e w2 ⟨v2, rfl, I2, hb2⟩
      have J2 : Hid (Ints w2 w1.heap.size v2 L) := I2
      replace J1 := Lib.hid (J1.out.below hb2)
      replace hA := belowTo hA hb2
      clear hb2 I2
      go_wp2_with fail
      refine Calls.mono (sameInts_same v1 v2 _ _ _ _ J1.out J2.out) ?_
      rintro e w3 ⟨rfl, hb3⟩
      replace J1 := Lib.hid (J1.out.below hb3)
      replace hA := belowTo hA hb3
      clear hb3 J2
      have hID := J1.out
      rcases hID.form with ⟨h0, _⟩ | ⟨_, g, c, rfl, _, hgs, _⟩
      · exact absurd h0 hne
      obtain ⟨m, hm⟩ : ∃ m, m = L.length := ⟨_, rfl⟩
      have HC := Lib.hid (fun j (hj : j < m) => hID.cell j (by omega))
      have HG := Lib.hid (fun j (hj : j < m) => ht _ (get_mem (l := L) (j := j) (by omega)))
      have K1 : Hid (Ints w3 w0.heap.size (.slice (some ⟨g, 0, none⟩) m c) L) := by show Ints _ _ _ _; rw [hm]; exact hID
      have hm2 : m ≤ 10000 := by omega
      rw [← hm]
      clear hID J1 ht hlen hm hne HM HS
      go_wp2
      go_loop [9] (fun s9 => ∃ k : Nat, s9 = .int .i64 k ∧ k ≤ m) (fun s9 => m - (intOf s9).toNat)
      case atStart => exact ⟨0, rfl, Nat.zero_le _⟩
      case round =>
        obtain ⟨k, rfl, hk⟩ := hrel
        by_cases hlt : k < m
        · have c1 := HC.out k hlt
          have g1 := HG.out k hlt
          generalize L[k]?.getD 0 = z at *
          have j1 : (0 : Int) ≤ (k : Int) := by omega
          have j2 : (k : Int) < (m : Int) := by omega
          go_wp2
          go_round
          case rel => exact ⟨k + 1, by go_num, by omega⟩
          case measure => simp [intOf]; omega
        · clear HC HG
          go_wp2_with fail
          refine Calls.mono (HV.out _ _ (HR.out _ _ _ K1.out) (hg.below hA)) ?_
          rintro e w4 ⟨rfl, hb4⟩
          replace K1 := Lib.hid (K1.out.below hb4)
          replace hA := belowTo hA hb4
          clear hb4
          go_wp2_with fail
          refine Calls.mono (HT.out _ _ (HR.out _ _ _ K1.out)) ?_
          rintro e w5 ⟨v5, rfl, I5, hb5⟩
          replace I5 := Lib.hid I5
          replace hA := belowTo hA hb5
          clear hb5
          go_wp2_with fail
          refine Calls.mono (HW.out _ _ (HRR.out _ _ _ I5.out) (hg.below hA)) ?_
          rintro e w6 ⟨rfl, hb6⟩
          replace hA := belowTo hA hb6
          clear hb6 I5 HV HW HT HR HRR K1
          cases valB L
          · go_wp2
            go_returns
            exact ⟨by simp [gate], hA⟩
          · have s1 : gate true n = n := rfl
            have s2 : gate true q = q := rfl
            have s3 : gate true d = d := rfl
            rw [s1, s2, s3]
            go_wp2
            go_returns
            exact ⟨by simp, hA⟩
end Go.Proofs.YtncjidkgbfilkabDoor
