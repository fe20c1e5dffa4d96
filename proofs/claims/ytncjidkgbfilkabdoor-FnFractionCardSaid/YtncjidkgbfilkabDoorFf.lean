/- FractionValue: both sides. -/
import Derived.Test.YtncjidkgbfilkabDoorFe
namespace Go.Proofs.YtncjidkgbfilkabDoor
open Go.RowKit

theorem value_any (v : Value) (l : List Int) (w : World) (h : ReadsInts w v l) :
    Calls Tryd.prog 42 #[v] w (ValuePost w l) := by
  cases hl : lstB l
  · exact value_bad v l w h hl
  · have hn := len_in (lst_in hl).1
    have h' := h
    obtain ⟨a, c, rfl, hm, hc⟩ := h
    obtain ⟨bb, off, rfl, hb, hcell⟩ := hc (by omega)
    exact callsIn_wide.1 (value_good bb off l.length c l w rfl hb hcell h' hl 3 (Nat.le_refl _))
theorem value_yes (v : Value) (l : List Int) (w : World) (h : ReadsInts w v l) (hv : valB l = true) :
    Calls Tryd.prog 42 #[v] w fun e w' => e = .returned (.tuple #[.int .i64 (contN l), .int .i64 (contQ l), .nilIface]) ∧ Below w.heap.size w w' := by
  refine (value_any v l w h).mono ?_
  rintro e w' ⟨h1 | h1, hb⟩
  · exact ⟨h1.2, hb⟩
  · rw [hv] at h1; cases h1.1
theorem value_not (v : Value) (l : List Int) (w : World) (h : ReadsInts w v l) (hv : valB l = false) :
    Calls Tryd.prog 42 #[v] w fun e w' => (∃ s : ByteArray, e = .returned (.tuple #[.int .i64 0, .int .i64 0, .iface 86 (.agg #[.string s])])) ∧ Below w.heap.size w w' := by
  refine (value_any v l w h).mono ?_
  rintro e w' ⟨h1 | h1, hb⟩
  · rw [hv] at h1; cases h1.1
  · exact ⟨h1.2, hb⟩
def ValueGives (w : World) (l : List Int) (e : Ending) (w' : World) : Prop := e = .returned (.tuple #[.int .i64 (gate (valB l) (contN l)), .int .i64 (gate (valB l) (contQ l)), .bool (valB l)]) ∧ Below w.heap.size w w'
set_option maxHeartbeats 2000000 in
theorem fractionValue_any (v : Value) (l : List Int) (w : World) (h : ReadsInts w v l) (hg : EtOk w) :
    Calls Tryd.prog 18 #[v] w (ValueGives w l) := by
  unfold ValueGives
  cases hv : valB l
  · have HC := Lib.hid (fun w' h' => value_not v l w' h' hv)
    have HH := Lib.hid h
    obtain ⟨a, c, rfl, _, _⟩ := h
    go_enter Tryd.func18, Tryd.ntmps18
    go_wp2_with fail
    go_call (HC.out _ HH.out) as e w1 ⟨⟨s, rfl⟩, hb1⟩
    obtain ⟨hc1, hf1⟩ := bcell hb1; have hz1 := bsize hb1
    (go_wp2_with fail; go_call (none_hit _ _ (hg.below hb1)) as e w2 ⟨rfl, hb2⟩); replace hb1 := belowTo hb1 hb2; clear hb2 hc1 hf1 hz1; obtain ⟨hc1, hf1⟩ := bcell hb1; have hz1 := bsize hb1
    go_wp2
    go_returns
    exact ⟨rfl, hb1⟩
  · have HC := Lib.hid (fun w' h' => value_yes v l w' h' hv)
    have HH := Lib.hid h
    obtain ⟨a, c, rfl, _, _⟩ := h
    go_enter Tryd.func18, Tryd.ntmps18
    go_wp2_with fail
    go_call (HC.out _ HH.out) as e w1 ⟨rfl, hb1⟩
    obtain ⟨hc1, hf1⟩ := bcell hb1; have hz1 := bsize hb1
    (go_wp2_with fail; go_call (none_nil _) as e w2 ⟨rfl, hb2⟩); replace hb1 := belowTo hb1 hb2; clear hb2 hc1 hf1 hz1; obtain ⟨hc1, hf1⟩ := bcell hb1; have hz1 := bsize hb1
    go_wp2
    go_returns
    exact ⟨rfl, hb1⟩
theorem val_over {l : List Int} {i : Nat} (h : 1000000000 < contN (l.drop i)) : valB l = false := by
  cases hl : lstB l
  · exact val_no hl
  · have e := List.take_append_drop i l
    have := val_great (m := l.take i) (s := l.drop i) (by rw [e]; exact (lst_in hl).2) h
    rwa [e] at this
theorem drop_rng {l : List Int} {i j : Nat} (hij : j = i + 1) (hi : i < l.length) (h : ∀ b ∈ l.drop j, rngB b = true) (hz : rngB (l[i]?.getD 0) = true) : ∀ b ∈ l.drop i, rngB b = true := by
  intro b hb
  rw [drop_get hi, ← hij] at hb
  rcases List.mem_cons.1 hb with rfl | hb
  · exact hz
  · exact h b hb
set_option maxHeartbeats 4000000 in
theorem specFractionValue_any (v : Value) (l : List Int) (w : World) (h : ReadsInts w v l) :
    Calls Tryd.prog 16 #[v] w (ValueGives w l) := by
  obtain ⟨a, c, rfl, hm, hc⟩ := h
  unfold ValueGives
  cases hl : lenB l.length
  · have HL := Lib.hid (val_no (lst_long hl))
    have hd : (decide ((1 : Int) ≤ (l.length : Int)) && decide ((l.length : Int) ≤ 20)) = false := by
      rcases len_out hl with h0 | ⟨_, h0⟩
      · rw [h0]; rfl
      · have : ¬ (l.length : Int) ≤ 20 := by omega
        simp [this]
    generalize valB l = K at *
    generalize contN l = X at *
    generalize contQ l = Y at *
    generalize l.length = n at *
    clear hc hl
    go_enter Tryd.func16, Tryd.ntmps16
    go_wp2_with (go_at_call 41; refine (l6In_any _ _ _ _).mono ?_; rintro e w' ⟨rfl, rfl⟩)
    go_returns
    exact ⟨by rw [HL.out]; rfl, Below.refl _ _⟩
  · obtain ⟨h1, h2⟩ := len_in hl
    obtain ⟨bb, off, rfl, hb, hcell⟩ := hc (by omega)
    have HC := Lib.hid (fun j hj => hcell j hj)
    obtain ⟨n, hn⟩ : ∃ n, n = l.length := ⟨_, rfl⟩
    have HL : Hid (lenB l.length = true) := hl
    have HN : Hid (n = l.length) := hn
    have hd : (decide ((1 : Int) ≤ (n : Int)) && decide ((n : Int) ≤ 20)) = true := by
      have a1 : (1 : Int) ≤ (n : Int) := by omega
      have a2 : (n : Int) ≤ 20 := by omega
      simp [a1, a2]
    rw [← hn] at h1 h2 ⊢
    obtain ⟨K, hK⟩ : ∃ K, K = valB l := ⟨_, rfl⟩
    obtain ⟨X, hX⟩ : ∃ X, X = contN l := ⟨_, rfl⟩
    obtain ⟨Y, hY⟩ : ∃ Y, Y = contQ l := ⟨_, rfl⟩
    rw [← hK, ← hX, ← hY]
    have EK := Lib.hid hK
    have EX := Lib.hid hX
    have EY := Lib.hid hY
    clear hl hm hc hcell hn hK hX hY
    go_enter Tryd.func16, Tryd.ntmps16
    go_wp2_with (go_at_call 41; refine (l6In_any _ _ _ _).mono ?_; rintro e w' ⟨rfl, rfl⟩)
    go_loopw [5, 6, 7] (fun s5 s6 s7 wr => ∃ (k : Nat) (N Q : Int), k ≤ n ∧ s5 = .int .i64 N ∧ s6 = .int .i64 Q ∧ s7 = .int .i64 ((n : Int) - 1 - k) ∧ Hid (N = contN (l.drop (n - k)) ∧ Q = contQ (l.drop (n - k)) ∧ ∀ b ∈ l.drop (n - k), rngB b = true) ∧ N ≤ 1000000000 ∧ Below w.heap.size w wr) (fun _ _ s7 _ => (intOf s7 + 1).toNat)
    case atStart =>
      have e0 : l.drop (n - 0) = [] := List.drop_of_length_le (by have := HN.out; omega)
      exact ⟨0, 1, 0, Nat.zero_le _, rfl, rfl, by simp, by rw [e0]; exact ⟨rfl, rfl, fun b hb => by cases hb⟩, by omega, Below.refl _ _⟩
    case round =>
      obtain ⟨k, N, Q, hk, rfl, rfl, rfl, HS, hNm, hB⟩ := hrel
      by_cases hlt : k < n
      · obtain ⟨i, hi⟩ : ∃ i : Nat, i = n - 1 - k := ⟨_, rfl⟩
        have hi2 : (n : Int) - 1 - k = (i : Int) := by omega
        have hil : i < l.length := by have := HN.out; omega
        have c1 : wr.cell? ⟨bb, off + i, none⟩ = some (.int .i64 (l[i]?.getD 0)) := (hB.cell (p := ⟨bb, off + i, none⟩) hb).trans (HC.out i hil)
        have HI := Lib.hid hi
        have hnk : n - k = i + 1 := by omega
        have HNK := Lib.hid hnk
        have hcl := cont_lt (lst_two HS.out.2.2)
        rw [← HS.out.1, ← HS.out.2.1] at hcl
        obtain ⟨q0, q1⟩ := hcl
        have HD := Lib.hid (drop_get hil)
        have HM := Lib.hid (get_mem hil)
        have HZ := Lib.hid (fun hz => drop_rng (l := l) (i := i) (j := n - k) hnk hil HS.out.2.2 hz)
        rw [hi2]
        have j1 : (0 : Int) ≤ (i : Int) := by omega
        have j2 : (i : Int) < (n : Int) := by omega
        clear hi hnk hil
        generalize hz0 : l[i]?.getD 0 = z at c1 HD HM HZ
        clear hz0
        cases hz : rngB z
        · have hz' : (decide (2 ≤ z) && decide (z ≤ 100)) = false := hz
          have HV : Hid (K = false) := by show K = false; rw [EK.out]; exact val_no (lst_bad HM.out hz)
          clear hz
          go_wp2_with (go_at_call 41; refine (l6In_any _ _ _ _).mono ?_; rintro e w' ⟨rfl, rfl⟩)
          go_returns
          exact ⟨by rw [HV.out]; rfl, hB⟩
        · have hz' : (decide (2 ≤ z) && decide (z ≤ 100)) = true := hz
          obtain ⟨m0, m1⟩ := mul_hundred (b := z) (n := N) (rng_in hz) ⟨by omega, hNm⟩
          have HR := Lib.hid (HZ.out hz)
          have HE : Hid (z * N - Q = contN (l.drop i)) := by
            show z * N - Q = contN (l.drop i)
            rw [HD.out, contN_cons, HS.out.1, HS.out.2.1, HNK.out]
          have HQ2 : Hid (N = contQ (l.drop i)) := by
            show N = contQ (l.drop i)
            rw [HD.out, HS.out.1, HNK.out]; rfl
          clear hz
          by_cases hgt : 1000000000 < z * N - Q
          · have HV : Hid (K = false) := by show K = false; rw [EK.out]; exact val_over (i := i) (by rw [← HE.out]; exact hgt)
            go_wp2_with (go_at_call 41; refine (l6In_any _ _ _ _).mono ?_; rintro e w' ⟨rfl, rfl⟩)
            go_returns
            exact ⟨by rw [HV.out]; rfl, hB⟩
          · have hle : z * N - Q ≤ 1000000000 := by omega
            clear hgt
            go_wp2_with (go_at_call 41; refine (l6In_any _ _ _ _).mono ?_; rintro e w' ⟨rfl, rfl⟩)
            go_roundw
            case rel => exact ⟨k + 1, z * N - Q, N, by omega, rfl, rfl, by first | (go_num; done) | (congr 1; omega) | (simp; omega), by rw [show n - (k + 1) = i by have := HI.out; omega]; exact ⟨HE.out, HQ2.out, HR.out⟩, hle, by go_grown⟩
            case measure => first | (simp [intOf]; done) | (simp [intOf]; omega)
      · have hkn : k = n := by omega
        have e0 : l.drop (n - k) = l := by rw [hkn, Nat.sub_self, List.drop_zero]
        have hi2 : (n : Int) - 1 - k = -1 := by omega
        have H3 := HS.out
        rw [e0] at H3
        obtain ⟨H4, H5, H6⟩ := H3
        have HV : Hid (K = true ∧ X = N ∧ Y = Q) := by
          refine ⟨?_, by rw [EX.out, H4], by rw [EY.out, H5]⟩
          rw [EK.out]
          have : lstB l = true := by
            unfold lstB
            rw [HL.out, Bool.true_and, List.all_eq_true]
            exact H6
          unfold valB
          rw [this, ← H4]
          simpa using hNm
        rw [hi2]
        clear HS H4 H5 H6 e0
        go_wp2
        go_returns
        obtain ⟨v1, v2, v3⟩ := HV.out
        exact ⟨by rw [v1, v2, v3]; rfl, hB⟩
end Go.Proofs.YtncjidkgbfilkabDoor
