/- NumbersBlow: the model. -/
import Derived.Test.YtcieihbknfeddaaI3
import Derived.Test.YtcieihbknfeddaaB2
import Derived.Test.YtcieihbknfeddaaBe
import Derived.Test.YtcieihbknfeddaaB9
import Derived.Test.YtcieihbknfeddaaB4
import Derived.Maps.AppendAt
namespace Go.Proofs.Ytcieihbknfeddaa
open Go.RowKit

theorem givesIntsOk_of {w w' : World} {l l' : List Int} {b b' : Bool} {u : Value} (hb : b' = b) (hl : gV b' l' = l) (h : Ints w' w.heap.size u l) (hB : Below w.heap.size w w') : GivesIntsOk w (gV b' l') b' (.returned (.tuple #[u, .bool b])) w' := ⟨u, by rw [hb], by rw [hl]; exact h, hB⟩
set_option maxRecDepth 100000 in
set_option maxHeartbeats 16000000 in
theorem specNumbersBlow_any (v : Value) (d : List Int) (x : Int) (w : World) (h : ReadsInts w v d) (hx : -9223372036854775808 ≤ x ∧ x ≤ 9223372036854775807) :
    Calls Try.prog 6 #[v, .int .i64 x] w (GivesIntsOk w (gV (nbB d x) (blN d x.toNat)) (nbB d x)) := by
  have HI := Lib.hid (fun w' => l6In_any (d.length : Int) 3 19 w')
  have HX := Lib.hid (fun w' => l6In_any x 0 ((d.length : Int) - 1) w')
  have hE := Lib.hid (fun w' => Ints.empty w')
  obtain ⟨i0, hi, hz0, hz1, hz2⟩ := info_parts infoInt
  have hm := h.len
  cases hl : (decide ((3 : Int) ≤ (d.length : Int)) && decide ((d.length : Int) ≤ 19))
  · have e0 := nb_len (x := x) hl
    rw [e0]
    rw [hl] at HI
    obtain ⟨a, c, rfl, _⟩ := hm
    clear h hl e0 HX
    go_enter Try.func6, Try.ntmps6
    go_wp2_with fail
    refine Calls.mono (HI.out _) ?_
    rintro e w1 ⟨rfl, rfl⟩
    have HE := Lib.hid (hE.out w)
    go_wp2
    go_returns
    exact ⟨_, rfl, HE.out, by go_grown⟩
  · obtain ⟨h3, h19⟩ : 3 ≤ d.length ∧ d.length ≤ 19 := by
      rw [Bool.and_eq_true, decide_eq_true_eq, decide_eq_true_eq] at hl
      omega
    rw [hl] at HI
    have q0 : IntKind.i64.wrap ((d.length : Int) - 1) = (d.length : Int) - 1 := by rw [IntKind.wrap_i64]; omega
    cases hxx : (decide (0 ≤ x) && decide (x ≤ (d.length : Int) - 1))
    · have e0 := nb_idx hxx
      rw [e0]
      rw [hxx] at HX
      obtain ⟨a, c, rfl, _⟩ := hm
      generalize d.length = n at *
      clear h hl e0 hxx hx
      go_enter Try.func6, Try.ntmps6
      go_wp2_with fail
      refine Calls.mono (HI.out _) ?_
      rintro e w1 ⟨rfl, rfl⟩
      go_wp2_with fail
      refine Calls.mono (HX.out _) ?_
      rintro e w1 ⟨rfl, rfl⟩
      have HE := Lib.hid (hE.out w)
      go_wp2
      go_returns
      exact ⟨_, rfl, HE.out, by go_grown⟩
    · obtain ⟨i, rfl⟩ : ∃ i : Nat, x = (i : Int) := by
        rw [Bool.and_eq_true, decide_eq_true_eq] at hxx
        exact ⟨x.toNat, by omega⟩
      have hin : i < d.length := by
        rw [Bool.and_eq_true, decide_eq_true_eq, decide_eq_true_eq] at hxx
        omega
      rw [hxx] at HX
      rw [Int.toNat_natCast]
      have HBn := Lib.hid (fun q hq h => nb_num (d := d) (x := (i : Int)) (q := q) hq h)
      have HGd := Lib.hid (fun hq => nb_good (d := d) (x := (i : Int)) h3 h19 (by omega) (by omega) hq)
      have HAll := Lib.hid (outK_all hin)
      have HLe := Lib.hid (fun k => outK_le d i k)
      have HOk : Hid (∀ k, outK d i (k + 1) = outK d i k ++ [decZ d i k] ++ (if k = i then [-1] else [])) := fun _ => rfl
      have HDz : Hid (∀ k, decZ d i k = if k = i ∨ k = (i + 1) % d.length then gz d k - 1 else gz d k) := fun _ => rfl
      have HB := Lib.hid (fun a w' => l6In_any a (-99) 100 w')
      obtain ⟨bb, off, c, rfl, _, hbb, hcs⟩ := h.open (by omega)
      have HCs := Lib.hid hcs
      obtain ⟨n, hn⟩ : ∃ n, n = d.length := ⟨_, rfl⟩
      rw [← hn] at h3 h19 HCs HI HX HBn HGd HAll HDz hin q0 ⊢
      have t1 : Int.tmod ((i : Int) + 1) (n : Int) = (((i + 1) % n : Nat) : Int) := behindD i n
      have hnx := Nat.mod_lt (i + 1) (show 0 < n by omega)
      have q1 : IntKind.i64.wrap ((i : Int) + 1) = (i : Int) + 1 := by rw [IntKind.wrap_i64]; omega
      generalize (i + 1) % n = r at *
      have j3 : ¬ (n : Int) = 0 := by omega
      have j4 : ((n : Int) == 0) = false := by simpa using j3
      have n0 : ¬ n = 0 := by omega
      have n1 : 0 < n := by omega
      clear h hl hcs hn hxx hx
      go_enter Try.func6, Try.ntmps6
      go_wp2_with fail
      refine Calls.mono (HI.out _) ?_
      rintro e w1 ⟨rfl, rfl⟩
      go_wp2_with fail
      refine Calls.mono (HX.out _) ?_
      rintro e w1 ⟨rfl, rfl⟩
      have HV0 : Hid (Ints (w.alloc (.cells #[] 3)) w.heap.size (.slice (some ⟨w.heap.size, 0, none⟩) 0 0) (outK d i 0)) := hE.out w
      go_wp2
      go_loopw [6, 8] (fun s6 s8 wr => ∃ k : Nat, s8 = .int .i64 k ∧ k ≤ n ∧ Hid (Ints wr w.heap.size s6 (outK d i k)) ∧ Hid (∀ q, q < k → (decide (-99 ≤ gz d q) && decide (gz d q ≤ 100)) = true) ∧ Below w.heap.size w wr) (fun _ s8 _ => n - (intOf s8).toNat)
      case atStart => exact ⟨0, rfl, Nat.zero_le _, HV0, fun q hq => absurd hq (Nat.not_lt_zero q), by go_grown⟩
      case round =>
        obtain ⟨k, rfl, hkn, HV, HNm, hB⟩ := hrel
        clear HV0
        have p0 : (0 : Int) ≤ (k : Int) := by omega
        by_cases hlt : k < n
        · have p1 : (k : Int) < (n : Int) := by omega
          have c1 : wr.cell? ⟨bb, off + k, none⟩ = some (.int .i64 (gz d k)) := HCs.out wr hB k hlt
          have HBq := Lib.hid (fun w' => HB.out (gz d k) w')
          cases hk : (decide (-99 ≤ gz d k) && decide (gz d k ≤ 100))
          · have e0 := HBn.out k hlt hk
            have HF := Lib.hid e0
            rw [hk] at HBq
            generalize gz d k = z at *
            have hs := hB.size
            have HE := Lib.hid ((hE.out wr).lower hs)
            have HBe := Lib.hid (hB.alloc hs (.cells #[] 3))
            clear hk e0 HGd HBn
            go_wp2_with fail
            refine Calls.mono (HBq.out _) ?_
            rintro e w2 ⟨rfl, rfl⟩
            go_wp2
            go_returns
            exact givesIntsOk_of HF.out (by rw [HF.out]; rfl) HE.out HBe.out
          · have HNm2 : Hid (∀ q, q < k + 1 → (decide (-99 ≤ gz d q) && decide (gz d q ≤ 100)) = true) := by
              intro q hq
              by_cases e : q = k
              · subst e; exact hk
              · exact HNm.out q (by omega)
            have hzb : -99 ≤ gz d k ∧ gz d k ≤ 100 := by
              rw [Bool.and_eq_true, decide_eq_true_eq, decide_eq_true_eq] at hk
              exact hk
            rw [hk] at HBq
            have hdz := HDz.out k
            have hok := HOk.out k
            clear hk HBn HGd
            generalize gz d k = z at c1 HBq hzb hdz
            have q2 : IntKind.i64.wrap (z - 1) = z - 1 := by rw [IntKind.wrap_i64]; omega
            have q3 : IntKind.i64.wrap ((k : Int) + 1) = (k : Int) + 1 := by rw [IntKind.wrap_i64]; omega
            by_cases hki : k = i
            · have e3 : (k : Int) = (i : Int) := by omega
              have e4 : ((k : Int) == (i : Int)) = true := by simpa using e3
              rw [if_pos (.inl hki)] at hdz
              rw [if_pos hki, hdz] at hok
              have HSK := Lib.hid hok
              have HJ := Lib.hid hki
              clear hok hdz hki e3 HNm HDz HOk
              go_wp2_with fail
              refine Calls.mono (HBq.out _) ?_
              rintro e w2 ⟨rfl, rfl⟩
              clear HBq hzb
              obtain ⟨m1, hm1⟩ : ∃ m, m = (outK d i k).length := ⟨_, rfl⟩
              have hown1 : wr.ownsRow w.heap.size 3 1 u6 m1 (intsV (outK d i k)) := by rw [hm1]; exact HV.out
              have hb1 : m1 ≤ 40 := by rw [hm1]; exact Nat.le_trans (HLe.out k) (by omega)
              have HM1 := Lib.hid hm1
              have HO1 := Lib.hid hown1
              have hsz1 := hB.size
              clear hm1 HV hown1
              go_wp2_with (at_builtin; refine wpList_append_own_at _ rfl _ _ 23 rfl w.heap.size 3 i0 (.int .i64 0) 1 8 Try.underlying23 hi hz0 hz1 hz2 rfl (by decide) _ _ _ rfl (HO1.out.alloc _) ⟨wr.heap.size, 0, none⟩ 1 1 [.int .i64 (z - 1)] rfl rfl ?c1 ?c2 ?c3 ?c4 ?c5 ?_)
              case c1 =>
                intro j u hj
                match j, hj with
                | 0, hj => simp at hj; subst hj; simp [Addr.add]
              case c2 => intro u hu; simp at hu; subst hu; rfl
              case c3 => unfold maxLen; omega
              case c4 => omega
              case c5 => simp; omega
              intro v1 w3 hown' hgrow _ _
              have B1 : Below w.heap.size w w3 := (hB.alloc hsz1 _).grown hgrow (by simp; omega) (fun q hq => (HO1.out.lt q hq).1)
              have V1 : Hid (Ints w3 w.heap.size v1 (outK d i k ++ [z - 1])) := Ints.snoc HM1.out hown'
              clear hown' hgrow HO1 HM1 hb1 hsz1
              obtain ⟨m2, hm2⟩ : ∃ m, m = (outK d i k ++ [z - 1]).length := ⟨_, rfl⟩
              have hown2 : w3.ownsRow w.heap.size 3 1 v1 m2 (intsV (outK d i k ++ [z - 1])) := by rw [hm2]; exact V1.out
              have hb2 : m2 ≤ 40 := by rw [hm2]; exact (by rw [List.length_append]; have := HLe.out k; simp; omega)
              have HM2 := Lib.hid hm2
              have HO2 := Lib.hid hown2
              have hsz2 := B1.size
              clear hm2 V1 hown2
              go_wp2_with (at_builtin; refine wpList_append_own_at _ rfl _ _ 23 rfl w.heap.size 3 i0 (.int .i64 0) 1 8 Try.underlying23 hi hz0 hz1 hz2 rfl (by decide) _ _ _ rfl (HO2.out.alloc _) ⟨w3.heap.size, 0, none⟩ 1 1 [.int .i64 (-1)] rfl rfl ?c1 ?c2 ?c3 ?c4 ?c5 ?_)
              case c1 =>
                intro j u hj
                match j, hj with
                | 0, hj => simp at hj; subst hj; simp [Addr.add]
              case c2 => intro u hu; simp at hu; subst hu; rfl
              case c3 => unfold maxLen; omega
              case c4 => omega
              case c5 => simp; omega
              intro v2 w4 hown' hgrow _ _
              have B2 : Below w.heap.size w w4 := (B1.alloc hsz2 _).grown hgrow (by simp; omega) (fun q hq => (HO2.out.lt q hq).1)
              have V2 : Hid (Ints w4 w.heap.size v2 (outK d i k ++ [z - 1] ++ [-1])) := Ints.snoc HM2.out hown'
              clear hown' hgrow HO2 HM2 hb2 hsz2
              rw [← HSK.out] at V2
              go_wp2
              go_roundw
              case rel => exact ⟨k + 1, by go_num, by omega, V2, HNm2, B2⟩
              case measure => simp [intOf]; omega
            · by_cases hkr : k = r
              · have e3 : ¬ (k : Int) = (i : Int) := by omega
                have e4 : ((k : Int) == (i : Int)) = false := by simpa using e3
                have e5 : (k : Int) = (r : Int) := by omega
                have e6 : ((k : Int) == (r : Int)) = true := by simpa using e5
                rw [if_pos (.inr hkr)] at hdz
                rw [if_neg hki, hdz, List.append_nil] at hok
                have HSK := Lib.hid hok
                have HJ := Lib.hid hki
                have HJ2 := Lib.hid hkr
                clear hok hdz hki hkr e5 HNm HDz HOk
                go_wp2_with fail
                refine Calls.mono (HBq.out _) ?_
                rintro e w2 ⟨rfl, rfl⟩
                clear HBq hzb
                obtain ⟨m1, hm1⟩ : ∃ m, m = (outK d i k).length := ⟨_, rfl⟩
                have hown1 : wr.ownsRow w.heap.size 3 1 u6 m1 (intsV (outK d i k)) := by rw [hm1]; exact HV.out
                have hb1 : m1 ≤ 40 := by rw [hm1]; exact Nat.le_trans (HLe.out k) (by omega)
                have HM1 := Lib.hid hm1
                have HO1 := Lib.hid hown1
                have hsz1 := hB.size
                clear hm1 HV hown1
                go_wp2_with (at_builtin; refine wpList_append_own_at _ rfl _ _ 23 rfl w.heap.size 3 i0 (.int .i64 0) 1 8 Try.underlying23 hi hz0 hz1 hz2 rfl (by decide) _ _ _ rfl (HO1.out.alloc _) ⟨wr.heap.size, 0, none⟩ 1 1 [.int .i64 (z - 1)] rfl rfl ?c1 ?c2 ?c3 ?c4 ?c5 ?_)
                case c1 =>
                  intro j u hj
                  match j, hj with
                  | 0, hj => simp at hj; subst hj; simp [Addr.add]
                case c2 => intro u hu; simp at hu; subst hu; rfl
                case c3 => unfold maxLen; omega
                case c4 => omega
                case c5 => simp; omega
                intro v1 w3 hown' hgrow _ _
                have B1 : Below w.heap.size w w3 := (hB.alloc hsz1 _).grown hgrow (by simp; omega) (fun q hq => (HO1.out.lt q hq).1)
                have V1 : Hid (Ints w3 w.heap.size v1 (outK d i k ++ [z - 1])) := Ints.snoc HM1.out hown'
                clear hown' hgrow HO1 HM1 hb1 hsz1
                rw [← HSK.out] at V1
                go_wp2
                go_roundw
                case rel => exact ⟨k + 1, by go_num, by omega, V1, HNm2, B1⟩
                case measure => simp [intOf]; omega
              · have e3 : ¬ (k : Int) = (i : Int) := by omega
                have e4 : ((k : Int) == (i : Int)) = false := by simpa using e3
                have e5 : ¬ (k : Int) = (r : Int) := by omega
                have e6 : ((k : Int) == (r : Int)) = false := by simpa using e5
                rw [if_neg (by omega)] at hdz
                rw [if_neg hki, hdz, List.append_nil] at hok
                have HSK := Lib.hid hok
                clear hok hdz HNm HDz HOk
                go_wp2_with fail
                refine Calls.mono (HBq.out _) ?_
                rintro e w2 ⟨rfl, rfl⟩
                clear HBq hzb
                obtain ⟨m1, hm1⟩ : ∃ m, m = (outK d i k).length := ⟨_, rfl⟩
                have hown1 : wr.ownsRow w.heap.size 3 1 u6 m1 (intsV (outK d i k)) := by rw [hm1]; exact HV.out
                have hb1 : m1 ≤ 40 := by rw [hm1]; exact Nat.le_trans (HLe.out k) (by omega)
                have HM1 := Lib.hid hm1
                have HO1 := Lib.hid hown1
                have hsz1 := hB.size
                clear hm1 HV hown1
                go_wp2_with (at_builtin; refine wpList_append_own_at _ rfl _ _ 23 rfl w.heap.size 3 i0 (.int .i64 0) 1 8 Try.underlying23 hi hz0 hz1 hz2 rfl (by decide) _ _ _ rfl (HO1.out.alloc _) ⟨wr.heap.size, 0, none⟩ 1 1 [.int .i64 (z)] rfl rfl ?c1 ?c2 ?c3 ?c4 ?c5 ?_)
                case c1 =>
                  intro j u hj
                  match j, hj with
                  | 0, hj => simp at hj; subst hj; simp [Addr.add]
                case c2 => intro u hu; simp at hu; subst hu; rfl
                case c3 => unfold maxLen; omega
                case c4 => omega
                case c5 => simp; omega
                intro v1 w3 hown' hgrow _ _
                have B1 : Below w.heap.size w w3 := (hB.alloc hsz1 _).grown hgrow (by simp; omega) (fun q hq => (HO1.out.lt q hq).1)
                have V1 : Hid (Ints w3 w.heap.size v1 (outK d i k ++ [z])) := Ints.snoc HM1.out hown'
                clear hown' hgrow HO1 HM1 hb1 hsz1
                rw [← HSK.out] at V1
                go_wp2
                go_roundw
                case rel => exact ⟨k + 1, by go_num, by omega, V1, HNm2, B1⟩
                case measure => simp [intOf]; omega
        · obtain rfl : k = n := by omega
          have i2 : ¬ (k : Int) < (k : Int) := by omega
          have HF := Lib.hid (HGd.out HNm.out)
          have hv := HV.out
          rw [HAll.out] at hv
          have HW := Lib.hid hv
          clear hv HV HNm HGd HBn HOk HDz
          go_wp2
          go_returns
          exact givesIntsOk_of HF.out (by rw [HF.out]; rfl) HW.out hB
end Go.Proofs.Ytcieihbknfeddaa
