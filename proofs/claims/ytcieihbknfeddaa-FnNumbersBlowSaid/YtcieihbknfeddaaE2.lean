/- NumbersBlow: the program. -/
import Derived.Test.YtcieihbknfeddaaE1
import Derived.Test.YtcieihbknfeddaaEy
import Derived.Test.YtcieihbknfeddaaEf
import Derived.Test.YtcieihbknfeddaaQf
namespace Go.Proofs.Ytcieihbknfeddaa
open Go.RowKit

theorem dec_two {d : List Int} {i : Nat} (h3 : 3 ≤ d.length) : (d.set i (gz d i - 1)).set ((i + 1) % d.length) (gz d ((i + 1) % d.length) - 1) = decT d i d.length := by
  have hr := Nat.mod_lt (i + 1) (show 0 < d.length by omega)
  refine List.ext_getElem (by rw [decT_len]; simp) (fun k h1 h2 => ?_)
  have hk : k < d.length := by simpa using h1
  simp only [List.getElem_set, decT, List.getElem_map, List.getElem_range, decZ]
  have e : gz d k = d[k] := by simp [gz, hk]
  by_cases c1 : (i + 1) % d.length = k
  · rw [if_pos c1, if_pos (.inr c1.symm), c1]
  · rw [if_neg c1]
    by_cases c2 : i = k
    · rw [if_pos c2, if_pos (.inl c2.symm), c2]
    · rw [if_neg c2, if_neg (by omega), e]
theorem set_other {d : List Int} {i r : Nat} {y : Int} (h : r ≠ i) : gz (d.set i y) r = gz d r := by
  unfold gz
  rw [List.getElem?_set_ne (fun e => h e.symm)]
theorem next_ne {i n : Nat} (hi : i < n) (h3 : 3 ≤ n) : (i + 1) % n ≠ i := by
  by_cases e : i + 1 = n
  · rw [e, Nat.mod_self]; omega
  · rw [Nat.mod_eq_of_lt (by omega)]; omega
theorem Ints.put {w : World} {base g cap n : Nat} {d : List Int} (h : Ints w base (.slice (some ⟨g, 0, none⟩) n cap) d) (hn : n = d.length) (k : Nat) (y : Int) : Ints (w.setCell ⟨g, k, none⟩ (.int .i64 y)) base (.slice (some ⟨g, 0, none⟩) n cap) (d.set k y) := by
  subst hn
  have hO : w.ownsRow base 3 1 (.slice (some ⟨g, 0, none⟩) d.length cap) d.length (intsV d) := h
  have hst := hO.stored k (.int .i64 y)
  have : (intsV d).set k (.int .i64 y) = intsV (d.set k y) := by simp [intsV, List.map_set]
  rw [this] at hst
  exact Ints.as (by simp) hst.1
theorem Ints.at0 {w : World} {base : Nat} {v : Value} {d : List Int} (h : Ints w base v d) (h0 : 0 < d.length) : ∃ g cap, v = .slice (some ⟨g, 0, none⟩) d.length cap ∧ base ≤ g ∧ g < w.heap.size ∧ ∀ W, Ints W base (.slice (some ⟨g, 0, none⟩) d.length cap) d → ∀ j, j < d.length → W.cell? ⟨g, j, none⟩ = some (.int .i64 (gz d j)) ∧ W.frozen? ⟨g, j, none⟩ = false := by
  obtain ⟨g, cap, cur, e, hb, hR, _, _, _, _⟩ := h.block' h0
  refine ⟨g, cap, e, hb, hR.here, fun W hW j hj => ?_⟩
  have hO : W.ownsRow base 3 1 (.slice (some ⟨g, 0, none⟩) d.length cap) d.length (intsV d) := hW
  exact ⟨by rw [World.ownsRow.cellAt hO j (by omega)]; exact intsV_get d j hj, World.ownsRow.frozenAt hO j⟩
theorem Ints.cellF {w : World} {base g cap n : Nat} {d : List Int} (h : Ints w base (.slice (some ⟨g, 0, none⟩) n cap) d) (hn : n = d.length) {j : Nat} (hj : j < n) : w.cell? ⟨g, j, none⟩ = some (.int .i64 (gz d j)) ∧ w.frozen? ⟨g, j, none⟩ = false := by
  subst hn
  have hO : w.ownsRow base 3 1 (.slice (some ⟨g, 0, none⟩) d.length cap) d.length (intsV d) := h
  exact ⟨by rw [World.ownsRow.cellAt hO j (by omega)]; exact intsV_get d j hj, World.ownsRow.frozenAt hO j⟩
set_option maxRecDepth 100000 in
set_option maxHeartbeats 16000000 in
theorem numbersBlow_any (v : Value) (d : List Int) (x : Int) (w : World) (h : ReadsInts w v d) (hx : -9223372036854775808 ≤ x ∧ x ≤ 9223372036854775807) :
    Calls Try.prog 5 #[v, .int .i64 x] w (GivesIntsOk w (gV (nbB d x) (blN d x.toNat)) (nbB d x)) := by
  have HA := Lib.hid (areNumbers_any v d 1 w h (by omega) (by omega))
  have HCl := Lib.hid (fun w' hb h0 hm => clone_any v d w' (h.below hb) h0 hm)
  have hN := Lib.hid (fun w' b => Ints.nil w' b)
  have hm := h.len
  cases ha : areN d 1
  · have e0 : nbB d x = false := by unfold nbB; rw [ha]; rfl
    rw [e0]
    rw [ha] at HA
    obtain ⟨a, c, rfl, _⟩ := hm
    clear h ha e0 HCl
    go_enter Try.func5, Try.ntmps5
    go_wp2_with fail
    refine Calls.mono HA.out ?_
    rintro e w1 ⟨rfl, hb1⟩
    go_wp2
    go_returns
    exact ⟨_, rfl, hN.out _ _, hb1⟩
  · obtain ⟨h3, h19, hall⟩ := are_in ha
    rw [ha] at HA
    by_cases hx0 : x < 0
    · have e0 : nbB d x = false := by
        unfold nbB
        rw [decide_eq_false (show ¬ (0 ≤ x) by omega)]
        simp
      rw [e0]
      obtain ⟨a, c, rfl, _⟩ := hm
      clear h ha e0 HCl
      go_enter Try.func5, Try.ntmps5
      go_wp2_with fail
      refine Calls.mono HA.out ?_
      rintro e w1 ⟨rfl, hb1⟩
      go_wp2
      go_returns
      exact ⟨_, rfl, hN.out _ _, hb1⟩
    · by_cases hxn : (d.length : Int) ≤ x
      · have e0 : nbB d x = false := by
          unfold nbB
          rw [decide_eq_false (show ¬ (x < (d.length : Int)) by omega)]
          simp
        rw [e0]
        obtain ⟨a, c, rfl, _⟩ := hm
        generalize d.length = n at *
        clear h ha e0 HCl
        go_enter Try.func5, Try.ntmps5
        go_wp2_with fail
        refine Calls.mono HA.out ?_
        rintro e w1 ⟨rfl, hb1⟩
        go_wp2
        go_returns
        exact ⟨_, rfl, hN.out _ _, hb1⟩
      · obtain ⟨i, rfl⟩ : ∃ i : Nat, x = (i : Int) := ⟨x.toNat, by omega⟩
        have hin : i < d.length := by omega
        have e0 : nbB d (i : Int) = true := by
          unfold nbB
          rw [ha]
          simp
          omega
        rw [e0, Int.toNat_natCast]
        have eB : blN d i = putN ((d.set i (gz d i - 1)).set ((i + 1) % d.length) (gz d ((i + 1) % d.length) - 1)) (i + 1) (-1) := by rw [dec_two h3]; rfl
        have HG : Hid (GivesIntsOk w (gV true (blN d i)) true = GivesIntsOk w (blN d i) true) := rfl
        rw [HG.out, eB]
        have hz := num_at hall hin
        have hr := Nat.mod_lt (i + 1) (show 0 < d.length by omega)
        have hzr := num_at hall hr
        have hne := next_ne hin h3
        have t1 : Int.tmod ((i : Int) + 1) (d.length : Int) = (((i + 1) % d.length : Nat) : Int) := behindD i _
        have q1 : IntKind.i64.wrap ((i : Int) + 1) = (i : Int) + 1 := by rw [IntKind.wrap_i64]; omega
        generalize (i + 1) % d.length = r at *
        have HO := Lib.hid (fun y => set_other (d := d) (y := y) hne)
        have HCl2 := Lib.hid (fun w' hb => HCl.out w' hb (by omega) (by omega))
        obtain ⟨a, c, rfl, _⟩ := hm
        obtain ⟨n, hn⟩ : ∃ n, n = d.length := ⟨_, rfl⟩
        have HN := Lib.hid hn
        rw [← hn] at h3 h19 hin hr t1 HA HCl2 hxn ⊢
        have i0 : (0 : Int) ≤ (i : Int) := by omega
        have i1 : (i : Int) < (n : Int) := by omega
        have i2 : ¬ (n : Int) ≤ (i : Int) := by omega
        have i3 : (0 : Int) ≤ (r : Int) := by omega
        have i4 : (r : Int) < (n : Int) := by omega
        have j3 : ¬ (n : Int) = 0 := by omega
        have j4 : ((n : Int) == 0) = false := by simpa using j3
        clear h ha e0 HCl eB hall hn HG hN hxn hx hx0
        go_enter Try.func5, Try.ntmps5
        go_wp2_with fail
        refine Calls.mono HA.out ?_
        rintro e w1 ⟨rfl, hb1⟩
        go_wp2_with fail
        refine Calls.mono (HCl2.out w1 hb1) ?_
        rintro e w2 ⟨v2, rfl, hI, hb2⟩
        obtain ⟨g, cap, rfl, hg, hgs, hcf⟩ := hI.at0 (by have := HN.out; omega)
        have hB2 := belowTo hb1 hb2
        have hI2 := hI.lower hb1.size
        rw [← HN.out] at hI2 ⊢
        obtain ⟨c1, f1⟩ := hI2.cellF HN.out hin
        have hI3 := hI2.put HN.out i (gz d i - 1)
        obtain ⟨c2, f2⟩ := hI3.cellF (by rw [List.length_set]; exact HN.out) hr
        rw [HO.out] at c2
        have hI4 := hI3.put (by rw [List.length_set]; exact HN.out) r (gz d r - 1)
        have hgl : w.heap.size ≤ g := Nat.le_trans hb1.size hg
        have hB3 := (hB2.setCell (p := ⟨g, i, none⟩) hgl (.int .i64 (gz d i - 1))).setCell (p := ⟨g, r, none⟩) hgl (.int .i64 (gz d r - 1))
        have q2 : IntKind.i64.wrap (gz d i - 1) = gz d i - 1 := by rw [IntKind.wrap_i64]; omega
        have q3 : IntKind.i64.wrap (gz d r - 1) = gz d r - 1 := by rw [IntKind.wrap_i64]; omega
        have HI4 := Lib.hid hI4
        have HB3 := Lib.hid hB3
        have HIns := Lib.hid (fun W (hI : Ints W w.heap.size (.slice (some ⟨g, 0, none⟩) n cap) ((d.set i (gz d i - 1)).set r (gz d r - 1))) vb hv hnb hs => insert_any w.heap.size (i + 1) vb _ _ (-1) W hI (by rw [List.length_set, List.length_set]; have := HN.out; omega) (by rw [List.length_set, List.length_set]; have := HN.out; omega) (by rw [List.length_set, List.length_set]; have := HN.out; omega) hv hnb hs)
        generalize ((d.set i (gz d i - 1)).set r (gz d r - 1)) = L at *
        generalize gz d i = zi at *
        generalize gz d r = zr at *
        clear hI hb1 hb2 hcf hI2 hI3 hI4 hB3 HCl2 HA HO hz hzr
        go_wp2_with fail
        have hW : ((w2.setCell ⟨g, i, none⟩ (.int .i64 (zi - 1))).setCell ⟨g, r, none⟩ (.int .i64 (zr - 1))).heap.size = w2.heap.size := by simp
        generalize ((w2.setCell ⟨g, i, none⟩ (.int .i64 (zi - 1))).setCell ⟨g, r, none⟩ (.int .i64 (zr - 1))) = W at *
        have hRW : RowAt (W.alloc (.cells #[.int .i64 (-1)] 3)) w2.heap.size 3 [.int .i64 (-1)] := by
          have := RowAt.made W 3 [.int .i64 (-1)]
          rw [hW] at this
          exact this
        have hs := HB3.out.size
        have hIn := HIns.out (W.alloc (.cells #[.int .i64 (-1)] 3)) (HI4.out.below (by go_grown)) w2.heap.size hRW (by intro e; injection e with e; dsimp only at e; omega) (by simp; omega)
        rw [Int.natCast_add, Int.natCast_one] at hIn
        have HIn := Lib.hid hIn
        have HBa := Lib.hid (HB3.out.alloc hs (.cells #[.int .i64 (-1)] 3))
        clear hIn hRW HIns HI4
        refine Calls.mono HIn.out ?_
        rintro e w5 ⟨v5, rfl, hI5, hb5⟩
        have HI5 := Lib.hid hI5
        have HB5 := Lib.hid (HBa.out.trans hb5)
        clear hI5 hb5
        go_wp2
        go_returns
        exact ⟨_, rfl, HI5.out, HB5.out⟩
end Go.Proofs.Ytcieihbknfeddaa
