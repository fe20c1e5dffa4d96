import Derived.Test.YtgaeibibeekclabGreatDoorS34
import Derived.Test.YtgaeibibeekclabGreatDoorS45
namespace Go.Proofs.YtgaeibibeekclabGreatDoor
open Go.RowKit Go.Shelf
attribute [local go_sem] Oper.semAt_some
end Go.Proofs.YtgaeibibeekclabGreatDoor
namespace Go.Proofs.YtgaeibibeekclabGreatDoor
open Go.RowKit Go.Shelf
attribute [local go_sem] Oper.semAt_some
end Go.Proofs.YtgaeibibeekclabGreatDoor
namespace Go.Proofs.YtgaeibibeekclabGreatDoor
open Go.RowKit Go.Shelf
attribute [local go_sem] Oper.semAt_some
end Go.Proofs.YtgaeibibeekclabGreatDoor
namespace Go.Proofs.YtgaeibibeekclabGreatDoor
open Go.RowKit Go.Shelf
attribute [local go_sem] Oper.semAt_some
end Go.Proofs.YtgaeibibeekclabGreatDoor
namespace Go.Proofs.YtgaeibibeekclabGreatDoor
open Go.RowKit
set_option maxHeartbeats 4000000 in
theorem fanNumbers_any (v : Value) (l : List V2) (w : World) (hl : ReadsVecs w v l) (hg : EtOk w) :
    Calls Tryz.prog 59 #[v] w (GivesIntsOk w (gV (smoothB l) (numsZ l)) (smoothB l)) := by
  have HO := Lib.hid (smoothFanOf_any v l w hl hg)
  have HV := Lib.hid (fun h => (smooth_all (l := l) h).1)
  have HS := Lib.hid (fun (ns : List Node) h hn => fan_small (l := l) (ns := ns) (smooth_in h).1 hn)
  clear hl
  generalize hb : smoothB l = b at HO HV HS
  go_enter Tryz.func59, Tryz.ntmps59
  go_wp2_with fail
  refine Calls.mono HO.out ?_
  rintro e w1 ⟨⟨rfl, g, ns, rfl, hF, hn⟩ | ⟨rfl, rfl⟩, hb1⟩
  · obtain ⟨hs, hnl⟩ := HS.out ns (by simp) hn
    have HT := Lib.hid (callsIn_wide.1 (numbers_in 3 (by omega) w.heap.size g ns w1 hF hs (by rw [hn]; exact HV.out (by simp))))
    rw [hn] at HT
    clear hn hnl hF
    go_wp2_with fail
    refine Calls.mono HT.out ?_
    rintro e w2 ⟨v2, rfl, hV, hb2⟩
    have HV3 := Lib.hid (hV.lower hb1.size)
    have hB := belowTo hb1 hb2
    clear hV hb2 HT hb
    go_wp2
    go_returns
    exact ⟨_, rfl, HV3.out, hB⟩
  · clear hb
    go_wp2
    go_returns
    exact ⟨_, rfl, Ints.nil _ _, hb1⟩
end Go.Proofs.YtgaeibibeekclabGreatDoor
namespace Go.Proofs.YtgaeibibeekclabGreatDoor
open Go.RowKit
theorem gz_ext {a b : List Int} (hl : a.length = b.length) (h : ∀ j, j < a.length → gz a j = gz b j) : a = b := by
  refine List.ext_getElem hl (fun i h1 h2 => ?_)
  have := h i h1
  unfold gz at this
  rwa [List.getElem?_eq_getElem h1, List.getElem?_eq_getElem h2] at this
end Go.Proofs.YtgaeibibeekclabGreatDoor
namespace Go.Proofs.YtgaeibibeekclabGreatDoor
open Go.RowKit
set_option maxHeartbeats 2000000 in
theorem sameInts_nil (a b : Option Addr) (c d : Nat) (w : World) :
    Calls Tryz.prog 31 #[.slice a 0 c, .slice b 0 d] w fun e w' => e = .returned (.bool true) ∧ Below w.heap.size w w' := by
  go_enter Tryz.func31, Tryz.ntmps31
  go_wp2
  refine wp_loop_rounds 1 ?_
  rw [rounds_succ]
  go_wp2
  go_returns
  exact ⟨rfl, Below.refl _ _⟩
end Go.Proofs.YtgaeibibeekclabGreatDoor
namespace Go.Proofs.YtgaeibibeekclabGreatDoor
open Go.RowKit
theorem gz_same {a b : List Int} (hl : a.length = b.length) : a = b ↔ ∀ j, j < a.length → gz a j = gz b j := ⟨fun h j _ => by rw [h], gz_ext hl⟩
set_option maxHeartbeats 4000000 in
theorem sameInts_any (v1 v2 : Value) (l1 l2 : List Int) (w : World) (h1 : ReadsInts w v1 l1) (h2 : ReadsInts w v2 l2) :
    Calls Tryz.prog 31 #[v1, v2] w fun e w' => e = .returned (.bool (decide (l1 = l2))) ∧ Below w.heap.size w w' := by
  by_cases he : l1.length = l2.length
  · by_cases h0 : l1.length = 0
    · have e1 := List.eq_nil_of_length_eq_zero h0
      have e2 := List.eq_nil_of_length_eq_zero (he ▸ h0)
      subst e1 e2
      obtain ⟨a, c, rfl, _⟩ := h1.len
      obtain ⟨a2, c2, rfl, _⟩ := h2.len
      exact sameInts_nil a a2 c c2 w
    · obtain ⟨b1, o1, c1, rfl, m1, s1, q1⟩ := h1.open (by omega)
      obtain ⟨b2, o2, c2, rfl, m2, s2, q2⟩ := h2.open (by omega)
      have H1 := Lib.hid q1
      have H2 := Lib.hid q2
      have HS := Lib.hid (gz_same he)
      rw [← he] at H2 ⊢
      obtain ⟨n, hn⟩ : ∃ n, n = l1.length := ⟨_, rfl⟩
      rw [← hn] at H1 H2 HS ⊢
      have hm : n ≤ 1152921504606846976 := by omega
      obtain ⟨bd, hbd⟩ : ∃ bd, bd = decide (l1 = l2) := ⟨_, rfl⟩
      rw [← hbd]
      have HBD := Lib.hid hbd
      clear q1 q2 h1 h2 hn he h0 m1 m2 hbd
      go_enter Tryz.func31, Tryz.ntmps31
      go_wp2
      go_loopw [5] (fun i wr => ∃ k : Nat, k ≤ n ∧ i = .int .i64 k ∧ (∀ j, j < k → gz l1 j = gz l2 j) ∧ Below w.heap.size w wr) (fun i _ => n - (intOf i).toNat)
      case atStart => exact ⟨0, Nat.zero_le _, rfl, fun j hj => by omega, Below.refl _ _⟩
      case round =>
        obtain ⟨k, hk, rfl, hj, hB⟩ := hrel
        by_cases hlt : k < n
        · have c1 := H1.out wr hB k hlt
          have c2 := H2.out wr hB k hlt
          have HJ : Hid (∀ j, j < k → gz l1 j = gz l2 j) := hj
          have i1 : (0 : Int) ≤ (k : Int) := by omega
          have i2 : (k : Int) < (n : Int) := by omega
          clear H1 H2 hj
          by_cases hz : gz l1 k = gz l2 k
          · have HZ := Lib.hid hz
            rw [← hz] at c2
            generalize gz l1 k = z at c1 c2
            clear hz
            go_wp2_with fail
            go_quiet (fail)
            go_wp2
            go_roundw
            case rel => exact ⟨k + 1, by omega, by go_num, fun j hj' => by rcases Nat.lt_succ_iff_lt_or_eq.1 hj' with h | h; exact HJ.out j h; exact h ▸ HZ.out, below_drewN hB _⟩
            case measure => simp [intOf]; omega
          · have hne : ¬ l1 = l2 := fun h => hz (HS.out.1 h k hlt)
            have zb : (gz l1 k == gz l2 k) = false := by simpa using hz
            obtain rfl : bd = false := HBD.out.trans (decide_eq_false hne)
            clear HS HJ hne hz HBD
            generalize gz l1 k = z1 at c1 zb
            generalize gz l2 k = z2 at c2 zb
            go_wp2_with fail
            go_quiet (fail)
            go_wp2
            go_returns
            exact ⟨rfl, below_drewN hB _⟩
        · obtain rfl : k = n := by omega
          obtain rfl : bd = true := HBD.out.trans (decide_eq_true (HS.out.2 hj))
          clear HS H1 H2 hj HBD
          go_wp2
          go_returns
          exact ⟨rfl, hB⟩
  · obtain ⟨a, c, rfl, m1⟩ := h1.len
    obtain ⟨a2, c2, rfl, m2⟩ := h2.len
    have hd : decide (l1 = l2) = false := decide_eq_false (fun h => he (by rw [h]))
    rw [hd]
    have i1 : ((l1.length : Int) == (l2.length : Int)) = false := by simp; omega
    generalize l1.length = n1 at *
    generalize l2.length = n2 at *
    clear h1 h2 hd
    go_enter Tryz.func31, Tryz.ntmps31
    go_wp2
    go_returns
    exact ⟨rfl, Below.refl _ _⟩
theorem sameInts_eq (v1 v2 : Value) (l : List Int) (w : World) (h1 : ReadsInts w v1 l) (h2 : ReadsInts w v2 l) :
    Calls Tryz.prog 31 #[v1, v2] w fun e w' => e = .returned (.bool true) ∧ Below w.heap.size w w' := by
  have h := sameInts_any v1 v2 l l w h1 h2
  rw [decide_eq_true (rfl : l = l)] at h
  exact h
end Go.Proofs.YtgaeibibeekclabGreatDoor
