/- Lists of numbers turned over, as the laws of the promises do it. -/
import Derived.Test.YtjlobpccnplebaaDoorB3
import Derived.Test.YtjlobpccnplebaaDoorFg
import Derived.Test.YtjlobpccnplebaaDoorB4
import Derived.Test.YtjlobpccnplebaaDoorMv
namespace Go.Proofs.YtjlobpccnplebaaDoor
open Go.RowKit

set_option maxHeartbeats 4000000 in
theorem turned_any (v : Value) (l : List Int) (w : World) (h : ReadsInts w v l) (hm : l.length ≤ 1048576) :
    Calls Tryd.prog 42 #[v] w (GivesInts w l.reverse) := by
  obtain ⟨i0, hi, hz0, hz1, hz2⟩ := info_parts infoInt
  obtain ⟨a, c, rfl, _, hc⟩ := h
  have HC := Lib.hid hc
  have hE := Lib.hid (Ints.empty w)
  obtain ⟨n, hn⟩ : ∃ n, n = l.length := ⟨_, rfl⟩
  have HN := Lib.hid hn
  have hn2 : n ≤ 1048576 := by omega
  rw [← hn]
  clear hc hm hn
  go_enter Tryd.func42, Tryd.ntmps42
  go_wp2
  go_loopw [3, 4] (fun s3 s4 wr => ∃ k : Nat, s4 = .int .i64 ((n : Int) - 1 - k) ∧ k ≤ n ∧ Hid (Ints wr w.heap.size s3 (l.drop (n - k)).reverse) ∧ Below w.heap.size w wr) (fun _ s4 _ => (intOf s4 + 1).toNat)
  case atStart =>
    have e0 : l.drop (n - 0) = [] := List.drop_of_length_le (by have := HN.out; omega)
    exact ⟨0, by simp, Nat.zero_le _, by rw [e0]; exact hE, by go_grown⟩
  case round =>
    obtain ⟨k, rfl, hk, HI, hB⟩ := hrel
    clear hE
    by_cases hlt : k < n
    · obtain ⟨i, hi'⟩ : ∃ i : Nat, i = n - 1 - k := ⟨_, rfl⟩
      have hi2 : (n : Int) - 1 - k = (i : Int) := by omega
      have hil : i < l.length := by have := HN.out; omega
      obtain ⟨bb, off, rfl, hb, hcell⟩ := HC.out (by omega)
      have c1 : wr.cell? ⟨bb, off + i, none⟩ = some (.int .i64 (l[i]?.getD 0)) := (hB.cell (p := ⟨bb, off + i, none⟩) hb).trans (hcell i hil)
      have HD : Hid ((l.drop i).reverse = (l.drop (n - k)).reverse ++ [l[i]?.getD 0]) := by
        show _ = _
        rw [drop_get hil, List.reverse_cons, show n - k = i + 1 by omega]
      have hown : wr.ownsRow w.heap.size 3 1 _ _ _ := HI.out
      have hbs := hB.size
      have HK := Lib.hid hi'
      have hlen : (l.drop (n - k)).reverse.length ≤ 1048576 := by rw [List.length_reverse, List.length_drop]; have := HN.out; omega
      generalize (l.drop (n - k)).reverse = ld at *
      rw [hi2]
      clear hi' HI hcell HC hil
      generalize l[i]?.getD 0 = z at *
      have j1 : (0 : Int) ≤ (i : Int) := by omega
      have j2 : (i : Int) < (n : Int) := by omega
      go_wp2_with (at_builtin; refine wpList_append_own _ rfl _ _ 47 rfl w.heap.size 3 i0 (.int .i64 0) 1 8 Tryd.underlying47 hi hz0 hz1 hz2 rfl (by decide) _ _ _ rfl (hown.alloc _) ⟨wr.heap.size, 0, none⟩ 1 1 [.int .i64 z] rfl rfl ?c1 ?c2 ?c3 ?c4 ?c5 ?_)
      case c1 =>
        intro j u hj
        match j, hj with
        | 0, hj => simp at hj; subst hj; simp [Addr.add]
      case c2 => intro u hu; simp at hu; subst hu; rfl
      case c3 => unfold maxLen; omega
      case c4 => omega
      case c5 => simp; omega
      intro v' w1 hown' hgrow _
      have hB1 : Below w.heap.size w w1 := (hB.alloc hbs _).grown hgrow (by simp; omega) (fun k hk => (hown.lt k hk).1)
      have H1 : Hid (Ints w1 w.heap.size v' (ld ++ [z])) := by
        have : intsV (ld ++ [z]) = intsV ld ++ [.int .i64 z] := by simp [intsV]
        show Ints w1 w.heap.size v' (ld ++ [z])
        unfold Ints
        rw [this, List.length_append]
        exact hown'
      clear hown hown' hgrow hB
      go_wp2
      go_roundw
      case rel => exact ⟨k + 1, by first | (go_num; done) | (congr 1; omega) | (simp; omega), by omega, by rw [show n - (k + 1) = i by have := HK.out; omega, HD.out]; exact H1, hB1⟩
      case measure => first | (simp [intOf]; done) | (simp [intOf]; omega)
    · have hkn : k = n := by omega
      have e0 : l.drop (n - k) = l := by rw [hkn, Nat.sub_self, List.drop_zero]
      have hi2 : (n : Int) - 1 - k = -1 := by omega
      have H3 := HI.out
      rw [e0] at H3
      have H4 := Lib.hid H3
      rw [hi2]
      clear HI H3 e0
      go_wp2
      go_returns
      exact ⟨_, rfl, H4.out, hB⟩
end Go.Proofs.YtjlobpccnplebaaDoor
