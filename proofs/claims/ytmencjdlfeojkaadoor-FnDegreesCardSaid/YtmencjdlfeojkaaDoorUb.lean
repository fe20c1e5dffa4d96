/- The draws of chapter 4: a divisor, seldom another list: the list alone, and where it lies. -/
import Derived.Test.YtmencjdlfeojkaaDoorUa
namespace Go.Proofs.YtmencjdlfeojkaaDoor
open Go.RowKit

theorem grown_refl (w : World) (row : Option Nat) : w.grownBy w row := ⟨rfl, rfl, rfl, Nat.le_refl _, fun _ _ _ => rfl⟩
theorem grown_trans {w w1 w2 : World} {row : Option Nat} (h1 : w.grownBy w1 row) (h2 : w1.grownBy w2 row) : w.grownBy w2 row :=
  ⟨h2.os.trans h1.os, h2.tape.trans h1.tape, h2.output.trans h1.output, Nat.le_trans h1.size h2.size, fun k hk hne => (h2.block k (Nat.lt_of_lt_of_le hk h1.size) hne).trans (h1.block k hk hne)⟩
theorem grown_then {w w1 w2 : World} {row : Option Nat} (h1 : w.grownBy w1 row) (h2 : Below w.heap.size w1 w2) : w.grownBy w2 row :=
  ⟨h2.os.trans h1.os, h2.tape.trans h1.tape, h2.output.trans h1.output, Nat.le_trans h1.size h2.size, fun k hk hne => (h2.block k hk).trans (h1.block k hk hne)⟩
def DrewDiv (w : World) (B : Nat) (a : Option Addr) (len cap : Nat) (n : Nat) (p : Int) (e : Ending) (w' : World) : Prop :=
  ∃ (u : Value) (d : List Int) (q : Int), e = .returned u ∧ Ints w' w.heap.size u d ∧ d.length = n ∧ Reads w' B a len cap q ∧ q ≤ p + 3 + n ∧ Below B w w' ∧ w.grownBy w' (some B)
def DivR (w : World) (B : Nat) (a : Option Addr) (len cap : Nat) (p : Int) (k : Nat) (u : Value) (wr : World) : Prop :=
  ∃ (d : List Int) (q : Int), Ints wr w.heap.size u d ∧ d.length = k ∧ Reads wr B a len cap q ∧ q ≤ p + 1 + k ∧ Below B w wr ∧ w.grownBy wr (some B)
theorem DivR.snoc {w : World} {B : Nat} {a : Option Addr} {len cap : Nat} {p q : Int} {k : Nat} {d : List Int} {x : Int} {w2 w3 : World} {v' : Value} (hk : d.length = k) (hB : B < w.heap.size) (r : Reads w2 B a len cap q) (hq : q ≤ p + 2 + k) (hQ : Below B w w2) (hG : w.grownBy w2 (some B))
    (hb : Below w.heap.size w2 w3) (hown : w3.ownsRow w.heap.size 3 1 v' (k + 1) (intsV d ++ [.int .i64 x])) : DivR w B a len cap p (k + 1) v' w3 := by
  refine ⟨d ++ [x], q, ?_, by simp [hk], r.below (hb.mono (by omega)), by omega, hQ.trans (hb.mono (by omega)), grown_then hG hb⟩
  have : intsV (d ++ [x]) = intsV d ++ [.int .i64 x] := by simp [intsV]
  unfold Ints
  rw [this, List.length_append, hk]
  exact hown
set_option maxRecDepth 100000 in
set_option maxHeartbeats 16000000 in
theorem l92Divisor_any (w : World) (B : Nat) (a : Option Addr) (len cap : Nat) (p : Int) (va : Option Addr) (n vc : Nat) (h : Reads w B a len cap p) (hp : p ≤ 90000) (hn : 1 ≤ n) (hn2 : n ≤ 1000) :
    Calls Tryd.prog 72 #[.pointer (some ⟨B, 0, none⟩), .slice va n vc] w (DrewDiv w B a len cap n p) := by
  obtain ⟨i0, hi, hz0, hz1, hz2⟩ := info_parts infoInt
  have hB : B < w.heap.size := h.2.2.2.2.1
  have hE := Ints.empty w
  go_enter Tryd.func72, Tryd.ntmps72
  go_wp2_with fail
  refine Calls.mono (pickG_any _ B a len cap p 3 (h.below (by go_grown)) (by omega) (by omega)) ?_
  rintro e w1 ⟨⟨x, rfl, x0, x3, r1, k1, f1, s1, q1⟩, g1⟩
  have Q1 : Below B w w1 := Below.trans (by go_grown) q1
  have I1 : DivR w B a len cap p 0 (.slice (some ⟨w.heap.size, 0, none⟩) 0 0) w1 := ⟨[], p + 1, hE.picked g1 hB, rfl, r1, by omega, Q1, grown_trans (grown_then (grown_refl w _) (by go_grown)) g1⟩
  have HI1 := Lib.hid I1
  have HB := Lib.hid hB
  clear k1 f1 s1 q1 h hE g1 r1 I1 Q1
  go_wp2
  go_loopw [5, 7] (fun s5 s7 wr => ∃ (k : Nat), s7 = .int .i64 k ∧ k ≤ n ∧ Hid (DivR w B a len cap p k s5 wr)) (fun _ s7 _ => n - (intOf s7).toNat)
  case atStart => exact ⟨0, rfl, by omega, HI1⟩
  case round =>
    obtain ⟨k, rfl, hk, HS⟩ := hrel
    clear HI1
    obtain ⟨d, q, hI, hdk, r, hq, hQ, hG⟩ := HS.out
    clear HS
    have i0' : (0 : Int) ≤ (k : Int) := by omega
    by_cases hlt : k < n
    · have i1 : (k : Int) < (n : Int) := by omega
      obtain hv | hv | ⟨hv0, hv1⟩ : x = 0 ∨ x = 1 ∨ ((x == 0) = false ∧ (x == 1) = false) := by
        by_cases h0 : x = 0
        · exact .inl h0
        by_cases h1 : x = 1
        · exact .inr (.inl h1)
        · exact .inr (.inr ⟨by simpa using h0, by simpa using h1⟩)
      · subst hv
        go_wp2_with fail
        refine Calls.mono (pickG_any _ B a len cap q 7 r (by omega) (by omega)) ?_
        rintro e w2 ⟨⟨y, rfl, y0, y4, r2, k2, f2, s2, q2⟩, g2⟩
        have hown : w2.ownsRow w.heap.size 3 1 _ _ _ := hI.picked g2 hB
        have HQ2 := Lib.hid (hQ.trans q2)
        have HG2 := Lib.hid (grown_trans hG g2)
        have hbs : w.heap.size ≤ w2.heap.size := HQ2.out.size
        have HR2 := Lib.hid r2
        rw [hdk] at hown
        clear k2 f2 s2 q2 g2 hI r hQ r2 hG
        go_wp2_with (at_builtin; refine wpList_append_own _ rfl _ _ 23 rfl w.heap.size 3 i0 (.int .i64 0) 1 8 Tryd.underlying23 hi hz0 hz1 hz2 rfl (by decide) _ _ _ rfl (hown.alloc _) ⟨w2.heap.size, 0, none⟩ 1 1 [.int .i64 (y - 3)] rfl rfl ?c1 ?c2 ?c3 ?c4 ?c5 ?_)
        case c1 =>
          intro j u hj
          match j, hj with
          | 0, hj => simp at hj; subst hj; simp [Addr.add]
        case c2 => intro u hu; simp at hu; subst hu; rfl
        case c3 => unfold maxLen; omega
        case c4 => omega
        case c5 => simp; omega
        intro v' w3 hown' hgrow _
        have hB3 : Below w.heap.size w2 w3 := ((Below.refl w.heap.size w2).alloc hbs _).grown hgrow (by simp; omega) (fun k hk => (hown.lt k hk).1)
        have HF := Lib.hid (DivR.snoc (p := p) hdk HB.out HR2.out (by omega) HQ2.out HG2.out hB3 hown')
        clear hown hown' hgrow hB3 hbs HR2 HQ2
        go_wp2
        go_roundw
        case rel => exact ⟨k + 1, by go_num, by omega, HF⟩
        case measure => simp [intOf]; omega
      · subst hv
        go_wp2_with fail
        refine Calls.mono (pickG_any _ B a len cap q 2 r (by omega) (by omega)) ?_
        rintro e w2 ⟨⟨y, rfl, y0, y4, r2, k2, f2, s2, q2⟩, g2⟩
        have hown : w2.ownsRow w.heap.size 3 1 _ _ _ := hI.picked g2 hB
        have HQ2 := Lib.hid (hQ.trans q2)
        have HG2 := Lib.hid (grown_trans hG g2)
        have hbs : w.heap.size ≤ w2.heap.size := HQ2.out.size
        have HR2 := Lib.hid r2
        rw [hdk] at hown
        clear k2 f2 s2 q2 g2 hI r hQ r2 hG
        go_wp2_with (at_builtin; refine wpList_append_own _ rfl _ _ 23 rfl w.heap.size 3 i0 (.int .i64 0) 1 8 Tryd.underlying23 hi hz0 hz1 hz2 rfl (by decide) _ _ _ rfl (hown.alloc _) ⟨w2.heap.size, 0, none⟩ 1 1 [.int .i64 (2 + y)] rfl rfl ?c1 ?c2 ?c3 ?c4 ?c5 ?_)
        case c1 =>
          intro j u hj
          match j, hj with
          | 0, hj => simp at hj; subst hj; simp [Addr.add]
        case c2 => intro u hu; simp at hu; subst hu; rfl
        case c3 => unfold maxLen; omega
        case c4 => omega
        case c5 => simp; omega
        intro v' w3 hown' hgrow _
        have hB3 : Below w.heap.size w2 w3 := ((Below.refl w.heap.size w2).alloc hbs _).grown hgrow (by simp; omega) (fun k hk => (hown.lt k hk).1)
        have HF := Lib.hid (DivR.snoc (p := p) hdk HB.out HR2.out (by omega) HQ2.out HG2.out hB3 hown')
        clear hown hown' hgrow hB3 hbs HR2 HQ2
        go_wp2
        go_roundw
        case rel => exact ⟨k + 1, by go_num, by omega, HF⟩
        case measure => simp [intOf]; omega
      · have hown : wr.ownsRow w.heap.size 3 1 _ _ _ := hI
        have HQ2 := Lib.hid hQ
        have HG2 := Lib.hid hG
        have hbs : w.heap.size ≤ wr.heap.size := HQ2.out.size
        have HR2 := Lib.hid r
        rw [hdk] at hown
        clear hI r hQ hG
        go_wp2_with (at_builtin; refine wpList_append_own _ rfl _ _ 23 rfl w.heap.size 3 i0 (.int .i64 0) 1 8 Tryd.underlying23 hi hz0 hz1 hz2 rfl (by decide) _ _ _ rfl (hown.alloc _) ⟨wr.heap.size, 0, none⟩ 1 1 [.int .i64 1] rfl rfl ?c1 ?c2 ?c3 ?c4 ?c5 ?_)
        case c1 =>
          intro j u hj
          match j, hj with
          | 0, hj => simp at hj; subst hj; simp [Addr.add]
        case c2 => intro u hu; simp at hu; subst hu; rfl
        case c3 => unfold maxLen; omega
        case c4 => omega
        case c5 => simp; omega
        intro v' w3 hown' hgrow _
        have hB3 : Below w.heap.size wr w3 := ((Below.refl w.heap.size wr).alloc hbs _).grown hgrow (by simp; omega) (fun k hk => (hown.lt k hk).1)
        have HF := Lib.hid (DivR.snoc (p := p) hdk HB.out HR2.out (by omega) HQ2.out HG2.out hB3 hown')
        clear hown hown' hgrow hB3 hbs HR2 HQ2
        go_wp2
        go_roundw
        case rel => exact ⟨k + 1, by go_num, by omega, HF⟩
        case measure => simp [intOf]; omega
    · obtain rfl : k = n := by omega
      rcases hI.form with ⟨h0, _⟩ | ⟨_, g, c, rfl, hgb, hgs, hlc⟩
      · rw [h0] at hdk; simp at hdk; omega
      · have hi2 : ¬ (k : Int) < (k : Int) := by omega
        have j0 : (0 : Int) < (d.length : Int) := by omega
        go_wp2_with fail
        refine Calls.mono (pickG_any _ B a len cap q 24 r (by omega) (by omega)) ?_
        rintro e w2 ⟨⟨y, rfl, y0, y4, r2, k2, f2, s2, q2⟩, g2⟩
        have hI2 := hI.picked g2 hB
        have hQ2 := hQ.trans q2
        have hG2 := grown_trans hG g2
        clear k2 f2 s2 q2 g2 hI r hQ hG
        by_cases hv : y = 0
        · subst hv
          go_wp2_with fail
          refine Calls.mono (pickG_any _ B a len cap (q + 1) 2 r2 (by omega) (by omega)) ?_
          rintro e w3 ⟨⟨z, rfl, z0, z4, r3, k3, f3, s3, q3⟩, g3⟩
          have hI3 := hI2.picked g3 hB
          have hQ3 := hQ2.trans q3
          have HG3 := Lib.hid (grown_then (grown_trans hG2 g3) ((Below.refl w.heap.size w3).setCell (p := ⟨g, 0, none⟩) hgb (.int .i64 (100 + z))))
          have hO : w3.ownsRow w.heap.size 3 1 (.slice (some ⟨g, 0, none⟩) d.length c) d.length (intsV d) := hI3
          have hst := hO.stored 0 (.int .i64 (100 + z))
          have F := World.ownsRow.frozenAt hO 0
          have hc := World.ownsRow.cellAt hO 0 (by omega)
          obtain ⟨u, hu⟩ : ∃ u, (intsV d)[0]? = some u := ⟨_, List.getElem?_eq_getElem (by have := hO.1; omega)⟩
          rw [hu] at hc
          have HS : Hid (Ints (w3.setCell ⟨g, 0, none⟩ (.int .i64 (100 + z))) w.heap.size (.slice (some ⟨g, 0, none⟩) d.length c) (d.set 0 (100 + z))) := by
            have : (intsV d).set 0 (.int .i64 (100 + z)) = intsV (d.set 0 (100 + z)) := by simp [intsV, List.map_set]
            rw [this] at hst
            exact Ints.as (by simp) hst.1
          have HR3 := Lib.hid (r3.below ((Below.refl (B + 1) w3).setCell (p := ⟨g, 0, none⟩) (by show B + 1 ≤ g; have := HB.out; omega) (.int .i64 (100 + z))))
          have HQ3 := Lib.hid (hQ3.setCell (p := ⟨g, 0, none⟩) (by show B ≤ g; have := HB.out; omega) (.int .i64 (100 + z)))
          have HDk : Hid ((d.set 0 (100 + z)).length = k) := by show _ = _; simp [hdk]
          have hq4 : q + 1 + 1 ≤ p + 3 + k := by omega
          have hS2 := HS.out
          rw [hdk] at hS2
          have HS2 := Lib.hid hS2
          have hd0 : 0 < d.length := by omega
          clear hS2
          clear k3 f3 s3 q3 g3 hI2 hI3 hQ2 hQ3 hO hst hu r2 r3 hdk hG2
          go_wp2
          go_returns
          exact ⟨_, _, q + 1 + 1, rfl, HS2.out, HDk.out, HR3.out, hq4, HQ3.out, HG3.out⟩
        · have hv' : (y == 0) = false := by simpa using hv
          rw [hdk] at hI2
          have HI2 := Lib.hid hI2
          have HD := Lib.hid hdk
          clear hI2 hdk
          go_wp2
          go_returns
          exact ⟨_, d, q + 1, rfl, HI2.out, HD.out, r2, by omega, hQ2, hG2⟩
/-- a list of vectors and as many numbers, in new memory -/
def GivenD (w : World) (e : Ending) (w' : World) : Prop :=
  ∃ (v u : Value) (l : List V2) (d : List Int), e = .returned (.tuple #[v, u]) ∧ ReadsVecs w' v l ∧ ReadsInts w' u d ∧ 2 ≤ l.length ∧ l.length ≤ 20 ∧ d.length = l.length ∧ Below w.heap.size w w'
set_option maxHeartbeats 4000000 in
theorem l92Given_any (w : World) (a : Option Addr) (len cap : Nat) (h : Bytes w a len cap) :
    Calls Tryd.prog 46 #[.slice a len cap] w (GivenD w) := by
  have HO := Lib.hid (l6Open_any w a len cap h)
  clear h
  go_enter Tryd.func46, Tryd.ntmps46
  go_wp2_with fail
  refine Calls.mono HO.out ?_
  rintro e w1 ⟨l1, c1, rfl, r1, hb1, hs1⟩
  go_wp2_with fail
  refine Calls.mono (l91Smooth_any w1 w.heap.size a l1 c1 0 r1 (by omega)) ?_
  rintro e w2 ⟨v, l, q, rfl, hV, h2, h20, r2, hq, hb2⟩
  have hB2 := hb1.trans hb2
  obtain ⟨bb, off, c, rfl, hc, hbb, hbs, hcs⟩ := hV.open (by omega)
  clear hcs hb2 hb1 r1
  go_wp2_with fail
  refine Calls.mono (l92Divisor_any w2 w.heap.size a l1 c1 q _ l.length c r2 (by omega) (by omega) (by omega)) ?_
  rintro e w3 ⟨u, d, q3, rfl, hI, hd, r3, hq3, hb3, hG3⟩
  have hV3 := hV.picked hG3 (by omega)
  have HR := Lib.hid hV3.1
  have HI := Lib.hid (hI.reads (by omega))
  have HD := Lib.hid hd
  have hB := hB2.trans hb3
  clear hV hV3 hI hb3 hG3 hB2 r2 r3 hd
  go_wp2
  go_returns
  exact ⟨_, _, l, d, rfl, HR.out, HI.out, h2, h20, HD.out, hB⟩
end Go.Proofs.YtmencjdlfeojkaaDoor
