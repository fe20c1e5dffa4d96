/- The draws of chapter 2: two numbers; a list of numbers. -/
import Derived.Test.YtncjidkgbfilkabDoorDd
import Derived.Test.YtncjidkgbfilkabDoorSc
import Derived.Test.YtncjidkgbfilkabDoorFb
namespace Go.Proofs.YtncjidkgbfilkabDoor
open Go.RowKit

theorem pickG_any (w : World) (B : Nat) (a : Option Addr) (len cap : Nat) (p n : Int) (h : Reads w B a len cap p) (hn : 1 ≤ n) (hp : p ≤ 100000) :
    Calls Tryd.prog 46 #[.pointer (some ⟨B, 0, none⟩), .int .i64 n] w fun e w' => Pick w B a len cap p n e w' ∧ w.grownBy w' (some B) := by
  have key : Calls Tryd.prog 46 #[.pointer (some ⟨B, 0, none⟩), .int .i64 n] w (Picked n p B w) := by
    obtain ⟨h1, h2, h3, h4, h5, h6⟩ := h
    rcases h1 with rfl | ⟨bb, off, D, rfl, hl1, hl, hbb, hD⟩
    · exact pick_none a cap B n p w hn ⟨h6, hp⟩ h2 h3 h4
    · obtain ⟨q, rfl⟩ := Int.eq_ofNat_of_zero_le h6
      by_cases hq : q < len
      · exact pick_low bb off len cap D B n q w hn hl hq h2 h3 h4 (hD q hq).1 (hD q hq).2 (Nat.ne_of_lt hbb)
      · exact pick_far bb off len cap D B n q w hn hl hl1 (by omega) (by omega) h2 h3 h4 hD (Nat.ne_of_lt hbb)
  refine key.mono fun e w' hp' => ⟨pick_of h hp', ?_⟩
  obtain ⟨v, k, _, _, _, rfl⟩ := hp'
  refine ⟨rfl, rfl, rfl, by simp, fun i _ hne => ?_⟩
  show ((w.setCell ⟨B, 1, none⟩ (.int .i64 (p + 1))).drewN k).heap[i]? = _
  rw [World.heap_drewN]
  exact Below.heap_setCell w ⟨B, 1, none⟩ _ i (fun e => hne (by rw [e]))
/-- numbers of the call's own are not the reader -/
theorem Ints.picked {w w' : World} {base B : Nat} {v : Value} {l : List Int} (h : Ints w base v l) (hg : w.grownBy w' (some B)) (hB : B < base) : Ints w' base v l :=
  h.far hg (fun k hk e => by have := (h.block k hk).1; cases e; omega)

def FracTwo (w : World) (e : Ending) (w' : World) : Prop := ∃ n q : Int, e = .returned (.tuple #[.int .i64 n, .int .i64 q]) ∧ Below w.heap.size w w'
set_option maxHeartbeats 2000000 in
theorem drawFractionOf_any (w : World) (a : Option Addr) (len cap : Nat) (h : Bytes w a len cap) :
    Calls Tryd.prog 24 #[.slice a len cap] w (FracTwo w) := by
  have HO := Lib.hid (l6Open_any w a len cap h)
  clear h
  go_enter Tryd.func24, Tryd.ntmps24
  go_wp2_with fail
  refine Calls.mono HO.out ?_
  rintro e w1 ⟨l1, c1, rfl, r1, hb1, hs1⟩
  go_wp2_with fail
  refine Calls.mono (pick_any _ _ a l1 c1 0 60 r1 (by omega) (by omega)) ?_
  rintro e w2 ⟨x, rfl, x0, x1, r2, k2, f2, s2, q2⟩
  replace hb1 := hb1.trans q2
  clear k2 f2 s2 q2 r1 hs1
  go_wp2_with fail
  refine Calls.mono (pick_any _ _ a l1 c1 _ 20 r2 (by omega) (by omega)) ?_
  rintro e w3 ⟨y, rfl, y0, y1, r3, k3, f3, s3, q3⟩
  replace hb1 := hb1.trans q3
  clear k3 f3 s3 q3 r2
  have e1 : y.tdiv 19 = y / 19 := Int.tdiv_eq_ediv_of_nonneg y0
  obtain e2 | e2 : y / 19 = 0 ∨ y / 19 = 1 := by omega
  · rw [e2] at e1
    have m1 : 1 + x ≤ 200 := by omega
    have m2 : 1 + x < 200 := by omega
    have m3 : ¬ 200 < 1 + x := by omega
    have m4 : min (1 + x) 200 = 1 + x := by omega
    go_wp2_with fail
    refine Calls.mono (pick_any _ _ a l1 c1 _ _ r3 (by omega) (by omega)) ?_
    rintro e w4 ⟨z, rfl, z0, z1, r4, k4, f4, s4, q4⟩
    replace hb1 := hb1.trans q4
    clear k4 f4 s4 q4 r3 r4
    go_wp2
    go_returns
    exact ⟨_, _, rfl, hb1⟩
  · rw [e2] at e1
    have m1 : ¬ 1 + x + 9950 ≤ 200 := by omega
    have m2 : ¬ 1 + x + 9950 < 200 := by omega
    have m3 : 200 < 1 + x + 9950 := by omega
    have m4 : min (1 + x + 9950) 200 = 200 := by omega
    go_wp2_with fail
    refine Calls.mono (pick_any _ _ a l1 c1 _ _ r3 (by omega) (by omega)) ?_
    rintro e w4 ⟨z, rfl, z0, z1, r4, k4, f4, s4, q4⟩
    replace hb1 := hb1.trans q4
    clear k4 f4 s4 q4 r3 r4
    go_wp2
    go_returns
    exact ⟨_, _, rfl, hb1⟩

def DrewList (w : World) (B : Nat) (e : Ending) (w' : World) : Prop := ∃ (v : Value) (l : List Int), e = .returned v ∧ Ints w' w.heap.size v l ∧ l.length ≤ 4 ∧ Below B w w'
set_option maxHeartbeats 4000000 in
theorem l91List_any (w : World) (B : Nat) (a : Option Addr) (len cap : Nat) (p : Int) (h : Reads w B a len cap p) (hp : p ≤ 90000) :
    Calls Tryd.prog 49 #[.pointer (some ⟨B, 0, none⟩)] w (DrewList w B) := by
  obtain ⟨i0, hi, hz0, hz1, hz2⟩ := info_parts infoInt
  have hB : B < w.heap.size := h.2.2.2.2.1
  have hE := Ints.empty w
  have HE := Lib.hid (fun w' : World => Ints.empty w')
  go_enter Tryd.func49, Tryd.ntmps49
  go_wp2_with fail
  refine Calls.mono (pickG_any _ B a len cap p 4 (h.below (by go_grown)) (by omega) (by omega)) ?_
  rintro e w1 ⟨⟨x, rfl, x0, x4, r1, k1, f1, s1, q1⟩, g1⟩
  have Q1 : Below B w w1 := Below.trans (by go_grown) q1
  have I1 := Lib.hid (hE.picked g1 hB)
  clear k1 f1 s1 q1 h hE g1
  go_wp2
  go_loopw [3, 5] (fun s3 s5 wr => ∃ (k : Nat) (l : List Int) (q : Int), s5 = .int .i64 k ∧ (k : Int) ≤ 1 + x ∧ Hid (Ints wr w.heap.size s3 l) ∧ l.length = k ∧ Reads wr B a len cap q ∧ q ≤ p + 1 + k ∧ Below B w wr) (fun _ s5 _ => (1 + x - intOf s5).toNat)
  case atStart => exact ⟨0, [], p + 1, rfl, by omega, I1, rfl, r1, by omega, Q1⟩
  case round =>
    obtain ⟨k, l, q, rfl, hk, HI, hlk, r, hq, hQ⟩ := hrel
    clear I1 r1 Q1
    by_cases hlt : (k : Int) < 1 + x
    · go_wp2_with fail
      refine Calls.mono (pickG_any _ B a len cap q 4 r (by omega) (by omega)) ?_
      rintro e w2 ⟨⟨y, rfl, y0, y4, r2, k2, f2, s2, q2⟩, g2⟩
      have hown : w2.ownsRow w.heap.size 3 1 _ _ _ := HI.out.picked g2 hB
      have hQ2 := hQ.trans q2
      have hbs := hQ2.size
      have HL := Lib.hid hlk
      have hl4 : l.length ≤ 4 := by omega
      clear k2 f2 s2 q2 g2 HI r hQ
      go_wp2_with (at_builtin; refine wpList_append_own _ rfl _ _ 36 rfl w.heap.size 3 i0 (.int .i64 0) 1 8 Tryd.underlying36 hi hz0 hz1 hz2 rfl (by decide) _ _ _ rfl (hown.alloc _) ⟨w2.heap.size, 0, none⟩ 1 1 [.int .i64 (2 + y)] rfl rfl ?c1 ?c2 ?c3 ?c4 ?c5 ?_)
      case c1 =>
        intro j u hj
        match j, hj with
        | 0, hj => simp at hj; subst hj; simp [Addr.add]
      case c2 => intro u hu; simp at hu; subst hu; rfl
      case c3 => unfold maxLen; omega
      case c4 => omega
      case c5 => simp; omega
      intro v' w3 hown' hgrow _
      have hB3 : Below w.heap.size w2 w3 := ((Below.refl w.heap.size w2).alloc hbs _).grown hgrow (by simp; omega) (fun k hk => (hown.lt k hk).1)
      have r3 := r2.below (hB3.mono (by omega))
      have hQ3 := hQ2.trans (hB3.mono (by omega))
      have H1 : Hid (Ints w3 w.heap.size v' (l ++ [2 + y])) := by
        have : intsV (l ++ [2 + y]) = intsV l ++ [.int .i64 (2 + y)] := by simp [intsV]
        show Ints w3 w.heap.size v' (l ++ [2 + y])
        unfold Ints
        rw [this, List.length_append, HL.out]
        exact hown'
      clear hown hown' hgrow r2 hQ2 hB3 hbs
      go_wp2
      go_roundw
      case rel => exact ⟨k + 1, l ++ [2 + y], q + 1, by go_num, by omega, H1, by simp [HL.out], r3, by omega, hQ3⟩
      case measure => simp [intOf]; omega
    · go_wp2_with fail
      refine Calls.mono (pickG_any _ B a len cap q 24 r (by omega) (by omega)) ?_
      rintro e w2 ⟨⟨y, rfl, y0, y4, r2, k2, f2, s2, q2⟩, g2⟩
      have hI := HI.out.picked g2 hB
      have hQ2 := hQ.trans q2
      have hl4 : l.length ≤ 4 := by omega
      have hl1 : 1 ≤ l.length := by omega
      clear k2 f2 s2 q2 g2 HI r hQ r2
      rcases hI.form with ⟨h0, _⟩ | ⟨_, g, c, rfl, hgb, hgs, hlc⟩
      · rw [h0] at hl1; simp at hl1
      · have hO : w2.ownsRow w.heap.size 3 1 (.slice (some ⟨g, 0, none⟩) l.length c) l.length (intsV l) := hI
        have hst := hO.stored 0 (.int .i64 1)
        have F := World.ownsRow.frozenAt hO 0
        have hc := World.ownsRow.cellAt hO 0 (by omega)
        obtain ⟨u, hu⟩ : ∃ u, (intsV l)[0]? = some u := ⟨_, List.getElem?_eq_getElem (by have := hO.1; omega)⟩
        rw [hu] at hc
        have HS : Hid (Ints (w2.setCell ⟨g, 0, none⟩ (.int .i64 1)) w.heap.size (.slice (some ⟨g, 0, none⟩) l.length c) (l.set 0 1)) := by
          have : (intsV l).set 0 (.int .i64 1) = intsV (l.set 0 1) := by simp [intsV, List.map_set]
          rw [this] at hst
          exact Ints.as (by simp) hst.1
        have HI := Lib.hid hI
        have HL4 := Lib.hid hl4
        have hwg : w.heap.size ≤ g := hgb
        have hQs := hQ2.size
        have HLs : Hid ((l.set 0 1).length ≤ 4) := by show (l.set 0 1).length ≤ 4; simp; exact hl4
        have j0 : (0 : Int) < (l.length : Int) := by omega
        clear hI hO hst hu hgb hlk hlt hl4
        obtain hv | hv | ⟨hv0, hv1⟩ : y = 0 ∨ y = 1 ∨ ((y == 0) = false ∧ (y == 1) = false) := by
          by_cases h0 : y = 0
          · exact .inl h0
          by_cases h1 : y = 1
          · exact .inr (.inl h1)
          · exact .inr (.inr ⟨by simpa using h0, by simpa using h1⟩)
        · subst hv
          go_wp2
          go_returns
          exact ⟨_, _, rfl, HS.out, HLs.out, hQ2.setCell (p := ⟨g, 0, none⟩) (show B ≤ g by omega) _⟩
        · subst hv
          go_wp2
          go_returns
          exact ⟨_, [], rfl, (HE.out _).lower hQs, by simp, by go_grown⟩
        · go_wp2
          go_returns
          exact ⟨_, _, rfl, HI.out, HL4.out, hQ2⟩
def OneList (w : World) (e : Ending) (w' : World) : Prop := ∃ (v : Value) (l : List Int), e = .returned v ∧ Ints w' w.heap.size v l ∧ l.length ≤ 4 ∧ Below w.heap.size w w'
set_option maxHeartbeats 2000000 in
theorem drawFractionValue_any (w : World) (a : Option Addr) (len cap : Nat) (h : Bytes w a len cap) :
    Calls Tryd.prog 29 #[.slice a len cap] w (OneList w) := by
  have HO := Lib.hid (l6Open_any w a len cap h)
  clear h
  go_enter Tryd.func29, Tryd.ntmps29
  go_wp2_with fail
  refine Calls.mono HO.out ?_
  rintro e w1 ⟨l1, c1, rfl, r1, hb1, hs1⟩
  go_wp2_with fail
  refine Calls.mono (l91List_any _ _ a l1 c1 0 r1 (by omega)) ?_
  rintro e w2 ⟨v, l, rfl, hI, hl, hb2⟩
  have HI := Lib.hid (hI.lower hb1.size)
  have HL := Lib.hid hl
  have hB := hb1.trans hb2
  clear hI hl hb1 hb2 r1 hs1
  go_wp2
  go_returns
  exact ⟨_, _, rfl, HI.out, HL.out, hB⟩
set_option maxHeartbeats 2000000 in
theorem drawFractionOther_any (w : World) (a : Option Addr) (len cap : Nat) (h : Bytes w a len cap) :
    Calls Tryd.prog 30 #[.slice a len cap] w (OneList w) := by
  have HO := Lib.hid (l6Open_any w a len cap h)
  clear h
  go_enter Tryd.func30, Tryd.ntmps30
  go_wp2_with fail
  refine Calls.mono HO.out ?_
  rintro e w1 ⟨l1, c1, rfl, r1, hb1, hs1⟩
  go_wp2_with fail
  refine Calls.mono (l91List_any _ _ a l1 c1 0 r1 (by omega)) ?_
  rintro e w2 ⟨v, l, rfl, hI, hl, hb2⟩
  have HI := Lib.hid (hI.lower hb1.size)
  have HL := Lib.hid hl
  have hB := hb1.trans hb2
  clear hI hl hb1 hb2 r1 hs1
  go_wp2
  go_returns
  exact ⟨_, _, rfl, HI.out, HL.out, hB⟩
end Go.Proofs.YtncjidkgbfilkabDoor
