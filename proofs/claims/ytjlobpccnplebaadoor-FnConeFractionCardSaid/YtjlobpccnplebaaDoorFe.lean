/- The value of a fraction: the program's method. -/
import Derived.Test.YtjlobpccnplebaaDoorFd
import Derived.RangeFuncBox
namespace Go.Proofs.YtjlobpccnplebaaDoor
open Go.RowKit Go.Shelf

attribute [local go_sem] Oper.semAt_some

theorem check_good (v : Value) (l : List Int) (w : World) (h : ReadsInts w v l) (hl : lstB l = true) :
    Calls Tryd.prog 93 #[v] w fun e w' => e = .returned .nilIface ∧ Below w.heap.size w w' := by
  refine (fracCheck_any v l w h).mono ?_
  rintro e w' ⟨h1 | h1, hb⟩
  · exact ⟨h1.2, hb⟩
  · rw [hl] at h1; cases h1.1
theorem check_bad (v : Value) (l : List Int) (w : World) (h : ReadsInts w v l) (hl : lstB l = false) :
    Calls Tryd.prog 93 #[v] w fun e w' => IsNone e ∧ Below w.heap.size w w' := by
  refine (fracCheck_any v l w h).mono ?_
  rintro e w' ⟨h1 | h1, hb⟩
  · rw [hl] at h1; cases h1.1
  · exact ⟨h1.2, hb⟩
theorem boxed_under {W W' : World} {B : Nat} {t : TypeId} {v : Value} (h : Boxed W B t v) (hb : Below W.heap.size W W') : Boxed W' B t v := h.kept (grown_of_below hb none) (by simp)
/-- what has come, turned over: an end of the list -/
def cameL (pre : List Elem) : List Int := (pre.map (·.1.2)).reverse
theorem came_snoc (pre : List Elem) (x : Elem) : cameL (pre ++ [x]) = x.1.2 :: cameL pre := by simp [cameL]
theorem came_upto (l : List Int) (h : ∀ b ∈ l, rngB b = true) {k : Nat} (hk : k ≤ l.length) : cameL (upTo (elemAt l h) k) = l.drop (l.length - k) := by
  induction k with
  | zero => simp [cameL, upTo]
  | succ k ih =>
    rw [upTo_succ, came_snoc, ih (by omega), elemAt_fst (by omega), drop_get (j := l.length - (k + 1)) (by omega)]
    rw [show l.length - (k + 1) = l.length - 1 - k by omega, show l.length - 1 - k + 1 = l.length - k by omega]

theorem came_rng (pre : List Elem) : twoUp (cameL pre) := by
  intro b hb
  simp [cameL] at hb
  obtain ⟨y, h1, _⟩ := hb
  exact (rngB_in (by assumption)).1
theorem mul_hundred {b n : Int} (hb : 2 ≤ b ∧ b ≤ 100) (hn : 1 ≤ n ∧ n ≤ 1000000000) : 2 * n ≤ b * n ∧ b * n ≤ 100000000000 := by
  have h1 : 2 * n ≤ b * n := Int.mul_le_mul_of_nonneg_right hb.1 (by omega)
  have h2 : b * n ≤ 100 * n := Int.mul_le_mul_of_nonneg_right hb.2 (by omega)
  omega
def ValuePost (w : World) (l : List Int) (e : Ending) (w' : World) : Prop :=
  ((valB l = true ∧ e = .returned (.tuple #[.int .i64 (contN l), .int .i64 (contQ l), .nilIface])) ∨ (valB l = false ∧ ∃ s : ByteArray, e = .returned (.tuple #[.int .i64 0, .int .i64 0, .iface 93 (.agg #[.string s])]))) ∧ Below w.heap.size w w'
set_option maxRecDepth 100000 in
set_option maxHeartbeats 4000000 in
theorem value_bad (v : Value) (l : List Int) (w : World) (h : ReadsInts w v l) (hl : lstB l = false) :
    Calls Tryd.prog 71 #[v] w (ValuePost w l) := by
  have HC := Lib.hid (fun w' h' => check_bad v l w' h' hl)
  have HV := Lib.hid (val_no hl)
  have HH := Lib.hid h
  obtain ⟨a, c, rfl, _, _⟩ := h
  go_enter Tryd.func71, Tryd.ntmps71
  go_wp2_with fail
  go_call (HC.out _ (HH.out.below (by go_grown))) as e w1 ⟨⟨s, rfl⟩, hb1⟩
  have B2 := boxed_under (((Boxed.new w 3 (.int .i64 0)).alloc _).alloc _) hb1
  have B3 := boxed_under ((Boxed.new (w.alloc (.cells #[.int .i64 0] 3)) 3 (.int .i64 0)).alloc _) hb1
  have B4 := boxed_under (Boxed.new ((w.alloc (.cells #[.int .i64 0] 3)).alloc (.cells #[.int .i64 0] 3)) 62 .nilIface) hb1
  simp only [World.size_alloc] at B3 B4
  have c2 := B2.cell
  have f2 := B2.frozen
  have c3 := B3.cell
  have f3 := B3.frozen
  have c4 := B4.cell
  have f4 := B4.frozen
  have hB : Below w.heap.size w w1 := belowTo (by go_grown) hb1
  have hS := B4.lt
  clear hb1 B2 B3 B4
  go_wp2
  refine bodyPost_ret (by simp [results, Tryd.results71, go_sem, *]; try rfl) rfl ?_
  exact ⟨.inr ⟨HV.out, _, rfl⟩, by go_grown⟩
theorem boxed_row {X Y : World} {row : Option Nat} {B : Nat} {t : TypeId} {v : Value} (h : Boxed X B t v) (hg : X.grownBy Y row) (hr : ∀ r, row = some r → ∃ o : Obj, X.heap[r]? = some o ∧ o.isCells = false) : Boxed Y B t v := boxed_own B t (fun _ : Unit => v) () X Y row h hg hr
/-- between two rounds: what the variables hold -/
def ValI (w w1 : World) (pre : List Elem) (W : World) : Prop :=
  (Boxed W w1.heap.size 3 (.int .i64 (contN (cameL pre))) ∧ Boxed W (w1.heap.size + 1) 3 (.int .i64 (contQ (cameL pre))) ∧ Boxed W w.heap.size 3 (.int .i64 0) ∧ Boxed W (w.heap.size + 1) 3 (.int .i64 0) ∧ Boxed W (w.heap.size + 1 + 1) 62 .nilIface ∧ contN (cameL pre) ≤ 1000000000) ∧ Below w.heap.size w W
/-- a round has left: the number was too great -/
def ValX (w : World) (c : Code) (pre : List Elem) (W : World) : Prop :=
  (c = .ret ∧ 1000000000 < contN (cameL pre) ∧ ∃ s : ByteArray, Boxed W w.heap.size 3 (.int .i64 0) ∧ Boxed W (w.heap.size + 1) 3 (.int .i64 0) ∧ Boxed W (w.heap.size + 1 + 1) 62 (.iface 93 (.agg #[.string s]))) ∧ Below w.heap.size w W
theorem valI_own (w w1 : World) (B : Nat) (h : w.heap.size ≤ B) : OwnFrom B (ValI w w1) := by
  rintro s X Y row ⟨⟨h1, h2, h3, h4, h5, h6⟩, hB⟩ hg hr
  have hr' := fun r e => (hr r e).2
  exact ⟨⟨boxed_row h1 hg hr', boxed_row h2 hg hr', boxed_row h3 hg hr', boxed_row h4 hg hr', boxed_row h5 hg hr', h6⟩, ownFrom_below (β := Unit) (Nat.le_refl _) h () X Y row hB hg hr⟩
theorem valX_own (w : World) (c : Code) (B : Nat) (h : w.heap.size ≤ B) : OwnFrom B (ValX w c) := by
  rintro s X Y row ⟨⟨h1, h2, z, h3, h4, h5⟩, hB⟩ hg hr
  have hr' := fun r e => (hr r e).2
  exact ⟨⟨h1, h2, z, boxed_row h3 hg hr', boxed_row h4 hg hr', boxed_row h5 hg hr'⟩, ownFrom_below (β := Unit) (Nat.le_refl _) h () X Y row hB hg hr⟩

set_option maxRecDepth 100000 in
set_option maxHeartbeats 4000000 in
theorem value_good (bb off len cap : Nat) (l : List Int) (w : World) (hlen : len = l.length) (hbb : bb < w.heap.size) (hcell : ∀ j, j < len → w.cell? ⟨bb, off + j, none⟩ = some (.int .i64 (l[j]?.getD 0))) (h : ReadsInts w (.slice (some ⟨bb, off, none⟩) len cap) l) (hl : lstB l = true) (n : Nat) (hn : 3 ≤ n) :
    CallsIn Fence.wide n Tryd.prog 71 #[.slice (some ⟨bb, off, none⟩) len cap] w (ValuePost w l) := by
  obtain ⟨hl1, hr⟩ := lst_in hl
  have h20 := len_in hl1
  have h1 : 1 ≤ n := by omega
  have HC := Lib.hid (fun w' h' => check_good (.slice (some ⟨bb, off, none⟩) len cap) l w' h' hl)
  have HH := Lib.hid h
  have HLn := Lib.hid hlen
  have HCell := Lib.hid hcell
  have hreach : len * 8 ≤ 140737488351232 := by omega
  have HL := Lib.hid hl
  clear hlen h hl1 h20 hl hcell
  refine callsIn_of_wp_marks Tryd.func71 rfl trivial ?_ rfl
  simp only [Tryd.ntmps71, List.size_toArray, List.length_cons, List.length_nil, Nat.reduceAdd, Nat.reduceSub, Array.replicate_succ, Array.replicate_zero, List.push_toArray, List.append_toArray, List.nil_append, List.cons_append]
  gi_wp2_with fail
  refine ⟨trivial, ?_⟩
  refine CallsIn.mono (callsIn_wide.2 (HC.out _ (HH.out.below (by go_grown)))) ?_
  rintro e w1 ⟨rfl, hb1⟩
  have B2 := boxed_under (((Boxed.new w 3 (.int .i64 0)).alloc _).alloc _) hb1
  have B3 := boxed_under ((Boxed.new (w.alloc (.cells #[.int .i64 0] 3)) 3 (.int .i64 0)).alloc _) hb1
  have B4 := boxed_under (Boxed.new ((w.alloc (.cells #[.int .i64 0] 3)).alloc (.cells #[.int .i64 0] 3)) 62 .nilIface) hb1
  simp only [World.size_alloc] at B3 B4
  have hA : Below w.heap.size w w1 := belowTo (by go_grown) hb1
  have hAs := hA.size
  have hs4 := B4.lt
  clear hb1
  gi_wp2_with fail
  refine ⟨trivial, ?_⟩
  refine CallsIn.mono (back_in Fence.wide (n - 1) trivial rfl _ _ _ _) ?_
  rintro e w2 ⟨rfl, rfl⟩
  gi_wp2_with fail
  have b6 := ((Boxed.new w1 3 (.int .i64 1)).alloc (.cells #[.int .i64 0] 3)).alloc (.cells #[.slice (some ⟨bb, off, none⟩) len cap] 78)
  have b7 := (Boxed.new (w1.alloc (.cells #[.int .i64 1] 3)) 3 (.int .i64 0)).alloc (.cells #[.slice (some ⟨bb, off, none⟩) len cap] 78)
  have bS := Boxed.new ((w1.alloc (.cells #[.int .i64 1] 3)).alloc (.cells #[.int .i64 0] 3)) 78 (.slice (some ⟨bb, off, none⟩) len cap)
  have r2 := ((B2.alloc (.cells #[.int .i64 1] 3)).alloc (.cells #[.int .i64 0] 3)).alloc (.cells #[.slice (some ⟨bb, off, none⟩) len cap] 78)
  have r3 := ((B3.alloc (.cells #[.int .i64 1] 3)).alloc (.cells #[.int .i64 0] 3)).alloc (.cells #[.slice (some ⟨bb, off, none⟩) len cap] 78)
  have r4 := ((B4.alloc (.cells #[.int .i64 1] 3)).alloc (.cells #[.int .i64 0] 3)).alloc (.cells #[.slice (some ⟨bb, off, none⟩) len cap] 78)
  have hA5 : Below w.heap.size w (((w1.alloc (.cells #[.int .i64 1] 3)).alloc (.cells #[.int .i64 0] 3)).alloc (.cells #[.slice (some ⟨bb, off, none⟩) len cap] 78)) := by go_grown
  have hz5 : (((w1.alloc (.cells #[.int .i64 1] 3)).alloc (.cells #[.int .i64 0] 3)).alloc (.cells #[.slice (some ⟨bb, off, none⟩) len cap] 78)).heap.size = w1.heap.size + 1 + 1 + 1 := by simp
  simp only [World.size_alloc] at b7 bS
  generalize ((w1.alloc (.cells #[.int .i64 1] 3)).alloc (.cells #[.int .i64 0] 3)).alloc (.cells #[.slice (some ⟨bb, off, none⟩) len cap] 78) = W5 at *
  clear B2 B3 B4 HC HH
  refine wpIn_rangeFunc_ownG rfl h1 (gf := 102) (lb := #[.pointer (some ⟨w1.heap.size + 1 + 1, 0, none⟩)]) rfl trivial (enters_of Tryd.func102 (by kernel_rfl) rfl)
    (back_stops Fence.wide (n - 1) trivial rfl (by omega) (w1.heap.size + 1 + 1) w.heap.size bb off len cap l hr HLn.out hreach hbb W5 bS.lt hA5.size bS.cell (fun j hj => (hA5.cell (p := ⟨bb, off + j, none⟩) hbb).trans (HCell.out j hj)))
    KeepBox.trans (KeepBox.put hA5.size) (Below.refl _ _) (fun _ => rfl)
    (ValI w w1) (ValX w) (valI_own w w1 _ hA5.size) (fun c => valX_own w c _ hA5.size) ⟨⟨b6, b7, r2, r3, r4, by decide⟩, hA5⟩
    (fun x => { tmps := #[.slice (some ⟨bb, off, none⟩) len cap, undef, .pointer (some ⟨w.heap.size, 0, none⟩), .pointer (some ⟨w.heap.size + 1, 0, none⟩), .pointer (some ⟨w.heap.size + 1 + 1, 0, none⟩), .nilIface, .pointer (some ⟨w1.heap.size, 0, none⟩), .pointer (some ⟨w1.heap.size + 1, 0, none⟩), undef, .int .i64 x.1.2, .slice (some ⟨bb, off, none⟩) len cap, .nilIface, .nilIface, .bool false, undef, .slice (some ⟨bb, off, none⟩) len cap, .func (.func 102) #[] #[.pointer (some ⟨w1.heap.size + 1 + 1, 0, none⟩)], .int .i64 (x.1.1 : Int), .int .i64 x.1.2, undef, undef, undef, undef, undef, undef, undef, undef, undef, undef, undef, undef], defers := [] }) ?assign ?body ?done ?stop
  case assign =>
    intro l' x W K hK
    gi_wp2
    exact hK
  case body =>
    rintro l' pre x W ⟨⟨c6, c7, c2, c3, c4, hle⟩, hB⟩ _
    obtain ⟨hx0, hx1⟩ := rngB_in x.2
    obtain ⟨hq0, hq1⟩ := cont_lt (came_rng pre)
    have hN : contN (cameL (pre ++ [x])) = x.1.2 * contN (cameL pre) - contQ (cameL pre) := by rw [came_snoc, contN_cons]
    have hQ : contQ (cameL (pre ++ [x])) = contN (cameL pre) := by rw [came_snoc]; rfl
    obtain ⟨m0, m1⟩ := mul_hundred (b := x.1.2) (n := contN (cameL pre)) ⟨hx0, hx1⟩ ⟨by omega, hle⟩
    have HN := Lib.hid hN
    have HQ := Lib.hid hQ
    clear hN hQ
    have k6 := c6.cell
    have f6 := c6.frozen
    have k7 := c7.cell
    have f7 := c7.frozen
    have k2 := c2.cell
    have f2 := c2.frozen
    have k3 := c3.cell
    have f3 := c3.frozen
    have k4 := c4.cell
    have f4 := c4.frozen
    generalize contN (cameL pre) = N at *
    generalize contQ (cameL pre) = Q at *
    by_cases hgt : 1000000000 < x.1.2 * N - Q
    · gi_wp2
      exact ⟨(((((KeepsOthers.setCell _ _ _).trans (KeepsOthers.setCell _ _ _)).trans (KeepsOthers.setCell _ _ _)).trans (KeepsOthers.setCell _ _ _)).trans (KeepsOthers.setCell _ _ _)).from _, ⟨rfl, by rw [HN.out]; exact hgt, _, ((((c2.other (by omega) _).other (by omega) _).set _).other (by omega) _).other (by omega) _, ((((c3.other (by omega) _).other (by omega) _).other (by omega) _).set _).other (by omega) _, ((((c4.other (by omega) _).other (by omega) _).other (by omega) _).other (by omega) _).set _⟩, ((((hB.setCell (p := ⟨w1.heap.size, 0, none⟩) (show w.heap.size ≤ w1.heap.size by omega) _).setCell (p := ⟨w1.heap.size + 1, 0, none⟩) (show w.heap.size ≤ w1.heap.size + 1 by omega) _).setCell (p := ⟨w.heap.size, 0, none⟩) (show w.heap.size ≤ w.heap.size by omega) _).setCell (p := ⟨w.heap.size + 1, 0, none⟩) (show w.heap.size ≤ w.heap.size + 1 by omega) _).setCell (p := ⟨w.heap.size + 1 + 1, 0, none⟩) (show w.heap.size ≤ w.heap.size + 1 + 1 by omega) _⟩
    · gi_wp2
      exact ⟨((KeepsOthers.setCell _ _ _).trans (KeepsOthers.setCell _ _ _)).from _, ((KeepBox.refl _ _ _).set _ hAs (by omega)).set _ (by omega) (by omega), ⟨by rw [HN.out]; exact (c6.set _).other (by omega) _, by rw [HQ.out]; exact (c7.other (by omega) _).set _, (c2.other (by omega) _).other (by omega) _, (c3.other (by omega) _).other (by omega) _, (c4.other (by omega) _).other (by omega) _, by rw [HN.out]; omega⟩, (hB.setCell (p := ⟨w1.heap.size, 0, none⟩) (show w.heap.size ≤ w1.heap.size by omega) _).setCell (p := ⟨w1.heap.size + 1, 0, none⟩) (show w.heap.size ≤ w1.heap.size + 1 by omega) _⟩
  case done =>
    rintro D ys W hD rfl ⟨⟨c6, c7, c2, c3, c4, hle⟩, hB⟩ hK
    have hcm : cameL (upTo (elemAt l hr) len) = l := by
      rw [came_upto l hr (by have := HLn.out; omega), HLn.out, Nat.sub_self, List.drop_zero]
    rw [hcm] at c6 c7 hle
    have HV : Hid (valB l = true) := by
      show valB l = true
      unfold valB
      rw [HL.out]
      simpa using hle
    have k6 := c6.cell
    have f6 := c6.frozen
    have k7 := c7.cell
    have f7 := c7.frozen
    have k2 := c2.cell
    have f2 := c2.frozen
    have k3 := c3.cell
    have f3 := c3.frozen
    have k4 := c4.cell
    have f4 := c4.frozen
    gi_wp2
    gi_region
    gi_wp2
    have hK' := ((((KeepsOthers.setCell W ⟨w.heap.size, 0, none⟩ (.int .i64 (contN l))).trans (KeepsOthers.setCell _ ⟨w.heap.size + 1, 0, none⟩ (.int .i64 (contQ l)))).trans (KeepsOthers.setCell _ ⟨w.heap.size + 1 + 1, 0, none⟩ .nilIface)).trans (KeepsOthers.drew _)).same D _ hK rfl
    have d2 : Boxed (((W.setCell ⟨w.heap.size, 0, none⟩ (.int .i64 (contN l))).setCell ⟨w.heap.size + 1, 0, none⟩ (.int .i64 (contQ l))).setCell ⟨w.heap.size + 1 + 1, 0, none⟩ .nilIface).drew w.heap.size 3 (.int .i64 (contN l)) := ((c2.set _).other (by omega) _).other (by omega) _
    have d3 : Boxed (((W.setCell ⟨w.heap.size, 0, none⟩ (.int .i64 (contN l))).setCell ⟨w.heap.size + 1, 0, none⟩ (.int .i64 (contQ l))).setCell ⟨w.heap.size + 1 + 1, 0, none⟩ .nilIface).drew (w.heap.size + 1) 3 (.int .i64 (contQ l)) := ((c3.other (by omega) _).set _).other (by omega) _
    have d4 : Boxed (((W.setCell ⟨w.heap.size, 0, none⟩ (.int .i64 (contN l))).setCell ⟨w.heap.size + 1, 0, none⟩ (.int .i64 (contQ l))).setCell ⟨w.heap.size + 1 + 1, 0, none⟩ .nilIface).drew (w.heap.size + 1 + 1) 62 .nilIface := ((c4.other (by omega) _).other (by omega) _).set _
    have hB' : Below w.heap.size w (((W.setCell ⟨w.heap.size, 0, none⟩ (.int .i64 (contN l))).setCell ⟨w.heap.size + 1, 0, none⟩ (.int .i64 (contQ l))).setCell ⟨w.heap.size + 1 + 1, 0, none⟩ .nilIface).drew := (((hB.setCell (p := ⟨w.heap.size, 0, none⟩) (Nat.le_refl _) _).setCell (p := ⟨w.heap.size + 1, 0, none⟩) (show w.heap.size ≤ w.heap.size + 1 by omega) _).setCell (p := ⟨w.heap.size + 1 + 1, 0, none⟩) (show w.heap.size ≤ w.heap.size + 1 + 1 by omega) _).drew
    refine ⟨by simp, .inl ⟨_, _, rfl, run_takeDeferred hK', ?_⟩⟩
    have j2 := cell_kept d2.cell (grownBy_putObj' _ D (.deferred none)) (fun r e => by cases e; exact ⟨_, hK', rfl⟩)
    have j3 := cell_kept d3.cell (grownBy_putObj' _ D (.deferred none)) (fun r e => by cases e; exact ⟨_, hK', rfl⟩)
    have j4 := cell_kept d4.cell (grownBy_putObj' _ D (.deferred none)) (fun r e => by cases e; exact ⟨_, hK', rfl⟩)
    refine ⟨.tuple #[.int .i64 (contN l), .int .i64 (contQ l), .nilIface], ?_, .inl ⟨HV.out, rfl⟩, hB'.trans (belowK_b (w := w) (Nat.le_refl _) _ D _ _ (by omega) hK' rfl rfl)⟩
    simp [results, Tryd.f71, go_sem, j2, j3, j4]
  case stop =>
    rintro D c pre W hD ⟨k, hk, rfl⟩ ⟨⟨rfl, hgt, s, c2, c3, c4⟩, hB⟩ hK
    have HV : Hid (valB l = false) := by
      show valB l = false
      rw [came_upto l hr (by have := HLn.out; omega)] at hgt
      have e := List.take_append_drop (l.length - k) l
      have := val_great (m := l.take (l.length - k)) (s := l.drop (l.length - k)) (by rw [e]; exact hr) hgt
      rwa [e] at this
    clear hgt
    have k2 := c2.cell
    have k3 := c3.cell
    have k4 := c4.cell
    gi_wp2
    refine ⟨by simp, .inl ⟨_, _, rfl, run_takeDeferred hK, ?_⟩⟩
    have j2 := cell_kept k2 (grownBy_putObj' _ D (.deferred none)) (fun r e => by cases e; exact ⟨_, hK, rfl⟩)
    have j3 := cell_kept k3 (grownBy_putObj' _ D (.deferred none)) (fun r e => by cases e; exact ⟨_, hK, rfl⟩)
    have j4 := cell_kept k4 (grownBy_putObj' _ D (.deferred none)) (fun r e => by cases e; exact ⟨_, hK, rfl⟩)
    refine ⟨.tuple #[.int .i64 0, .int .i64 0, .iface 93 (.agg #[.string s])], ?_, .inr ⟨HV.out, s, rfl⟩, hB.trans (belowK_b (w := w) (Nat.le_refl _) W D _ _ (by omega) hK rfl rfl)⟩
    simp [results, Tryd.f71, go_sem, j2, j3, j4]
end Go.Proofs.YtjlobpccnplebaaDoor
