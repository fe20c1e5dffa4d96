import Derived.Test.YtcieihbknfeddabDoorB8
import Derived.Test.YtcieihbknfeddabDoorL4
import Derived.LaidEqlPtr
import Derived.Test.YtcieihbknfeddabDoorB6
import Derived.Test.YtcieihbknfeddabDoorB4
import Derived.Test.YtcieihbknfeddabDoorB3
/- Fans: made tidy. -/
namespace Go.Proofs.YtcieihbknfeddabDoor
open Go.RowKit Go.Shelf

attribute [local go_sem] Oper.semAt_some

def TidyI (w : World) (ns : List Node) (pre : List Nat) (W : World) : Prop :=
  Boxed W w.heap.size 107 (.pointer (some ⟨(cyc ns (tidyAt (rays ns) pre)).1, 0, none⟩)) ∧ Below w.heap.size w W
theorem tidyI_own (w : World) (ns : List Node) {k : Nat} (h : w.heap.size ≤ k) : OwnFrom k (TidyI w ns) :=
  OwnFrom.and (Own.from (boxed_own _ _ (fun pre => .pointer (some ⟨(cyc ns (tidyAt (rays ns) pre)).1, 0, none⟩))) _) (ownFrom_below (Nat.le_refl _) h)
/-- what a method leaves that turns the fan -/
def TurnedEnd (base g : Nat) (ns : List Node) (w : World) (e : Ending) (w' : World) : Prop := (∃ v, e = .returned v) ∧ FanAt w' base g ns ∧ Below base w w'
theorem FanAt.turned {W W' : World} {base g : Nat} {ns : List Node} (h : FanAt W base g ns) (hb : Below W.heap.size W W') {k : Nat} (hk : k < ns.length) : FanAt (W'.setCell ⟨g, 0, none⟩ (.pointer (some ⟨(cyc ns k).1, 0, none⟩))) base g (rot k ns) := by
  have h' := h.below hb
  refine ⟨(h'.ring.same (fun p hp => Below.heap_setCell W' ⟨g, 0, none⟩ _ _ (h.apart p hp))).rot (by omega), ?_, fun p hp => ?_, fun p hp => ?_, h.lowg⟩
  · have := h'.head.set0 (cyc ns k).1
    rw [cyc_rot (by omega), rot_len, Nat.add_zero]
    exact this
  · exact h.apart p (by unfold rot at hp; rcases List.mem_append.1 hp with hp | hp; exact List.mem_of_mem_drop hp; exact List.mem_of_mem_take hp)
  · exact h.low p (by unfold rot at hp; rcases List.mem_append.1 hp with hp | hp; exact List.mem_of_mem_drop hp; exact List.mem_of_mem_take hp)
end Go.Proofs.YtcieihbknfeddabDoor

/- Fans: the link with an index; a ray blown down. -/
namespace Go.Proofs.YtcieihbknfeddabDoor
open Go.RowKit

set_option maxHeartbeats 4000000 in
theorem at_in (base g : Nat) (ns : List Node) (m : Nat) (w : World) (hF : FanAt w base g ns) (hm : ns.length ≤ 1000) (hi : m < ns.length) :
    Calls Tryd.prog 132 #[.pointer (some ⟨g, 0, none⟩), .int .i64 m] w fun e w' => e = .returned (.pointer (some ⟨(cyc ns m).1, 0, none⟩)) ∧ w = w' := by
  have q0 := hF.head.c0
  have q1 := hF.head.c1
  have q2 := hF.head.lt
  have HL := Lib.hid (fun k => (hF.ring.link k).c3)
  have j1 : ¬ (m : Int) < 0 := by omega
  have j2 : (m : Int) < (ns.length : Int) := by omega
  have j3 : ¬ (ns.length : Int) ≤ (m : Int) := by omega
  have j4 : m ≤ 1000 := by omega
  go_enter Tryd.func132, Tryd.ntmps132
  go_wp2
  go_loop [5, 21] (fun p c => ∃ k : Nat, p = .pointer (some ⟨(cyc ns k).1, 0, none⟩) ∧ c = .int .i64 k ∧ k ≤ m) (fun _ c => m - (intOf c).toNat)
  case atStart => exact ⟨0, rfl, rfl, Nat.zero_le _⟩
  case round =>
    obtain ⟨k, rfl, rfl, hk⟩ := hrel
    by_cases hlt : k < m
    · have c3 := HL.out k
      have i1 : (k : Int) < (m : Int) := by omega
      go_wp2
      go_round
      case rel => exact ⟨k + 1, rfl, by go_num, by omega⟩
      case measure => simp [intOf]; omega
    · obtain rfl : k = m := by omega
      have i1 : ¬ (k : Int) < (k : Int) := by omega
      go_wp2
      go_returns
      exact ⟨rfl, rfl⟩
set_option maxHeartbeats 4000000 in
theorem at_out (base g : Nat) (ns : List Node) (i : Int) (w : World) (hF : FanAt w base g ns) (hi : i < 0 ∨ (ns.length : Int) ≤ i) :
    Calls Tryd.prog 132 #[.pointer (some ⟨g, 0, none⟩), .int .i64 i] w fun e w' => e = .returned (.pointer none) ∧ w = w' := by
  have q1 := hF.head.c1
  have q2 := hF.head.lt
  by_cases h : i < 0
  · go_enter Tryd.func132, Tryd.ntmps132
    go_wp2
    go_returns
    exact ⟨rfl, rfl⟩
  · have j2 : (ns.length : Int) ≤ i := by omega
    have j3 : ¬ i < 0 := h
    have j4 : decide (i < 0) = false := by simpa using h
    go_enter Tryd.func132, Tryd.ntmps132
    go_wp2
    go_returns
    exact ⟨rfl, rfl⟩
def TakeEnd (ns : List Node) (w : World) (e : Ending) (w' : World) : Prop := (∃ v, e = .returned v) ∧ Ring w' ns ∧ Touched ns w w'
theorem Ring.mem {W : World} {ns : List Node} (h : Ring W ns) {p : Node} (hp : p ∈ ns) : ∃ a z, Link W p.1 p.2 a z := by
  obtain ⟨i, hi, rfl⟩ := List.mem_iff_getElem.1 hp
  have := h.link i
  rw [cyc_lt hi, List.getElem?_eq_getElem hi] at this
  exact ⟨_, _, this⟩
theorem infoLink : (Tryd.prog.info? 110).map (fun i => (i.zero, i.size, i.bytes)) = some (some (.agg #[.int .i64 0, .int .i64 0, .pointer none, .pointer none]), 4, 32) := by kernel_rfl
theorem eql_same (q : Nat) (w : World) : (binOp .eql 107 (.pointer (some ⟨q, 0, none⟩)) (.pointer (some ⟨q, 0, none⟩))).run Tryd.prog w = .ok (.bool true) w := by
  obtain ⟨j, hj, _⟩ := info_parts infoLink
  exact run_eql_ptr_same w _ Tryd.underlying107 hj
theorem eql_other {q q' : Nat} {w : World} {p p' : V2} {a z a' z' : Nat} (h : q ≠ q') (h1 : Link w q p a z) (h2 : Link w q' p' a' z') : (binOp .eql 107 (.pointer (some ⟨q, 0, none⟩)) (.pointer (some ⟨q', 0, none⟩))).run Tryd.prog w = .ok (.bool false) w := by
  obtain ⟨j, hj, _, hs, _⟩ := info_parts infoLink
  exact run_eql_ptr_other w Tryd.underlying107 hj (by rw [hs]; decide) (fun e => h (by cases e; rfl)) h1 h2
/-! a ray taken out of a list -/
def downL {α : Type} (l : List α) (i : Nat) : List α := l.take i ++ l.drop (i + 1)
theorem downL_len {α : Type} {l : List α} {i : Nat} (h : i < l.length) : (downL l i).length = l.length - 1 := by
  simp [downL]
  omega
theorem rays_down (ns : List Node) (i : Nat) : rays (downL ns i) = downL (rays ns) i := by simp [rays, downL, List.map_take, List.map_drop]
theorem rot_last {ns : List Node} {i : Nat} (h : i < ns.length) : rot (i + 1) ns = (ns.drop (i + 1) ++ ns.take i) ++ [cyc ns i] := by
  unfold rot
  rw [List.take_add_one, cyc_get h, List.append_assoc]
  rfl
theorem rot_down {ns : List Node} {i : Nat} : rot (ns.length - (i + 1)) (ns.drop (i + 1) ++ ns.take i) = downL ns i := by
  unfold rot downL
  rw [← List.length_drop, List.drop_left, List.take_left]
theorem down_zero {ns : List Node} {i : Nat} (h : i < ns.length) (h2 : 2 ≤ ns.length) : cyc (downL ns i) 0 = if i = 0 then cyc ns 1 else cyc ns 0 := by
  rw [cyc_lt (by rw [downL_len h]; omega)]
  unfold downL
  split
  · next e =>
    subst e
    rw [cyc_lt (by omega)]
    simp
  · rw [cyc_lt (by omega), List.getElem?_append_left (by simp; omega), List.getElem?_take_of_lt (by omega)]
theorem mem_down {ns : List Node} {i : Nat} {p : Node} (h : p ∈ downL ns i) : p ∈ ns := by
  unfold downL at h
  rcases List.mem_append.1 h with h | h
  · exact List.mem_of_mem_take h
  · exact List.mem_of_mem_drop h
end Go.Proofs.YtcieihbknfeddabDoor

/- Fans: where a vector is. -/
namespace Go.Proofs.YtcieihbknfeddabDoor
open Go.RowKit Go.Shelf

attribute [local go_sem] Oper.semAt_some

/-- the first index at which p holds, among n -/
def firstI (p : Nat → Bool) (n : Nat) : Nat := ((List.range n).takeWhile (fun i => !p i)).length
theorem first_is {p : Nat → Bool} {n k : Nat} (hk : k < n) (hp : p k = true) (h : ∀ i, i < k → p i = false) : firstI p n = k := by
  unfold firstI
  have e : List.range n = List.range k ++ k :: (List.range n).drop (k + 1) := by
    have e1 : List.range k ++ [k] = (List.range n).take (k + 1) := by rw [List.take_range, Nat.min_eq_left (by omega), List.range_succ]
    rw [List.append_cons, e1, List.take_append_drop]
  rw [e, List.takeWhile_append_of_pos (fun i hi => by rw [h i (List.mem_range.1 hi)]; rfl), List.takeWhile_cons_of_neg (by rw [hp]; decide), List.append_nil, List.length_range]
theorem prefix_range {p : List Nat} {x n : Nat} (h : p ++ [x] <+: List.range n) : p = List.range x ∧ x < n := by
  have hl := h.length_le
  simp at hl
  have e := List.prefix_iff_eq_take.1 h
  rw [List.take_range, List.length_append, List.length_singleton, Nat.min_eq_left (by omega), List.range_succ] at e
  obtain ⟨e1, e2⟩ := List.append_inj e (by simp)
  obtain rfl : x = p.length := by simpa using e2
  exact ⟨e1, by omega⟩
def WhereI (w w0 : World) (l : List V2) (a : V2) (pre : List Nat) (W : World) : Prop :=
  (Boxed W (w.heap.size + 1) 3 (.int .i64 (pre.length : Nat)) ∧ ∀ i ∈ pre, inC l i a = false) ∧ Below (w.heap.size + 1) w0 W
def WhereX (w w0 : World) (l : List V2) (a : V2) (c : Code) (pre : List Nat) (W : World) : Prop :=
  ((c = .exit 0 ∧ ∃ p x, pre = p ++ [x] ∧ (∀ i ∈ p, inC l i a = false) ∧ inC l x a = true) ∧ Boxed W (w.heap.size + 1) 3 (.int .i64 ((pre.length - 1 : Nat) : Int))) ∧ Below (w.heap.size + 1) w0 W
theorem whereI_own (w w0 : World) (l : List V2) (a : V2) {k : Nat} (h0 : w.heap.size + 1 ≤ w0.heap.size) (h : w.heap.size + 1 ≤ k) : OwnFrom k (WhereI w w0 l a) :=
  OwnFrom.and (OwnFrom.and (Own.from (boxed_own _ _ (fun pre : List Nat => .int .i64 (pre.length : Nat))) _) (ownFrom_pure k (fun pre => ∀ i ∈ pre, inC l i a = false))) (ownFrom_below h0 h)
theorem whereX_own (w w0 : World) (l : List V2) (a : V2) (c : Code) {k : Nat} (h0 : w.heap.size + 1 ≤ w0.heap.size) (h : w.heap.size + 1 ≤ k) : OwnFrom k (WhereX w w0 l a c) :=
  OwnFrom.and (OwnFrom.and (ownFrom_pure k (fun pre => c = .exit 0 ∧ ∃ p x, pre = p ++ [x] ∧ (∀ i ∈ p, inC l i a = false) ∧ inC l x a = true)) (Own.from (boxed_own _ _ (fun pre : List Nat => .int .i64 ((pre.length - 1 : Nat) : Int))) _)) (ownFrom_below h0 h)
theorem in_rays {ns : List Node} (h : 0 < ns.length) (x : Nat) (a : V2) : inC (rays ns) x a = inB (cyc ns x).2.1 (cyc ns x).2.2 (cyc ns (x + 1)).2.1 (cyc ns (x + 1)).2.2 a.1 a.2 := by
  unfold inC
  rw [rays_cyc h, rays_cyc h]
set_option maxHeartbeats 8000000 in
theorem where_in (n : Nat) (hn : 3 ≤ n) (base g : Nat) (ns : List Node) (x0 y0 : Int) (w : World) (hF : FanAt w base g ns) (hm : ns.length ≤ 1000) (hf : fanB (rays ns) = true) (ha : vecB x0 y0 = true) :
    CallsIn Fence.wide n Tryd.prog 140 #[.pointer (some ⟨g, 0, none⟩), .agg #[.int .i64 (x0), .int .i64 (y0)]] w fun e w' => e = .returned (.int .i64 (firstI (fun i => inC (rays ns) i (x0, y0)) ns.length : Nat)) ∧ Below w.heap.size w w' := by
  have h1 : 1 ≤ n := by omega
  have hd : 1 ≤ n - 1 - 1 := by omega
  have hR := hF.ring
  have hp := hR.pos
  refine callsIn_of_wp_marks Tryd.func140 rfl trivial ?_ rfl
  simp only [Tryd.ntmps140, List.size_toArray, List.length_cons, List.length_nil, Nat.reduceAdd, Nat.reduceSub, Array.replicate_succ, Array.replicate_zero, List.push_toArray, List.append_toArray, List.nil_append, List.cons_append]
  gi_wp2_with fail
  refine ⟨trivial, ?_⟩
  refine CallsIn.mono (links_in _ g _) ?_
  rintro e w3 ⟨rfl, rfl⟩
  have bB := (Boxed.new (w.alloc (.cells #[.int .i64 x0, .int .i64 y0] 36)) 3 (.int .i64 0)).alloc (.cells #[.pointer (some ⟨g, 0, none⟩)] 58)
  have bF := Boxed.new ((w.alloc (.cells #[.int .i64 x0, .int .i64 y0] 36)).alloc (.cells #[.int .i64 0] 3)) 58 (.pointer (some ⟨g, 0, none⟩))
  have q0 : (w.alloc (.cells #[.int .i64 x0, .int .i64 y0] 36)).cell? ⟨w.heap.size, 0, none⟩ = some (.int .i64 x0) := by simp
  have q1 : (w.alloc (.cells #[.int .i64 x0, .int .i64 y0] 36)).cell? ⟨w.heap.size, 1, none⟩ = some (.int .i64 y0) := by simp
  have hw0 : Below w.heap.size w (w.alloc (.cells #[.int .i64 x0, .int .i64 y0] 36)) := by go_grown
  have hA0 : Below w.heap.size w (((w.alloc (.cells #[.int .i64 x0, .int .i64 y0] 36)).alloc (.cells #[.int .i64 0] 3)).alloc (.cells #[.pointer (some ⟨g, 0, none⟩)] 58)) := by go_grown
  have hA : Below (w.heap.size + 1) (w.alloc (.cells #[.int .i64 x0, .int .i64 y0] 36)) (((w.alloc (.cells #[.int .i64 x0, .int .i64 y0] 36)).alloc (.cells #[.int .i64 0] 3)).alloc (.cells #[.pointer (some ⟨g, 0, none⟩)] 58)) := by go_grown
  have hz5 : (((w.alloc (.cells #[.int .i64 x0, .int .i64 y0] 36)).alloc (.cells #[.int .i64 0] 3)).alloc (.cells #[.pointer (some ⟨g, 0, none⟩)] 58)).heap.size = w.heap.size + 1 + 1 + 1 := by simp
  have hz0 : (w.alloc (.cells #[.int .i64 x0, .int .i64 y0] 36)).heap.size = w.heap.size + 1 := by simp
  simp only [World.size_alloc] at bF bB
  gi_wp2_with fail
  generalize (((w.alloc (.cells #[.int .i64 x0, .int .i64 y0] 36)).alloc (.cells #[.int .i64 0] 3)).alloc (.cells #[.pointer (some ⟨g, 0, none⟩)] 58)) = W5 at *
  generalize w.alloc (.cells #[.int .i64 x0, .int .i64 y0] 36) = w0 at *
  refine wpIn_links (by omega) rfl bF.cell hA0.size (hF.below hA0) (fun p hp => hR.mem_lt hp) (by omega) rfl (WhereI w w0 (rays ns) (x0, y0)) (WhereX w w0 (rays ns) (x0, y0)) (whereI_own w w0 _ _ (by omega) (by omega)) (fun c => whereX_own w w0 _ _ c (by omega) (by omega))
    ⟨⟨bB, fun i hi => by cases hi⟩, hA⟩ ?a₁ ?assign ?body ?done ?stop
  case assign =>
    intro l x W K hK
    gi_wp2
    exact hK
  case body =>
    rintro l pre x W ⟨⟨hr, hq⟩, hb⟩ hlen
    have hbw : Below w.heap.size w W := hw0.trans (hb.mono (by omega))
    have hRW : Ring W.drew ns := ⟨hR.pos, hR.two, fun i => ((hR.below hbw).link i)⟩
    have rl := hr.lt
    have v1 := fan_vec hf x
    have v2 := fan_vec hf (x + 1)
    rw [rays_cyc hp] at v1 v2
    have HC := Lib.hid (linkCone_any ns x W.drew hRW)
    have HH := Lib.hid (fun w' => has_any _ _ _ _ _ _ w' v1 v2 ha)
    have HK := Lib.hid (in_rays hp x (x0, y0))
    have HQ := Lib.hid hq
    have rr := hr.cell
    have rf := hr.frozen
    have a0 : W.cell? ⟨w.heap.size, 0, none⟩ = some (.int .i64 x0) := (hb.cell (p := ⟨w.heap.size, 0, none⟩) (by simp)).trans q0
    have a1 : W.cell? ⟨w.heap.size, 1, none⟩ = some (.int .i64 y0) := (hb.cell (p := ⟨w.heap.size, 1, none⟩) (by simp)).trans q1
    have al : w.heap.size < W.heap.size := by omega
    clear v1 v2 hq q0 q1
    generalize inB (cyc ns x).2.1 (cyc ns x).2.2 (cyc ns (x + 1)).2.1 (cyc ns (x + 1)).2.2 x0 y0 = k at HH HK
    gi_wp2
    refine region_round (by kernel_rfl) (noDefer_of (by kernel_rfl)) (by rintro ⟨_, _, h⟩; exact False.elim h) ?_
    refine wpAny_take (i := 0) (v := ?_) rfl (by kernel_rfl) (by kernel_rfl) (by kernel_rfl) (fun _ _ _ h => h) (Or.inl ⟨by rfl, ?_⟩) ?_
    rotate_left
    focus (intro w0; go_simp; try with_reducible rfl)
    refine wpAny_ready (rs := [1, 2]) (by kernel_rfl) (by simp) (AllReady.cons rfl (fun K hK => ?_) (AllReady.cons rfl (fun K hK => ?_) (AllReady.nil)))
    focus
      go_simp
      (refine Calls.mono HC.out ?_; rintro e w1 ⟨rfl, hb1⟩; replace hb1 := undrew hb1; have b0 := (hb1.cell (p := ⟨w.heap.size, 0, none⟩) al).trans a0; have b1 := (hb1.cell (p := ⟨w.heap.size, 1, none⟩) al).trans a1; have bl := Nat.lt_of_lt_of_le al hb1.size)
      refine hK _ _ ?_
      clear hK K
      refine wpAny_ready (rs := [2]) (by kernel_rfl) (by simp) (AllReady.cons rfl (fun K hK => ?_) (AllReady.nil))
      go_simp
      refine hK _ _ ?_
      clear hK K
      refine wpAny_seq 3 rfl (by kernel_rfl) ?_
      simp only [List.drop_succ_cons, List.drop_zero]
    rotate_left 1
    focus
      go_simp
      refine hK _ _ ?_
      clear hK K
      refine wpAny_ready (rs := [1]) (by kernel_rfl) (by simp) (AllReady.cons rfl (fun K hK => ?_) (AllReady.nil))
      go_simp
      (refine Calls.mono HC.out ?_; rintro e w1 ⟨rfl, hb1⟩; replace hb1 := undrew hb1; have b0 := (hb1.cell (p := ⟨w.heap.size, 0, none⟩) al).trans a0; have b1 := (hb1.cell (p := ⟨w.heap.size, 1, none⟩) al).trans a1; have bl := Nat.lt_of_lt_of_le al hb1.size)
      refine hK _ _ ?_
      clear hK K
      refine wpAny_seq 3 rfl (by kernel_rfl) ?_
      simp only [List.drop_succ_cons, List.drop_zero]
    all_goals
      go_wp2_with fail
      refine Calls.mono (HH.out _) ?_
      rintro e w2 ⟨rfl, hb2⟩
      have hb' := belowTo hb1 hb2
      have hr3 : Boxed w2 (w.heap.size + 1) 3 (.int .i64 (pre.length : Nat)) := (hb'.block _ rl).trans hr
      have rr3 := hr3.cell
      have rf3 := hr3.frozen
      have KO := Lib.hid (KeepsOthers.of_grownBy (grown_of_below hb' none) (fun _ _ e _ => by cases e))
      have hW2 := hb.trans (hb'.mono (by omega))
      have hbW := hb'.mono (B' := w.heap.size) (by omega)
      clear hb1 hb2
      cases k
      · have HX : Hid (∀ i ∈ pre ++ [x], inC (rays ns) i (x0, y0) = false) := fun i hi => by
          rcases List.mem_append.1 hi with hi | hi
          · exact HQ.out i hi
          · obtain rfl := List.mem_singleton.1 hi
            exact HK.out
        have hcv0 : Boxed (w2.setCell ⟨w.heap.size + 1, 0, none⟩ (.int .i64 ((pre.length : Int) + 1))) (w.heap.size + 1) 3 (.int .i64 ((pre ++ [x]).length : Nat)) := by
          have := hr3.set (.int .i64 ((pre.length : Int) + 1))
          simpa using this
        have hcv := Lib.hid hcv0
        clear hcv0
        have hpl : (pre.length : Int) ≤ 1000 := by omega
        have hp0 : (0 : Int) ≤ (pre.length : Int) := by omega
        go_wp2
        gi_wp2
        exact ⟨KO.out.trans (KeepsOthers.setCell _ _ _), hbW.setCell (p := ⟨w.heap.size + 1, 0, none⟩) (by simp) _, ⟨hcv.out, HX.out⟩, hW2.setCell (p := ⟨w.heap.size + 1, 0, none⟩) (by simp) _⟩
      · go_wp2
        gi_wp2
        exact ⟨KO.out, ⟨⟨rfl, pre, x, rfl, HQ.out, HK.out⟩, by simpa using hr3⟩, hW2⟩
  case done =>
    rintro D W hD ⟨⟨hr, hq⟩, hb⟩ hK
    obtain ⟨i, hi, hc⟩ := fan_covers hf (x0, y0)
    rw [rays_len] at hi
    have := hq i (List.mem_range.2 hi)
    rw [hc] at this
    cases this
  case stop =>
    rintro D c pre W hD hpre ⟨⟨⟨rfl, p, x, rfl, hq, hx⟩, hr⟩, hb⟩ hK
    obtain ⟨rfl, hxn⟩ := prefix_range hpre
    have HQ : Hid ((firstI (fun i => inC (rays ns) i (x0, y0)) ns.length) = x) := first_is hxn hx (fun i hi => hq i (List.mem_range.2 hi))
    have e : (List.range x ++ [x]).length - 1 = x := by simp
    rw [e] at hr
    have rr := hr.cell
    have hB2 : Below w.heap.size w (W.putObj D (.deferred none)) := (hw0.trans (hb.mono (by omega))).grown (grownBy_putObj' _ D (.deferred none)) (hw0.trans (hb.mono (by omega))).size (fun k e => by cases e; omega)
    have hKK := Lib.hid hK
    clear hK e hpre hq
    gi_wp2
    refine ⟨by simp, .inl ⟨_, _, rfl, run_takeDeferred hKK.out, ?_⟩⟩
    refine ⟨_, results_tmp rfl _ _ _, ?_, hB2⟩
    rw [HQ.out]
    rfl
end Go.Proofs.YtcieihbknfeddabDoor

/- Fans: the numbers of the rays. -/
namespace Go.Proofs.YtcieihbknfeddabDoor
open Go.RowKit Go.Shelf

attribute [local go_sem] Oper.semAt_some

/-- a box B holds a list of numbers of the call's own -/
def IntsI (w : World) (B : Nat) (f : List Nat → List Int) (pre : List Nat) (W : World) : Prop :=
  (∃ v, Boxed W B 23 v ∧ W.ownsRow w.heap.size 3 1 v (f pre).length (intsV (f pre)) ∧ True) ∧ Below w.heap.size w W
theorem intsI_own (w : World) (B : Nat) (f : List Nat → List Int) {k : Nat} (h : w.heap.size ≤ k) : OwnFrom k (IntsI w B f) :=
  OwnFrom.and (Own.from (holdsRow_own _ _ _ _ _ (fun pre => (f pre).length) (fun pre => intsV (f pre)) (fun _ _ => True)) _) (ownFrom_below (Nat.le_refl _) h)
def numsAt (l : List V2) (pre : List Nat) : List Int := pre.map (numZ l)
theorem numsAt_snoc (l : List V2) (pre : List Nat) (x : Nat) : numsAt l (pre ++ [x]) = numsAt l pre ++ [numZ l x] := by simp [numsAt]
theorem Ints.snoc {w : World} {base n : Nat} {v : Value} {l : List Int} {x : Int} (hn : n = l.length) (h : w.ownsRow base 3 1 v (n + 1) (intsV l ++ [.int .i64 x])) : Ints w base v (l ++ [x]) := by
  unfold Ints
  rw [List.length_append, ← hn]
  have : intsV (l ++ [x]) = intsV l ++ [.int .i64 x] := by simp [intsV]
  rw [this]
  exact h
set_option maxHeartbeats 8000000 in
theorem numbers_in (n : Nat) (hn : 3 ≤ n) (base g : Nat) (ns : List Node) (w : World) (hF : FanAt w base g ns) (hm : ns.length ≤ 1000) (hv : allVec (rays ns)) :
    CallsIn Fence.wide n Tryd.prog 102 #[.pointer (some ⟨g, 0, none⟩)] w (GivesInts w (numsZ (rays ns))) := by
  have h1 : 1 ≤ n := by omega
  have hd : 1 ≤ n - 1 - 1 := by omega
  have hR := hF.ring
  have hp := hR.pos
  refine callsIn_of_wp_marks Tryd.func102 rfl trivial ?_ rfl
  simp only [Tryd.ntmps102, List.size_toArray, List.length_cons, List.length_nil, Nat.reduceAdd, Nat.reduceSub, Array.replicate_succ, Array.replicate_zero, List.push_toArray, List.append_toArray, List.nil_append, List.cons_append]
  gi_wp2_with fail
  refine ⟨trivial, ?_⟩
  refine CallsIn.mono (links_in _ g _) ?_
  rintro e w3 ⟨rfl, rfl⟩
  have hA : Below w.heap.size w ((w.alloc (.cells #[.slice none 0 0] 23)).alloc (.cells #[.pointer (some ⟨g, 0, none⟩)] 58)) := by go_grown
  have bB := (Boxed.new w 23 (.slice none 0 0)).alloc (.cells #[.pointer (some ⟨g, 0, none⟩)] 58)
  have bF := Boxed.new (w.alloc (.cells #[.slice none 0 0] 23)) 58 (.pointer (some ⟨g, 0, none⟩))
  have hz5 : ((w.alloc (.cells #[.slice none 0 0] 23)).alloc (.cells #[.pointer (some ⟨g, 0, none⟩)] 58)).heap.size = w.heap.size + 1 + 1 := by simp
  simp only [World.size_alloc] at bF
  gi_wp2_with fail
  generalize ((w.alloc (.cells #[.slice none 0 0] 23)).alloc (.cells #[.pointer (some ⟨g, 0, none⟩)] 58)) = W5 at *
  obtain ⟨i0, hi, hz0, hz1, hz2⟩ := info_parts infoInt
  refine wpIn_links (by omega) rfl bF.cell hA.size (hF.below hA) (fun p hp => hR.mem_lt hp) hm rfl
    (IntsI w w.heap.size (numsAt (rays ns))) (fun _ _ _ => False) (intsI_own _ _ _ (by omega))
    (fun _ _ _ _ _ h _ _ => h) ⟨⟨_, bB, World.ownsRow_nil _ _ _ _, trivial⟩, hA⟩ ?a₁ ?assign ?body ?done ?stop
  case assign =>
    intro l x W K hK
    gi_wp2
    exact hK
  case body =>
    rintro l pre x W ⟨⟨v, hv', hrow, _⟩, hb⟩ hlen
    have hRW : Ring W.drew ns := ⟨hR.pos, hR.two, fun i => ((hR.below hb).link i)⟩
    have HN := Lib.hid (number_any ns x W.drew hRW hv)
    have kb := hv'.cell
    have kf := hv'.frozen
    have kl := hv'.lt
    have hsz := hb.size
    have HR := Lib.hid hrow
    have HP := Lib.hid (fun k (e : v.ownBlock = some k) => (World.ownsRow.lt hrow k e))
    have hpl : (numsAt (rays ns) pre).length ≤ 1000 := by simp [numsAt]; omega
    generalize hz : numZ (rays ns) x = z at HN
    have HZ := Lib.hid hz
    clear hz hrow
    gi_wp2
    refine region_round (by kernel_rfl) (noDefer_of (by kernel_rfl)) (by rintro ⟨_, _, h⟩; exact False.elim h) ?_
    refine wpAny_take (i := 1) (v := ?_) rfl (by kernel_rfl) (by kernel_rfl) (by kernel_rfl) (fun _ _ _ h => h) (Or.inl ⟨by rfl, ?_⟩) ?_
    rotate_left
    focus (intro w0; go_simp; try with_reducible rfl)
    refine wpAny_ready (rs := [0, 2]) (by kernel_rfl) (by simp) (AllReady.cons rfl (fun K hK => ?_) (AllReady.cons rfl (fun K hK => ?_) (AllReady.nil)))
    focus
      go_simp
      refine hK _ _ ?_
      clear hK K
      refine wpAny_ready (rs := [2]) (by kernel_rfl) (by simp) (AllReady.cons rfl (fun K hK => ?_) (AllReady.nil))
      go_simp
      (refine Calls.mono HN.out ?_; rintro e w1 ⟨rfl, hb1⟩; replace hb1 := undrew hb1; have b0 := (hb1.cell (p := ⟨w.heap.size, 0, none⟩) kl).trans kb; have bl := Nat.lt_of_lt_of_le kl hb1.size)
      refine hK _ _ ?_
      clear hK K
      refine wpAny_ready (rs := [3]) (by kernel_rfl) (by simp) (AllReady.cons rfl (fun K hK => ?_) (AllReady.nil))
      go_simp
      refine hK _ _ ?_
      clear hK K
      refine wpAny_seq 4 rfl (by kernel_rfl) ?_
      simp only [List.drop_succ_cons, List.drop_zero]
    rotate_left 1
    focus
      go_simp
      (refine Calls.mono HN.out ?_; rintro e w1 ⟨rfl, hb1⟩; replace hb1 := undrew hb1; have b0 := (hb1.cell (p := ⟨w.heap.size, 0, none⟩) kl).trans kb; have bl := Nat.lt_of_lt_of_le kl hb1.size)
      refine hK _ _ ?_
      clear hK K
      refine wpAny_ready (rs := [0, 3]) (by kernel_rfl) (by simp) (AllReady.cons rfl (fun K hK => ?_) (AllReady.cons rfl (fun K hK => ?_) (AllReady.nil)))
      focus
        go_simp
        refine hK _ _ ?_
        clear hK K
        refine wpAny_ready (rs := [3]) (by kernel_rfl) (by simp) (AllReady.cons rfl (fun K hK => ?_) (AllReady.nil))
        go_simp
        refine hK _ _ ?_
        clear hK K
        refine wpAny_seq 4 rfl (by kernel_rfl) ?_
        simp only [List.drop_succ_cons, List.drop_zero]
      rotate_left 1
      focus
        go_simp
        refine hK _ _ ?_
        clear hK K
        refine wpAny_ready (rs := [0]) (by kernel_rfl) (by simp) (AllReady.cons rfl (fun K hK => ?_) (AllReady.nil))
        go_simp
        refine hK _ _ ?_
        clear hK K
        refine wpAny_seq 4 rfl (by kernel_rfl) ?_
        simp only [List.drop_succ_cons, List.drop_zero]
    all_goals
      have hv1 : Boxed w1 w.heap.size 23 v := (hb1.block _ kl).trans hv'
      have hrow1 : w1.ownsRow w.heap.size 3 1 v (numsAt (rays ns) pre).length (intsV (numsAt (rays ns) pre)) := Ints.below HR.out hb1
      have hs1 := hb1.size
      go_wp2_with (at_builtin; refine wpList_append_own_at _ rfl _ _ 23 rfl w.heap.size 3 i0 (.int .i64 0) 1 8 Tryd.underlying23 hi hz0 hz1 hz2 rfl (by decide) _ _ _ rfl (hrow1.alloc _) ⟨w1.heap.size, 0, none⟩ 1 1 [.int .i64 z] rfl rfl ?c1 ?c2 ?c3 ?c4 ?c5 ?_)
      case c1 =>
        intro j u hj
        match j, hj with
        | 0, hj => simp at hj; subst hj; simp [Addr.add]
      case c2 => intro u hu; simp at hu; subst hu; rfl
      case c3 => unfold maxLen; omega
      case c4 => omega
      case c5 => simp; omega
      intro v2 w2 hown' hgrow _ _
      obtain ⟨g', cap', rfl⟩ := ownsRow_succ hown'
      have hb2 : Below w.heap.size w w1 := hb.trans (hb1.mono hsz)
      obtain ⟨hx1, hx2, hr2, hk2, hbb⟩ := hv1.appended (n₀ := w.heap.size) (tmp := .cells #[.int .i64 z] 3) (by decide) hrow1 hb2.size (Nat.le_refl _) hown' ⟨hgrow.os, hgrow.tape, hgrow.output, hgrow.size, hgrow.block⟩
      have hc1 := hx1.cell
      have hf1 := hx1.frozen
      have HV := Lib.hid (Ints.snoc (l := numsAt (rays ns) pre) rfl hr2)
      rw [← HZ.out, ← numsAt_snoc] at HV
      have KO := Lib.hid ((KeepsOthers.of_grownBy (grown_of_below hb1 none) (fun _ _ e _ => by cases e)).trans hk2)
      have hB3 := (hb1.mono hsz).trans hbb
      clear hown' hgrow hr2 hrow1 hx1 hv1 hb1 hk2
      go_wp2
      exact ⟨KO.out, hB3, ⟨⟨_, hx2, HV.out, trivial⟩, hb.trans hB3⟩⟩
  case done =>
    rintro D W hD ⟨⟨v, hv', hrow, _⟩, hb⟩ hK
    have k4 := hv'.cell
    have hV : Ints W w.heap.size v (numsZ (rays ns)) := by
      have e : numsAt (rays ns) (List.range ns.length) = numsZ (rays ns) := by unfold numsZ; rw [rays_len]; rfl
      have : Ints W w.heap.size v (numsAt (rays ns) (List.range ns.length)) := hrow
      rwa [e] at this
    have HV := Lib.hid (show Ints (W.putObj D (.deferred none)) w.heap.size v (numsZ (rays ns)) from ownsRow_putObj hV (.deferred none) hK rfl)
    have hB2 : Below w.heap.size w (W.putObj D (.deferred none)) := hb.grown (grownBy_putObj' W D (.deferred none)) hb.size (fun k e => by cases e; omega)
    clear hV hrow
    gi_wp2
    refine ⟨by simp, .inl ⟨_, _, rfl, run_takeDeferred hK, ?_⟩⟩
    exact ⟨_, results_tmp rfl _ _ _, v, rfl, HV.out, hB2⟩
  case stop =>
    rintro D c pre W _ _ h _
    exact h.elim
end Go.Proofs.YtcieihbknfeddabDoor

/- Fans: the first ray that can be blown down. -/
namespace Go.Proofs.YtcieihbknfeddabDoor
open Go.RowKit Go.Shelf

attribute [local go_sem] Oper.semAt_some

def downB (l : List V2) (i : Nat) : Bool := decide (3 < l.length) && (numZ l i == -1)
def DownI (w w0 : World) (ns : List Node) (pre : List Nat) (W : World) : Prop :=
  (Boxed W (w.heap.size + 1) 107 (.pointer none) ∧ ∀ i ∈ pre, downB (rays ns) i = false) ∧ Below (w.heap.size + 1) w0 W
def DownX (w w0 : World) (ns : List Node) (c : Code) (pre : List Nat) (W : World) : Prop :=
  ((c = .ret ∧ ∃ p x, pre = p ++ [x] ∧ (∀ i ∈ p, downB (rays ns) i = false) ∧ downB (rays ns) x = true) ∧ ∃ x p, pre = p ++ [x] ∧ Boxed W (w.heap.size + 1) 107 (.pointer (some ⟨(cyc ns x).1, 0, none⟩))) ∧ Below (w.heap.size + 1) w0 W
theorem downI_own (w w0 : World) (ns : List Node) {k : Nat} (h0 : w.heap.size + 1 ≤ w0.heap.size) (h : w.heap.size + 1 ≤ k) : OwnFrom k (DownI w w0 ns) :=
  OwnFrom.and (OwnFrom.and (Own.from (ownErr _ _ _) _) (ownFrom_pure k (fun pre => ∀ i ∈ pre, downB (rays ns) i = false))) (ownFrom_below h0 h)
theorem downX_own (w w0 : World) (ns : List Node) (c : Code) {k : Nat} (h0 : w.heap.size + 1 ≤ w0.heap.size) (h : w.heap.size + 1 ≤ k) : OwnFrom k (DownX w w0 ns c) := by
  refine OwnFrom.and (OwnFrom.and (ownFrom_pure k (fun pre => c = .ret ∧ ∃ p x, pre = p ++ [x] ∧ (∀ i ∈ p, downB (rays ns) i = false) ∧ downB (rays ns) x = true)) ?_) (ownFrom_below h0 h)
  rintro s X Y row ⟨x, p, rfl, hb⟩ hg hr
  exact ⟨x, p, rfl, ownErr _ _ _ (p ++ [x]) X Y row hb hg (fun r e => (hr r e).2)⟩
/-- the first link whose ray can be blown down, or none -/
def DownEnd (ns : List Node) (e : Ending) : Prop :=
  (∃ k, k < ns.length ∧ e = .returned (.pointer (some ⟨(cyc ns k).1, 0, none⟩)) ∧ downB (rays ns) k = true ∧ ∀ i, i < k → downB (rays ns) i = false) ∨ (e = .returned (.pointer none) ∧ ∀ i, i < ns.length → downB (rays ns) i = false)
end Go.Proofs.YtcieihbknfeddabDoor

/- Fans: the program's functions that read a fan. -/
namespace Go.Proofs.YtcieihbknfeddabDoor
open Go.RowKit

/-- a list, or none -/
def gV {α : Type} (b : Bool) (l : List α) : List α := if b then l else []
theorem gV_len {α : Type} {b : Bool} {l : List α} {n : Nat} (h : b = true → l.length ≤ n) : (gV b l).length ≤ n := by
  cases b
  · exact Nat.zero_le _
  · exact h rfl
theorem fan_small {l : List V2} {ns : List Node} (h : fanB l = true) (hn : rays ns = l) : ns.length ≤ 1000 ∧ ns.length = l.length := by
  have := fan_len h
  rw [← hn, rays_len] at this
  exact ⟨by omega, by rw [← hn, rays_len]⟩
theorem rays_any (base g : Nat) (ns : List Node) (w : World) (hF : FanAt w base g ns) (hm : ns.length ≤ 1000) : Calls Tryd.prog 176 #[.pointer (some ⟨g, 0, none⟩)] w (GivesVecs w (rays ns)) :=
  callsIn_wide.1 (rays_in 3 (by omega) base g ns w hF hm)
def idxB (l : List V2) (i : Int) : Bool := decide (0 ≤ i) && decide (i < (l.length : Int))
theorem idx_in {l : List V2} {i : Int} (h : idxB l i = true) : ∃ m : Nat, i = m ∧ m < l.length := by
  have h' : 0 ≤ i ∧ i < (l.length : Int) := by simpa [idxB] using h
  exact ⟨i.toNat, by omega, by omega⟩
theorem idx_out {l : List V2} {i : Int} (h : idxB l i = false) : i < 0 ∨ (l.length : Int) ≤ i := by
  simp [idxB] at h
  omega
end Go.Proofs.YtcieihbknfeddabDoor
