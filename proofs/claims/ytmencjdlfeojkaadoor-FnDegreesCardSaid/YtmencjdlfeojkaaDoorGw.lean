/- Fans: where a vector is. -/
import Derived.Test.YtmencjdlfeojkaaDoorGf
import Derived.Test.YtmencjdlfeojkaaDoorB6
import Derived.Test.YtmencjdlfeojkaaDoorB4
namespace Go.Proofs.YtmencjdlfeojkaaDoor
open Go.RowKit Go.Shelf

attribute [local go_sem] Oper.semAt_some

/-- the first index at which p holds, among n -/
def firstI (p : Nat → Bool) (n : Nat) : Nat := ((List.range n).takeWhile (fun i => !p i)).length
theorem first_is {p : Nat → Bool} {n k : Nat} (hk : k < n) (hp : p k = true) (h : ∀ i, i < k → p i = false) : firstI p n = k := by
  unfold firstI
  have e : List.range n = List.range k ++ k :: (List.range n).drop (k + 1) := by
    have e1 : List.range k ++ [k] = (List.range n).take (k + 1) := by rw [List.take_range, Nat.min_eq_left (by omega), List.range_succ]
    rw [List.append_cons, e1, List.take_append_drop]
  rw [e, List.takeWhile_append_of_pos (fun i hi => by rw [h i (List.mem_range.1 hi)]; rfl), List.takeWhile_cons_of_neg (by rw [hp]; decide), List.append_nil, List.length_range]
theorem prefix_range {p : List Nat} {x n : Nat} (h : p ++ [x] <+: List.range n) : p = List.range x ∧ x < n := by
  have hl := h.length_le
  simp at hl
  have e := List.prefix_iff_eq_take.1 h
  rw [List.take_range, List.length_append, List.length_singleton, Nat.min_eq_left (by omega), List.range_succ] at e
  obtain ⟨e1, e2⟩ := List.append_inj e (by simp)
  obtain rfl : x = p.length := by simpa using e2
  exact ⟨e1, by omega⟩
def WhereI (w w0 : World) (l : List V2) (a : V2) (pre : List Nat) (W : World) : Prop :=
  (Boxed W (w.heap.size + 1) 3 (.int .i64 (pre.length : Nat)) ∧ ∀ i ∈ pre, inC l i a = false) ∧ Below (w.heap.size + 1) w0 W
def WhereX (w w0 : World) (l : List V2) (a : V2) (c : Code) (pre : List Nat) (W : World) : Prop :=
  ((c = .exit 0 ∧ ∃ p x, pre = p ++ [x] ∧ (∀ i ∈ p, inC l i a = false) ∧ inC l x a = true) ∧ Boxed W (w.heap.size + 1) 3 (.int .i64 ((pre.length - 1 : Nat) : Int))) ∧ Below (w.heap.size + 1) w0 W
theorem whereI_own (w w0 : World) (l : List V2) (a : V2) {k : Nat} (h0 : w.heap.size + 1 ≤ w0.heap.size) (h : w.heap.size + 1 ≤ k) : OwnFrom k (WhereI w w0 l a) :=
  OwnFrom.and (OwnFrom.and (Own.from (boxed_own _ _ (fun pre : List Nat => .int .i64 (pre.length : Nat))) _) (ownFrom_pure k (fun pre => ∀ i ∈ pre, inC l i a = false))) (ownFrom_below h0 h)
theorem whereX_own (w w0 : World) (l : List V2) (a : V2) (c : Code) {k : Nat} (h0 : w.heap.size + 1 ≤ w0.heap.size) (h : w.heap.size + 1 ≤ k) : OwnFrom k (WhereX w w0 l a c) :=
  OwnFrom.and (OwnFrom.and (ownFrom_pure k (fun pre => c = .exit 0 ∧ ∃ p x, pre = p ++ [x] ∧ (∀ i ∈ p, inC l i a = false) ∧ inC l x a = true)) (Own.from (boxed_own _ _ (fun pre : List Nat => .int .i64 ((pre.length - 1 : Nat) : Int))) _)) (ownFrom_below h0 h)
theorem in_rays {ns : List Node} (h : 0 < ns.length) (x : Nat) (a : V2) : inC (rays ns) x a = inB (cyc ns x).2.1 (cyc ns x).2.2 (cyc ns (x + 1)).2.1 (cyc ns (x + 1)).2.2 a.1 a.2 := by
  unfold inC
  rw [rays_cyc h, rays_cyc h]
set_option maxHeartbeats 8000000 in
theorem where_in (n : Nat) (hn : 3 ≤ n) (base g : Nat) (ns : List Node) (x0 y0 : Int) (w : World) (hF : FanAt w base g ns) (hm : ns.length ≤ 1000) (hf : fanB (rays ns) = true) (ha : vecB x0 y0 = true) :
    CallsIn Fence.wide n Tryd.prog 82 #[.pointer (some ⟨g, 0, none⟩), .agg #[.int .i64 (x0), .int .i64 (y0)]] w fun e w' => e = .returned (.int .i64 (firstI (fun i => inC (rays ns) i (x0, y0)) ns.length : Nat)) ∧ Below w.heap.size w w' := by
  have h1 : 1 ≤ n := by omega
  have hd : 1 ≤ n - 1 - 1 := by omega
  have hR := hF.ring
  have hp := hR.pos
  refine callsIn_of_wp_marks Tryd.func82 rfl trivial ?_ rfl
  simp only [Tryd.ntmps82, List.size_toArray, List.length_cons, List.length_nil, Nat.reduceAdd, Nat.reduceSub, Array.replicate_succ, Array.replicate_zero, List.push_toArray, List.append_toArray, List.nil_append, List.cons_append]
  gi_wp2_with fail
  refine ⟨trivial, ?_⟩
  refine CallsIn.mono (links_in _ g _) ?_
  rintro e w3 ⟨rfl, rfl⟩
  have bB := (Boxed.new (w.alloc (.cells #[.int .i64 x0, .int .i64 y0] 36)) 3 (.int .i64 0)).alloc (.cells #[.pointer (some ⟨g, 0, none⟩)] 52)
  have bF := Boxed.new ((w.alloc (.cells #[.int .i64 x0, .int .i64 y0] 36)).alloc (.cells #[.int .i64 0] 3)) 52 (.pointer (some ⟨g, 0, none⟩))
  have q0 : (w.alloc (.cells #[.int .i64 x0, .int .i64 y0] 36)).cell? ⟨w.heap.size, 0, none⟩ = some (.int .i64 x0) := by simp
  have q1 : (w.alloc (.cells #[.int .i64 x0, .int .i64 y0] 36)).cell? ⟨w.heap.size, 1, none⟩ = some (.int .i64 y0) := by simp
  have hw0 : Below w.heap.size w (w.alloc (.cells #[.int .i64 x0, .int .i64 y0] 36)) := by go_grown
  have hA0 : Below w.heap.size w (((w.alloc (.cells #[.int .i64 x0, .int .i64 y0] 36)).alloc (.cells #[.int .i64 0] 3)).alloc (.cells #[.pointer (some ⟨g, 0, none⟩)] 52)) := by go_grown
  have hA : Below (w.heap.size + 1) (w.alloc (.cells #[.int .i64 x0, .int .i64 y0] 36)) (((w.alloc (.cells #[.int .i64 x0, .int .i64 y0] 36)).alloc (.cells #[.int .i64 0] 3)).alloc (.cells #[.pointer (some ⟨g, 0, none⟩)] 52)) := by go_grown
  have hz5 : (((w.alloc (.cells #[.int .i64 x0, .int .i64 y0] 36)).alloc (.cells #[.int .i64 0] 3)).alloc (.cells #[.pointer (some ⟨g, 0, none⟩)] 52)).heap.size = w.heap.size + 1 + 1 + 1 := by simp
  have hz0 : (w.alloc (.cells #[.int .i64 x0, .int .i64 y0] 36)).heap.size = w.heap.size + 1 := by simp
  simp only [World.size_alloc] at bF bB
  gi_wp2_with fail
  generalize (((w.alloc (.cells #[.int .i64 x0, .int .i64 y0] 36)).alloc (.cells #[.int .i64 0] 3)).alloc (.cells #[.pointer (some ⟨g, 0, none⟩)] 52)) = W5 at *
  generalize w.alloc (.cells #[.int .i64 x0, .int .i64 y0] 36) = w0 at *
  refine wpIn_links (by omega) rfl bF.cell hA0.size (hF.below hA0) (fun p hp => hR.mem_lt hp) (by omega) rfl (WhereI w w0 (rays ns) (x0, y0)) (WhereX w w0 (rays ns) (x0, y0)) (whereI_own w w0 _ _ (by omega) (by omega)) (fun c => whereX_own w w0 _ _ c (by omega) (by omega))
    ⟨⟨bB, fun i hi => by cases hi⟩, hA⟩ ?a₁ ?assign ?body ?done ?stop
  case assign =>
    intro l x W K hK
    gi_wp2
    exact hK
  case body =>
    rintro l pre x W ⟨⟨hr, hq⟩, hb⟩ hlen
    have hbw : Below w.heap.size w W := hw0.trans (hb.mono (by omega))
    have hRW : Ring W.drew ns := ⟨hR.pos, hR.two, fun i => ((hR.below hbw).link i)⟩
    have rl := hr.lt
    have v1 := fan_vec hf x
    have v2 := fan_vec hf (x + 1)
    rw [rays_cyc hp] at v1 v2
    have HC := Lib.hid (linkCone_any ns x W.drew hRW)
    have HH := Lib.hid (fun w' => has_any _ _ _ _ _ _ w' v1 v2 ha)
    have HK := Lib.hid (in_rays hp x (x0, y0))
    have HQ := Lib.hid hq
    have rr := hr.cell
    have rf := hr.frozen
    have a0 : W.cell? ⟨w.heap.size, 0, none⟩ = some (.int .i64 x0) := (hb.cell (p := ⟨w.heap.size, 0, none⟩) (by simp)).trans q0
    have a1 : W.cell? ⟨w.heap.size, 1, none⟩ = some (.int .i64 y0) := (hb.cell (p := ⟨w.heap.size, 1, none⟩) (by simp)).trans q1
    have al : w.heap.size < W.heap.size := by omega
    clear v1 v2 hq q0 q1
    generalize inB (cyc ns x).2.1 (cyc ns x).2.2 (cyc ns (x + 1)).2.1 (cyc ns (x + 1)).2.2 x0 y0 = k at HH HK
    gi_wp2
    refine region_round (by kernel_rfl) (noDefer_of (by kernel_rfl)) (by rintro ⟨_, _, h⟩; exact False.elim h) ?_
    refine wpAny_take (i := 0) (v := ?_) rfl (by kernel_rfl) (by kernel_rfl) (by kernel_rfl) (fun _ _ _ h => h) (Or.inl ⟨by rfl, ?_⟩) ?_
    rotate_left
    focus (intro w0; go_simp; try with_reducible rfl)
    refine wpAny_ready (rs := [1, 2]) (by kernel_rfl) (by simp) (AllReady.cons rfl (fun K hK => ?_) (AllReady.cons rfl (fun K hK => ?_) (AllReady.nil)))
    focus
      go_simp
      (refine Calls.mono HC.out ?_; rintro e w1 ⟨rfl, hb1⟩; replace hb1 := undrew hb1; have b0 := (hb1.cell (p := ⟨w.heap.size, 0, none⟩) al).trans a0; have b1 := (hb1.cell (p := ⟨w.heap.size, 1, none⟩) al).trans a1; have bl := Nat.lt_of_lt_of_le al hb1.size)
      refine hK _ _ ?_
      clear hK K
      refine wpAny_ready (rs := [2]) (by kernel_rfl) (by simp) (AllReady.cons rfl (fun K hK => ?_) (AllReady.nil))
      go_simp
      refine hK _ _ ?_
      clear hK K
      refine wpAny_seq 3 rfl (by kernel_rfl) ?_
      simp only [List.drop_succ_cons, List.drop_zero]
    rotate_left 1
    focus
      go_simp
      refine hK _ _ ?_
      clear hK K
      refine wpAny_ready (rs := [1]) (by kernel_rfl) (by simp) (AllReady.cons rfl (fun K hK => ?_) (AllReady.nil))
      go_simp
      (refine Calls.mono HC.out ?_; rintro e w1 ⟨rfl, hb1⟩; replace hb1 := undrew hb1; have b0 := (hb1.cell (p := ⟨w.heap.size, 0, none⟩) al).trans a0; have b1 := (hb1.cell (p := ⟨w.heap.size, 1, none⟩) al).trans a1; have bl := Nat.lt_of_lt_of_le al hb1.size)
      refine hK _ _ ?_
      clear hK K
      refine wpAny_seq 3 rfl (by kernel_rfl) ?_
      simp only [List.drop_succ_cons, List.drop_zero]
    all_goals
      go_wp2_with fail
      refine Calls.mono (HH.out _) ?_
      rintro e w2 ⟨rfl, hb2⟩
      have hb' := belowTo hb1 hb2
      have hr3 : Boxed w2 (w.heap.size + 1) 3 (.int .i64 (pre.length : Nat)) := (hb'.block _ rl).trans hr
      have rr3 := hr3.cell
      have rf3 := hr3.frozen
      have KO := Lib.hid (KeepsOthers.of_grownBy (grown_of_below hb' none) (fun _ _ e _ => by cases e))
      have hW2 := hb.trans (hb'.mono (by omega))
      have hbW := hb'.mono (B' := w.heap.size) (by omega)
      clear hb1 hb2
      cases k
      · have HX : Hid (∀ i ∈ pre ++ [x], inC (rays ns) i (x0, y0) = false) := fun i hi => by
          rcases List.mem_append.1 hi with hi | hi
          · exact HQ.out i hi
          · obtain rfl := List.mem_singleton.1 hi
            exact HK.out
        have hcv0 : Boxed (w2.setCell ⟨w.heap.size + 1, 0, none⟩ (.int .i64 ((pre.length : Int) + 1))) (w.heap.size + 1) 3 (.int .i64 ((pre ++ [x]).length : Nat)) := by
          have := hr3.set (.int .i64 ((pre.length : Int) + 1))
          simpa using this
        have hcv := Lib.hid hcv0
        clear hcv0
        have hpl : (pre.length : Int) ≤ 1000 := by omega
        have hp0 : (0 : Int) ≤ (pre.length : Int) := by omega
        go_wp2
        gi_wp2
        exact ⟨KO.out.trans (KeepsOthers.setCell _ _ _), hbW.setCell (p := ⟨w.heap.size + 1, 0, none⟩) (by simp) _, ⟨hcv.out, HX.out⟩, hW2.setCell (p := ⟨w.heap.size + 1, 0, none⟩) (by simp) _⟩
      · go_wp2
        gi_wp2
        exact ⟨KO.out, ⟨⟨rfl, pre, x, rfl, HQ.out, HK.out⟩, by simpa using hr3⟩, hW2⟩
  case done =>
    rintro D W hD ⟨⟨hr, hq⟩, hb⟩ hK
    obtain ⟨i, hi, hc⟩ := fan_covers hf (x0, y0)
    rw [rays_len] at hi
    have := hq i (List.mem_range.2 hi)
    rw [hc] at this
    cases this
  case stop =>
    rintro D c pre W hD hpre ⟨⟨⟨rfl, p, x, rfl, hq, hx⟩, hr⟩, hb⟩ hK
    obtain ⟨rfl, hxn⟩ := prefix_range hpre
    have HQ : Hid ((firstI (fun i => inC (rays ns) i (x0, y0)) ns.length) = x) := first_is hxn hx (fun i hi => hq i (List.mem_range.2 hi))
    have e : (List.range x ++ [x]).length - 1 = x := by simp
    rw [e] at hr
    have rr := hr.cell
    have hB2 : Below w.heap.size w (W.putObj D (.deferred none)) := (hw0.trans (hb.mono (by omega))).grown (grownBy_putObj' _ D (.deferred none)) (hw0.trans (hb.mono (by omega))).size (fun k e => by cases e; omega)
    have hKK := Lib.hid hK
    clear hK e hpre hq
    gi_wp2
    refine ⟨by simp, .inl ⟨_, _, rfl, run_takeDeferred hKK.out, ?_⟩⟩
    refine ⟨_, results_tmp rfl _ _ _, ?_, hB2⟩
    rw [HQ.out]
    rfl
end Go.Proofs.YtmencjdlfeojkaaDoor
