import Derived.Test.YtflimnpajkadgaaGreatDoorB8
import Derived.Test.YtflimnpajkadgaaGreatDoorGj
import Derived.LaidEqlPtr
import Derived.Test.YtflimnpajkadgaaGreatDoorB6
import Derived.Test.YtflimnpajkadgaaGreatDoorB4
import Derived.Test.YtflimnpajkadgaaGreatDoorB3
/- Fans: made tidy. -/
namespace Go.Proofs.YtflimnpajkadgaaGreatDoor
open Go.RowKit Go.Shelf

attribute [local go_sem] Oper.semAt_some

def TidyI (w : World) (ns : List Node) (pre : List Nat) (W : World) : Prop :=
  Boxed W w.heap.size 94 (.pointer (some ⟨(cyc ns (tidyAt (rays ns) pre)).1, 0, none⟩)) ∧ Below w.heap.size w W
theorem tidyI_own (w : World) (ns : List Node) {k : Nat} (h : w.heap.size ≤ k) : OwnFrom k (TidyI w ns) :=
  OwnFrom.and (Own.from (boxed_own _ _ (fun pre => .pointer (some ⟨(cyc ns (tidyAt (rays ns) pre)).1, 0, none⟩))) _) (ownFrom_below (Nat.le_refl _) h)
/-- what a method leaves that turns the fan -/
def TurnedEnd (base g : Nat) (ns : List Node) (w : World) (e : Ending) (w' : World) : Prop := (∃ v, e = .returned v) ∧ FanAt w' base g ns ∧ Below base w w'
theorem FanAt.turned {W W' : World} {base g : Nat} {ns : List Node} (h : FanAt W base g ns) (hb : Below W.heap.size W W') {k : Nat} (hk : k < ns.length) : FanAt (W'.setCell ⟨g, 0, none⟩ (.pointer (some ⟨(cyc ns k).1, 0, none⟩))) base g (rot k ns) := by
  have h' := h.below hb
  refine ⟨(h'.ring.same (fun p hp => Below.heap_setCell W' ⟨g, 0, none⟩ _ _ (h.apart p hp))).rot (by omega), ?_, fun p hp => ?_, fun p hp => ?_, h.lowg⟩
  · have := h'.head.set0 (cyc ns k).1
    rw [cyc_rot (by omega), rot_len, Nat.add_zero]
    exact this
  · exact h.apart p (by unfold rot at hp; rcases List.mem_append.1 hp with hp | hp; exact List.mem_of_mem_drop hp; exact List.mem_of_mem_take hp)
  · exact h.low p (by unfold rot at hp; rcases List.mem_append.1 hp with hp | hp; exact List.mem_of_mem_drop hp; exact List.mem_of_mem_take hp)
set_option maxHeartbeats 8000000 in
theorem tidy_in (n : Nat) (hn : 3 ≤ n) (base g : Nat) (ns : List Node) (w : World) (hF : FanAt w base g ns) (hm : ns.length ≤ 1000) (hv : allVec (rays ns)) (hbase : base ≤ w.heap.size) :
    CallsIn Fence.wide n Tryz.prog 55 #[.pointer (some ⟨g, 0, none⟩)] w (TurnedEnd base g (rot (tidyK (rays ns)) ns) w) := by
  have h1 : 1 ≤ n := by omega
  have hd : 1 ≤ n - 1 - 1 := by omega
  have hR := hF.ring
  have hp := hR.pos
  have q0 := hF.head.c0
  have q1 := hF.head.lt
  refine callsIn_of_wp_marks Tryz.func55 rfl trivial ?_ rfl
  simp only [Tryz.ntmps55, List.size_toArray, List.length_cons, List.length_nil, Nat.reduceAdd, Nat.reduceSub, Array.replicate_succ, Array.replicate_zero, List.push_toArray, List.append_toArray, List.nil_append, List.cons_append]
  gi_wp2_with fail
  refine ⟨trivial, ?_⟩
  refine CallsIn.mono (links_in _ g _) ?_
  rintro e w3 ⟨rfl, rfl⟩
  have hA : Below w.heap.size w ((w.alloc (.cells #[.pointer (some ⟨(cyc ns 0).1, 0, none⟩)] 94)).alloc (.cells #[.pointer (some ⟨g, 0, none⟩)] 51)) := by go_grown
  have bB := (Boxed.new w 94 (.pointer (some ⟨(cyc ns 0).1, 0, none⟩))).alloc (.cells #[.pointer (some ⟨g, 0, none⟩)] 51)
  have bF := Boxed.new (w.alloc (.cells #[.pointer (some ⟨(cyc ns 0).1, 0, none⟩)] 94)) 51 (.pointer (some ⟨g, 0, none⟩))
  have hz5 : ((w.alloc (.cells #[.pointer (some ⟨(cyc ns 0).1, 0, none⟩)] 94)).alloc (.cells #[.pointer (some ⟨g, 0, none⟩)] 51)).heap.size = w.heap.size + 1 + 1 := by simp
  simp only [World.size_alloc] at bF
  gi_wp2_with fail
  generalize ((w.alloc (.cells #[.pointer (some ⟨(cyc ns 0).1, 0, none⟩)] 94)).alloc (.cells #[.pointer (some ⟨g, 0, none⟩)] 51)) = W5 at *
  refine wpIn_links (by omega) rfl bF.cell hA.size (hF.below hA) (fun p hp => hR.mem_lt hp) hm rfl
    (TidyI w ns) (fun _ _ _ => False) (tidyI_own _ _ (by omega))
    (fun _ _ _ _ _ h _ _ => h) ⟨bB, hA⟩ ?a₁ ?assign ?body ?done ?stop
  case assign =>
    intro l x W K hK
    gi_wp2
    exact hK
  case body =>
    rintro l pre x W ⟨hc, hb⟩ hlen
    have hRW := hR.below hb
    have hsz := hb.size
    have cc := hc.cell
    have cf := hc.frozen
    have cl := hc.lt
    have hT := Lib.hid (tidy_snoc (rays ns) pre x)
    rw [rays_cyc hp, rays_cyc hp] at hT
    have v1 := hv x
    have v2 := hv (tidyAt (rays ns) pre)
    rw [rays_cyc hp] at v1 v2
    have HA := Lib.hid (fun w' => ahead_any _ _ _ _ w' v1 v2)
    generalize tidyAt (rays ns) pre = j at *
    have hL := hRW.link x
    have hZ := hRW.link j
    have p0 := hL.c0
    have p1 := hL.c1
    have z0 := hZ.c0
    have z1 := hZ.c1
    have pl := hL.lt
    have zl := hZ.lt
    clear v1 v2 hL hZ
    unfold aheadV at hT
    generalize aheadB (cyc ns x).2.1 (cyc ns x).2.2 (cyc ns j).2.1 (cyc ns j).2.2 = k at HA hT
    gi_wp2
    refine region_round (by kernel_rfl) (noDefer_of (by kernel_rfl)) (by rintro ⟨_, _, h⟩; exact False.elim h) ?_
    refine wpAny_take (i := 0) (v := ?_) rfl (by kernel_rfl) (by kernel_rfl) (by kernel_rfl) (fun _ _ _ h => h) (Or.inl ⟨by rfl, ?_⟩) ?_
    rotate_left
    focus (intro w0; go_simp; try with_reducible rfl)
    refine wpAny_take (i := 1) (v := ?_) rfl (by kernel_rfl) (by kernel_rfl) (by kernel_rfl) (fun _ _ _ h => h) (Or.inl ⟨by rfl, ?_⟩) ?_
    rotate_left
    focus (intro w0; go_simp; try with_reducible rfl)
    refine wpAny_take (i := 2) (v := ?_) rfl (by kernel_rfl) (by kernel_rfl) (by kernel_rfl) (fun _ _ _ h => h) (Or.inl ⟨by rfl, ?_⟩) ?_
    rotate_left
    focus (intro w0; go_simp; try with_reducible rfl)
    refine wpAny_ready (rs := [3, 4]) (by kernel_rfl) (by simp) (AllReady.cons rfl (fun K hK => ?_) (AllReady.cons rfl (fun K hK => ?_) (AllReady.nil)))
    focus
      go_simp
      refine hK _ _ ?_
      clear hK K
      refine wpAny_ready (rs := [4]) (by kernel_rfl) (by simp) (AllReady.cons rfl (fun K hK => ?_) (AllReady.nil))
      go_simp
      refine hK _ _ ?_
      clear hK K
      refine wpAny_take (i := 5) (v := ?_) rfl (by kernel_rfl) (by kernel_rfl) (by kernel_rfl) (fun _ _ _ h => h) (Or.inl ⟨by rfl, ?_⟩) ?_
      rotate_left
      focus (intro w0; go_simp; try with_reducible rfl)
      refine wpAny_take (i := 6) (v := ?_) rfl (by kernel_rfl) (by kernel_rfl) (by kernel_rfl) (fun _ _ _ h => h) (Or.inl ⟨by rfl, ?_⟩) ?_
      rotate_left
      focus (intro w0; go_simp; try with_reducible rfl)
      refine wpAny_ready (rs := [7]) (by kernel_rfl) (by simp) (AllReady.cons rfl (fun K hK => ?_) (AllReady.nil))
      go_simp
      refine hK _ _ ?_
      clear hK K
      refine wpAny_seq 8 rfl (by kernel_rfl) ?_
      simp only [List.drop_succ_cons, List.drop_zero]
    rotate_left 1
    focus
      go_simp
      refine hK _ _ ?_
      clear hK K
      refine wpAny_take (i := 5) (v := ?_) rfl (by kernel_rfl) (by kernel_rfl) (by kernel_rfl) (fun _ _ _ h => h) (Or.inl ⟨by rfl, ?_⟩) ?_
      rotate_left
      focus (intro w0; go_simp; try with_reducible rfl)
      refine wpAny_take (i := 6) (v := ?_) rfl (by kernel_rfl) (by kernel_rfl) (by kernel_rfl) (fun _ _ _ h => h) (Or.inl ⟨by rfl, ?_⟩) ?_
      rotate_left
      focus (intro w0; go_simp; try with_reducible rfl)
      refine wpAny_ready (rs := [3, 7]) (by kernel_rfl) (by simp) (AllReady.cons rfl (fun K hK => ?_) (AllReady.cons rfl (fun K hK => ?_) (AllReady.nil)))
      focus
        go_simp
        refine hK _ _ ?_
        clear hK K
        refine wpAny_ready (rs := [7]) (by kernel_rfl) (by simp) (AllReady.cons rfl (fun K hK => ?_) (AllReady.nil))
        go_simp
        refine hK _ _ ?_
        clear hK K
        refine wpAny_seq 8 rfl (by kernel_rfl) ?_
        simp only [List.drop_succ_cons, List.drop_zero]
      rotate_left 1
      focus
        go_simp
        refine hK _ _ ?_
        clear hK K
        refine wpAny_ready (rs := [3]) (by kernel_rfl) (by simp) (AllReady.cons rfl (fun K hK => ?_) (AllReady.nil))
        go_simp
        refine hK _ _ ?_
        clear hK K
        refine wpAny_seq 8 rfl (by kernel_rfl) ?_
        simp only [List.drop_succ_cons, List.drop_zero]
    all_goals
      go_wp2_with fail
      refine Calls.mono (HA.out _) ?_
      rintro e w4 ⟨rfl, hb4⟩
      have hb5 := undrew hb4
      have hc4 : Boxed w4 w.heap.size 94 (.pointer (some ⟨(cyc ns j).1, 0, none⟩)) := (hb5.block _ cl).trans hc
      have cc4 := hc4.cell
      have cf4 := hc4.frozen
      have KO := Lib.hid (KeepsOthers.of_grownBy (grown_of_below hb5 none) (fun _ _ e _ => by cases e))
      have hB5 := hb.trans (hb5.mono hsz)
      clear hb4
      cases k
      · have hT2 : Hid (tidyAt (rays ns) (pre ++ [x]) = j) := hT.out
        go_wp2
        gi_wp2
        refine ⟨KO.out, hb5.mono hsz, ?_, hB5⟩
        rw [hT2.out]
        exact hc4
      · have hT2 : Hid (tidyAt (rays ns) (pre ++ [x]) = x) := hT.out
        go_wp2
        gi_wp2
        refine ⟨KO.out.trans (KeepsOthers.setCell _ _ _), (hb5.mono hsz).setCell (p := ⟨w.heap.size, 0, none⟩) (Nat.le_refl _) _, ?_, hB5.setCell (p := ⟨w.heap.size, 0, none⟩) (Nat.le_refl _) _⟩
        rw [hT2.out]
        exact hc4.set _
  case done =>
    rintro D W hD ⟨hc, hb⟩ hK
    have hk : tidyAt (rays ns) (List.range ns.length) = tidyK (rays ns) := by unfold tidyK; rw [rays_len]
    have hkl : tidyK (rays ns) < ns.length := by have := tidyK_lt (l := rays ns) (by rw [rays_len]; exact hp); rwa [rays_len] at this
    rw [hk] at hc
    have cc := hc.cell
    have hFW := hF.below hb
    have u0 := hFW.head.c0
    have uf := hFW.head.free 0
    have hT := hF.turned hb hkl
    have hgD : g ≠ D := by have := hF.head.lt; omega
    have hK' : (W.setCell ⟨g, 0, none⟩ (.pointer (some ⟨(cyc ns (tidyK (rays ns))).1, 0, none⟩))).heap[D]? = some (.deferred (some [])) := (Below.heap_setCell W ⟨g, 0, none⟩ _ D (by simp; omega)).trans hK
    have hB2 : Below base w ((W.setCell ⟨g, 0, none⟩ (.pointer (some ⟨(cyc ns (tidyK (rays ns))).1, 0, none⟩))).putObj D (.deferred none)) := ((hb.mono hbase).setCell (p := ⟨g, 0, none⟩) hF.lowg _).grown (grownBy_putObj' _ D (.deferred none)) (by have := hb.size; simp; omega) (fun k e => by cases e; have := hb.size; omega)
    have hT2 : FanAt ((W.setCell ⟨g, 0, none⟩ (.pointer (some ⟨(cyc ns (tidyK (rays ns))).1, 0, none⟩))).putObj D (.deferred none)) base g (rot (tidyK (rays ns)) ns) := by
      have e : ∀ k, k < w.heap.size → ((W.setCell ⟨g, 0, none⟩ (.pointer (some ⟨(cyc ns (tidyK (rays ns))).1, 0, none⟩))).putObj D (.deferred none)).heap[k]? = (W.setCell ⟨g, 0, none⟩ (.pointer (some ⟨(cyc ns (tidyK (rays ns))).1, 0, none⟩))).heap[k]? := fun k hk => World.putObj_heap_other (by omega)
      refine ⟨hT.ring.same (fun p hp' => e _ (hR.mem_lt ?_)), (e g hF.head.lt).trans hT.head, hT.apart, hT.low, hT.lowg⟩
      unfold rot at hp'
      rcases List.mem_append.1 hp' with hp' | hp'
      · exact List.mem_of_mem_drop hp'
      · exact List.mem_of_mem_take hp'
    have HT := Lib.hid hT2
    have HB := Lib.hid hB2
    have hKK := Lib.hid hK'
    clear hT hT2 hB2 hK hK' hk
    gi_wp2
    refine ⟨by simp, .inl ⟨_, _, rfl, run_takeDeferred hKK.out, ?_⟩⟩
    exact ⟨_, results_none rfl _ _ _, ⟨_, rfl⟩, HT.out, HB.out⟩
  case stop =>
    rintro D c pre W _ _ h _
    exact h.elim
end Go.Proofs.YtflimnpajkadgaaGreatDoor

/- Fans: the link with an index; a ray blown down. -/
namespace Go.Proofs.YtflimnpajkadgaaGreatDoor
open Go.RowKit

def TakeEnd (ns : List Node) (w : World) (e : Ending) (w' : World) : Prop := (∃ v, e = .returned v) ∧ Ring w' ns ∧ Touched ns w w'
theorem Ring.mem {W : World} {ns : List Node} (h : Ring W ns) {p : Node} (hp : p ∈ ns) : ∃ a z, Link W p.1 p.2 a z := by
  obtain ⟨i, hi, rfl⟩ := List.mem_iff_getElem.1 hp
  have := h.link i
  rw [cyc_lt hi, List.getElem?_eq_getElem hi] at this
  exact ⟨_, _, this⟩
theorem infoLink : (Tryz.prog.info? 101).map (fun i => (i.zero, i.size, i.bytes)) = some (some (.agg #[.int .i64 0, .int .i64 0, .pointer none, .pointer none]), 4, 32) := by kernel_rfl
theorem eql_same (q : Nat) (w : World) : (binOp .eql 94 (.pointer (some ⟨q, 0, none⟩)) (.pointer (some ⟨q, 0, none⟩))).run Tryz.prog w = .ok (.bool true) w := by
  obtain ⟨j, hj, _⟩ := info_parts infoLink
  exact run_eql_ptr_same w _ Tryz.underlying94 hj
theorem eql_other {q q' : Nat} {w : World} {p p' : V2} {a z a' z' : Nat} (h : q ≠ q') (h1 : Link w q p a z) (h2 : Link w q' p' a' z') : (binOp .eql 94 (.pointer (some ⟨q, 0, none⟩)) (.pointer (some ⟨q', 0, none⟩))).run Tryz.prog w = .ok (.bool false) w := by
  obtain ⟨j, hj, _, hs, _⟩ := info_parts infoLink
  exact run_eql_ptr_other w Tryz.underlying94 hj (by rw [hs]; decide) (fun e => h (by cases e; rfl)) h1 h2
/-! a ray taken out of a list -/
def downL {α : Type} (l : List α) (i : Nat) : List α := l.take i ++ l.drop (i + 1)
theorem downL_len {α : Type} {l : List α} {i : Nat} (h : i < l.length) : (downL l i).length = l.length - 1 := by
  simp [downL]
  omega
theorem rays_down (ns : List Node) (i : Nat) : rays (downL ns i) = downL (rays ns) i := by simp [rays, downL, List.map_take, List.map_drop]
theorem rot_last {ns : List Node} {i : Nat} (h : i < ns.length) : rot (i + 1) ns = (ns.drop (i + 1) ++ ns.take i) ++ [cyc ns i] := by
  unfold rot
  rw [List.take_add_one, cyc_get h, List.append_assoc]
  rfl
theorem rot_down {ns : List Node} {i : Nat} : rot (ns.length - (i + 1)) (ns.drop (i + 1) ++ ns.take i) = downL ns i := by
  unfold rot downL
  rw [← List.length_drop, List.drop_left, List.take_left]
theorem down_zero {ns : List Node} {i : Nat} (h : i < ns.length) (h2 : 2 ≤ ns.length) : cyc (downL ns i) 0 = if i = 0 then cyc ns 1 else cyc ns 0 := by
  rw [cyc_lt (by rw [downL_len h]; omega)]
  unfold downL
  split
  · next e =>
    subst e
    rw [cyc_lt (by omega)]
    simp
  · rw [cyc_lt (by omega), List.getElem?_append_left (by simp; omega), List.getElem?_take_of_lt (by omega)]
theorem mem_down {ns : List Node} {i : Nat} {p : Node} (h : p ∈ downL ns i) : p ∈ ns := by
  unfold downL at h
  rcases List.mem_append.1 h with h | h
  · exact List.mem_of_mem_take h
  · exact List.mem_of_mem_drop h
end Go.Proofs.YtflimnpajkadgaaGreatDoor

/- Fans: where a vector is. -/
namespace Go.Proofs.YtflimnpajkadgaaGreatDoor
open Go.RowKit Go.Shelf

attribute [local go_sem] Oper.semAt_some

/-- the first index at which p holds, among n -/
def firstI (p : Nat → Bool) (n : Nat) : Nat := ((List.range n).takeWhile (fun i => !p i)).length
theorem first_is {p : Nat → Bool} {n k : Nat} (hk : k < n) (hp : p k = true) (h : ∀ i, i < k → p i = false) : firstI p n = k := by
  unfold firstI
  have e : List.range n = List.range k ++ k :: (List.range n).drop (k + 1) := by
    have e1 : List.range k ++ [k] = (List.range n).take (k + 1) := by rw [List.take_range, Nat.min_eq_left (by omega), List.range_succ]
    rw [List.append_cons, e1, List.take_append_drop]
  rw [e, List.takeWhile_append_of_pos (fun i hi => by rw [h i (List.mem_range.1 hi)]; rfl), List.takeWhile_cons_of_neg (by rw [hp]; decide), List.append_nil, List.length_range]
theorem prefix_range {p : List Nat} {x n : Nat} (h : p ++ [x] <+: List.range n) : p = List.range x ∧ x < n := by
  have hl := h.length_le
  simp at hl
  have e := List.prefix_iff_eq_take.1 h
  rw [List.take_range, List.length_append, List.length_singleton, Nat.min_eq_left (by omega), List.range_succ] at e
  obtain ⟨e1, e2⟩ := List.append_inj e (by simp)
  obtain rfl : x = p.length := by simpa using e2
  exact ⟨e1, by omega⟩
def WhereI (w w0 : World) (l : List V2) (a : V2) (pre : List Nat) (W : World) : Prop :=
  (Boxed W (w.heap.size + 1) 3 (.int .i64 (pre.length : Nat)) ∧ ∀ i ∈ pre, inC l i a = false) ∧ Below (w.heap.size + 1) w0 W
def WhereX (w w0 : World) (l : List V2) (a : V2) (c : Code) (pre : List Nat) (W : World) : Prop :=
  ((c = .exit 0 ∧ ∃ p x, pre = p ++ [x] ∧ (∀ i ∈ p, inC l i a = false) ∧ inC l x a = true) ∧ Boxed W (w.heap.size + 1) 3 (.int .i64 ((pre.length - 1 : Nat) : Int))) ∧ Below (w.heap.size + 1) w0 W
theorem whereI_own (w w0 : World) (l : List V2) (a : V2) {k : Nat} (h0 : w.heap.size + 1 ≤ w0.heap.size) (h : w.heap.size + 1 ≤ k) : OwnFrom k (WhereI w w0 l a) :=
  OwnFrom.and (OwnFrom.and (Own.from (boxed_own _ _ (fun pre : List Nat => .int .i64 (pre.length : Nat))) _) (ownFrom_pure k (fun pre => ∀ i ∈ pre, inC l i a = false))) (ownFrom_below h0 h)
theorem whereX_own (w w0 : World) (l : List V2) (a : V2) (c : Code) {k : Nat} (h0 : w.heap.size + 1 ≤ w0.heap.size) (h : w.heap.size + 1 ≤ k) : OwnFrom k (WhereX w w0 l a c) :=
  OwnFrom.and (OwnFrom.and (ownFrom_pure k (fun pre => c = .exit 0 ∧ ∃ p x, pre = p ++ [x] ∧ (∀ i ∈ p, inC l i a = false) ∧ inC l x a = true)) (Own.from (boxed_own _ _ (fun pre : List Nat => .int .i64 ((pre.length - 1 : Nat) : Int))) _)) (ownFrom_below h0 h)
theorem in_rays {ns : List Node} (h : 0 < ns.length) (x : Nat) (a : V2) : inC (rays ns) x a = inB (cyc ns x).2.1 (cyc ns x).2.2 (cyc ns (x + 1)).2.1 (cyc ns (x + 1)).2.2 a.1 a.2 := by
  unfold inC
  rw [rays_cyc h, rays_cyc h]
end Go.Proofs.YtflimnpajkadgaaGreatDoor

/- Fans: the numbers of the rays. -/
namespace Go.Proofs.YtflimnpajkadgaaGreatDoor
open Go.RowKit Go.Shelf

attribute [local go_sem] Oper.semAt_some

/-- a box B holds a list of numbers of the call's own -/
def IntsI (w : World) (B : Nat) (f : List Nat → List Int) (pre : List Nat) (W : World) : Prop :=
  (∃ v, Boxed W B 125 v ∧ W.ownsRow w.heap.size 3 1 v (f pre).length (intsV (f pre)) ∧ True) ∧ Below w.heap.size w W
theorem intsI_own (w : World) (B : Nat) (f : List Nat → List Int) {k : Nat} (h : w.heap.size ≤ k) : OwnFrom k (IntsI w B f) :=
  OwnFrom.and (Own.from (holdsRow_own _ _ _ _ _ (fun pre => (f pre).length) (fun pre => intsV (f pre)) (fun _ _ => True)) _) (ownFrom_below (Nat.le_refl _) h)
def numsAt (l : List V2) (pre : List Nat) : List Int := pre.map (numZ l)
theorem numsAt_snoc (l : List V2) (pre : List Nat) (x : Nat) : numsAt l (pre ++ [x]) = numsAt l pre ++ [numZ l x] := by simp [numsAt]
theorem Ints.snoc {w : World} {base n : Nat} {v : Value} {l : List Int} {x : Int} (hn : n = l.length) (h : w.ownsRow base 3 1 v (n + 1) (intsV l ++ [.int .i64 x])) : Ints w base v (l ++ [x]) := by
  unfold Ints
  rw [List.length_append, ← hn]
  have : intsV (l ++ [x]) = intsV l ++ [.int .i64 x] := by simp [intsV]
  rw [this]
  exact h
end Go.Proofs.YtflimnpajkadgaaGreatDoor

/- Fans: the first ray that can be blown down. -/
namespace Go.Proofs.YtflimnpajkadgaaGreatDoor
open Go.RowKit Go.Shelf

attribute [local go_sem] Oper.semAt_some

def downB (l : List V2) (i : Nat) : Bool := decide (3 < l.length) && (numZ l i == -1)
def DownI (w w0 : World) (ns : List Node) (pre : List Nat) (W : World) : Prop :=
  (Boxed W (w.heap.size + 1) 94 (.pointer none) ∧ ∀ i ∈ pre, downB (rays ns) i = false) ∧ Below (w.heap.size + 1) w0 W
def DownX (w w0 : World) (ns : List Node) (c : Code) (pre : List Nat) (W : World) : Prop :=
  ((c = .ret ∧ ∃ p x, pre = p ++ [x] ∧ (∀ i ∈ p, downB (rays ns) i = false) ∧ downB (rays ns) x = true) ∧ ∃ x p, pre = p ++ [x] ∧ Boxed W (w.heap.size + 1) 94 (.pointer (some ⟨(cyc ns x).1, 0, none⟩))) ∧ Below (w.heap.size + 1) w0 W
theorem downI_own (w w0 : World) (ns : List Node) {k : Nat} (h0 : w.heap.size + 1 ≤ w0.heap.size) (h : w.heap.size + 1 ≤ k) : OwnFrom k (DownI w w0 ns) :=
  OwnFrom.and (OwnFrom.and (Own.from (ownErr _ _ _) _) (ownFrom_pure k (fun pre => ∀ i ∈ pre, downB (rays ns) i = false))) (ownFrom_below h0 h)
theorem downX_own (w w0 : World) (ns : List Node) (c : Code) {k : Nat} (h0 : w.heap.size + 1 ≤ w0.heap.size) (h : w.heap.size + 1 ≤ k) : OwnFrom k (DownX w w0 ns c) := by
  refine OwnFrom.and (OwnFrom.and (ownFrom_pure k (fun pre => c = .ret ∧ ∃ p x, pre = p ++ [x] ∧ (∀ i ∈ p, downB (rays ns) i = false) ∧ downB (rays ns) x = true)) ?_) (ownFrom_below h0 h)
  rintro s X Y row ⟨x, p, rfl, hb⟩ hg hr
  exact ⟨x, p, rfl, ownErr _ _ _ (p ++ [x]) X Y row hb hg (fun r e => (hr r e).2)⟩
/-- the first link whose ray can be blown down, or none -/
def DownEnd (ns : List Node) (e : Ending) : Prop :=
  (∃ k, k < ns.length ∧ e = .returned (.pointer (some ⟨(cyc ns k).1, 0, none⟩)) ∧ downB (rays ns) k = true ∧ ∀ i, i < k → downB (rays ns) i = false) ∨ (e = .returned (.pointer none) ∧ ∀ i, i < ns.length → downB (rays ns) i = false)
end Go.Proofs.YtflimnpajkadgaaGreatDoor

/- Fans: the program's functions that read a fan. -/
namespace Go.Proofs.YtflimnpajkadgaaGreatDoor
open Go.RowKit

/-- a list, or none -/
def gV {α : Type} (b : Bool) (l : List α) : List α := if b then l else []
theorem gV_len {α : Type} {b : Bool} {l : List α} {n : Nat} (h : b = true → l.length ≤ n) : (gV b l).length ≤ n := by
  cases b
  · exact Nat.zero_le _
  · exact h rfl
theorem fan_small {l : List V2} {ns : List Node} (h : fanB l = true) (hn : rays ns = l) : ns.length ≤ 1000 ∧ ns.length = l.length := by
  have := fan_len h
  rw [← hn, rays_len] at this
  exact ⟨by omega, by rw [← hn, rays_len]⟩
theorem rays_any (base g : Nat) (ns : List Node) (w : World) (hF : FanAt w base g ns) (hm : ns.length ≤ 1000) : Calls Tryz.prog 56 #[.pointer (some ⟨g, 0, none⟩)] w (GivesVecs w (rays ns)) :=
  callsIn_wide.1 (rays_in 3 (by omega) base g ns w hF hm)
set_option maxHeartbeats 4000000 in
theorem fanIn_any (v : Value) (l : List V2) (w : World) (hl : ReadsVecs w v l) (hg : EtOk w) :
    Calls Tryz.prog 19 #[v] w fun e w' => e = .returned (.bool (fanB l)) ∧ Below w.heap.size w w' := by
  have HO := Lib.hid (fanOf_any v l w hl hg)
  clear hl
  generalize fanB l = b at *
  go_enter Tryz.func19, Tryz.ntmps19
  go_wp2_with fail
  refine Calls.mono HO.out ?_
  rintro e w1 ⟨⟨rfl, g, ns, rfl, hF, hn⟩ | ⟨rfl, rfl⟩, hb1⟩
  · clear hF hn
    go_wp2
    go_returns
    exact ⟨rfl, hb1⟩
  · go_wp2
    go_returns
    exact ⟨rfl, hb1⟩
set_option maxHeartbeats 4000000 in
theorem fanTidy_any (v : Value) (l : List V2) (w : World) (hl : ReadsVecs w v l) (hg : EtOk w) :
    Calls Tryz.prog 32 #[v] w (GivesVecsOk w (gV (fanB l) (tidyL l)) (fanB l)) := by
  have HO := Lib.hid (fanOf_any v l w hl hg)
  have HV := Lib.hid (fun h => fan_vec (l := l) h)
  have HS := Lib.hid (fun (ns : List Node) h hn => fan_small (l := l) (ns := ns) h hn)
  clear hl
  generalize hb : fanB l = b at HO HV HS
  go_enter Tryz.func32, Tryz.ntmps32
  go_wp2_with fail
  refine Calls.mono HO.out ?_
  rintro e w1 ⟨⟨rfl, g, ns, rfl, hF, hn⟩ | ⟨rfl, rfl⟩, hb1⟩
  · obtain ⟨hs, hnl⟩ := HS.out ns (by simp) hn
    have HT := Lib.hid (callsIn_wide.1 (tidy_in 3 (by omega) w.heap.size g ns w1 hF hs (by rw [hn]; exact HV.out (by simp)) hb1.size))
    have HN := Lib.hid hn
    clear hn hnl hF
    go_wp2_with fail
    refine Calls.mono HT.out ?_
    rintro e w2 ⟨⟨v2, rfl⟩, hF2, hb2⟩
    rw [HN.out] at hF2
    have HR := Lib.hid (rays_any _ _ _ w2 hF2 (by rw [rot_len]; exact hs))
    have hB := hb1.trans hb2
    clear hF2 hb2 HT
    go_wp2_with fail
    refine Calls.mono HR.out ?_
    rintro e w3 ⟨v3, rfl, hV, hb3⟩
    have HV3 : Hid (Vecs w3 w.heap.size v3 (tidyL l)) := by
      have := hV.lower hB.size
      unfold rays at this
      rw [rot_map] at this
      have e2 : ns.map (·.2) = l := HN.out
      rw [e2] at this
      exact this
    have hB2 := belowTo hB hb3
    clear hV hb3 HR hB hb
    go_wp2
    go_returns
    exact ⟨_, rfl, HV3.out, hB2⟩
  · clear hb
    go_wp2
    go_returns
    exact ⟨_, rfl, Vecs.nil _ _, hb1⟩
def idxB (l : List V2) (i : Int) : Bool := decide (0 ≤ i) && decide (i < (l.length : Int))
theorem idx_in {l : List V2} {i : Int} (h : idxB l i = true) : ∃ m : Nat, i = m ∧ m < l.length := by
  have h' : 0 ≤ i ∧ i < (l.length : Int) := by simpa [idxB] using h
  exact ⟨i.toNat, by omega, by omega⟩
theorem idx_out {l : List V2} {i : Int} (h : idxB l i = false) : i < 0 ∨ (l.length : Int) ≤ i := by
  simp [idxB] at h
  omega
end Go.Proofs.YtflimnpajkadgaaGreatDoor
