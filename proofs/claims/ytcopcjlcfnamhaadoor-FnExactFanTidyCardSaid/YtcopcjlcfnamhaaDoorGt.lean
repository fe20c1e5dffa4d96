/- Fans: made tidy. -/
import Derived.Test.YtcopcjlcfnamhaaDoorGf
namespace Go.Proofs.YtcopcjlcfnamhaaDoor
open Go.RowKit Go.Shelf

attribute [local go_sem] Oper.semAt_some

def TidyI (w : World) (ns : List Node) (pre : List Nat) (W : World) : Prop :=
  Boxed W w.heap.size 61 (.pointer (some ⟨(cyc ns (tidyAt (rays ns) pre)).1, 0, none⟩)) ∧ Below w.heap.size w W
theorem tidyI_own (w : World) (ns : List Node) {k : Nat} (h : w.heap.size ≤ k) : OwnFrom k (TidyI w ns) :=
  OwnFrom.and (Own.from (boxed_own _ _ (fun pre => .pointer (some ⟨(cyc ns (tidyAt (rays ns) pre)).1, 0, none⟩))) _) (ownFrom_below (Nat.le_refl _) h)
/-- what a method leaves that turns the fan -/
def TurnedEnd (base g : Nat) (ns : List Node) (w : World) (e : Ending) (w' : World) : Prop := (∃ v, e = .returned v) ∧ FanAt w' base g ns ∧ Below base w w'
theorem FanAt.turned {W W' : World} {base g : Nat} {ns : List Node} (h : FanAt W base g ns) (hb : Below W.heap.size W W') {k : Nat} (hk : k < ns.length) : FanAt (W'.setCell ⟨g, 0, none⟩ (.pointer (some ⟨(cyc ns k).1, 0, none⟩))) base g (rot k ns) := by
  have h' := h.below hb
  refine ⟨(h'.ring.same (fun p hp => Below.heap_setCell W' ⟨g, 0, none⟩ _ _ (h.apart p hp))).rot (by omega), ?_, fun p hp => ?_, fun p hp => ?_, h.lowg⟩
  · have := h'.head.set0 (cyc ns k).1
    rw [cyc_rot (by omega), rot_len, Nat.add_zero]
    exact this
  · exact h.apart p (by unfold rot at hp; rcases List.mem_append.1 hp with hp | hp; exact List.mem_of_mem_drop hp; exact List.mem_of_mem_take hp)
  · exact h.low p (by unfold rot at hp; rcases List.mem_append.1 hp with hp | hp; exact List.mem_of_mem_drop hp; exact List.mem_of_mem_take hp)
set_option maxHeartbeats 8000000 in
theorem tidy_in (n : Nat) (hn : 3 ≤ n) (base g : Nat) (ns : List Node) (w : World) (hF : FanAt w base g ns) (hm : ns.length ≤ 1000) (hv : allVec (rays ns)) (hbase : base ≤ w.heap.size) :
    CallsIn Fence.wide n Tryd.prog 45 #[.pointer (some ⟨g, 0, none⟩)] w (TurnedEnd base g (rot (tidyK (rays ns)) ns) w) := by
  have h1 : 1 ≤ n := by omega
  have hd : 1 ≤ n - 1 - 1 := by omega
  have hR := hF.ring
  have hp := hR.pos
  have q0 := hF.head.c0
  have q1 := hF.head.lt
  refine callsIn_of_wp_marks Tryd.func45 rfl trivial ?_ rfl
  simp only [Tryd.ntmps45, List.size_toArray, List.length_cons, List.length_nil, Nat.reduceAdd, Nat.reduceSub, Array.replicate_succ, Array.replicate_zero, List.push_toArray, List.append_toArray, List.nil_append, List.cons_append]
  gi_wp2_with fail
  refine ⟨trivial, ?_⟩
  refine CallsIn.mono (links_in _ g _) ?_
  rintro e w3 ⟨rfl, rfl⟩
  have hA : Below w.heap.size w ((w.alloc (.cells #[.pointer (some ⟨(cyc ns 0).1, 0, none⟩)] 61)).alloc (.cells #[.pointer (some ⟨g, 0, none⟩)] 55)) := by go_grown
  have bB := (Boxed.new w 61 (.pointer (some ⟨(cyc ns 0).1, 0, none⟩))).alloc (.cells #[.pointer (some ⟨g, 0, none⟩)] 55)
  have bF := Boxed.new (w.alloc (.cells #[.pointer (some ⟨(cyc ns 0).1, 0, none⟩)] 61)) 55 (.pointer (some ⟨g, 0, none⟩))
  have hz5 : ((w.alloc (.cells #[.pointer (some ⟨(cyc ns 0).1, 0, none⟩)] 61)).alloc (.cells #[.pointer (some ⟨g, 0, none⟩)] 55)).heap.size = w.heap.size + 1 + 1 := by simp
  simp only [World.size_alloc] at bF
  gi_wp2_with fail
  generalize ((w.alloc (.cells #[.pointer (some ⟨(cyc ns 0).1, 0, none⟩)] 61)).alloc (.cells #[.pointer (some ⟨g, 0, none⟩)] 55)) = W5 at *
  refine wpIn_links (by omega) rfl bF.cell hA.size (hF.below hA) (fun p hp => hR.mem_lt hp) hm rfl
    (TidyI w ns) (fun _ _ _ => False) (tidyI_own _ _ (by omega))
    (fun _ _ _ _ _ h _ _ => h) ⟨bB, hA⟩ ?a₁ ?assign ?body ?done ?stop
  case assign =>
    intro l x W K hK
    gi_wp2
    exact hK
  case body =>
    rintro l pre x W ⟨hc, hb⟩ hlen
    have hRW := hR.below hb
    have hsz := hb.size
    have cc := hc.cell
    have cf := hc.frozen
    have cl := hc.lt
    have hT := Lib.hid (tidy_snoc (rays ns) pre x)
    rw [rays_cyc hp, rays_cyc hp] at hT
    have v1 := hv x
    have v2 := hv (tidyAt (rays ns) pre)
    rw [rays_cyc hp] at v1 v2
    have HA := Lib.hid (fun w' => ahead_any _ _ _ _ w' v1 v2)
    generalize tidyAt (rays ns) pre = j at *
    have hL := hRW.link x
    have hZ := hRW.link j
    have p0 := hL.c0
    have p1 := hL.c1
    have z0 := hZ.c0
    have z1 := hZ.c1
    have pl := hL.lt
    have zl := hZ.lt
    clear v1 v2 hL hZ
    unfold aheadV at hT
    generalize aheadB (cyc ns x).2.1 (cyc ns x).2.2 (cyc ns j).2.1 (cyc ns j).2.2 = k at HA hT
    gi_wp2
    refine region_round (by kernel_rfl) (noDefer_of (by kernel_rfl)) (by rintro ⟨_, _, h⟩; exact False.elim h) ?_
    refine wpAny_take (i := 0) (v := ?_) rfl (by kernel_rfl) (by kernel_rfl) (by kernel_rfl) (fun _ _ _ h => h) (Or.inl ⟨by rfl, ?_⟩) ?_
    rotate_left
    focus (intro w0; go_simp; try with_reducible rfl)
    refine wpAny_take (i := 1) (v := ?_) rfl (by kernel_rfl) (by kernel_rfl) (by kernel_rfl) (fun _ _ _ h => h) (Or.inl ⟨by rfl, ?_⟩) ?_
    rotate_left
    focus (intro w0; go_simp; try with_reducible rfl)
    refine wpAny_take (i := 2) (v := ?_) rfl (by kernel_rfl) (by kernel_rfl) (by kernel_rfl) (fun _ _ _ h => h) (Or.inl ⟨by rfl, ?_⟩) ?_
    rotate_left
    focus (intro w0; go_simp; try with_reducible rfl)
    refine wpAny_ready (rs := [3, 4]) (by kernel_rfl) (by simp) (AllReady.cons rfl (fun K hK => ?_) (AllReady.cons rfl (fun K hK => ?_) (AllReady.nil)))
    focus
      go_simp
      refine hK _ _ ?_
      clear hK K
      refine wpAny_ready (rs := [4]) (by kernel_rfl) (by simp) (AllReady.cons rfl (fun K hK => ?_) (AllReady.nil))
      go_simp
      refine hK _ _ ?_
      clear hK K
      refine wpAny_take (i := 5) (v := ?_) rfl (by kernel_rfl) (by kernel_rfl) (by kernel_rfl) (fun _ _ _ h => h) (Or.inl ⟨by rfl, ?_⟩) ?_
      rotate_left
      focus (intro w0; go_simp; try with_reducible rfl)
      refine wpAny_take (i := 6) (v := ?_) rfl (by kernel_rfl) (by kernel_rfl) (by kernel_rfl) (fun _ _ _ h => h) (Or.inl ⟨by rfl, ?_⟩) ?_
      rotate_left
      focus (intro w0; go_simp; try with_reducible rfl)
      refine wpAny_ready (rs := [7]) (by kernel_rfl) (by simp) (AllReady.cons rfl (fun K hK => ?_) (AllReady.nil))
      go_simp
      refine hK _ _ ?_
      clear hK K
      refine wpAny_seq 8 rfl (by kernel_rfl) ?_
      simp only [List.drop_succ_cons, List.drop_zero]
    rotate_left 1
    focus
      go_simp
      refine hK _ _ ?_
      clear hK K
      refine wpAny_take (i := 5) (v := ?_) rfl (by kernel_rfl) (by kernel_rfl) (by kernel_rfl) (fun _ _ _ h => h) (Or.inl ⟨by rfl, ?_⟩) ?_
      rotate_left
      focus (intro w0; go_simp; try with_reducible rfl)
      refine wpAny_take (i := 6) (v := ?_) rfl (by kernel_rfl) (by kernel_rfl) (by kernel_rfl) (fun _ _ _ h => h) (Or.inl ⟨by rfl, ?_⟩) ?_
      rotate_left
      focus (intro w0; go_simp; try with_reducible rfl)
      refine wpAny_ready (rs := [3, 7]) (by kernel_rfl) (by simp) (AllReady.cons rfl (fun K hK => ?_) (AllReady.cons rfl (fun K hK => ?_) (AllReady.nil)))
      focus
        go_simp
        refine hK _ _ ?_
        clear hK K
        refine wpAny_ready (rs := [7]) (by kernel_rfl) (by simp) (AllReady.cons rfl (fun K hK => ?_) (AllReady.nil))
        go_simp
        refine hK _ _ ?_
        clear hK K
        refine wpAny_seq 8 rfl (by kernel_rfl) ?_
        simp only [List.drop_succ_cons, List.drop_zero]
      rotate_left 1
      focus
        go_simp
        refine hK _ _ ?_
        clear hK K
        refine wpAny_ready (rs := [3]) (by kernel_rfl) (by simp) (AllReady.cons rfl (fun K hK => ?_) (AllReady.nil))
        go_simp
        refine hK _ _ ?_
        clear hK K
        refine wpAny_seq 8 rfl (by kernel_rfl) ?_
        simp only [List.drop_succ_cons, List.drop_zero]
    all_goals
      go_wp2_with fail
      refine Calls.mono (HA.out _) ?_
      rintro e w4 ⟨rfl, hb4⟩
      have hb5 := undrew hb4
      have hc4 : Boxed w4 w.heap.size 61 (.pointer (some ⟨(cyc ns j).1, 0, none⟩)) := (hb5.block _ cl).trans hc
      have cc4 := hc4.cell
      have cf4 := hc4.frozen
      have KO := Lib.hid (KeepsOthers.of_grownBy (grown_of_below hb5 none) (fun _ _ e _ => by cases e))
      have hB5 := hb.trans (hb5.mono hsz)
      clear hb4
      cases k
      · have hT2 : Hid (tidyAt (rays ns) (pre ++ [x]) = j) := hT.out
        go_wp2
        gi_wp2
        refine ⟨KO.out, hb5.mono hsz, ?_, hB5⟩
        rw [hT2.out]
        exact hc4
      · have hT2 : Hid (tidyAt (rays ns) (pre ++ [x]) = x) := hT.out
        go_wp2
        gi_wp2
        refine ⟨KO.out.trans (KeepsOthers.setCell _ _ _), (hb5.mono hsz).setCell (p := ⟨w.heap.size, 0, none⟩) (Nat.le_refl _) _, ?_, hB5.setCell (p := ⟨w.heap.size, 0, none⟩) (Nat.le_refl _) _⟩
        rw [hT2.out]
        exact hc4.set _
  case done =>
    rintro D W hD ⟨hc, hb⟩ hK
    have hk : tidyAt (rays ns) (List.range ns.length) = tidyK (rays ns) := by unfold tidyK; rw [rays_len]
    have hkl : tidyK (rays ns) < ns.length := by have := tidyK_lt (l := rays ns) (by rw [rays_len]; exact hp); rwa [rays_len] at this
    rw [hk] at hc
    have cc := hc.cell
    have hFW := hF.below hb
    have u0 := hFW.head.c0
    have uf := hFW.head.free 0
    have hT := hF.turned hb hkl
    have hgD : g ≠ D := by have := hF.head.lt; omega
    have hK' : (W.setCell ⟨g, 0, none⟩ (.pointer (some ⟨(cyc ns (tidyK (rays ns))).1, 0, none⟩))).heap[D]? = some (.deferred (some [])) := (Below.heap_setCell W ⟨g, 0, none⟩ _ D (by simp; omega)).trans hK
    have hB2 : Below base w ((W.setCell ⟨g, 0, none⟩ (.pointer (some ⟨(cyc ns (tidyK (rays ns))).1, 0, none⟩))).putObj D (.deferred none)) := ((hb.mono hbase).setCell (p := ⟨g, 0, none⟩) hF.lowg _).grown (grownBy_putObj' _ D (.deferred none)) (by have := hb.size; simp; omega) (fun k e => by cases e; have := hb.size; omega)
    have hT2 : FanAt ((W.setCell ⟨g, 0, none⟩ (.pointer (some ⟨(cyc ns (tidyK (rays ns))).1, 0, none⟩))).putObj D (.deferred none)) base g (rot (tidyK (rays ns)) ns) := by
      have e : ∀ k, k < w.heap.size → ((W.setCell ⟨g, 0, none⟩ (.pointer (some ⟨(cyc ns (tidyK (rays ns))).1, 0, none⟩))).putObj D (.deferred none)).heap[k]? = (W.setCell ⟨g, 0, none⟩ (.pointer (some ⟨(cyc ns (tidyK (rays ns))).1, 0, none⟩))).heap[k]? := fun k hk => World.putObj_heap_other (by omega)
      refine ⟨hT.ring.same (fun p hp' => e _ (hR.mem_lt ?_)), (e g hF.head.lt).trans hT.head, hT.apart, hT.low, hT.lowg⟩
      unfold rot at hp'
      rcases List.mem_append.1 hp' with hp' | hp'
      · exact List.mem_of_mem_drop hp'
      · exact List.mem_of_mem_take hp'
    have HT := Lib.hid hT2
    have HB := Lib.hid hB2
    have hKK := Lib.hid hK'
    clear hT hT2 hB2 hK hK' hk
    gi_wp2
    refine ⟨by simp, .inl ⟨_, _, rfl, run_takeDeferred hKK.out, ?_⟩⟩
    exact ⟨_, results_none rfl _ _ _, ⟨_, rfl⟩, HT.out, HB.out⟩
  case stop =>
    rintro D c pre W _ _ h _
    exact h.elim
end Go.Proofs.YtcopcjlcfnamhaaDoor
