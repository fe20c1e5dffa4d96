import Derived.Test.YtcieihbknfeddaaDoorB8
import Derived.Test.YtcieihbknfeddaaDoorL4
import Derived.LaidEqlPtr
import Derived.Test.YtcieihbknfeddaaDoorB6
import Derived.Test.YtcieihbknfeddaaDoorB4
import Derived.Test.YtcieihbknfeddaaDoorB3
/- Fans: made tidy. -/
namespace Go.Proofs.YtcieihbknfeddaaDoor
open Go.RowKit Go.Shelf

attribute [local go_sem] Oper.semAt_some

def TidyI (w : World) (ns : List Node) (pre : List Nat) (W : World) : Prop :=
  Boxed W w.heap.size 99 (.pointer (some ⟨(cyc ns (tidyAt (rays ns) pre)).1, 0, none⟩)) ∧ Below w.heap.size w W
theorem tidyI_own (w : World) (ns : List Node) {k : Nat} (h : w.heap.size ≤ k) : OwnFrom k (TidyI w ns) :=
  OwnFrom.and (Own.from (boxed_own _ _ (fun pre => .pointer (some ⟨(cyc ns (tidyAt (rays ns) pre)).1, 0, none⟩))) _) (ownFrom_below (Nat.le_refl _) h)
/-- what a method leaves that turns the fan -/
def TurnedEnd (base g : Nat) (ns : List Node) (w : World) (e : Ending) (w' : World) : Prop := (∃ v, e = .returned v) ∧ FanAt w' base g ns ∧ Below base w w'
theorem FanAt.turned {W W' : World} {base g : Nat} {ns : List Node} (h : FanAt W base g ns) (hb : Below W.heap.size W W') {k : Nat} (hk : k < ns.length) : FanAt (W'.setCell ⟨g, 0, none⟩ (.pointer (some ⟨(cyc ns k).1, 0, none⟩))) base g (rot k ns) := by
  have h' := h.below hb
  refine ⟨(h'.ring.same (fun p hp => Below.heap_setCell W' ⟨g, 0, none⟩ _ _ (h.apart p hp))).rot (by omega), ?_, fun p hp => ?_, fun p hp => ?_, h.lowg⟩
  · have := h'.head.set0 (cyc ns k).1
    rw [cyc_rot (by omega), rot_len, Nat.add_zero]
    exact this
  · exact h.apart p (by unfold rot at hp; rcases List.mem_append.1 hp with hp | hp; exact List.mem_of_mem_drop hp; exact List.mem_of_mem_take hp)
  · exact h.low p (by unfold rot at hp; rcases List.mem_append.1 hp with hp | hp; exact List.mem_of_mem_drop hp; exact List.mem_of_mem_take hp)
set_option maxHeartbeats 8000000 in
theorem tidy_in (n : Nat) (hn : 3 ≤ n) (base g : Nat) (ns : List Node) (w : World) (hF : FanAt w base g ns) (hm : ns.length ≤ 1000) (hv : allVec (rays ns)) (hbase : base ≤ w.heap.size) :
    CallsIn Fence.wide n Tryd.prog 89 #[.pointer (some ⟨g, 0, none⟩)] w (TurnedEnd base g (rot (tidyK (rays ns)) ns) w) := by
  have h1 : 1 ≤ n := by omega
  have hd : 1 ≤ n - 1 - 1 := by omega
  have hR := hF.ring
  have hp := hR.pos
  have q0 := hF.head.c0
  have q1 := hF.head.lt
  refine callsIn_of_wp_marks Tryd.func89 rfl trivial ?_ rfl
  simp only [Tryd.ntmps89, List.size_toArray, List.length_cons, List.length_nil, Nat.reduceAdd, Nat.reduceSub, Array.replicate_succ, Array.replicate_zero, List.push_toArray, List.append_toArray, List.nil_append, List.cons_append]
  gi_wp2_with fail
  refine ⟨trivial, ?_⟩
  refine CallsIn.mono (links_in _ g _) ?_
  rintro e w3 ⟨rfl, rfl⟩
  have hA : Below w.heap.size w ((w.alloc (.cells #[.pointer (some ⟨(cyc ns 0).1, 0, none⟩)] 99)).alloc (.cells #[.pointer (some ⟨g, 0, none⟩)] 92)) := by go_grown
  have bB := (Boxed.new w 99 (.pointer (some ⟨(cyc ns 0).1, 0, none⟩))).alloc (.cells #[.pointer (some ⟨g, 0, none⟩)] 92)
  have bF := Boxed.new (w.alloc (.cells #[.pointer (some ⟨(cyc ns 0).1, 0, none⟩)] 99)) 92 (.pointer (some ⟨g, 0, none⟩))
  have hz5 : ((w.alloc (.cells #[.pointer (some ⟨(cyc ns 0).1, 0, none⟩)] 99)).alloc (.cells #[.pointer (some ⟨g, 0, none⟩)] 92)).heap.size = w.heap.size + 1 + 1 := by simp
  simp only [World.size_alloc] at bF
  gi_wp2_with fail
  generalize ((w.alloc (.cells #[.pointer (some ⟨(cyc ns 0).1, 0, none⟩)] 99)).alloc (.cells #[.pointer (some ⟨g, 0, none⟩)] 92)) = W5 at *
  refine wpIn_links (by omega) rfl bF.cell hA.size (hF.below hA) (fun p hp => hR.mem_lt hp) hm rfl
    (TidyI w ns) (fun _ _ _ => False) (tidyI_own _ _ (by omega))
    (fun _ _ _ _ _ h _ _ => h) ⟨bB, hA⟩ ?a₁ ?assign ?body ?done ?stop
  case assign =>
    intro l x W K hK
    gi_wp2
    exact hK
  case body =>
    rintro l pre x W ⟨hc, hb⟩ hlen
    have hRW := hR.below hb
    have hsz := hb.size
    have cc := hc.cell
    have cf := hc.frozen
    have cl := hc.lt
    have hT := Lib.hid (tidy_snoc (rays ns) pre x)
    rw [rays_cyc hp, rays_cyc hp] at hT
    have v1 := hv x
    have v2 := hv (tidyAt (rays ns) pre)
    rw [rays_cyc hp] at v1 v2
    have HA := Lib.hid (fun w' => ahead_any _ _ _ _ w' v1 v2)
    generalize tidyAt (rays ns) pre = j at *
    have hL := hRW.link x
    have hZ := hRW.link j
    have p0 := hL.c0
    have p1 := hL.c1
    have z0 := hZ.c0
    have z1 := hZ.c1
    have pl := hL.lt
    have zl := hZ.lt
    clear v1 v2 hL hZ
    unfold aheadV at hT
    generalize aheadB (cyc ns x).2.1 (cyc ns x).2.2 (cyc ns j).2.1 (cyc ns j).2.2 = k at HA hT
    gi_wp2
    refine region_round (by kernel_rfl) (noDefer_of (by kernel_rfl)) (by rintro ⟨_, _, h⟩; exact False.elim h) ?_
    refine wpAny_take (i := 0) (v := ?_) rfl (by kernel_rfl) (by kernel_rfl) (by kernel_rfl) (fun _ _ _ h => h) (Or.inl ⟨by rfl, ?_⟩) ?_
    rotate_left
    focus (intro w0; go_simp; try with_reducible rfl)
    refine wpAny_take (i := 1) (v := ?_) rfl (by kernel_rfl) (by kernel_rfl) (by kernel_rfl) (fun _ _ _ h => h) (Or.inl ⟨by rfl, ?_⟩) ?_
    rotate_left
    focus (intro w0; go_simp; try with_reducible rfl)
    refine wpAny_take (i := 2) (v := ?_) rfl (by kernel_rfl) (by kernel_rfl) (by kernel_rfl) (fun _ _ _ h => h) (Or.inl ⟨by rfl, ?_⟩) ?_
    rotate_left
    focus (intro w0; go_simp; try with_reducible rfl)
    refine wpAny_ready (rs := [3, 4]) (by kernel_rfl) (by simp) (AllReady.cons rfl (fun K hK => ?_) (AllReady.cons rfl (fun K hK => ?_) (AllReady.nil)))
    focus
      go_simp
      refine hK _ _ ?_
      clear hK K
      refine wpAny_ready (rs := [4]) (by kernel_rfl) (by simp) (AllReady.cons rfl (fun K hK => ?_) (AllReady.nil))
      go_simp
      refine hK _ _ ?_
      clear hK K
      refine wpAny_take (i := 5) (v := ?_) rfl (by kernel_rfl) (by kernel_rfl) (by kernel_rfl) (fun _ _ _ h => h) (Or.inl ⟨by rfl, ?_⟩) ?_
      rotate_left
      focus (intro w0; go_simp; try with_reducible rfl)
      refine wpAny_take (i := 6) (v := ?_) rfl (by kernel_rfl) (by kernel_rfl) (by kernel_rfl) (fun _ _ _ h => h) (Or.inl ⟨by rfl, ?_⟩) ?_
      rotate_left
      focus (intro w0; go_simp; try with_reducible rfl)
      refine wpAny_ready (rs := [7]) (by kernel_rfl) (by simp) (AllReady.cons rfl (fun K hK => ?_) (AllReady.nil))
      go_simp
      refine hK _ _ ?_
      clear hK K
      refine wpAny_seq 8 rfl (by kernel_rfl) ?_
      simp only [List.drop_succ_cons, List.drop_zero]
    rotate_left 1
    focus
      go_simp
      refine hK _ _ ?_
      clear hK K
      refine wpAny_take (i := 5) (v := ?_) rfl (by kernel_rfl) (by kernel_rfl) (by kernel_rfl) (fun _ _ _ h => h) (Or.inl ⟨by rfl, ?_⟩) ?_
      rotate_left
      focus (intro w0; go_simp; try with_reducible rfl)
      refine wpAny_take (i := 6) (v := ?_) rfl (by kernel_rfl) (by kernel_rfl) (by kernel_rfl) (fun _ _ _ h => h) (Or.inl ⟨by rfl, ?_⟩) ?_
      rotate_left
      focus (intro w0; go_simp; try with_reducible rfl)
      refine wpAny_ready (rs := [3, 7]) (by kernel_rfl) (by simp) (AllReady.cons rfl (fun K hK => ?_) (AllReady.cons rfl (fun K hK => ?_) (AllReady.nil)))
      focus
        go_simp
        refine hK _ _ ?_
        clear hK K
        refine wpAny_ready (rs := [7]) (by kernel_rfl) (by simp) (AllReady.cons rfl (fun K hK => ?_) (AllReady.nil))
        go_simp
        refine hK _ _ ?_
        clear hK K
        refine wpAny_seq 8 rfl (by kernel_rfl) ?_
        simp only [List.drop_succ_cons, List.drop_zero]
      rotate_left 1
      focus
        go_simp
        refine hK _ _ ?_
        clear hK K
        refine wpAny_ready (rs := [3]) (by kernel_rfl) (by simp) (AllReady.cons rfl (fun K hK => ?_) (AllReady.nil))
        go_simp
        refine hK _ _ ?_
        clear hK K
        refine wpAny_seq 8 rfl (by kernel_rfl) ?_
        simp only [List.drop_succ_cons, List.drop_zero]
    all_goals
      go_wp2_with fail
      refine Calls.mono (HA.out _) ?_
      rintro e w4 ⟨rfl, hb4⟩
      have hb5 := undrew hb4
      have hc4 : Boxed w4 w.heap.size 99 (.pointer (some ⟨(cyc ns j).1, 0, none⟩)) := (hb5.block _ cl).trans hc
      have cc4 := hc4.cell
      have cf4 := hc4.frozen
      have KO := Lib.hid (KeepsOthers.of_grownBy (grown_of_below hb5 none) (fun _ _ e _ => by cases e))
      have hB5 := hb.trans (hb5.mono hsz)
      clear hb4
      cases k
      · have hT2 : Hid (tidyAt (rays ns) (pre ++ [x]) = j) := hT.out
        go_wp2
        gi_wp2
        refine ⟨KO.out, hb5.mono hsz, ?_, hB5⟩
        rw [hT2.out]
        exact hc4
      · have hT2 : Hid (tidyAt (rays ns) (pre ++ [x]) = x) := hT.out
        go_wp2
        gi_wp2
        refine ⟨KO.out.trans (KeepsOthers.setCell _ _ _), (hb5.mono hsz).setCell (p := ⟨w.heap.size, 0, none⟩) (Nat.le_refl _) _, ?_, hB5.setCell (p := ⟨w.heap.size, 0, none⟩) (Nat.le_refl _) _⟩
        rw [hT2.out]
        exact hc4.set _
  case done =>
    rintro D W hD ⟨hc, hb⟩ hK
    have hk : tidyAt (rays ns) (List.range ns.length) = tidyK (rays ns) := by unfold tidyK; rw [rays_len]
    have hkl : tidyK (rays ns) < ns.length := by have := tidyK_lt (l := rays ns) (by rw [rays_len]; exact hp); rwa [rays_len] at this
    rw [hk] at hc
    have cc := hc.cell
    have hFW := hF.below hb
    have u0 := hFW.head.c0
    have uf := hFW.head.free 0
    have hT := hF.turned hb hkl
    have hgD : g ≠ D := by have := hF.head.lt; omega
    have hK' : (W.setCell ⟨g, 0, none⟩ (.pointer (some ⟨(cyc ns (tidyK (rays ns))).1, 0, none⟩))).heap[D]? = some (.deferred (some [])) := (Below.heap_setCell W ⟨g, 0, none⟩ _ D (by simp; omega)).trans hK
    have hB2 : Below base w ((W.setCell ⟨g, 0, none⟩ (.pointer (some ⟨(cyc ns (tidyK (rays ns))).1, 0, none⟩))).putObj D (.deferred none)) := ((hb.mono hbase).setCell (p := ⟨g, 0, none⟩) hF.lowg _).grown (grownBy_putObj' _ D (.deferred none)) (by have := hb.size; simp; omega) (fun k e => by cases e; have := hb.size; omega)
    have hT2 : FanAt ((W.setCell ⟨g, 0, none⟩ (.pointer (some ⟨(cyc ns (tidyK (rays ns))).1, 0, none⟩))).putObj D (.deferred none)) base g (rot (tidyK (rays ns)) ns) := by
      have e : ∀ k, k < w.heap.size → ((W.setCell ⟨g, 0, none⟩ (.pointer (some ⟨(cyc ns (tidyK (rays ns))).1, 0, none⟩))).putObj D (.deferred none)).heap[k]? = (W.setCell ⟨g, 0, none⟩ (.pointer (some ⟨(cyc ns (tidyK (rays ns))).1, 0, none⟩))).heap[k]? := fun k hk => World.putObj_heap_other (by omega)
      refine ⟨hT.ring.same (fun p hp' => e _ (hR.mem_lt ?_)), (e g hF.head.lt).trans hT.head, hT.apart, hT.low, hT.lowg⟩
      unfold rot at hp'
      rcases List.mem_append.1 hp' with hp' | hp'
      · exact List.mem_of_mem_drop hp'
      · exact List.mem_of_mem_take hp'
    have HT := Lib.hid hT2
    have HB := Lib.hid hB2
    have hKK := Lib.hid hK'
    clear hT hT2 hB2 hK hK' hk
    gi_wp2
    refine ⟨by simp, .inl ⟨_, _, rfl, run_takeDeferred hKK.out, ?_⟩⟩
    exact ⟨_, results_none rfl _ _ _, ⟨_, rfl⟩, HT.out, HB.out⟩
  case stop =>
    rintro D c pre W _ _ h _
    exact h.elim
end Go.Proofs.YtcieihbknfeddaaDoor

/- Fans: the link with an index; a ray blown down. -/
namespace Go.Proofs.YtcieihbknfeddaaDoor
open Go.RowKit

set_option maxHeartbeats 4000000 in
theorem at_in (base g : Nat) (ns : List Node) (m : Nat) (w : World) (hF : FanAt w base g ns) (hm : ns.length ≤ 1000) (hi : m < ns.length) :
    Calls Tryd.prog 96 #[.pointer (some ⟨g, 0, none⟩), .int .i64 m] w fun e w' => e = .returned (.pointer (some ⟨(cyc ns m).1, 0, none⟩)) ∧ w = w' := by
  have q0 := hF.head.c0
  have q1 := hF.head.c1
  have q2 := hF.head.lt
  have HL := Lib.hid (fun k => (hF.ring.link k).c3)
  have j1 : ¬ (m : Int) < 0 := by omega
  have j2 : (m : Int) < (ns.length : Int) := by omega
  have j3 : ¬ (ns.length : Int) ≤ (m : Int) := by omega
  have j4 : m ≤ 1000 := by omega
  go_enter Tryd.func96, Tryd.ntmps96
  go_wp2
  go_loop [5, 21] (fun p c => ∃ k : Nat, p = .pointer (some ⟨(cyc ns k).1, 0, none⟩) ∧ c = .int .i64 k ∧ k ≤ m) (fun _ c => m - (intOf c).toNat)
  case atStart => exact ⟨0, rfl, rfl, Nat.zero_le _⟩
  case round =>
    obtain ⟨k, rfl, rfl, hk⟩ := hrel
    by_cases hlt : k < m
    · have c3 := HL.out k
      have i1 : (k : Int) < (m : Int) := by omega
      go_wp2
      go_round
      case rel => exact ⟨k + 1, rfl, by go_num, by omega⟩
      case measure => simp [intOf]; omega
    · obtain rfl : k = m := by omega
      have i1 : ¬ (k : Int) < (k : Int) := by omega
      go_wp2
      go_returns
      exact ⟨rfl, rfl⟩
set_option maxHeartbeats 4000000 in
theorem at_out (base g : Nat) (ns : List Node) (i : Int) (w : World) (hF : FanAt w base g ns) (hi : i < 0 ∨ (ns.length : Int) ≤ i) :
    Calls Tryd.prog 96 #[.pointer (some ⟨g, 0, none⟩), .int .i64 i] w fun e w' => e = .returned (.pointer none) ∧ w = w' := by
  have q1 := hF.head.c1
  have q2 := hF.head.lt
  by_cases h : i < 0
  · go_enter Tryd.func96, Tryd.ntmps96
    go_wp2
    go_returns
    exact ⟨rfl, rfl⟩
  · have j2 : (ns.length : Int) ≤ i := by omega
    have j3 : ¬ i < 0 := h
    have j4 : decide (i < 0) = false := by simpa using h
    go_enter Tryd.func96, Tryd.ntmps96
    go_wp2
    go_returns
    exact ⟨rfl, rfl⟩
def TakeEnd (ns : List Node) (w : World) (e : Ending) (w' : World) : Prop := (∃ v, e = .returned v) ∧ Ring w' ns ∧ Touched ns w w'
set_option maxHeartbeats 4000000 in
theorem takeOut_last (ns : List Node) (p : Node) (w : World) (hR : Ring w (ns ++ [p])) (hp : 0 < ns.length) :
    Calls Tryd.prog 135 #[.pointer (some ⟨p.1, 0, none⟩)] w (TakeEnd ns w) := by
  have hl : (ns ++ [p]).length = ns.length + 1 := by simp
  have hP := hR.at (i := ns.length) (by omega)
  rw [hl, cyc_snoc_last, if_neg (by omega), if_pos rfl, cyc_snoc_lt (by omega), cyc_snoc_lt hp] at hP
  have hL := hR.at (i := ns.length - 1) (by omega)
  have hF := hR.at (i := 0) (by omega)
  rw [cyc_snoc_lt (by omega)] at hL hF
  have c2 := hP.c2
  have c3 := hP.c3
  have l3 := hL.c3
  have lf := hL.free 3
  have f2 := hF.c2
  have ff := hF.free 2
  have ll := hL.lt
  have fl := hF.lt
  have pl := hP.lt
  have n1 : p.1 ≠ (cyc ns (ns.length - 1)).1 := fun e => by
    have := hR.two ns.length (ns.length - 1) (by omega) (by omega) (by rw [cyc_snoc_last, cyc_snoc_lt (by omega)]; exact e)
    omega
  have n2 : p.1 ≠ (cyc ns 0).1 := fun e => by
    have := hR.two ns.length 0 (by omega) (by omega) (by rw [cyc_snoc_last, cyc_snoc_lt hp]; exact e)
    omega
  have HP := Lib.hid (hR.take hp)
  have hin : (∃ q ∈ ns, q.1 = (cyc ns 0).1) ∧ ∃ q ∈ ns, q.1 = (cyc ns (ns.length - 1)).1 := ⟨⟨_, cyc_mem hp _, rfl⟩, ⟨_, cyc_mem hp _, rfl⟩⟩
  have HI := Lib.hid hin
  generalize (cyc ns (ns.length - 1)).1 = L at *
  generalize (cyc ns 0).1 = F at *
  obtain ⟨P, pv⟩ := p
  dsimp only at c2 c3 pl n1 n2
  obtain ⟨u, hu⟩ : ∃ u, w.cell? ⟨F, 2, none⟩ = some u := ⟨_, f2⟩
  obtain ⟨u', hu'⟩ : ∃ u, w.cell? ⟨L, 3, none⟩ = some u := ⟨_, l3⟩
  clear hL hF hP hin f2 l3
  go_enter Tryd.func135, Tryd.ntmps135
  go_wp2
  go_region
  all_goals go_wp2
  all_goals go_region
  all_goals go_wp2
  all_goals refine bodyPost_end (results_none rfl _ _ _) rfl ?_
  all_goals
    have R := HP.out
    have T := ((Touched.of_below (ns := ns) (Below.refl w.heap.size w)).set (o := 3) HI.out.2 (.pointer (some ⟨F, 0, none⟩))).set (o := 2) HI.out.1 (.pointer (some ⟨L, 0, none⟩))
    exact ⟨⟨_, rfl⟩, ⟨R.pos, R.two, R.link⟩, ⟨T.os, T.tape, T.output, T.size, T.block⟩⟩

theorem Ring.mem {W : World} {ns : List Node} (h : Ring W ns) {p : Node} (hp : p ∈ ns) : ∃ a z, Link W p.1 p.2 a z := by
  obtain ⟨i, hi, rfl⟩ := List.mem_iff_getElem.1 hp
  have := h.link i
  rw [cyc_lt hi, List.getElem?_eq_getElem hi] at this
  exact ⟨_, _, this⟩
theorem infoLink : (Tryd.prog.info? 116).map (fun i => (i.zero, i.size, i.bytes)) = some (some (.agg #[.int .i64 0, .int .i64 0, .pointer none, .pointer none]), 4, 32) := by kernel_rfl
theorem eql_same (q : Nat) (w : World) : (binOp .eql 99 (.pointer (some ⟨q, 0, none⟩)) (.pointer (some ⟨q, 0, none⟩))).run Tryd.prog w = .ok (.bool true) w := by
  obtain ⟨j, hj, _⟩ := info_parts infoLink
  exact run_eql_ptr_same w _ Tryd.underlying99 hj
theorem eql_other {q q' : Nat} {w : World} {p p' : V2} {a z a' z' : Nat} (h : q ≠ q') (h1 : Link w q p a z) (h2 : Link w q' p' a' z') : (binOp .eql 99 (.pointer (some ⟨q, 0, none⟩)) (.pointer (some ⟨q', 0, none⟩))).run Tryd.prog w = .ok (.bool false) w := by
  obtain ⟨j, hj, _, hs, _⟩ := info_parts infoLink
  exact run_eql_ptr_other w Tryd.underlying99 hj (by rw [hs]; decide) (fun e => h (by cases e; rfl)) h1 h2
/-! a ray taken out of a list -/
def downL {α : Type} (l : List α) (i : Nat) : List α := l.take i ++ l.drop (i + 1)
theorem downL_len {α : Type} {l : List α} {i : Nat} (h : i < l.length) : (downL l i).length = l.length - 1 := by
  simp [downL]
  omega
theorem rays_down (ns : List Node) (i : Nat) : rays (downL ns i) = downL (rays ns) i := by simp [rays, downL, List.map_take, List.map_drop]
theorem rot_last {ns : List Node} {i : Nat} (h : i < ns.length) : rot (i + 1) ns = (ns.drop (i + 1) ++ ns.take i) ++ [cyc ns i] := by
  unfold rot
  rw [List.take_add_one, cyc_get h, List.append_assoc]
  rfl
theorem rot_down {ns : List Node} {i : Nat} : rot (ns.length - (i + 1)) (ns.drop (i + 1) ++ ns.take i) = downL ns i := by
  unfold rot downL
  rw [← List.length_drop, List.drop_left, List.take_left]
theorem down_zero {ns : List Node} {i : Nat} (h : i < ns.length) (h2 : 2 ≤ ns.length) : cyc (downL ns i) 0 = if i = 0 then cyc ns 1 else cyc ns 0 := by
  rw [cyc_lt (by rw [downL_len h]; omega)]
  unfold downL
  split
  · next e =>
    subst e
    rw [cyc_lt (by omega)]
    simp
  · rw [cyc_lt (by omega), List.getElem?_append_left (by simp; omega), List.getElem?_take_of_lt (by omega)]
theorem mem_down {ns : List Node} {i : Nat} {p : Node} (h : p ∈ downL ns i) : p ∈ ns := by
  unfold downL at h
  rcases List.mem_append.1 h with h | h
  · exact List.mem_of_mem_take h
  · exact List.mem_of_mem_drop h
set_option maxHeartbeats 4000000 in
theorem down_at (base g : Nat) (ns : List Node) (i : Nat) (w : World) (hF : FanAt w base g ns) (hm : ns.length ≤ 1000) (hi : i < ns.length) (h2 : 2 ≤ ns.length) (hbase : base ≤ w.heap.size) :
    Calls Tryd.prog 106 #[.pointer (some ⟨g, 0, none⟩), .pointer (some ⟨(cyc ns i).1, 0, none⟩)] w (TurnedEnd base g (downL ns i) w) := by
  have hR := hF.ring
  have hr := hR.rot (k := i + 1) (by omega)
  rw [rot_last hi] at hr
  have hml : (ns.drop (i + 1) ++ ns.take i).length = ns.length - 1 := by simp; omega
  have HT := Lib.hid (takeOut_last _ _ w hr (by omega))
  have hmem : ∀ p ∈ ns.drop (i + 1) ++ ns.take i, p ∈ ns := fun p hp => by
    rcases List.mem_append.1 hp with hp | hp
    · exact List.mem_of_mem_drop hp
    · exact List.mem_of_mem_take hp
  have hnot : ∀ p ∈ ns.drop (i + 1) ++ ns.take i, p.1 ≠ (cyc ns i).1 := fun p hp e => by
    obtain ⟨j, hj, rfl⟩ := List.mem_iff_getElem.1 hp
    have := hr.two j (ns.length - 1) (by simp; omega) (by simp; omega) (by
      rw [show ns.length - 1 = (ns.drop (i + 1) ++ ns.take i).length from hml.symm, cyc_snoc_last, cyc_snoc_lt hj, cyc_lt hj, List.getElem?_eq_getElem hj]
      exact e)
    omega
  have HD : Hid (∀ (w1 W : World) (a : Nat), Ring w1 (ns.drop (i + 1) ++ ns.take i) → Touched (ns.drop (i + 1) ++ ns.take i) w w1 → Below base w1 W → (∀ k, k ≠ g → W.heap[k]? = w1.heap[k]?) → Fan0 W g (cyc (downL ns i) 0).1 (ns.length - 1) → TurnedEnd base g (downL ns i) w (.returned (.tuple #[])) W) := by
    intro w1 W _ R1 T1 hb hk h0
    refine ⟨⟨_, rfl⟩, ⟨?_, ?_, fun p hp => hF.apart p (mem_down hp), fun p hp => hF.low p (mem_down hp), hF.lowg⟩, (T1.below hbase (fun p hp => hF.low p (hmem p hp))).trans hb⟩
    · rw [← rot_down]
      exact (R1.same (fun p hp => hk _ (hF.apart p (hmem p hp)))).rot (by omega)
    · rw [downL_len hi]
      exact h0
  have hz := down_zero hi h2
  have u0 := hF.head
  have hL := hR.link i
  have HU : Hid (∀ w1, Touched (ns.drop (i + 1) ++ ns.take i) w w1 → Fan0 w1 g (cyc ns 0).1 ns.length ∧ Link w1 (cyc ns i).1 (cyc ns i).2 (cyc ns (i + ns.length - 1)).1 (cyc ns (i + 1)).1) := fun w1 T =>
    ⟨(T.block g u0.lt (fun p hp => hF.apart p (hmem p hp))).trans u0, hL.same (T.block _ hL.lt hnot)⟩
  have HZ : Hid (∀ w1, Ring w1 (ns.drop (i + 1) ++ ns.take i) → i ≠ 0 → ∃ a z, Link w1 (cyc ns 0).1 (cyc ns 0).2 a z) := by
    intro w1 R h0
    refine R.mem (p := cyc ns 0) (List.mem_append_right _ ?_)
    rw [cyc_lt (by omega)]
    have hj : 0 < (ns.take i).length := by simp; omega
    have := List.getElem_mem hj
    rw [List.getElem_take] at this
    rwa [List.getElem?_eq_getElem (by omega)]
  have hne : i ≠ 0 → (cyc ns i).1 ≠ (cyc ns 0).1 := fun h e => h (hR.two i 0 hi (by omega) e)
  have hns : ((ns.length - 1 : Nat) : Int) = (ns.length : Int) - 1 := by omega
  clear hml hmem hnot hr hR hL u0
  by_cases h0 : i = 0
  · subst h0
    rw [if_pos rfl] at hz
    rw [hz] at HD
    clear hz hne
    generalize hq : (cyc ns 0).1 = q at *
    go_enter Tryd.func106, Tryd.ntmps106
    go_wp2_with fail
    refine Calls.mono HT.out ?_
    rintro e w1 ⟨⟨v, rfl⟩, R1, T1⟩
    obtain ⟨hF1, hL1⟩ := HU.out w1 T1
    have a0 := hF1.c0
    have a1 := hF1.c1
    have f0 := hF1.free 0
    have f1 := hF1.free 1
    have c3 := hL1.c3
    have al := hF1.lt
    have hE := fun w' => eql_same q w'
    have H3 := Lib.hid (HD.out w1 ((w1.setCell ⟨g, 0, none⟩ (.pointer (some ⟨(cyc ns (0 + 1)).1, 0, none⟩))).setCell ⟨g, 1, none⟩ (.int .i64 ((ns.length : Int) - 1))) 0 R1 T1 (((Below.refl base w1).setCell (p := ⟨g, 0, none⟩) hF.lowg _).setCell (p := ⟨g, 1, none⟩) hF.lowg _) (fun k hk => by rw [Below.heap_setCell _ _ _ k hk, Below.heap_setCell _ _ _ k hk]) (by
      have := (hF1.set0 (cyc ns (0 + 1)).1).set1 (ns.length - 1)
      rwa [hns] at this))
    clear R1 T1 hF1 hL1 HD HU HT hns HZ
    go_wp2
    refine bodyPost_end (results_none rfl _ _ _) rfl ?_
    have := H3.out
    exact ⟨⟨_, rfl⟩, this.2⟩
  · rw [if_neg h0] at hz
    rw [hz] at HD
    have hne' := hne h0
    clear hz hne
    generalize (cyc ns 0).1 = q at *
    generalize (cyc ns i).1 = qi at *
    go_enter Tryd.func106, Tryd.ntmps106
    go_wp2_with fail
    refine Calls.mono HT.out ?_
    rintro e w1 ⟨⟨v, rfl⟩, R1, T1⟩
    obtain ⟨hF1, hL1⟩ := HU.out w1 T1
    have a0 := hF1.c0
    have a1 := hF1.c1
    have f0 := hF1.free 0
    have f1 := hF1.free 1
    have al := hF1.lt
    obtain ⟨a', z', hL0⟩ := HZ.out w1 R1 h0
    have hE := eql_other hne' hL1 hL0
    have H3 := Lib.hid (HD.out w1 (w1.setCell ⟨g, 1, none⟩ (.int .i64 ((ns.length : Int) - 1))) 0 R1 T1 ((Below.refl base w1).setCell (p := ⟨g, 1, none⟩) hF.lowg _) (fun k hk => by rw [Below.heap_setCell _ _ _ k hk]) (by
      have := hF1.set1 (ns.length - 1)
      rwa [hns] at this))
    clear R1 T1 hF1 hL1 HD HU HT hns HZ
    go_wp2
    refine bodyPost_end (results_none rfl _ _ _) rfl ?_
    have := H3.out
    exact ⟨⟨_, rfl⟩, this.2⟩
end Go.Proofs.YtcieihbknfeddaaDoor

/- Fans: where a vector is. -/
namespace Go.Proofs.YtcieihbknfeddaaDoor
open Go.RowKit Go.Shelf

attribute [local go_sem] Oper.semAt_some

/-- the first index at which p holds, among n -/
def firstI (p : Nat → Bool) (n : Nat) : Nat := ((List.range n).takeWhile (fun i => !p i)).length
theorem first_is {p : Nat → Bool} {n k : Nat} (hk : k < n) (hp : p k = true) (h : ∀ i, i < k → p i = false) : firstI p n = k := by
  unfold firstI
  have e : List.range n = List.range k ++ k :: (List.range n).drop (k + 1) := by
    have e1 : List.range k ++ [k] = (List.range n).take (k + 1) := by rw [List.take_range, Nat.min_eq_left (by omega), List.range_succ]
    rw [List.append_cons, e1, List.take_append_drop]
  rw [e, List.takeWhile_append_of_pos (fun i hi => by rw [h i (List.mem_range.1 hi)]; rfl), List.takeWhile_cons_of_neg (by rw [hp]; decide), List.append_nil, List.length_range]
theorem prefix_range {p : List Nat} {x n : Nat} (h : p ++ [x] <+: List.range n) : p = List.range x ∧ x < n := by
  have hl := h.length_le
  simp at hl
  have e := List.prefix_iff_eq_take.1 h
  rw [List.take_range, List.length_append, List.length_singleton, Nat.min_eq_left (by omega), List.range_succ] at e
  obtain ⟨e1, e2⟩ := List.append_inj e (by simp)
  obtain rfl : x = p.length := by simpa using e2
  exact ⟨e1, by omega⟩
def WhereI (w w0 : World) (l : List V2) (a : V2) (pre : List Nat) (W : World) : Prop :=
  (Boxed W (w.heap.size + 1) 3 (.int .i64 (pre.length : Nat)) ∧ ∀ i ∈ pre, inC l i a = false) ∧ Below (w.heap.size + 1) w0 W
def WhereX (w w0 : World) (l : List V2) (a : V2) (c : Code) (pre : List Nat) (W : World) : Prop :=
  ((c = .exit 0 ∧ ∃ p x, pre = p ++ [x] ∧ (∀ i ∈ p, inC l i a = false) ∧ inC l x a = true) ∧ Boxed W (w.heap.size + 1) 3 (.int .i64 ((pre.length - 1 : Nat) : Int))) ∧ Below (w.heap.size + 1) w0 W
theorem whereI_own (w w0 : World) (l : List V2) (a : V2) {k : Nat} (h0 : w.heap.size + 1 ≤ w0.heap.size) (h : w.heap.size + 1 ≤ k) : OwnFrom k (WhereI w w0 l a) :=
  OwnFrom.and (OwnFrom.and (Own.from (boxed_own _ _ (fun pre : List Nat => .int .i64 (pre.length : Nat))) _) (ownFrom_pure k (fun pre => ∀ i ∈ pre, inC l i a = false))) (ownFrom_below h0 h)
theorem whereX_own (w w0 : World) (l : List V2) (a : V2) (c : Code) {k : Nat} (h0 : w.heap.size + 1 ≤ w0.heap.size) (h : w.heap.size + 1 ≤ k) : OwnFrom k (WhereX w w0 l a c) :=
  OwnFrom.and (OwnFrom.and (ownFrom_pure k (fun pre => c = .exit 0 ∧ ∃ p x, pre = p ++ [x] ∧ (∀ i ∈ p, inC l i a = false) ∧ inC l x a = true)) (Own.from (boxed_own _ _ (fun pre : List Nat => .int .i64 ((pre.length - 1 : Nat) : Int))) _)) (ownFrom_below h0 h)
theorem in_rays {ns : List Node} (h : 0 < ns.length) (x : Nat) (a : V2) : inC (rays ns) x a = inB (cyc ns x).2.1 (cyc ns x).2.2 (cyc ns (x + 1)).2.1 (cyc ns (x + 1)).2.2 a.1 a.2 := by
  unfold inC
  rw [rays_cyc h, rays_cyc h]
set_option maxHeartbeats 8000000 in
theorem where_in (n : Nat) (hn : 3 ≤ n) (base g : Nat) (ns : List Node) (x0 y0 : Int) (w : World) (hF : FanAt w base g ns) (hm : ns.length ≤ 1000) (hf : fanB (rays ns) = true) (ha : vecB x0 y0 = true) :
    CallsIn Fence.wide n Tryd.prog 99 #[.pointer (some ⟨g, 0, none⟩), .agg #[.int .i64 (x0), .int .i64 (y0)]] w fun e w' => e = .returned (.int .i64 (firstI (fun i => inC (rays ns) i (x0, y0)) ns.length : Nat)) ∧ Below w.heap.size w w' := by
  have h1 : 1 ≤ n := by omega
  have hd : 1 ≤ n - 1 - 1 := by omega
  have hR := hF.ring
  have hp := hR.pos
  refine callsIn_of_wp_marks Tryd.func99 rfl trivial ?_ rfl
  simp only [Tryd.ntmps99, List.size_toArray, List.length_cons, List.length_nil, Nat.reduceAdd, Nat.reduceSub, Array.replicate_succ, Array.replicate_zero, List.push_toArray, List.append_toArray, List.nil_append, List.cons_append]
  gi_wp2_with fail
  refine ⟨trivial, ?_⟩
  refine CallsIn.mono (links_in _ g _) ?_
  rintro e w3 ⟨rfl, rfl⟩
  have bB := (Boxed.new (w.alloc (.cells #[.int .i64 x0, .int .i64 y0] 26)) 3 (.int .i64 0)).alloc (.cells #[.pointer (some ⟨g, 0, none⟩)] 92)
  have bF := Boxed.new ((w.alloc (.cells #[.int .i64 x0, .int .i64 y0] 26)).alloc (.cells #[.int .i64 0] 3)) 92 (.pointer (some ⟨g, 0, none⟩))
  have q0 : (w.alloc (.cells #[.int .i64 x0, .int .i64 y0] 26)).cell? ⟨w.heap.size, 0, none⟩ = some (.int .i64 x0) := by simp
  have q1 : (w.alloc (.cells #[.int .i64 x0, .int .i64 y0] 26)).cell? ⟨w.heap.size, 1, none⟩ = some (.int .i64 y0) := by simp
  have hw0 : Below w.heap.size w (w.alloc (.cells #[.int .i64 x0, .int .i64 y0] 26)) := by go_grown
  have hA0 : Below w.heap.size w (((w.alloc (.cells #[.int .i64 x0, .int .i64 y0] 26)).alloc (.cells #[.int .i64 0] 3)).alloc (.cells #[.pointer (some ⟨g, 0, none⟩)] 92)) := by go_grown
  have hA : Below (w.heap.size + 1) (w.alloc (.cells #[.int .i64 x0, .int .i64 y0] 26)) (((w.alloc (.cells #[.int .i64 x0, .int .i64 y0] 26)).alloc (.cells #[.int .i64 0] 3)).alloc (.cells #[.pointer (some ⟨g, 0, none⟩)] 92)) := by go_grown
  have hz5 : (((w.alloc (.cells #[.int .i64 x0, .int .i64 y0] 26)).alloc (.cells #[.int .i64 0] 3)).alloc (.cells #[.pointer (some ⟨g, 0, none⟩)] 92)).heap.size = w.heap.size + 1 + 1 + 1 := by simp
  have hz0 : (w.alloc (.cells #[.int .i64 x0, .int .i64 y0] 26)).heap.size = w.heap.size + 1 := by simp
  simp only [World.size_alloc] at bF bB
  gi_wp2_with fail
  generalize (((w.alloc (.cells #[.int .i64 x0, .int .i64 y0] 26)).alloc (.cells #[.int .i64 0] 3)).alloc (.cells #[.pointer (some ⟨g, 0, none⟩)] 92)) = W5 at *
  generalize w.alloc (.cells #[.int .i64 x0, .int .i64 y0] 26) = w0 at *
  refine wpIn_links (by omega) rfl bF.cell hA0.size (hF.below hA0) (fun p hp => hR.mem_lt hp) (by omega) rfl (WhereI w w0 (rays ns) (x0, y0)) (WhereX w w0 (rays ns) (x0, y0)) (whereI_own w w0 _ _ (by omega) (by omega)) (fun c => whereX_own w w0 _ _ c (by omega) (by omega))
    ⟨⟨bB, fun i hi => by cases hi⟩, hA⟩ ?a₁ ?assign ?body ?done ?stop
  case assign =>
    intro l x W K hK
    gi_wp2
    exact hK
  case body =>
    rintro l pre x W ⟨⟨hr, hq⟩, hb⟩ hlen
    have hbw : Below w.heap.size w W := hw0.trans (hb.mono (by omega))
    have hRW : Ring W.drew ns := ⟨hR.pos, hR.two, fun i => ((hR.below hbw).link i)⟩
    have rl := hr.lt
    have v1 := fan_vec hf x
    have v2 := fan_vec hf (x + 1)
    rw [rays_cyc hp] at v1 v2
    have HC := Lib.hid (linkCone_any ns x W.drew hRW)
    have HH := Lib.hid (fun w' => has_any _ _ _ _ _ _ w' v1 v2 ha)
    have HK := Lib.hid (in_rays hp x (x0, y0))
    have HQ := Lib.hid hq
    have rr := hr.cell
    have rf := hr.frozen
    have a0 : W.cell? ⟨w.heap.size, 0, none⟩ = some (.int .i64 x0) := (hb.cell (p := ⟨w.heap.size, 0, none⟩) (by simp)).trans q0
    have a1 : W.cell? ⟨w.heap.size, 1, none⟩ = some (.int .i64 y0) := (hb.cell (p := ⟨w.heap.size, 1, none⟩) (by simp)).trans q1
    have al : w.heap.size < W.heap.size := by omega
    clear v1 v2 hq q0 q1
    generalize inB (cyc ns x).2.1 (cyc ns x).2.2 (cyc ns (x + 1)).2.1 (cyc ns (x + 1)).2.2 x0 y0 = k at HH HK
    gi_wp2
    refine region_round (by kernel_rfl) (noDefer_of (by kernel_rfl)) (by rintro ⟨_, _, h⟩; exact False.elim h) ?_
    refine wpAny_take (i := 0) (v := ?_) rfl (by kernel_rfl) (by kernel_rfl) (by kernel_rfl) (fun _ _ _ h => h) (Or.inl ⟨by rfl, ?_⟩) ?_
    rotate_left
    focus (intro w0; go_simp; try with_reducible rfl)
    refine wpAny_ready (rs := [1, 2]) (by kernel_rfl) (by simp) (AllReady.cons rfl (fun K hK => ?_) (AllReady.cons rfl (fun K hK => ?_) (AllReady.nil)))
    focus
      go_simp
      (refine Calls.mono HC.out ?_; rintro e w1 ⟨rfl, hb1⟩; replace hb1 := undrew hb1; have b0 := (hb1.cell (p := ⟨w.heap.size, 0, none⟩) al).trans a0; have b1 := (hb1.cell (p := ⟨w.heap.size, 1, none⟩) al).trans a1; have bl := Nat.lt_of_lt_of_le al hb1.size)
      refine hK _ _ ?_
      clear hK K
      refine wpAny_ready (rs := [2]) (by kernel_rfl) (by simp) (AllReady.cons rfl (fun K hK => ?_) (AllReady.nil))
      go_simp
      refine hK _ _ ?_
      clear hK K
      refine wpAny_seq 3 rfl (by kernel_rfl) ?_
      simp only [List.drop_succ_cons, List.drop_zero]
    rotate_left 1
    focus
      go_simp
      refine hK _ _ ?_
      clear hK K
      refine wpAny_ready (rs := [1]) (by kernel_rfl) (by simp) (AllReady.cons rfl (fun K hK => ?_) (AllReady.nil))
      go_simp
      (refine Calls.mono HC.out ?_; rintro e w1 ⟨rfl, hb1⟩; replace hb1 := undrew hb1; have b0 := (hb1.cell (p := ⟨w.heap.size, 0, none⟩) al).trans a0; have b1 := (hb1.cell (p := ⟨w.heap.size, 1, none⟩) al).trans a1; have bl := Nat.lt_of_lt_of_le al hb1.size)
      refine hK _ _ ?_
      clear hK K
      refine wpAny_seq 3 rfl (by kernel_rfl) ?_
      simp only [List.drop_succ_cons, List.drop_zero]
    all_goals
      go_wp2_with fail
      refine Calls.mono (HH.out _) ?_
      rintro e w2 ⟨rfl, hb2⟩
      have hb' := belowTo hb1 hb2
      have hr3 : Boxed w2 (w.heap.size + 1) 3 (.int .i64 (pre.length : Nat)) := (hb'.block _ rl).trans hr
      have rr3 := hr3.cell
      have rf3 := hr3.frozen
      have KO := Lib.hid (KeepsOthers.of_grownBy (grown_of_below hb' none) (fun _ _ e _ => by cases e))
      have hW2 := hb.trans (hb'.mono (by omega))
      have hbW := hb'.mono (B' := w.heap.size) (by omega)
      clear hb1 hb2
      cases k
      · have HX : Hid (∀ i ∈ pre ++ [x], inC (rays ns) i (x0, y0) = false) := fun i hi => by
          rcases List.mem_append.1 hi with hi | hi
          · exact HQ.out i hi
          · obtain rfl := List.mem_singleton.1 hi
            exact HK.out
        have hcv0 : Boxed (w2.setCell ⟨w.heap.size + 1, 0, none⟩ (.int .i64 ((pre.length : Int) + 1))) (w.heap.size + 1) 3 (.int .i64 ((pre ++ [x]).length : Nat)) := by
          have := hr3.set (.int .i64 ((pre.length : Int) + 1))
          simpa using this
        have hcv := Lib.hid hcv0
        clear hcv0
        have hpl : (pre.length : Int) ≤ 1000 := by omega
        have hp0 : (0 : Int) ≤ (pre.length : Int) := by omega
        go_wp2
        gi_wp2
        exact ⟨KO.out.trans (KeepsOthers.setCell _ _ _), hbW.setCell (p := ⟨w.heap.size + 1, 0, none⟩) (by simp) _, ⟨hcv.out, HX.out⟩, hW2.setCell (p := ⟨w.heap.size + 1, 0, none⟩) (by simp) _⟩
      · go_wp2
        gi_wp2
        exact ⟨KO.out, ⟨⟨rfl, pre, x, rfl, HQ.out, HK.out⟩, by simpa using hr3⟩, hW2⟩
  case done =>
    rintro D W hD ⟨⟨hr, hq⟩, hb⟩ hK
    obtain ⟨i, hi, hc⟩ := fan_covers hf (x0, y0)
    rw [rays_len] at hi
    have := hq i (List.mem_range.2 hi)
    rw [hc] at this
    cases this
  case stop =>
    rintro D c pre W hD hpre ⟨⟨⟨rfl, p, x, rfl, hq, hx⟩, hr⟩, hb⟩ hK
    obtain ⟨rfl, hxn⟩ := prefix_range hpre
    have HQ : Hid ((firstI (fun i => inC (rays ns) i (x0, y0)) ns.length) = x) := first_is hxn hx (fun i hi => hq i (List.mem_range.2 hi))
    have e : (List.range x ++ [x]).length - 1 = x := by simp
    rw [e] at hr
    have rr := hr.cell
    have hB2 : Below w.heap.size w (W.putObj D (.deferred none)) := (hw0.trans (hb.mono (by omega))).grown (grownBy_putObj' _ D (.deferred none)) (hw0.trans (hb.mono (by omega))).size (fun k e => by cases e; omega)
    have hKK := Lib.hid hK
    clear hK e hpre hq
    gi_wp2
    refine ⟨by simp, .inl ⟨_, _, rfl, run_takeDeferred hKK.out, ?_⟩⟩
    refine ⟨_, results_tmp rfl _ _ _, ?_, hB2⟩
    rw [HQ.out]
    rfl
end Go.Proofs.YtcieihbknfeddaaDoor

/- Fans: the numbers of the rays. -/
namespace Go.Proofs.YtcieihbknfeddaaDoor
open Go.RowKit Go.Shelf

attribute [local go_sem] Oper.semAt_some

/-- a box B holds a list of numbers of the call's own -/
def IntsI (w : World) (B : Nat) (f : List Nat → List Int) (pre : List Nat) (W : World) : Prop :=
  (∃ v, Boxed W B 57 v ∧ W.ownsRow w.heap.size 3 1 v (f pre).length (intsV (f pre)) ∧ True) ∧ Below w.heap.size w W
theorem intsI_own (w : World) (B : Nat) (f : List Nat → List Int) {k : Nat} (h : w.heap.size ≤ k) : OwnFrom k (IntsI w B f) :=
  OwnFrom.and (Own.from (holdsRow_own _ _ _ _ _ (fun pre => (f pre).length) (fun pre => intsV (f pre)) (fun _ _ => True)) _) (ownFrom_below (Nat.le_refl _) h)
def numsAt (l : List V2) (pre : List Nat) : List Int := pre.map (numZ l)
theorem numsAt_snoc (l : List V2) (pre : List Nat) (x : Nat) : numsAt l (pre ++ [x]) = numsAt l pre ++ [numZ l x] := by simp [numsAt]
theorem Ints.snoc {w : World} {base n : Nat} {v : Value} {l : List Int} {x : Int} (hn : n = l.length) (h : w.ownsRow base 3 1 v (n + 1) (intsV l ++ [.int .i64 x])) : Ints w base v (l ++ [x]) := by
  unfold Ints
  rw [List.length_append, ← hn]
  have : intsV (l ++ [x]) = intsV l ++ [.int .i64 x] := by simp [intsV]
  rw [this]
  exact h
set_option maxHeartbeats 8000000 in
theorem numbers_in (n : Nat) (hn : 3 ≤ n) (base g : Nat) (ns : List Node) (w : World) (hF : FanAt w base g ns) (hm : ns.length ≤ 1000) (hv : allVec (rays ns)) :
    CallsIn Fence.wide n Tryd.prog 101 #[.pointer (some ⟨g, 0, none⟩)] w (GivesInts w (numsZ (rays ns))) := by
  have h1 : 1 ≤ n := by omega
  have hd : 1 ≤ n - 1 - 1 := by omega
  have hR := hF.ring
  have hp := hR.pos
  refine callsIn_of_wp_marks Tryd.func101 rfl trivial ?_ rfl
  simp only [Tryd.ntmps101, List.size_toArray, List.length_cons, List.length_nil, Nat.reduceAdd, Nat.reduceSub, Array.replicate_succ, Array.replicate_zero, List.push_toArray, List.append_toArray, List.nil_append, List.cons_append]
  gi_wp2_with fail
  refine ⟨trivial, ?_⟩
  refine CallsIn.mono (links_in _ g _) ?_
  rintro e w3 ⟨rfl, rfl⟩
  have hA : Below w.heap.size w ((w.alloc (.cells #[.slice none 0 0] 57)).alloc (.cells #[.pointer (some ⟨g, 0, none⟩)] 92)) := by go_grown
  have bB := (Boxed.new w 57 (.slice none 0 0)).alloc (.cells #[.pointer (some ⟨g, 0, none⟩)] 92)
  have bF := Boxed.new (w.alloc (.cells #[.slice none 0 0] 57)) 92 (.pointer (some ⟨g, 0, none⟩))
  have hz5 : ((w.alloc (.cells #[.slice none 0 0] 57)).alloc (.cells #[.pointer (some ⟨g, 0, none⟩)] 92)).heap.size = w.heap.size + 1 + 1 := by simp
  simp only [World.size_alloc] at bF
  gi_wp2_with fail
  generalize ((w.alloc (.cells #[.slice none 0 0] 57)).alloc (.cells #[.pointer (some ⟨g, 0, none⟩)] 92)) = W5 at *
  obtain ⟨i0, hi, hz0, hz1, hz2⟩ := info_parts infoInt
  refine wpIn_links (by omega) rfl bF.cell hA.size (hF.below hA) (fun p hp => hR.mem_lt hp) hm rfl
    (IntsI w w.heap.size (numsAt (rays ns))) (fun _ _ _ => False) (intsI_own _ _ _ (by omega))
    (fun _ _ _ _ _ h _ _ => h) ⟨⟨_, bB, World.ownsRow_nil _ _ _ _, trivial⟩, hA⟩ ?a₁ ?assign ?body ?done ?stop
  case assign =>
    intro l x W K hK
    gi_wp2
    exact hK
  case body =>
    rintro l pre x W ⟨⟨v, hv', hrow, _⟩, hb⟩ hlen
    have hRW : Ring W.drew ns := ⟨hR.pos, hR.two, fun i => ((hR.below hb).link i)⟩
    have HN := Lib.hid (number_any ns x W.drew hRW hv)
    have kb := hv'.cell
    have kf := hv'.frozen
    have kl := hv'.lt
    have hsz := hb.size
    have HR := Lib.hid hrow
    have HP := Lib.hid (fun k (e : v.ownBlock = some k) => (World.ownsRow.lt hrow k e))
    have hpl : (numsAt (rays ns) pre).length ≤ 1000 := by simp [numsAt]; omega
    generalize hz : numZ (rays ns) x = z at HN
    have HZ := Lib.hid hz
    clear hz hrow
    gi_wp2
    refine region_round (by kernel_rfl) (noDefer_of (by kernel_rfl)) (by rintro ⟨_, _, h⟩; exact False.elim h) ?_
    refine wpAny_take (i := 1) (v := ?_) rfl (by kernel_rfl) (by kernel_rfl) (by kernel_rfl) (fun _ _ _ h => h) (Or.inl ⟨by rfl, ?_⟩) ?_
    rotate_left
    focus (intro w0; go_simp; try with_reducible rfl)
    refine wpAny_ready (rs := [0, 2]) (by kernel_rfl) (by simp) (AllReady.cons rfl (fun K hK => ?_) (AllReady.cons rfl (fun K hK => ?_) (AllReady.nil)))
    focus
      go_simp
      refine hK _ _ ?_
      clear hK K
      refine wpAny_ready (rs := [2]) (by kernel_rfl) (by simp) (AllReady.cons rfl (fun K hK => ?_) (AllReady.nil))
      go_simp
      (refine Calls.mono HN.out ?_; rintro e w1 ⟨rfl, hb1⟩; replace hb1 := undrew hb1; have b0 := (hb1.cell (p := ⟨w.heap.size, 0, none⟩) kl).trans kb; have bl := Nat.lt_of_lt_of_le kl hb1.size)
      refine hK _ _ ?_
      clear hK K
      refine wpAny_ready (rs := [3]) (by kernel_rfl) (by simp) (AllReady.cons rfl (fun K hK => ?_) (AllReady.nil))
      go_simp
      refine hK _ _ ?_
      clear hK K
      refine wpAny_seq 4 rfl (by kernel_rfl) ?_
      simp only [List.drop_succ_cons, List.drop_zero]
    rotate_left 1
    focus
      go_simp
      (refine Calls.mono HN.out ?_; rintro e w1 ⟨rfl, hb1⟩; replace hb1 := undrew hb1; have b0 := (hb1.cell (p := ⟨w.heap.size, 0, none⟩) kl).trans kb; have bl := Nat.lt_of_lt_of_le kl hb1.size)
      refine hK _ _ ?_
      clear hK K
      refine wpAny_ready (rs := [0, 3]) (by kernel_rfl) (by simp) (AllReady.cons rfl (fun K hK => ?_) (AllReady.cons rfl (fun K hK => ?_) (AllReady.nil)))
      focus
        go_simp
        refine hK _ _ ?_
        clear hK K
        refine wpAny_ready (rs := [3]) (by kernel_rfl) (by simp) (AllReady.cons rfl (fun K hK => ?_) (AllReady.nil))
        go_simp
        refine hK _ _ ?_
        clear hK K
        refine wpAny_seq 4 rfl (by kernel_rfl) ?_
        simp only [List.drop_succ_cons, List.drop_zero]
      rotate_left 1
      focus
        go_simp
        refine hK _ _ ?_
        clear hK K
        refine wpAny_ready (rs := [0]) (by kernel_rfl) (by simp) (AllReady.cons rfl (fun K hK => ?_) (AllReady.nil))
        go_simp
        refine hK _ _ ?_
        clear hK K
        refine wpAny_seq 4 rfl (by kernel_rfl) ?_
        simp only [List.drop_succ_cons, List.drop_zero]
    all_goals
      have hv1 : Boxed w1 w.heap.size 57 v := (hb1.block _ kl).trans hv'
      have hrow1 : w1.ownsRow w.heap.size 3 1 v (numsAt (rays ns) pre).length (intsV (numsAt (rays ns) pre)) := Ints.below HR.out hb1
      have hs1 := hb1.size
      go_wp2_with (at_builtin; refine wpList_append_own_at _ rfl _ _ 57 rfl w.heap.size 3 i0 (.int .i64 0) 1 8 Tryd.underlying57 hi hz0 hz1 hz2 rfl (by decide) _ _ _ rfl (hrow1.alloc _) ⟨w1.heap.size, 0, none⟩ 1 1 [.int .i64 z] rfl rfl ?c1 ?c2 ?c3 ?c4 ?c5 ?_)
      case c1 =>
        intro j u hj
        match j, hj with
        | 0, hj => simp at hj; subst hj; simp [Addr.add]
      case c2 => intro u hu; simp at hu; subst hu; rfl
      case c3 => unfold maxLen; omega
      case c4 => omega
      case c5 => simp; omega
      intro v2 w2 hown' hgrow _ _
      obtain ⟨g', cap', rfl⟩ := ownsRow_succ hown'
      have hb2 : Below w.heap.size w w1 := hb.trans (hb1.mono hsz)
      obtain ⟨hx1, hx2, hr2, hk2, hbb⟩ := hv1.appended (n₀ := w.heap.size) (tmp := .cells #[.int .i64 z] 3) (by decide) hrow1 hb2.size (Nat.le_refl _) hown' ⟨hgrow.os, hgrow.tape, hgrow.output, hgrow.size, hgrow.block⟩
      have hc1 := hx1.cell
      have hf1 := hx1.frozen
      have HV := Lib.hid (Ints.snoc (l := numsAt (rays ns) pre) rfl hr2)
      rw [← HZ.out, ← numsAt_snoc] at HV
      have KO := Lib.hid ((KeepsOthers.of_grownBy (grown_of_below hb1 none) (fun _ _ e _ => by cases e)).trans hk2)
      have hB3 := (hb1.mono hsz).trans hbb
      clear hown' hgrow hr2 hrow1 hx1 hv1 hb1 hk2
      go_wp2
      exact ⟨KO.out, hB3, ⟨⟨_, hx2, HV.out, trivial⟩, hb.trans hB3⟩⟩
  case done =>
    rintro D W hD ⟨⟨v, hv', hrow, _⟩, hb⟩ hK
    have k4 := hv'.cell
    have hV : Ints W w.heap.size v (numsZ (rays ns)) := by
      have e : numsAt (rays ns) (List.range ns.length) = numsZ (rays ns) := by unfold numsZ; rw [rays_len]; rfl
      have : Ints W w.heap.size v (numsAt (rays ns) (List.range ns.length)) := hrow
      rwa [e] at this
    have HV := Lib.hid (show Ints (W.putObj D (.deferred none)) w.heap.size v (numsZ (rays ns)) from ownsRow_putObj hV (.deferred none) hK rfl)
    have hB2 : Below w.heap.size w (W.putObj D (.deferred none)) := hb.grown (grownBy_putObj' W D (.deferred none)) hb.size (fun k e => by cases e; omega)
    clear hV hrow
    gi_wp2
    refine ⟨by simp, .inl ⟨_, _, rfl, run_takeDeferred hK, ?_⟩⟩
    exact ⟨_, results_tmp rfl _ _ _, v, rfl, HV.out, hB2⟩
  case stop =>
    rintro D c pre W _ _ h _
    exact h.elim
end Go.Proofs.YtcieihbknfeddaaDoor

/- Fans: the first ray that can be blown down. -/
namespace Go.Proofs.YtcieihbknfeddaaDoor
open Go.RowKit Go.Shelf

attribute [local go_sem] Oper.semAt_some

def downB (l : List V2) (i : Nat) : Bool := decide (3 < l.length) && (numZ l i == -1)
set_option maxHeartbeats 4000000 in
theorem canDown_any (base g : Nat) (ns : List Node) (i : Nat) (w : World) (hF : FanAt w base g ns) (hm : ns.length ≤ 1000) (hv : allVec (rays ns)) :
    Calls Tryd.prog 105 #[.pointer (some ⟨g, 0, none⟩), .pointer (some ⟨(cyc ns i).1, 0, none⟩)] w fun e w' => e = .returned (.bool (downB (rays ns) i)) ∧ Below w.heap.size w w' := by
  have q0 := hF.head.c1
  have q1 := hF.head.lt
  have HN := Lib.hid (fun w' (hb : Below w.heap.size w w') => number_any ns i w' (hF.ring.below hb) hv)
  unfold downB
  rw [rays_len]
  generalize numZ (rays ns) i = z at HN
  generalize (cyc ns i).1 = q at HN
  by_cases h : 3 < ns.length
  · have j1 : (3 : Int) < (ns.length : Int) := by omega
    go_enter Tryd.func105, Tryd.ntmps105
    go_wp2_with fail
    refine Calls.mono (HN.out _ (Below.refl _ _)) ?_
    rintro e w1 ⟨rfl, hb1⟩
    go_wp2
    go_returns
    exact ⟨by simp [h], hb1⟩
  · have hd : decide (3 < ns.length) = false := by simpa using h
    have j1 : ¬ (3 : Int) < (ns.length : Int) := by omega
    have j2 : decide ((3 : Int) < (ns.length : Int)) = false := by simpa using j1
    clear HN
    go_enter Tryd.func105, Tryd.ntmps105
    go_wp2
    go_returns
    exact ⟨rfl, Below.refl _ _⟩
def DownI (w w0 : World) (ns : List Node) (pre : List Nat) (W : World) : Prop :=
  (Boxed W (w.heap.size + 1) 99 (.pointer none) ∧ ∀ i ∈ pre, downB (rays ns) i = false) ∧ Below (w.heap.size + 1) w0 W
def DownX (w w0 : World) (ns : List Node) (c : Code) (pre : List Nat) (W : World) : Prop :=
  ((c = .ret ∧ ∃ p x, pre = p ++ [x] ∧ (∀ i ∈ p, downB (rays ns) i = false) ∧ downB (rays ns) x = true) ∧ ∃ x p, pre = p ++ [x] ∧ Boxed W (w.heap.size + 1) 99 (.pointer (some ⟨(cyc ns x).1, 0, none⟩))) ∧ Below (w.heap.size + 1) w0 W
theorem downI_own (w w0 : World) (ns : List Node) {k : Nat} (h0 : w.heap.size + 1 ≤ w0.heap.size) (h : w.heap.size + 1 ≤ k) : OwnFrom k (DownI w w0 ns) :=
  OwnFrom.and (OwnFrom.and (Own.from (ownErr _ _ _) _) (ownFrom_pure k (fun pre => ∀ i ∈ pre, downB (rays ns) i = false))) (ownFrom_below h0 h)
theorem downX_own (w w0 : World) (ns : List Node) (c : Code) {k : Nat} (h0 : w.heap.size + 1 ≤ w0.heap.size) (h : w.heap.size + 1 ≤ k) : OwnFrom k (DownX w w0 ns c) := by
  refine OwnFrom.and (OwnFrom.and (ownFrom_pure k (fun pre => c = .ret ∧ ∃ p x, pre = p ++ [x] ∧ (∀ i ∈ p, downB (rays ns) i = false) ∧ downB (rays ns) x = true)) ?_) (ownFrom_below h0 h)
  rintro s X Y row ⟨x, p, rfl, hb⟩ hg hr
  exact ⟨x, p, rfl, ownErr _ _ _ (p ++ [x]) X Y row hb hg (fun r e => (hr r e).2)⟩
/-- the first link whose ray can be blown down, or none -/
def DownEnd (ns : List Node) (e : Ending) : Prop :=
  (∃ k, k < ns.length ∧ e = .returned (.pointer (some ⟨(cyc ns k).1, 0, none⟩)) ∧ downB (rays ns) k = true ∧ ∀ i, i < k → downB (rays ns) i = false) ∨ (e = .returned (.pointer none) ∧ ∀ i, i < ns.length → downB (rays ns) i = false)
set_option maxHeartbeats 8000000 in
theorem firstDown_in (n : Nat) (hn : 3 ≤ n) (base g : Nat) (ns : List Node) (w : World) (hF : FanAt w base g ns) (hm : ns.length ≤ 1000) (hv : allVec (rays ns)) :
    CallsIn Fence.wide n Tryd.prog 107 #[.pointer (some ⟨g, 0, none⟩)] w fun e w' => DownEnd ns e ∧ Below w.heap.size w w' := by
  have h1 : 1 ≤ n := by omega
  have hd : 1 ≤ n - 1 - 1 := by omega
  have hR := hF.ring
  have hp := hR.pos
  refine callsIn_of_wp_marks Tryd.func107 rfl trivial ?_ rfl
  simp only [Tryd.ntmps107, List.size_toArray, List.length_cons, List.length_nil, Nat.reduceAdd, Nat.reduceSub, Array.replicate_succ, Array.replicate_zero, List.push_toArray, List.append_toArray, List.nil_append, List.cons_append]
  gi_wp2_with fail
  refine ⟨trivial, ?_⟩
  refine CallsIn.mono (links_in _ g _) ?_
  rintro e w3 ⟨rfl, rfl⟩
  have bR := (Boxed.new (w.alloc (.cells #[.pointer (some ⟨g, 0, none⟩)] 92)) 99 (.pointer none)).alloc (.cells #[.pointer (some ⟨g, 0, none⟩)] 92)
  have bF := Boxed.new ((w.alloc (.cells #[.pointer (some ⟨g, 0, none⟩)] 92)).alloc (.cells #[.pointer none] 99)) 92 (.pointer (some ⟨g, 0, none⟩))
  have q0 : (w.alloc (.cells #[.pointer (some ⟨g, 0, none⟩)] 92)).cell? ⟨w.heap.size, 0, none⟩ = some (.pointer (some ⟨g, 0, none⟩)) := by simp
  have hw0 : Below w.heap.size w (w.alloc (.cells #[.pointer (some ⟨g, 0, none⟩)] 92)) := by go_grown
  have hA0 : Below w.heap.size w (((w.alloc (.cells #[.pointer (some ⟨g, 0, none⟩)] 92)).alloc (.cells #[.pointer none] 99)).alloc (.cells #[.pointer (some ⟨g, 0, none⟩)] 92)) := by go_grown
  have hA : Below (w.heap.size + 1) (w.alloc (.cells #[.pointer (some ⟨g, 0, none⟩)] 92)) (((w.alloc (.cells #[.pointer (some ⟨g, 0, none⟩)] 92)).alloc (.cells #[.pointer none] 99)).alloc (.cells #[.pointer (some ⟨g, 0, none⟩)] 92)) := by go_grown
  have hz5 : (((w.alloc (.cells #[.pointer (some ⟨g, 0, none⟩)] 92)).alloc (.cells #[.pointer none] 99)).alloc (.cells #[.pointer (some ⟨g, 0, none⟩)] 92)).heap.size = w.heap.size + 1 + 1 + 1 := by simp
  have hz0 : (w.alloc (.cells #[.pointer (some ⟨g, 0, none⟩)] 92)).heap.size = w.heap.size + 1 := by simp
  simp only [World.size_alloc] at bF bR
  gi_wp2_with fail
  generalize (((w.alloc (.cells #[.pointer (some ⟨g, 0, none⟩)] 92)).alloc (.cells #[.pointer none] 99)).alloc (.cells #[.pointer (some ⟨g, 0, none⟩)] 92)) = W5 at *
  generalize (w.alloc (.cells #[.pointer (some ⟨g, 0, none⟩)] 92)) = w0 at *
  refine wpIn_links (by omega) rfl bF.cell hA0.size (hF.below hA0) (fun p hp => hR.mem_lt hp) (by omega) rfl (DownI w w0 ns) (DownX w w0 ns) (downI_own w w0 _ (by omega) (by omega)) (fun c => downX_own w w0 _ c (by omega) (by omega))
    ⟨⟨bR, fun i hi => by cases hi⟩, hA⟩ ?a₁ ?assign ?body ?done ?stop
  case assign =>
    intro l x W K hK
    gi_wp2
    exact hK
  case body =>
    rintro l pre x W ⟨⟨hr, hq⟩, hb⟩ hlen
    have hbw : Below w.heap.size w W := hw0.trans (hb.mono (by omega))
    have rl := hr.lt
    have HC := Lib.hid (canDown_any base g ns x W (hF.below hbw) hm hv)
    have HQ := Lib.hid hq
    have rr := hr.cell
    have rf := hr.frozen
    have a0 : W.cell? ⟨w.heap.size, 0, none⟩ = some (.pointer (some ⟨g, 0, none⟩)) := (hb.cell (p := ⟨w.heap.size, 0, none⟩) (by simp)).trans q0
    have al : w.heap.size < W.heap.size := by omega
    clear hq q0
    generalize hk : downB (rays ns) x = k at HC
    have HK := Lib.hid hk
    clear hk
    gi_wp2_with fail
    refine ⟨trivial, ?_⟩
    refine CallsIn.mono (CallsIn.inRound l (callsIn_wide.2 HC.out)) ?_
    rintro e w2 ⟨rfl, hb'⟩
    have hr3 : Boxed w2 (w.heap.size + 1) 99 (.pointer none) := (hb'.block _ rl).trans hr
    have rr3 := hr3.cell
    have rf3 := hr3.frozen
    have KO := Lib.hid (KeepsOthers.of_grownBy (grown_of_below hb' none) (fun _ _ e _ => by cases e))
    have hW2 := hb.trans (hb'.mono (by omega))
    have hbW := hb'.mono (B' := w.heap.size) (by omega)
    clear hb'
    cases k
    · have HX : Hid (∀ i ∈ pre ++ [x], downB (rays ns) i = false) := fun i hi => by
        rcases List.mem_append.1 hi with hi | hi
        · exact HQ.out i hi
        · obtain rfl := List.mem_singleton.1 hi
          exact HK.out
      gi_wp2
      exact ⟨KO.out, hbW, ⟨hr3, HX.out⟩, hW2⟩
    · gi_wp2
      exact ⟨KO.out.trans (KeepsOthers.setCell _ _ _), ⟨⟨rfl, pre, x, rfl, HQ.out, HK.out⟩, x, pre, rfl, hr3.set _⟩, hW2.setCell (p := ⟨w.heap.size + 1, 0, none⟩) (by simp) _⟩
  case done =>
    rintro D W hD ⟨⟨hr, hq⟩, hb⟩ hK
    have HE : Hid (DownEnd ns (.returned (.pointer none))) := .inr ⟨rfl, fun i hi => hq i (List.mem_range.2 hi)⟩
    have rr := hr.cell
    have rf := hr.frozen
    have hK' : (W.setCell ⟨w.heap.size + 1, 0, none⟩ (.pointer none)).heap[D]? = some (.deferred (some [])) := (Below.heap_setCell W ⟨w.heap.size + 1, 0, none⟩ _ D (by simp; omega)).trans hK
    have kk := (boxed_putObj (hr.set (.pointer none)) (.deferred none) hK' rfl).cell
    have hbw : Below w.heap.size w W := hw0.trans (hb.mono (by omega))
    have hB2 : Below w.heap.size w ((W.setCell ⟨w.heap.size + 1, 0, none⟩ (.pointer none)).putObj D (.deferred none)) := (hbw.setCell (p := ⟨w.heap.size + 1, 0, none⟩) (by simp) (.pointer none)).grown (grownBy_putObj' _ D (.deferred none)) (by simpa using hbw.size) (fun k e => by cases e; omega)
    have hKK := Lib.hid hK'
    clear hK hK' hq
    gi_wp2
    refine ⟨by simp, .inl ⟨_, _, rfl, run_takeDeferred hKK.out, ?_⟩⟩
    exact ⟨.pointer none, by simp [results, Tryd.f107, go_sem, kk], HE.out, hB2⟩
  case stop =>
    rintro D c pre W hD hpre ⟨⟨⟨rfl, p, x, rfl, hq, hx⟩, x', p', hpp, hr⟩, hb⟩ hK
    obtain ⟨rfl, hxn⟩ := prefix_range hpre
    obtain ⟨-, e2⟩ := List.append_inj' hpp rfl
    obtain rfl : x = x' := by simpa using e2
    have HE : Hid (DownEnd ns (.returned (.pointer (some ⟨(cyc ns x).1, 0, none⟩)))) := .inl ⟨x, hxn, rfl, hx, fun i hi => hq i (List.mem_range.2 hi)⟩
    have kk := (boxed_putObj hr (.deferred none) hK rfl).cell
    have hbw : Below w.heap.size w W := hw0.trans (hb.mono (by omega))
    have hB2 : Below w.heap.size w (W.putObj D (.deferred none)) := hbw.grown (grownBy_putObj' _ D (.deferred none)) hbw.size (fun k e => by cases e; omega)
    have hKK := Lib.hid hK
    clear hK hpp e2 hpre hq
    gi_wp2
    refine ⟨by simp, .inl ⟨_, _, rfl, run_takeDeferred hKK.out, ?_⟩⟩
    exact ⟨.pointer (some ⟨(cyc ns x).1, 0, none⟩), by simp [results, Tryd.f107, go_sem, kk], HE.out, hB2⟩
end Go.Proofs.YtcieihbknfeddaaDoor

/- Fans: the program's functions that read a fan. -/
namespace Go.Proofs.YtcieihbknfeddaaDoor
open Go.RowKit

/-- a list, or none -/
def gV {α : Type} (b : Bool) (l : List α) : List α := if b then l else []
theorem gV_len {α : Type} {b : Bool} {l : List α} {n : Nat} (h : b = true → l.length ≤ n) : (gV b l).length ≤ n := by
  cases b
  · exact Nat.zero_le _
  · exact h rfl
theorem fan_small {l : List V2} {ns : List Node} (h : fanB l = true) (hn : rays ns = l) : ns.length ≤ 1000 ∧ ns.length = l.length := by
  have := fan_len h
  rw [← hn, rays_len] at this
  exact ⟨by omega, by rw [← hn, rays_len]⟩
theorem rays_any (base g : Nat) (ns : List Node) (w : World) (hF : FanAt w base g ns) (hm : ns.length ≤ 1000) : Calls Tryd.prog 90 #[.pointer (some ⟨g, 0, none⟩)] w (GivesVecs w (rays ns)) :=
  callsIn_wide.1 (rays_in 3 (by omega) base g ns w hF hm)
set_option maxHeartbeats 4000000 in
theorem fanIn_any (v : Value) (l : List V2) (w : World) (hl : ReadsVecs w v l) (hg : EtOk w) :
    Calls Tryd.prog 27 #[v] w fun e w' => e = .returned (.bool (fanB l)) ∧ Below w.heap.size w w' := by
  have HO := Lib.hid (fanOf_any v l w hl hg)
  clear hl
  generalize fanB l = b at *
  go_enter Tryd.func27, Tryd.ntmps27
  go_wp2_with fail
  refine Calls.mono HO.out ?_
  rintro e w1 ⟨⟨rfl, g, ns, rfl, hF, hn⟩ | ⟨rfl, rfl⟩, hb1⟩
  · clear hF hn
    go_wp2
    go_returns
    exact ⟨rfl, hb1⟩
  · go_wp2
    go_returns
    exact ⟨rfl, hb1⟩
set_option maxHeartbeats 4000000 in
theorem fanSmooth_any (v : Value) (l : List V2) (w : World) (hl : ReadsVecs w v l) (hg : EtOk w) :
    Calls Tryd.prog 36 #[v] w fun e w' => e = .returned (.bool (smoothB l)) ∧ Below w.heap.size w w' := by
  have HO := Lib.hid (smoothFanOf_any v l w hl hg)
  clear hl
  generalize smoothB l = b at *
  go_enter Tryd.func36, Tryd.ntmps36
  go_wp2_with fail
  refine Calls.mono HO.out ?_
  rintro e w1 ⟨⟨rfl, g, ns, rfl, hF, hn⟩ | ⟨rfl, rfl⟩, hb1⟩
  · clear hF hn
    go_wp2
    go_returns
    exact ⟨rfl, hb1⟩
  · go_wp2
    go_returns
    exact ⟨rfl, hb1⟩
set_option maxHeartbeats 4000000 in
theorem fanTidy_any (v : Value) (l : List V2) (w : World) (hl : ReadsVecs w v l) (hg : EtOk w) :
    Calls Tryd.prog 30 #[v] w (GivesVecsOk w (gV (fanB l) (tidyL l)) (fanB l)) := by
  have HO := Lib.hid (fanOf_any v l w hl hg)
  have HV := Lib.hid (fun h => fan_vec (l := l) h)
  have HS := Lib.hid (fun (ns : List Node) h hn => fan_small (l := l) (ns := ns) h hn)
  clear hl
  generalize hb : fanB l = b at HO HV HS
  go_enter Tryd.func30, Tryd.ntmps30
  go_wp2_with fail
  refine Calls.mono HO.out ?_
  rintro e w1 ⟨⟨rfl, g, ns, rfl, hF, hn⟩ | ⟨rfl, rfl⟩, hb1⟩
  · obtain ⟨hs, hnl⟩ := HS.out ns (by simp) hn
    have HT := Lib.hid (callsIn_wide.1 (tidy_in 3 (by omega) w.heap.size g ns w1 hF hs (by rw [hn]; exact HV.out (by simp)) hb1.size))
    have HN := Lib.hid hn
    clear hn hnl hF
    go_wp2_with fail
    refine Calls.mono HT.out ?_
    rintro e w2 ⟨⟨v2, rfl⟩, hF2, hb2⟩
    rw [HN.out] at hF2
    have HR := Lib.hid (rays_any _ _ _ w2 hF2 (by rw [rot_len]; exact hs))
    have hB := hb1.trans hb2
    clear hF2 hb2 HT
    go_wp2_with fail
    refine Calls.mono HR.out ?_
    rintro e w3 ⟨v3, rfl, hV, hb3⟩
    have HV3 : Hid (Vecs w3 w.heap.size v3 (tidyL l)) := by
      have := hV.lower hB.size
      unfold rays at this
      rw [rot_map] at this
      have e2 : ns.map (·.2) = l := HN.out
      rw [e2] at this
      exact this
    have hB2 := belowTo hB hb3
    clear hV hb3 HR hB hb
    go_wp2
    go_returns
    exact ⟨_, rfl, HV3.out, hB2⟩
  · clear hb
    go_wp2
    go_returns
    exact ⟨_, rfl, Vecs.nil _ _, hb1⟩
set_option maxHeartbeats 4000000 in
theorem fanNumbers_any (v : Value) (l : List V2) (w : World) (hl : ReadsVecs w v l) (hg : EtOk w) :
    Calls Tryd.prog 44 #[v] w (GivesIntsOk w (gV (smoothB l) (numsZ l)) (smoothB l)) := by
  have HO := Lib.hid (smoothFanOf_any v l w hl hg)
  have HV := Lib.hid (fun h => (smooth_all (l := l) h).1)
  have HS := Lib.hid (fun (ns : List Node) h hn => fan_small (l := l) (ns := ns) (smooth_in h).1 hn)
  clear hl
  generalize hb : smoothB l = b at HO HV HS
  go_enter Tryd.func44, Tryd.ntmps44
  go_wp2_with fail
  refine Calls.mono HO.out ?_
  rintro e w1 ⟨⟨rfl, g, ns, rfl, hF, hn⟩ | ⟨rfl, rfl⟩, hb1⟩
  · obtain ⟨hs, hnl⟩ := HS.out ns (by simp) hn
    have HT := Lib.hid (callsIn_wide.1 (numbers_in 3 (by omega) w.heap.size g ns w1 hF hs (by rw [hn]; exact HV.out (by simp))))
    rw [hn] at HT
    clear hn hnl hF
    go_wp2_with fail
    refine Calls.mono HT.out ?_
    rintro e w2 ⟨v2, rfl, hV, hb2⟩
    have HV3 := Lib.hid (hV.lower hb1.size)
    have hB := belowTo hb1 hb2
    clear hV hb2 HT hb
    go_wp2
    go_returns
    exact ⟨_, rfl, HV3.out, hB⟩
  · clear hb
    go_wp2
    go_returns
    exact ⟨_, rfl, Ints.nil _ _, hb1⟩
def idxB (l : List V2) (i : Int) : Bool := decide (0 ≤ i) && decide (i < (l.length : Int))
theorem idx_in {l : List V2} {i : Int} (h : idxB l i = true) : ∃ m : Nat, i = m ∧ m < l.length := by
  have h' : 0 ≤ i ∧ i < (l.length : Int) := by simpa [idxB] using h
  exact ⟨i.toNat, by omega, by omega⟩
theorem idx_out {l : List V2} {i : Int} (h : idxB l i = false) : i < 0 ∨ (l.length : Int) ≤ i := by
  simp [idxB] at h
  omega
set_option maxHeartbeats 8000000 in
theorem fanDown_any (v : Value) (l : List V2) (i : Int) (w : World) (hl : ReadsVecs w v l) (hg : EtOk w) :
    Calls Tryd.prog 51 #[v, .int .i64 i] w (GivesVecsOk w (gV (smoothB l && (idxB l i && downB l i.toNat)) (downL l i.toNat)) (smoothB l && (idxB l i && downB l i.toNat))) := by
  have HO := Lib.hid (smoothFanOf_any v l w hl hg)
  have HV := Lib.hid (fun h => (smooth_all (l := l) h).1)
  have HS := Lib.hid (fun (ns : List Node) h hn => fan_small (l := l) (ns := ns) (smooth_in h).1 hn)
  clear hl
  cases hb : smoothB l
  · rw [hb] at HO
    clear hb HV HS
    go_enter Tryd.func51, Tryd.ntmps51
    go_wp2_with fail
    refine Calls.mono HO.out ?_
    rintro e w1 ⟨⟨h, _⟩ | ⟨_, rfl⟩, hb1⟩
    · cases h
    · go_wp2
      go_returns
      exact ⟨_, rfl, Vecs.nil _ _, hb1⟩
  · rw [hb] at HO HV HS
    clear hb
    cases hi : idxB l i
    · have HX := Lib.hid (fun base g (ns : List Node) w' hF (hn : ns.length = l.length) => at_out base g ns i w' hF (by rw [hn]; exact idx_out hi))
      clear hi
      go_enter Tryd.func51, Tryd.ntmps51
      go_wp2_with fail
      refine Calls.mono HO.out ?_
      rintro e w1 ⟨⟨_, g, ns, rfl, hF, hn⟩ | ⟨h, _⟩, hb1⟩
      · obtain ⟨hs, hnl⟩ := HS.out ns (by simp) hn
        have HA := Lib.hid (HX.out _ g ns w1 hF hnl)
        clear hF hn hnl hs
        go_wp2_with fail
        refine Calls.mono HA.out ?_
        rintro e w2 ⟨rfl, rfl⟩
        go_wp2
        go_returns
        exact ⟨_, rfl, Vecs.nil _ _, hb1⟩
      · cases h
    · obtain ⟨m, rfl, hm⟩ := idx_in hi
      rw [Int.toNat_natCast]
      cases hd : downB l m
      · go_enter Tryd.func51, Tryd.ntmps51
        go_wp2_with fail
        refine Calls.mono HO.out ?_
        rintro e w1 ⟨⟨_, g, ns, rfl, hF, hn⟩ | ⟨h, _⟩, hb1⟩
        · obtain ⟨hs, hnl⟩ := HS.out ns (by simp) hn
          have HA := Lib.hid (at_in _ g ns m w1 hF hs (by omega))
          have HC := Lib.hid (canDown_any _ g ns m w1 hF hs (by rw [hn]; exact HV.out (by simp)))
          rw [hn, hd] at HC
          clear hF hn hnl hs hd hi hm
          go_wp2_with fail
          refine Calls.mono HA.out ?_
          rintro e w2 ⟨rfl, rfl⟩
          go_wp2_with fail
          refine Calls.mono HC.out ?_
          rintro e w3 ⟨rfl, hb3⟩
          have hB := belowTo hb1 hb3
          clear hb1 hb3
          go_wp2
          go_returns
          exact ⟨_, rfl, Vecs.nil _ _, hB⟩
        · cases h
      · go_enter Tryd.func51, Tryd.ntmps51
        go_wp2_with fail
        refine Calls.mono HO.out ?_
        rintro e w1 ⟨⟨_, g, ns, rfl, hF, hn⟩ | ⟨h, _⟩, hb1⟩
        · obtain ⟨hs, hnl⟩ := HS.out ns (by simp) hn
          have h3 : 3 < ns.length := by
            have : 3 < l.length := by
              have h' := hd
              unfold downB at h'
              rw [Bool.and_eq_true] at h'
              exact of_decide_eq_true h'.1
            omega
          have HA := Lib.hid (at_in _ g ns m w1 hF hs (by omega))
          have HC := Lib.hid (canDown_any _ g ns m w1 hF hs (by rw [hn]; exact HV.out (by simp)))
          rw [hn, hd] at HC
          have HD := Lib.hid (fun w' (hb' : Below w1.heap.size w1 w') => down_at _ g ns m w' (hF.below hb') hs (by omega) (by omega) (Nat.le_trans hb1.size hb'.size))
          have HN := Lib.hid hn
          have hml : m < ns.length := by omega
          have hdl : (downL ns m).length ≤ 1000 := by rw [downL_len hml]; omega
          clear hF hn hnl hs hd hi hm h3 hml
          go_wp2_with fail
          refine Calls.mono HA.out ?_
          rintro e w2 ⟨rfl, rfl⟩
          go_wp2_with fail
          refine Calls.mono HC.out ?_
          rintro e w3 ⟨rfl, hb3⟩
          go_wp2_with fail
          refine Calls.mono (HD.out _ hb3) ?_
          rintro e w4 ⟨⟨v4, rfl⟩, hF4, hb4⟩
          have HR := Lib.hid (rays_any _ _ _ w4 hF4 hdl)
          rw [rays_down, HN.out] at HR
          have hB := (belowTo hb1 hb3).trans hb4
          clear hF4 hb4 hb1 hb3 HD HC HA
          go_wp2_with fail
          refine Calls.mono HR.out ?_
          rintro e w5 ⟨v5, rfl, hV, hb5⟩
          have HV5 := Lib.hid (hV.lower hB.size)
          have hB2 := belowTo hB hb5
          clear hV hb5 HR hB
          go_wp2
          go_returns
          exact ⟨_, rfl, HV5.out, hB2⟩
        · cases h
end Go.Proofs.YtcieihbknfeddaaDoor
