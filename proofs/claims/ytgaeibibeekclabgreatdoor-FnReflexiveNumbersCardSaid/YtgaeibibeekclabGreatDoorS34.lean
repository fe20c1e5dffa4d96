import Derived.Test.YtgaeibibeekclabGreatDoorProg
import Derived.Test.YtgaeibibeekclabGreatDoorS01
import Derived.Test.YtgaeibibeekclabGreatDoorS03
import Derived.Test.YtgaeibibeekclabGreatDoorS04
import Derived.Test.YtgaeibibeekclabGreatDoorS06
import Derived.Test.YtgaeibibeekclabGreatDoorS07
import Derived.Test.YtgaeibibeekclabGreatDoorS08
import Derived.Test.YtgaeibibeekclabGreatDoorS30
import Derived.Test.YtgaeibibeekclabGreatDoorS31
import Derived.Test.YtgaeibibeekclabGreatDoorS32
import Derived.Test.YtgaeibibeekclabGreatDoorS33
import Derived.WalkKit
import Derived.LaidEql
import Derived.Stop.Asserts
import Derived.RowKitTokens
import Derived.Handy
import Derived.WalkSpells
import Derived.WalkLawsBesides
import Derived.Deep.QuietTactic
import Derived.BigQuiet
import Derived.Lib.Hide
import Derived.Deep.RegionHeld3
import Derived.Deep.DeepCutAuto
import Derived.Deep.AppendLies
import Derived.Laws.OwnMore
import Derived.Laws.MakeOwn
import Derived.OwnWalk
import Derived.Maps.AppendAt
import Derived.RangeFuncBox
import Derived.RegionTactic
import Derived.ChangeAlike
import Derived.RangeFuncNested
import Derived.StillTail
import Derived.OrdersIn
import Derived.AtR
import Derived.RangeFuncBound
import Derived.RangeFuncCalls
import Derived.RangeFuncLeaves
import Derived.Shelf.Abstract
import Derived.OwnWalkIn
import Derived.TacticsInMore
import Derived.LoopNIn
import Derived.LoopIn
import Derived.LaidEqlPtr
namespace Go.Proofs.YtgaeibibeekclabGreatDoor
open Go.RowKit Go.Shelf
attribute [local go_sem] Oper.semAt_some
def TidyI (w : World) (ns : List Node) (pre : List Nat) (W : World) : Prop :=
  Boxed W w.heap.size 102 (.pointer (some ⟨(cyc ns (tidyAt (rays ns) pre)).1, 0, none⟩)) ∧ Below w.heap.size w W
theorem tidyI_own (w : World) (ns : List Node) {k : Nat} (h : w.heap.size ≤ k) : OwnFrom k (TidyI w ns) :=
  OwnFrom.and (Own.from (boxed_own _ _ (fun pre => .pointer (some ⟨(cyc ns (tidyAt (rays ns) pre)).1, 0, none⟩))) _) (ownFrom_below (Nat.le_refl _) h)
/-- what a method leaves that turns the fan -/
def TurnedEnd (base g : Nat) (ns : List Node) (w : World) (e : Ending) (w' : World) : Prop := (∃ v, e = .returned v) ∧ FanAt w' base g ns ∧ Below base w w'
theorem FanAt.turned {W W' : World} {base g : Nat} {ns : List Node} (h : FanAt W base g ns) (hb : Below W.heap.size W W') {k : Nat} (hk : k < ns.length) : FanAt (W'.setCell ⟨g, 0, none⟩ (.pointer (some ⟨(cyc ns k).1, 0, none⟩))) base g (rot k ns) := by
  have h' := h.below hb
  refine ⟨(h'.ring.same (fun p hp => Below.heap_setCell W' ⟨g, 0, none⟩ _ _ (h.apart p hp))).rot (by omega), ?_, fun p hp => ?_, fun p hp => ?_, h.lowg⟩
  · have := h'.head.set0 (cyc ns k).1
    rw [cyc_rot (by omega), rot_len, Nat.add_zero]
    exact this
  · exact h.apart p (by unfold rot at hp; rcases List.mem_append.1 hp with hp | hp; exact List.mem_of_mem_drop hp; exact List.mem_of_mem_take hp)
  · exact h.low p (by unfold rot at hp; rcases List.mem_append.1 hp with hp | hp; exact List.mem_of_mem_drop hp; exact List.mem_of_mem_take hp)
set_option maxHeartbeats 8000000 in
theorem tidy_in (n : Nat) (hn : 3 ≤ n) (base g : Nat) (ns : List Node) (w : World) (hF : FanAt w base g ns) (hm : ns.length ≤ 1000) (hv : allVec (rays ns)) (hbase : base ≤ w.heap.size) :
    CallsIn Fence.wide n Tryz.prog 85 #[.pointer (some ⟨g, 0, none⟩)] w (TurnedEnd base g (rot (tidyK (rays ns)) ns) w) := by
  have h1 : 1 ≤ n := by omega
  have hd : 1 ≤ n - 1 - 1 := by omega
  have hR := hF.ring
  have hp := hR.pos
  have q0 := hF.head.c0
  have q1 := hF.head.lt
  refine callsIn_of_wp_marks Tryz.func85 rfl trivial ?_ rfl
  simp only [Tryz.ntmps85, List.size_toArray, List.length_cons, List.length_nil, Nat.reduceAdd, Nat.reduceSub, Array.replicate_succ, Array.replicate_zero, List.push_toArray, List.append_toArray, List.nil_append, List.cons_append]
  gi_wp2_with fail
  refine ⟨trivial, ?_⟩
  refine CallsIn.mono (links_in _ g _) ?_
  rintro e w3 ⟨rfl, rfl⟩
  have hA : Below w.heap.size w ((w.alloc (.cells #[.pointer (some ⟨(cyc ns 0).1, 0, none⟩)] 102)).alloc (.cells #[.pointer (some ⟨g, 0, none⟩)] 68)) := by go_grown
  have bB := (Boxed.new w 102 (.pointer (some ⟨(cyc ns 0).1, 0, none⟩))).alloc (.cells #[.pointer (some ⟨g, 0, none⟩)] 68)
  have bF := Boxed.new (w.alloc (.cells #[.pointer (some ⟨(cyc ns 0).1, 0, none⟩)] 102)) 68 (.pointer (some ⟨g, 0, none⟩))
  have hz5 : ((w.alloc (.cells #[.pointer (some ⟨(cyc ns 0).1, 0, none⟩)] 102)).alloc (.cells #[.pointer (some ⟨g, 0, none⟩)] 68)).heap.size = w.heap.size + 1 + 1 := by simp
  simp only [World.size_alloc] at bF
  gi_wp2_with fail
  generalize ((w.alloc (.cells #[.pointer (some ⟨(cyc ns 0).1, 0, none⟩)] 102)).alloc (.cells #[.pointer (some ⟨g, 0, none⟩)] 68)) = W5 at *
  refine wpIn_links (by omega) rfl bF.cell hA.size (hF.below hA) (fun p hp => hR.mem_lt hp) hm rfl
    (TidyI w ns) (fun _ _ _ => False) (tidyI_own _ _ (by omega))
    (fun _ _ _ _ _ h _ _ => h) ⟨bB, hA⟩ ?a₁ ?assign ?body ?done ?stop
  case assign =>
    intro l x W K hK
    gi_wp2
    exact hK
  case body =>
    rintro l pre x W ⟨hc, hb⟩ hlen
    have hRW := hR.below hb
    have hsz := hb.size
    have cc := hc.cell
    have cf := hc.frozen
    have cl := hc.lt
    have hT := Lib.hid (tidy_snoc (rays ns) pre x)
    rw [rays_cyc hp, rays_cyc hp] at hT
    have v1 := hv x
    have v2 := hv (tidyAt (rays ns) pre)
    rw [rays_cyc hp] at v1 v2
    have HA := Lib.hid (fun w' => ahead_any _ _ _ _ w' v1 v2)
    generalize tidyAt (rays ns) pre = j at *
    have hL := hRW.link x
    have hZ := hRW.link j
    have p0 := hL.c0
    have p1 := hL.c1
    have z0 := hZ.c0
    have z1 := hZ.c1
    have pl := hL.lt
    have zl := hZ.lt
    clear v1 v2 hL hZ
    unfold aheadV at hT
    generalize aheadB (cyc ns x).2.1 (cyc ns x).2.2 (cyc ns j).2.1 (cyc ns j).2.2 = k at HA hT
    gi_wp2
    refine region_round (by kernel_rfl) (noDefer_of (by kernel_rfl)) (by rintro ⟨_, _, h⟩; exact False.elim h) ?_
    refine wpAny_take (i := 0) (v := ?_) rfl (by kernel_rfl) (by kernel_rfl) (by kernel_rfl) (fun _ _ _ h => h) (Or.inl ⟨by rfl, ?_⟩) ?_
    rotate_left
    focus (intro w0; go_simp; try with_reducible rfl)
    refine wpAny_take (i := 1) (v := ?_) rfl (by kernel_rfl) (by kernel_rfl) (by kernel_rfl) (fun _ _ _ h => h) (Or.inl ⟨by rfl, ?_⟩) ?_
    rotate_left
    focus (intro w0; go_simp; try with_reducible rfl)
    refine wpAny_take (i := 2) (v := ?_) rfl (by kernel_rfl) (by kernel_rfl) (by kernel_rfl) (fun _ _ _ h => h) (Or.inl ⟨by rfl, ?_⟩) ?_
    rotate_left
    focus (intro w0; go_simp; try with_reducible rfl)
    refine wpAny_ready (rs := [3, 4]) (by kernel_rfl) (by simp) (AllReady.cons rfl (fun K hK => ?_) (AllReady.cons rfl (fun K hK => ?_) (AllReady.nil)))
    focus
      go_simp
      refine hK _ _ ?_
      clear hK K
      refine wpAny_ready (rs := [4]) (by kernel_rfl) (by simp) (AllReady.cons rfl (fun K hK => ?_) (AllReady.nil))
      go_simp
      refine hK _ _ ?_
      clear hK K
      refine wpAny_take (i := 5) (v := ?_) rfl (by kernel_rfl) (by kernel_rfl) (by kernel_rfl) (fun _ _ _ h => h) (Or.inl ⟨by rfl, ?_⟩) ?_
      rotate_left
      focus (intro w0; go_simp; try with_reducible rfl)
      refine wpAny_take (i := 6) (v := ?_) rfl (by kernel_rfl) (by kernel_rfl) (by kernel_rfl) (fun _ _ _ h => h) (Or.inl ⟨by rfl, ?_⟩) ?_
      rotate_left
      focus (intro w0; go_simp; try with_reducible rfl)
      refine wpAny_ready (rs := [7]) (by kernel_rfl) (by simp) (AllReady.cons rfl (fun K hK => ?_) (AllReady.nil))
      go_simp
      refine hK _ _ ?_
      clear hK K
      refine wpAny_seq 8 rfl (by kernel_rfl) ?_
      simp only [List.drop_succ_cons, List.drop_zero]
    rotate_left 1
    focus
      go_simp
      refine hK _ _ ?_
      clear hK K
      refine wpAny_take (i := 5) (v := ?_) rfl (by kernel_rfl) (by kernel_rfl) (by kernel_rfl) (fun _ _ _ h => h) (Or.inl ⟨by rfl, ?_⟩) ?_
      rotate_left
      focus (intro w0; go_simp; try with_reducible rfl)
      refine wpAny_take (i := 6) (v := ?_) rfl (by kernel_rfl) (by kernel_rfl) (by kernel_rfl) (fun _ _ _ h => h) (Or.inl ⟨by rfl, ?_⟩) ?_
      rotate_left
      focus (intro w0; go_simp; try with_reducible rfl)
      refine wpAny_ready (rs := [3, 7]) (by kernel_rfl) (by simp) (AllReady.cons rfl (fun K hK => ?_) (AllReady.cons rfl (fun K hK => ?_) (AllReady.nil)))
      focus
        go_simp
        refine hK _ _ ?_
        clear hK K
        refine wpAny_ready (rs := [7]) (by kernel_rfl) (by simp) (AllReady.cons rfl (fun K hK => ?_) (AllReady.nil))
        go_simp
        refine hK _ _ ?_
        clear hK K
        refine wpAny_seq 8 rfl (by kernel_rfl) ?_
        simp only [List.drop_succ_cons, List.drop_zero]
      rotate_left 1
      focus
        go_simp
        refine hK _ _ ?_
        clear hK K
        refine wpAny_ready (rs := [3]) (by kernel_rfl) (by simp) (AllReady.cons rfl (fun K hK => ?_) (AllReady.nil))
        go_simp
        refine hK _ _ ?_
        clear hK K
        refine wpAny_seq 8 rfl (by kernel_rfl) ?_
        simp only [List.drop_succ_cons, List.drop_zero]
    all_goals
      go_wp2_with fail
      refine Calls.mono (HA.out _) ?_
      rintro e w4 ⟨rfl, hb4⟩
      have hb5 := undrew hb4
      have hc4 : Boxed w4 w.heap.size 102 (.pointer (some ⟨(cyc ns j).1, 0, none⟩)) := (hb5.block _ cl).trans hc
      have cc4 := hc4.cell
      have cf4 := hc4.frozen
      have KO := Lib.hid (KeepsOthers.of_grownBy (grown_of_below hb5 none) (fun _ _ e _ => by cases e))
      have hB5 := hb.trans (hb5.mono hsz)
      clear hb4
      cases k
      · have hT2 : Hid (tidyAt (rays ns) (pre ++ [x]) = j) := hT.out
        go_wp2
        gi_wp2
        refine ⟨KO.out, hb5.mono hsz, ?_, hB5⟩
        rw [hT2.out]
        exact hc4
      · have hT2 : Hid (tidyAt (rays ns) (pre ++ [x]) = x) := hT.out
        go_wp2
        gi_wp2
        refine ⟨KO.out.trans (KeepsOthers.setCell _ _ _), (hb5.mono hsz).setCell (p := ⟨w.heap.size, 0, none⟩) (Nat.le_refl _) _, ?_, hB5.setCell (p := ⟨w.heap.size, 0, none⟩) (Nat.le_refl _) _⟩
        rw [hT2.out]
        exact hc4.set _
  case done =>
    rintro D W hD ⟨hc, hb⟩ hK
    have hk : tidyAt (rays ns) (List.range ns.length) = tidyK (rays ns) := by unfold tidyK; rw [rays_len]
    have hkl : tidyK (rays ns) < ns.length := by have := tidyK_lt (l := rays ns) (by rw [rays_len]; exact hp); rwa [rays_len] at this
    rw [hk] at hc
    have cc := hc.cell
    have hFW := hF.below hb
    have u0 := hFW.head.c0
    have uf := hFW.head.free 0
    have hT := hF.turned hb hkl
    have hgD : g ≠ D := by have := hF.head.lt; omega
    have hK' : (W.setCell ⟨g, 0, none⟩ (.pointer (some ⟨(cyc ns (tidyK (rays ns))).1, 0, none⟩))).heap[D]? = some (.deferred (some [])) := (Below.heap_setCell W ⟨g, 0, none⟩ _ D (by simp; omega)).trans hK
    have hB2 : Below base w ((W.setCell ⟨g, 0, none⟩ (.pointer (some ⟨(cyc ns (tidyK (rays ns))).1, 0, none⟩))).putObj D (.deferred none)) := ((hb.mono hbase).setCell (p := ⟨g, 0, none⟩) hF.lowg _).grown (grownBy_putObj' _ D (.deferred none)) (by have := hb.size; simp; omega) (fun k e => by cases e; have := hb.size; omega)
    have hT2 : FanAt ((W.setCell ⟨g, 0, none⟩ (.pointer (some ⟨(cyc ns (tidyK (rays ns))).1, 0, none⟩))).putObj D (.deferred none)) base g (rot (tidyK (rays ns)) ns) := by
      have e : ∀ k, k < w.heap.size → ((W.setCell ⟨g, 0, none⟩ (.pointer (some ⟨(cyc ns (tidyK (rays ns))).1, 0, none⟩))).putObj D (.deferred none)).heap[k]? = (W.setCell ⟨g, 0, none⟩ (.pointer (some ⟨(cyc ns (tidyK (rays ns))).1, 0, none⟩))).heap[k]? := fun k hk => World.putObj_heap_other (by omega)
      refine ⟨hT.ring.same (fun p hp' => e _ (hR.mem_lt ?_)), (e g hF.head.lt).trans hT.head, hT.apart, hT.low, hT.lowg⟩
      unfold rot at hp'
      rcases List.mem_append.1 hp' with hp' | hp'
      · exact List.mem_of_mem_drop hp'
      · exact List.mem_of_mem_take hp'
    have HT := Lib.hid hT2
    have HB := Lib.hid hB2
    have hKK := Lib.hid hK'
    clear hT hT2 hB2 hK hK' hk
    gi_wp2
    refine ⟨by simp, .inl ⟨_, _, rfl, run_takeDeferred hKK.out, ?_⟩⟩
    exact ⟨_, results_none rfl _ _ _, ⟨_, rfl⟩, HT.out, HB.out⟩
  case stop =>
    rintro D c pre W _ _ h _
    exact h.elim
end Go.Proofs.YtgaeibibeekclabGreatDoor
namespace Go.Proofs.YtgaeibibeekclabGreatDoor
open Go.RowKit Go.Shelf
attribute [local go_sem] Oper.semAt_some
end Go.Proofs.YtgaeibibeekclabGreatDoor
namespace Go.Proofs.YtgaeibibeekclabGreatDoor
open Go.RowKit Go.Shelf
attribute [local go_sem] Oper.semAt_some
/-- a box B holds a list of numbers of the call's own -/
def IntsI (w : World) (B : Nat) (f : List Nat → List Int) (pre : List Nat) (W : World) : Prop :=
  (∃ v, Boxed W B 37 v ∧ W.ownsRow w.heap.size 3 1 v (f pre).length (intsV (f pre)) ∧ True) ∧ Below w.heap.size w W
theorem intsI_own (w : World) (B : Nat) (f : List Nat → List Int) {k : Nat} (h : w.heap.size ≤ k) : OwnFrom k (IntsI w B f) :=
  OwnFrom.and (Own.from (holdsRow_own _ _ _ _ _ (fun pre => (f pre).length) (fun pre => intsV (f pre)) (fun _ _ => True)) _) (ownFrom_below (Nat.le_refl _) h)
def numsAt (l : List V2) (pre : List Nat) : List Int := pre.map (numZ l)
theorem numsAt_snoc (l : List V2) (pre : List Nat) (x : Nat) : numsAt l (pre ++ [x]) = numsAt l pre ++ [numZ l x] := by simp [numsAt]
theorem Ints.snoc {w : World} {base n : Nat} {v : Value} {l : List Int} {x : Int} (hn : n = l.length) (h : w.ownsRow base 3 1 v (n + 1) (intsV l ++ [.int .i64 x])) : Ints w base v (l ++ [x]) := by
  unfold Ints
  rw [List.length_append, ← hn]
  have : intsV (l ++ [x]) = intsV l ++ [.int .i64 x] := by simp [intsV]
  rw [this]
  exact h
set_option maxHeartbeats 8000000 in
theorem numbers_in (n : Nat) (hn : 3 ≤ n) (base g : Nat) (ns : List Node) (w : World) (hF : FanAt w base g ns) (hm : ns.length ≤ 1000) (hv : allVec (rays ns)) :
    CallsIn Fence.wide n Tryz.prog 57 #[.pointer (some ⟨g, 0, none⟩)] w (GivesInts w (numsZ (rays ns))) := by
  have h1 : 1 ≤ n := by omega
  have hd : 1 ≤ n - 1 - 1 := by omega
  have hR := hF.ring
  have hp := hR.pos
  refine callsIn_of_wp_marks Tryz.func57 rfl trivial ?_ rfl
  simp only [Tryz.ntmps57, List.size_toArray, List.length_cons, List.length_nil, Nat.reduceAdd, Nat.reduceSub, Array.replicate_succ, Array.replicate_zero, List.push_toArray, List.append_toArray, List.nil_append, List.cons_append]
  gi_wp2_with fail
  refine ⟨trivial, ?_⟩
  refine CallsIn.mono (links_in _ g _) ?_
  rintro e w3 ⟨rfl, rfl⟩
  have hA : Below w.heap.size w ((w.alloc (.cells #[.slice none 0 0] 37)).alloc (.cells #[.pointer (some ⟨g, 0, none⟩)] 68)) := by go_grown
  have bB := (Boxed.new w 37 (.slice none 0 0)).alloc (.cells #[.pointer (some ⟨g, 0, none⟩)] 68)
  have bF := Boxed.new (w.alloc (.cells #[.slice none 0 0] 37)) 68 (.pointer (some ⟨g, 0, none⟩))
  have hz5 : ((w.alloc (.cells #[.slice none 0 0] 37)).alloc (.cells #[.pointer (some ⟨g, 0, none⟩)] 68)).heap.size = w.heap.size + 1 + 1 := by simp
  simp only [World.size_alloc] at bF
  gi_wp2_with fail
  generalize ((w.alloc (.cells #[.slice none 0 0] 37)).alloc (.cells #[.pointer (some ⟨g, 0, none⟩)] 68)) = W5 at *
  obtain ⟨i0, hi, hz0, hz1, hz2⟩ := info_parts infoInt
  refine wpIn_links (by omega) rfl bF.cell hA.size (hF.below hA) (fun p hp => hR.mem_lt hp) hm rfl
    (IntsI w w.heap.size (numsAt (rays ns))) (fun _ _ _ => False) (intsI_own _ _ _ (by omega))
    (fun _ _ _ _ _ h _ _ => h) ⟨⟨_, bB, World.ownsRow_nil _ _ _ _, trivial⟩, hA⟩ ?a₁ ?assign ?body ?done ?stop
  case assign =>
    intro l x W K hK
    gi_wp2
    exact hK
  case body =>
    rintro l pre x W ⟨⟨v, hv', hrow, _⟩, hb⟩ hlen
    have hRW : Ring W.drew ns := ⟨hR.pos, hR.two, fun i => ((hR.below hb).link i)⟩
    have HN := Lib.hid (number_any ns x W.drew hRW hv)
    have kb := hv'.cell
    have kf := hv'.frozen
    have kl := hv'.lt
    have hsz := hb.size
    have HR := Lib.hid hrow
    have HP := Lib.hid (fun k (e : v.ownBlock = some k) => (World.ownsRow.lt hrow k e))
    have hpl : (numsAt (rays ns) pre).length ≤ 1000 := by simp [numsAt]; omega
    generalize hz : numZ (rays ns) x = z at HN
    have HZ := Lib.hid hz
    clear hz hrow
    gi_wp2
    refine region_round (by kernel_rfl) (noDefer_of (by kernel_rfl)) (by rintro ⟨_, _, h⟩; exact False.elim h) ?_
    refine wpAny_take (i := 1) (v := ?_) rfl (by kernel_rfl) (by kernel_rfl) (by kernel_rfl) (fun _ _ _ h => h) (Or.inl ⟨by rfl, ?_⟩) ?_
    rotate_left
    focus (intro w0; go_simp; try with_reducible rfl)
    refine wpAny_ready (rs := [0, 2]) (by kernel_rfl) (by simp) (AllReady.cons rfl (fun K hK => ?_) (AllReady.cons rfl (fun K hK => ?_) (AllReady.nil)))
    focus
      go_simp
      refine hK _ _ ?_
      clear hK K
      refine wpAny_ready (rs := [2]) (by kernel_rfl) (by simp) (AllReady.cons rfl (fun K hK => ?_) (AllReady.nil))
      go_simp
      (refine Calls.mono HN.out ?_; rintro e w1 ⟨rfl, hb1⟩; replace hb1 := undrew hb1; have b0 := (hb1.cell (p := ⟨w.heap.size, 0, none⟩) kl).trans kb; have bl := Nat.lt_of_lt_of_le kl hb1.size)
      refine hK _ _ ?_
      clear hK K
      refine wpAny_ready (rs := [3]) (by kernel_rfl) (by simp) (AllReady.cons rfl (fun K hK => ?_) (AllReady.nil))
      go_simp
      refine hK _ _ ?_
      clear hK K
      refine wpAny_seq 4 rfl (by kernel_rfl) ?_
      simp only [List.drop_succ_cons, List.drop_zero]
    rotate_left 1
    focus
      go_simp
      (refine Calls.mono HN.out ?_; rintro e w1 ⟨rfl, hb1⟩; replace hb1 := undrew hb1; have b0 := (hb1.cell (p := ⟨w.heap.size, 0, none⟩) kl).trans kb; have bl := Nat.lt_of_lt_of_le kl hb1.size)
      refine hK _ _ ?_
      clear hK K
      refine wpAny_ready (rs := [0, 3]) (by kernel_rfl) (by simp) (AllReady.cons rfl (fun K hK => ?_) (AllReady.cons rfl (fun K hK => ?_) (AllReady.nil)))
      focus
        go_simp
        refine hK _ _ ?_
        clear hK K
        refine wpAny_ready (rs := [3]) (by kernel_rfl) (by simp) (AllReady.cons rfl (fun K hK => ?_) (AllReady.nil))
        go_simp
        refine hK _ _ ?_
        clear hK K
        refine wpAny_seq 4 rfl (by kernel_rfl) ?_
        simp only [List.drop_succ_cons, List.drop_zero]
      rotate_left 1
      focus
        go_simp
        refine hK _ _ ?_
        clear hK K
        refine wpAny_ready (rs := [0]) (by kernel_rfl) (by simp) (AllReady.cons rfl (fun K hK => ?_) (AllReady.nil))
        go_simp
        refine hK _ _ ?_
        clear hK K
        refine wpAny_seq 4 rfl (by kernel_rfl) ?_
        simp only [List.drop_succ_cons, List.drop_zero]
    all_goals
      have hv1 : Boxed w1 w.heap.size 37 v := (hb1.block _ kl).trans hv'
      have hrow1 : w1.ownsRow w.heap.size 3 1 v (numsAt (rays ns) pre).length (intsV (numsAt (rays ns) pre)) := Ints.below HR.out hb1
      have hs1 := hb1.size
      go_wp2_with (at_builtin; refine wpList_append_own_at _ rfl _ _ 37 rfl w.heap.size 3 i0 (.int .i64 0) 1 8 Tryz.underlying37 hi hz0 hz1 hz2 rfl (by decide) _ _ _ rfl (hrow1.alloc _) ⟨w1.heap.size, 0, none⟩ 1 1 [.int .i64 z] rfl rfl ?c1 ?c2 ?c3 ?c4 ?c5 ?_)
      case c1 =>
        intro j u hj
        match j, hj with
        | 0, hj => simp at hj; subst hj; simp [Addr.add]
      case c2 => intro u hu; simp at hu; subst hu; rfl
      case c3 => unfold maxLen; omega
      case c4 => omega
      case c5 => simp; omega
      intro v2 w2 hown' hgrow _ _
      obtain ⟨g', cap', rfl⟩ := ownsRow_succ hown'
      have hb2 : Below w.heap.size w w1 := hb.trans (hb1.mono hsz)
      obtain ⟨hx1, hx2, hr2, hk2, hbb⟩ := hv1.appended (n₀ := w.heap.size) (tmp := .cells #[.int .i64 z] 3) (by decide) hrow1 hb2.size (Nat.le_refl _) hown' ⟨hgrow.os, hgrow.tape, hgrow.output, hgrow.size, hgrow.block⟩
      have hc1 := hx1.cell
      have hf1 := hx1.frozen
      have HV := Lib.hid (Ints.snoc (l := numsAt (rays ns) pre) rfl hr2)
      rw [← HZ.out, ← numsAt_snoc] at HV
      have KO := Lib.hid ((KeepsOthers.of_grownBy (grown_of_below hb1 none) (fun _ _ e _ => by cases e)).trans hk2)
      have hB3 := (hb1.mono hsz).trans hbb
      clear hown' hgrow hr2 hrow1 hx1 hv1 hb1 hk2
      go_wp2
      exact ⟨KO.out, hB3, ⟨⟨_, hx2, HV.out, trivial⟩, hb.trans hB3⟩⟩
  case done =>
    rintro D W hD ⟨⟨v, hv', hrow, _⟩, hb⟩ hK
    have k4 := hv'.cell
    have hV : Ints W w.heap.size v (numsZ (rays ns)) := by
      have e : numsAt (rays ns) (List.range ns.length) = numsZ (rays ns) := by unfold numsZ; rw [rays_len]; rfl
      have : Ints W w.heap.size v (numsAt (rays ns) (List.range ns.length)) := hrow
      rwa [e] at this
    have HV := Lib.hid (show Ints (W.putObj D (.deferred none)) w.heap.size v (numsZ (rays ns)) from ownsRow_putObj hV (.deferred none) hK rfl)
    have hB2 : Below w.heap.size w (W.putObj D (.deferred none)) := hb.grown (grownBy_putObj' W D (.deferred none)) hb.size (fun k e => by cases e; omega)
    clear hV hrow
    gi_wp2
    refine ⟨by simp, .inl ⟨_, _, rfl, run_takeDeferred hK, ?_⟩⟩
    exact ⟨_, results_tmp rfl _ _ _, v, rfl, HV.out, hB2⟩
  case stop =>
    rintro D c pre W _ _ h _
    exact h.elim
end Go.Proofs.YtgaeibibeekclabGreatDoor
namespace Go.Proofs.YtgaeibibeekclabGreatDoor
open Go.RowKit Go.Shelf
attribute [local go_sem] Oper.semAt_some
end Go.Proofs.YtgaeibibeekclabGreatDoor
namespace Go.Proofs.YtgaeibibeekclabGreatDoor
open Go.RowKit
theorem fan_small {l : List V2} {ns : List Node} (h : fanB l = true) (hn : rays ns = l) : ns.length ≤ 1000 ∧ ns.length = l.length := by
  have := fan_len h
  rw [← hn, rays_len] at this
  exact ⟨by omega, by rw [← hn, rays_len]⟩
theorem rays_any (base g : Nat) (ns : List Node) (w : World) (hF : FanAt w base g ns) (hm : ns.length ≤ 1000) : Calls Tryz.prog 86 #[.pointer (some ⟨g, 0, none⟩)] w (GivesVecs w (rays ns)) :=
  callsIn_wide.1 (rays_in 3 (by omega) base g ns w hF hm)
set_option maxHeartbeats 4000000 in
theorem fanTidy_any (v : Value) (l : List V2) (w : World) (hl : ReadsVecs w v l) (hg : EtOk w) :
    Calls Tryz.prog 50 #[v] w (GivesVecsOk w (gV (fanB l) (tidyL l)) (fanB l)) := by
  have HO := Lib.hid (fanOf_any v l w hl hg)
  have HV := Lib.hid (fun h => fan_vec (l := l) h)
  have HS := Lib.hid (fun (ns : List Node) h hn => fan_small (l := l) (ns := ns) h hn)
  clear hl
  generalize hb : fanB l = b at HO HV HS
  go_enter Tryz.func50, Tryz.ntmps50
  go_wp2_with fail
  refine Calls.mono HO.out ?_
  rintro e w1 ⟨⟨rfl, g, ns, rfl, hF, hn⟩ | ⟨rfl, rfl⟩, hb1⟩
  · obtain ⟨hs, hnl⟩ := HS.out ns (by simp) hn
    have HT := Lib.hid (callsIn_wide.1 (tidy_in 3 (by omega) w.heap.size g ns w1 hF hs (by rw [hn]; exact HV.out (by simp)) hb1.size))
    have HN := Lib.hid hn
    clear hn hnl hF
    go_wp2_with fail
    refine Calls.mono HT.out ?_
    rintro e w2 ⟨⟨v2, rfl⟩, hF2, hb2⟩
    rw [HN.out] at hF2
    have HR := Lib.hid (rays_any _ _ _ w2 hF2 (by rw [rot_len]; exact hs))
    have hB := hb1.trans hb2
    clear hF2 hb2 HT
    go_wp2_with fail
    refine Calls.mono HR.out ?_
    rintro e w3 ⟨v3, rfl, hV, hb3⟩
    have HV3 : Hid (Vecs w3 w.heap.size v3 (tidyL l)) := by
      have := hV.lower hB.size
      unfold rays at this
      rw [rot_map] at this
      have e2 : ns.map (·.2) = l := HN.out
      rw [e2] at this
      exact this
    have hB2 := belowTo hB hb3
    clear hV hb3 HR hB hb
    go_wp2
    go_returns
    exact ⟨_, rfl, HV3.out, hB2⟩
  · clear hb
    go_wp2
    go_returns
    exact ⟨_, rfl, Vecs.nil _ _, hb1⟩
end Go.Proofs.YtgaeibibeekclabGreatDoor
