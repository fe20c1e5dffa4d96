/- Fans: checked. -/
import Derived.Test.YtmencjdlfeojkaaDoorGr
import Derived.Test.YtmencjdlfeojkaaDoorB7
import Derived.Test.YtmencjdlfeojkaaDoorB2
namespace Go.Proofs.YtmencjdlfeojkaaDoor
open Go.RowKit Go.Shelf

attribute [local go_sem] Oper.semAt_some

theorem con_rays {ns : List Node} (h : 0 < ns.length) (x : Nat) : conB (rays ns) x = coneB (cyc ns x).2.1 (cyc ns x).2.2 (cyc ns (x + 1)).2.1 (cyc ns (x + 1)).2.2 := by
  unfold conB
  rw [rays_cyc h, rays_cyc h]
theorem bk_rays {ns : List Node} (h : 0 < ns.length) (x : Nat) : bkB (rays ns) x = aheadB (cyc ns (x + 1)).2.1 (cyc ns (x + 1)).2.2 (cyc ns x).2.1 (cyc ns x).2.2 := by
  unfold bkB aheadV
  rw [rays_cyc h, rays_cyc h]
theorem fan_is {l : List V2} (hr : rng l = true) (h : ∀ i ∈ List.range l.length, conB l i = true) : fanB l = oneBack l := by
  have : allC l = true := List.all_eq_true.2 h
  unfold fanB
  rw [hr, this]
  simp
theorem fan_not {l : List V2} {i : Nat} (hi : i ∈ List.range l.length) (h : conB l i = false) : fanB l = false := by
  have : allC l = false := by
    unfold allC
    rw [List.all_eq_false]
    exact ⟨i, hi, by rw [h]; decide⟩
  unfold fanB
  rw [this]
  simp
/-- what a check hands back -/
def CheckEnd (b : Bool) (e : Ending) : Prop := if b then e = .returned .nilIface else IsNone e
def fanErr : Value := .iface 85 (.agg #[.string ⟨#[102, 97, 110]⟩])
theorem fanErr_none : IsNone (.returned fanErr) := ⟨_, rfl⟩
theorem ownErr (B : Nat) (t : TypeId) (v : Value) : Own (fun (_ : List Nat) W => Boxed W B t v) := boxed_own B t (fun _ => v)
theorem boxed_putObj {W : World} {B : Nat} {t : TypeId} {v : Value} (h : Boxed W B t v) {D : Nat} {o : Obj} (o' : Obj) (hl : W.heap[D]? = some o) (ho : o.isCells = false) : Boxed (W.putObj D o') B t v :=
  h.kept (grownBy_putObj' W D o') (fun e => by cases e; rw [show W.heap[B]? = _ from h] at hl; cases hl; cases ho)
def CheckI (w : World) (ns : List Node) (pre : List Nat) (W : World) : Prop :=
  (Boxed W w.heap.size 65 .nilIface ∧ Boxed W (w.heap.size + 1) 3 (.int .i64 (cnt (bkB (rays ns)) pre)) ∧ ∀ i ∈ pre, conB (rays ns) i = true) ∧ Below w.heap.size w W
def CheckX (w : World) (ns : List Node) (c : Code) (pre : List Nat) (W : World) : Prop :=
  ((c = .ret ∧ ∃ i ∈ pre, conB (rays ns) i = false) ∧ Boxed W w.heap.size 65 fanErr) ∧ Below w.heap.size w W
theorem checkI_own (w : World) (ns : List Node) {k : Nat} (h : w.heap.size ≤ k) : OwnFrom k (CheckI w ns) :=
  OwnFrom.and (OwnFrom.and (Own.from (ownErr _ _ _) _) (OwnFrom.and (Own.from (boxed_own _ _ (fun pre => .int .i64 (cnt (bkB (rays ns)) pre))) _) (ownFrom_pure k (fun pre => ∀ i ∈ pre, conB (rays ns) i = true)))) (ownFrom_below (Nat.le_refl _) h)
theorem checkX_own (w : World) (ns : List Node) (c : Code) {k : Nat} (h : w.heap.size ≤ k) : OwnFrom k (CheckX w ns c) :=
  OwnFrom.and (OwnFrom.and (ownFrom_pure k (fun pre => c = .ret ∧ ∃ i ∈ pre, conB (rays ns) i = false)) (Own.from (ownErr _ _ _) _)) (ownFrom_below (Nat.le_refl _) h)

set_option maxHeartbeats 8000000 in
theorem fanCheck_in (n : Nat) (hn : 3 ≤ n) (base g : Nat) (ns : List Node) (w : World) (hg : EtOk w) (hF : FanAt w base g ns) (h3 : 3 ≤ ns.length) (h20 : ns.length ≤ 20) :
    CallsIn Fence.wide n Tryd.prog 136 #[.pointer (some ⟨g, 0, none⟩)] w fun e w' => CheckEnd (fanB (rays ns)) e ∧ Below w.heap.size w w' := by
  have h1 : 1 ≤ n := by omega
  have hd : 1 ≤ n - 1 - 1 := by omega
  have hR := hF.ring
  have hp := hR.pos
  have q0 := hF.head.c1
  have q1 := hF.head.lt
  have j1 : ¬ (ns.length : Int) < 3 := by omega
  have j2 : ¬ 20 < (ns.length : Int) := by omega
  have HE : Hid (CheckEnd (fanB (rays ns)) = CheckEnd (fanB (rays ns))) := rfl
  refine callsIn_of_wp_marks Tryd.func136 rfl trivial ?_ rfl
  simp only [Tryd.ntmps136, List.size_toArray, List.length_cons, List.length_nil, Nat.reduceAdd, Nat.reduceSub, Array.replicate_succ, Array.replicate_zero, List.push_toArray, List.append_toArray, List.nil_append, List.cons_append]
  gi_wp2_with fail
  refine ⟨trivial, ?_⟩
  refine CallsIn.mono (links_in _ g _) ?_
  rintro e w3 ⟨rfl, rfl⟩
  have bR := ((Boxed.new w 65 .nilIface).alloc (.cells #[.int .i64 0] 3)).alloc (.cells #[.pointer (some ⟨g, 0, none⟩)] 52)
  have bB := (Boxed.new (w.alloc (.cells #[.nilIface] 65)) 3 (.int .i64 0)).alloc (.cells #[.pointer (some ⟨g, 0, none⟩)] 52)
  have bF := Boxed.new ((w.alloc (.cells #[.nilIface] 65)).alloc (.cells #[.int .i64 0] 3)) 52 (.pointer (some ⟨g, 0, none⟩))
  have hA : Below w.heap.size w (((w.alloc (.cells #[.nilIface] 65)).alloc (.cells #[.int .i64 0] 3)).alloc (.cells #[.pointer (some ⟨g, 0, none⟩)] 52)) := by go_grown
  have hz5 : (((w.alloc (.cells #[.nilIface] 65)).alloc (.cells #[.int .i64 0] 3)).alloc (.cells #[.pointer (some ⟨g, 0, none⟩)] 52)).heap.size = w.heap.size + 1 + 1 + 1 := by simp
  simp only [World.size_alloc] at bB bF
  gi_wp2_with fail
  generalize (((w.alloc (.cells #[.nilIface] 65)).alloc (.cells #[.int .i64 0] 3)).alloc (.cells #[.pointer (some ⟨g, 0, none⟩)] 52)) = W5 at *
  refine wpIn_links (by omega) rfl bF.cell hA.size (hF.below hA) (fun p hp => hR.mem_lt hp) (by omega) rfl (CheckI w ns) (CheckX w ns) (checkI_own w ns (by omega)) (fun c => checkX_own w ns c (by omega))
    ⟨⟨bR, bB, fun i hi => by cases hi⟩, hA⟩ ?a₁ ?assign ?body ?done ?stop
  case assign =>
    intro l x W K hK
    gi_wp2
    exact hK
  case body =>
    rintro l pre x W ⟨⟨hr, hc, hq⟩, hb⟩ hlen
    have hRW := hR.below hb
    have hEW := hg.below hb
    have rr := hr.cell
    have rf := hr.frozen
    have cc := hc.cell
    have cf := hc.frozen
    have rl := hr.lt
    have cl := hc.lt
    have hsz := hb.size
    have HC := Lib.hid (linkCone_any ns x W hRW)
    have HK := Lib.hid (con_rays hp x)
    have HB := Lib.hid (bk_rays hp x)
    have hL := hRW.link x
    have hZ := hRW.link (x + 1)
    cases hx : conB (rays ns) x
    · rw [HK.out] at hx
      have HO := Lib.hid (fun w' => coneCheck_out _ _ _ _ w' hx)
      gi_wp2_with fail
      refine ⟨trivial, ?_⟩
      refine CallsIn.mono (CallsIn.inRound l (callsIn_wide.2 HC.out)) ?_
      rintro e w1 ⟨rfl, hb1⟩
      gi_wp2_with fail
      refine ⟨trivial, ?_⟩
      refine CallsIn.mono (CallsIn.inRound l (callsIn_wide.2 (HO.out _))) ?_
      rintro e w2 ⟨⟨s, rfl⟩, hb2⟩
      have hb12 := belowTo hb1 hb2
      gi_wp2_with fail
      refine ⟨trivial, ?_⟩
      refine CallsIn.mono (CallsIn.inRound l (callsIn_wide.2 (none_hit s _ (hEW.below hb12)))) ?_
      rintro e w3 ⟨rfl, hb3⟩
      have hb' := belowTo hb12 hb3
      have hr3 : Boxed w3 w.heap.size 65 .nilIface := (hb'.block _ rl).trans hr
      have HX : Hid (conB (rays ns) x = false) := HK.out.trans hx
      have KO := Lib.hid (KeepsOthers.of_grownBy (grown_of_below hb' none) (fun _ _ e _ => by cases e))
      have rr3 := hr3.cell
      have rf3 := hr3.frozen
      clear hx rr rf cc cf hb1 hb2 hb3 hb12
      gi_wp2
      exact ⟨KO.out.trans (KeepsOthers.setCell _ _ _), ⟨⟨rfl, x, by simp, HX.out⟩, hr3.set _⟩, (hb.trans (hb'.mono hsz)).setCell (p := ⟨w.heap.size, 0, none⟩) (Nat.le_refl _) _⟩
    · have HX : Hid (conB (rays ns) x = true) := hx
      obtain ⟨v1, v2⟩ := con_vec hx
      rw [rays_cyc hp] at v1 v2
      have HA := Lib.hid (fun w' => ahead_any _ _ _ _ w' v2 v1)
      rw [HK.out] at hx
      have HO := Lib.hid (fun w' => coneCheck_in _ _ _ _ w' hx)
      gi_wp2_with fail
      refine ⟨trivial, ?_⟩
      refine CallsIn.mono (CallsIn.inRound l (callsIn_wide.2 HC.out)) ?_
      rintro e w1 ⟨rfl, hb1⟩
      gi_wp2_with fail
      refine ⟨trivial, ?_⟩
      refine CallsIn.mono (CallsIn.inRound l (callsIn_wide.2 (HO.out _))) ?_
      rintro e w2 ⟨rfl, hb2⟩
      have hb12 := belowTo hb1 hb2
      gi_wp2_with fail
      refine ⟨trivial, ?_⟩
      refine CallsIn.mono (CallsIn.inRound l (callsIn_wide.2 (none_nil _))) ?_
      rintro e w3 ⟨rfl, hb3⟩
      have hb' := belowTo hb12 hb3
      have hL3 := hL.same (hb'.block _ hL.lt)
      have hZ3 := hZ.same (hb'.block _ hZ.lt)
      have p0 := hL3.c0
      have p1 := hL3.c1
      have p3 := hL3.c3
      have z0 := hZ3.c0
      have z1 := hZ3.c1
      have pl := hL3.lt
      have zl := hZ3.lt
      have hcnt : (cnt (bkB (rays ns)) pre : Int) ≤ 1000 := by have := cnt_le (bkB (rays ns)) pre; omega
      have hcn0 : (0 : Int) ≤ (cnt (bkB (rays ns)) pre : Int) := by omega
      clear hx rr rf cc cf hb1 hb2 hb3 hb12 hL3 hZ3 HO HC v1 v2
      rw [← HB.out] at HA
      generalize hk : bkB (rays ns) x = k at HA
      have HKk := Lib.hid hk
      clear hk
      gi_wp2
      refine region_round (by kernel_rfl) (noDefer_of (by kernel_rfl)) (by rintro ⟨_, _, h⟩; exact False.elim h) ?_
      refine wpAny_take (i := 0) (v := ?_) rfl (by kernel_rfl) (by kernel_rfl) (by kernel_rfl) (fun _ _ _ h => h) (Or.inl ⟨by rfl, ?_⟩) ?_
      rotate_left
      focus (intro w0; go_simp; try with_reducible rfl)
      refine wpAny_take (i := 1) (v := ?_) rfl (by kernel_rfl) (by kernel_rfl) (by kernel_rfl) (fun _ _ _ h => h) (Or.inl ⟨by rfl, ?_⟩) ?_
      rotate_left
      focus (intro w0; go_simp; try with_reducible rfl)
      refine wpAny_take (i := 2) (v := ?_) rfl (by kernel_rfl) (by kernel_rfl) (by kernel_rfl) (fun _ _ _ h => h) (Or.inl ⟨by rfl, ?_⟩) ?_
      rotate_left
      focus (intro w0; go_simp; try with_reducible rfl)
      refine wpAny_take (i := 7) (v := ?_) rfl (by kernel_rfl) (by kernel_rfl) (by kernel_rfl) (fun _ _ _ h => h) (Or.inl ⟨by rfl, ?_⟩) ?_
      rotate_left
      focus (intro w0; go_simp; try with_reducible rfl)
      refine wpAny_take (i := 8) (v := ?_) rfl (by kernel_rfl) (by kernel_rfl) (by kernel_rfl) (fun _ _ _ h => h) (Or.inl ⟨by rfl, ?_⟩) ?_
      rotate_left
      focus (intro w0; go_simp; try with_reducible rfl)
      refine wpAny_take (i := 9) (v := ?_) rfl (by kernel_rfl) (by kernel_rfl) (by kernel_rfl) (fun _ _ _ h => h) (Or.inl ⟨by rfl, ?_⟩) ?_
      rotate_left
      focus (intro w0; go_simp; try with_reducible rfl)
      refine wpAny_ready (rs := [3, 10]) (by kernel_rfl) (by simp) (AllReady.cons rfl (fun K hK => ?_) (AllReady.cons rfl (fun K hK => ?_) (AllReady.nil)))
      focus
        go_simp
        refine hK _ _ ?_
        clear hK K
        refine wpAny_take (i := 4) (v := ?_) rfl (by kernel_rfl) (by kernel_rfl) (by kernel_rfl) (fun _ _ _ h => h) (Or.inl ⟨by rfl, ?_⟩) ?_
        rotate_left
        focus (intro w0; go_simp; try with_reducible rfl)
        refine wpAny_take (i := 5) (v := ?_) rfl (by kernel_rfl) (by kernel_rfl) (by kernel_rfl) (fun _ _ _ h => h) (Or.inl ⟨by rfl, ?_⟩) ?_
        rotate_left
        focus (intro w0; go_simp; try with_reducible rfl)
        refine wpAny_ready (rs := [6, 10]) (by kernel_rfl) (by simp) (AllReady.cons rfl (fun K hK => ?_) (AllReady.cons rfl (fun K hK => ?_) (AllReady.nil)))
        focus
          go_simp
          refine hK _ _ ?_
          clear hK K
          refine wpAny_ready (rs := [10]) (by kernel_rfl) (by simp) (AllReady.cons rfl (fun K hK => ?_) (AllReady.nil))
          go_simp
          refine hK _ _ ?_
          clear hK K
          refine wpAny_seq 11 rfl (by kernel_rfl) ?_
          simp only [List.drop_succ_cons, List.drop_zero]
        rotate_left 1
        focus
          go_simp
          refine hK _ _ ?_
          clear hK K
          refine wpAny_ready (rs := [6]) (by kernel_rfl) (by simp) (AllReady.cons rfl (fun K hK => ?_) (AllReady.nil))
          go_simp
          refine hK _ _ ?_
          clear hK K
          refine wpAny_seq 11 rfl (by kernel_rfl) ?_
          simp only [List.drop_succ_cons, List.drop_zero]
      rotate_left 2
      focus
        go_simp
        refine hK _ _ ?_
        clear hK K
        refine wpAny_ready (rs := [3]) (by kernel_rfl) (by simp) (AllReady.cons rfl (fun K hK => ?_) (AllReady.nil))
        go_simp
        refine hK _ _ ?_
        clear hK K
        refine wpAny_take (i := 4) (v := ?_) rfl (by kernel_rfl) (by kernel_rfl) (by kernel_rfl) (fun _ _ _ h => h) (Or.inl ⟨by rfl, ?_⟩) ?_
        rotate_left
        focus (intro w0; go_simp; try with_reducible rfl)
        refine wpAny_take (i := 5) (v := ?_) rfl (by kernel_rfl) (by kernel_rfl) (by kernel_rfl) (fun _ _ _ h => h) (Or.inl ⟨by rfl, ?_⟩) ?_
        rotate_left
        focus (intro w0; go_simp; try with_reducible rfl)
        refine wpAny_ready (rs := [6]) (by kernel_rfl) (by simp) (AllReady.cons rfl (fun K hK => ?_) (AllReady.nil))
        go_simp
        refine hK _ _ ?_
        clear hK K
        refine wpAny_seq 11 rfl (by kernel_rfl) ?_
        simp only [List.drop_succ_cons, List.drop_zero]
      all_goals
        go_wp2_with fail
        refine Calls.mono (HA.out _) ?_
        rintro e w4 ⟨rfl, hb4⟩
        have hb4' : Below w3.heap.size w3 w4 := undrew hb4
        have hb5 : Below W.heap.size W w4 := belowTo hb' hb4'
        clear hb4 hb4'
        have hr4 : Boxed w4 w.heap.size 65 .nilIface := (hb5.block _ rl).trans hr
        have hc4 : Boxed w4 (w.heap.size + 1) 3 (.int .i64 (cnt (bkB (rays ns)) pre)) := (hb5.block _ cl).trans hc
        have cc := hc4.cell
        have cf := hc4.frozen
        have KO := Lib.hid (KeepsOthers.of_grownBy (grown_of_below hb5 none) (fun _ _ e _ => by cases e))
        have hq2 : Hid (∀ i ∈ pre ++ [x], conB (rays ns) i = true) := by
          intro i hi
          rcases List.mem_append.1 hi with hi | hi
          · exact hq i hi
          · obtain rfl := List.mem_singleton.1 hi
            exact HX.out
        have HS := Lib.hid (cnt_snoc (bkB (rays ns)) pre x)
        rw [HKk.out] at HS
        have hB5 := hb.trans (hb5.mono hsz)
        cases k
        · have hcv : Hid (Boxed w4 (w.heap.size + 1) 3 (.int .i64 (cnt (bkB (rays ns)) (pre ++ [x])))) := by
            rw [HS.out]
            exact hc4
          go_wp2
          gi_wp2
          exact ⟨KO.out, hb5.mono hsz, ⟨hr4, hcv.out, hq2.out⟩, hB5⟩
        · have hcv : Hid (Boxed (w4.setCell ⟨w.heap.size + 1, 0, none⟩ (.int .i64 ((cnt (bkB (rays ns)) pre : Int) + 1))) (w.heap.size + 1) 3 (.int .i64 (cnt (bkB (rays ns)) (pre ++ [x])))) := by
            rw [HS.out]
            exact hc4.set _
          go_wp2
          gi_wp2
          exact ⟨KO.out.trans (KeepsOthers.setCell _ _ _), (hb5.mono hsz).setCell (p := ⟨w.heap.size + 1, 0, none⟩) (by simp) _, ⟨hr4.other (by omega) _, hcv.out, hq2.out⟩, hB5.setCell (p := ⟨w.heap.size + 1, 0, none⟩) (by simp) _⟩
  case done =>
    rintro D W hD ⟨⟨hr, hc, hq⟩, hb⟩ hK
    have HQ : Hid (fanB (rays ns) = oneBack (rays ns)) := fan_is (by simp [rng, rays_len]; omega) (by rw [rays_len]; exact hq)
    have rr := hr.cell
    have rf := hr.frozen
    have cc := hc.cell
    have HC : Hid (oneBack (rays ns) = (cnt (bkB (rays ns)) (List.range ns.length) == 1)) := by
      unfold oneBack
      rw [rays_len]
      rfl
    generalize hk : cnt (bkB (rays ns)) (List.range ns.length) = k at cc HC hc
    by_cases h : k = 1
    · subst h
      have hK' : (W.setCell ⟨w.heap.size, 0, none⟩ .nilIface).heap[D]? = some (.deferred (some [])) := (Below.heap_setCell W ⟨w.heap.size, 0, none⟩ _ D (by simp; omega)).trans hK
      have kk := (boxed_putObj (hr.set .nilIface) (.deferred none) hK' rfl).cell
      have hB2 : Below w.heap.size w ((W.setCell ⟨w.heap.size, 0, none⟩ .nilIface).putObj D (.deferred none)) := (hb.setCell (p := ⟨w.heap.size, 0, none⟩) (Nat.le_refl _) .nilIface).grown (grownBy_putObj' _ D (.deferred none)) (by simpa using hb.size) (fun k e => by cases e; omega)
      have HE2 : Hid (CheckEnd (fanB (rays ns)) (.returned .nilIface)) := by
        rw [HQ.out, HC.out]
        rfl
      have hk2 := Lib.hid hk
      have hKK := Lib.hid hK'
      clear hc HQ HC HE hK hk hK'
      gi_wp2
      refine ⟨by simp, .inl ⟨_, _, rfl, run_takeDeferred hKK.out, ?_⟩⟩
      exact ⟨.nilIface, by simp [results, Tryd.f136, go_sem, kk], HE2.out, hB2⟩
    · have hkn : ¬ (k : Int) = 1 := by omega
      have hK' : (W.setCell ⟨w.heap.size, 0, none⟩ fanErr).heap[D]? = some (.deferred (some [])) := (Below.heap_setCell W ⟨w.heap.size, 0, none⟩ _ D (by simp; omega)).trans hK
      have kk := (boxed_putObj (hr.set fanErr) (.deferred none) hK' rfl).cell
      have hB2 : Below w.heap.size w ((W.setCell ⟨w.heap.size, 0, none⟩ fanErr).putObj D (.deferred none)) := (hb.setCell (p := ⟨w.heap.size, 0, none⟩) (Nat.le_refl _) fanErr).grown (grownBy_putObj' _ D (.deferred none)) (by simpa using hb.size) (fun k e => by cases e; omega)
      have HE2 : Hid (CheckEnd (fanB (rays ns)) (.returned fanErr)) := by
        have : (k == 1) = false := by simpa using h
        rw [HQ.out, HC.out, this]
        exact fanErr_none
      have hk2 := Lib.hid hk
      have hKK := Lib.hid hK'
      clear hc HQ HC HE hK hk hK'
      unfold fanErr at kk
      gi_wp2
      refine ⟨by simp, .inl ⟨_, _, rfl, run_takeDeferred hKK.out, ?_⟩⟩
      exact ⟨fanErr, by simp [results, Tryd.f136, go_sem, kk, fanErr], HE2.out, hB2⟩
  case stop =>
    rintro D c pre W hD hpre ⟨⟨⟨rfl, i, hi, hx⟩, hr⟩, hb⟩ hK
    have rr := hr.cell
    have HQ : Hid (fanB (rays ns) = false) := fan_not (i := i) (by rw [rays_len]; exact hpre.subset hi) hx
    have kk := (boxed_putObj hr (.deferred none) hK rfl).cell
    have hB2 : Below w.heap.size w (W.putObj D (.deferred none)) := hb.grown (grownBy_putObj' _ D (.deferred none)) hb.size (fun k e => by cases e; omega)
    have HE2 : Hid (CheckEnd (fanB (rays ns)) (.returned fanErr)) := by
      rw [HQ.out]
      exact fanErr_none
    have hKK := Lib.hid hK
    clear hK HQ HE
    gi_wp2
    refine ⟨by simp, .inl ⟨_, _, rfl, run_takeDeferred hKK.out, ?_⟩⟩
    exact ⟨fanErr, by simp [results, Tryd.f136, go_sem, kk], HE2.out, hB2⟩
end Go.Proofs.YtmencjdlfeojkaaDoor
