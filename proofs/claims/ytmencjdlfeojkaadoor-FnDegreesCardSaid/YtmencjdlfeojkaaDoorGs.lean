/- Fans: smooth ones. -/
import Derived.Test.YtmencjdlfeojkaaDoorGf
namespace Go.Proofs.YtmencjdlfeojkaaDoor
open Go.RowKit Go.Shelf

attribute [local go_sem] Oper.semAt_some

def SmoothI (w : World) (ns : List Node) (pre : List Nat) (W : World) : Prop :=
  (Boxed W w.heap.size 4 (.bool false) ∧ ∀ i ∈ pre, smB (rays ns) i = true) ∧ Below w.heap.size w W
def SmoothX (w : World) (ns : List Node) (c : Code) (pre : List Nat) (W : World) : Prop :=
  ((c = .ret ∧ ∃ i ∈ pre, smB (rays ns) i = false) ∧ Boxed W w.heap.size 4 (.bool false)) ∧ Below w.heap.size w W
theorem smoothI_own (w : World) (ns : List Node) {k : Nat} (h : w.heap.size ≤ k) : OwnFrom k (SmoothI w ns) :=
  OwnFrom.and (OwnFrom.and (Own.from (ownErr _ _ _) _) (ownFrom_pure k (fun pre => ∀ i ∈ pre, smB (rays ns) i = true))) (ownFrom_below (Nat.le_refl _) h)
theorem smoothX_own (w : World) (ns : List Node) (c : Code) {k : Nat} (h : w.heap.size ≤ k) : OwnFrom k (SmoothX w ns c) :=
  OwnFrom.and (OwnFrom.and (ownFrom_pure k (fun pre => c = .ret ∧ ∃ i ∈ pre, smB (rays ns) i = false)) (Own.from (ownErr _ _ _) _)) (ownFrom_below (Nat.le_refl _) h)
theorem allS_not {l : List V2} {i : Nat} (hi : i ∈ List.range l.length) (h : smB l i = false) : allS l = false := by
  unfold allS
  rw [List.all_eq_false]
  exact ⟨i, hi, by rw [h]; decide⟩
theorem sm_rays {ns : List Node} (h : 0 < ns.length) (x : Nat) : smB (rays ns) x = (detZ (cyc ns x).2.1 (cyc ns x).2.2 (cyc ns (x + 1)).2.1 (cyc ns (x + 1)).2.2 == 1) := by
  unfold smB detV
  rw [rays_cyc h, rays_cyc h]
set_option maxHeartbeats 8000000 in
theorem isSmooth_in (n : Nat) (hn : 3 ≤ n) (base g : Nat) (ns : List Node) (w : World) (hF : FanAt w base g ns) (hm : ns.length ≤ 1000) (hv : allVec (rays ns)) :
    CallsIn Fence.wide n Tryd.prog 81 #[.pointer (some ⟨g, 0, none⟩)] w fun e w' => e = .returned (.bool (allS (rays ns))) ∧ Below w.heap.size w w' := by
  have h1 : 1 ≤ n := by omega
  have hd : 1 ≤ n - 1 - 1 := by omega
  have hR := hF.ring
  have hp := hR.pos
  refine callsIn_of_wp_marks Tryd.func81 rfl trivial ?_ rfl
  simp only [Tryd.ntmps81, List.size_toArray, List.length_cons, List.length_nil, Nat.reduceAdd, Nat.reduceSub, Array.replicate_succ, Array.replicate_zero, List.push_toArray, List.append_toArray, List.nil_append, List.cons_append]
  gi_wp2_with fail
  refine ⟨trivial, ?_⟩
  refine CallsIn.mono (links_in _ g _) ?_
  rintro e w3 ⟨rfl, rfl⟩
  have bR := (Boxed.new w 4 (.bool false)).alloc (.cells #[.pointer (some ⟨g, 0, none⟩)] 52)
  have bF := Boxed.new (w.alloc (.cells #[.bool false] 4)) 52 (.pointer (some ⟨g, 0, none⟩))
  have hA : Below w.heap.size w ((w.alloc (.cells #[.bool false] 4)).alloc (.cells #[.pointer (some ⟨g, 0, none⟩)] 52)) := by go_grown
  have hz5 : ((w.alloc (.cells #[.bool false] 4)).alloc (.cells #[.pointer (some ⟨g, 0, none⟩)] 52)).heap.size = w.heap.size + 1 + 1 := by simp
  simp only [World.size_alloc] at bF
  gi_wp2_with fail
  generalize ((w.alloc (.cells #[.bool false] 4)).alloc (.cells #[.pointer (some ⟨g, 0, none⟩)] 52)) = W5 at *
  refine wpIn_links (by omega) rfl bF.cell hA.size (hF.below hA) (fun p hp => hR.mem_lt hp) (by omega) rfl (SmoothI w ns) (SmoothX w ns) (smoothI_own w ns (by omega)) (fun c => smoothX_own w ns c (by omega))
    ⟨⟨bR, fun i hi => by cases hi⟩, hA⟩ ?a₁ ?assign ?body ?done ?stop
  case assign =>
    intro l x W K hK
    gi_wp2
    exact hK
  case body =>
    rintro l pre x W ⟨⟨hr, hq⟩, hb⟩ hlen
    have hRW := hR.below hb
    have rl := hr.lt
    have hsz := hb.size
    have v1 := hv x
    have v2 := hv (x + 1)
    rw [rays_cyc hp] at v1 v2
    have HC := Lib.hid (linkCone_any ns x W hRW)
    have HD := Lib.hid (fun w' => index_any _ _ _ _ w' v1 v2)
    have HK := Lib.hid (sm_rays hp x)
    have HQ := Lib.hid hq
    clear v1 v2 hq
    generalize detZ (cyc ns x).2.1 (cyc ns x).2.2 (cyc ns (x + 1)).2.1 (cyc ns (x + 1)).2.2 = d at HD HK
    by_cases hd1 : d = 1
    · subst hd1
      have HX : Hid (∀ i ∈ pre ++ [x], smB (rays ns) i = true) := fun i hi => by
        rcases List.mem_append.1 hi with hi | hi
        · exact HQ.out i hi
        · obtain rfl := List.mem_singleton.1 hi
          exact HK.out
      gi_wp2_with fail
      refine ⟨trivial, ?_⟩
      refine CallsIn.mono (CallsIn.inRound l (callsIn_wide.2 HC.out)) ?_
      rintro e w1 ⟨rfl, hb1⟩
      gi_wp2_with fail
      refine ⟨trivial, ?_⟩
      refine CallsIn.mono (CallsIn.inRound l (callsIn_wide.2 (HD.out _))) ?_
      rintro e w2 ⟨rfl, hb2⟩
      have hb' := belowTo hb1 hb2
      have hr3 : Boxed w2 w.heap.size 4 (.bool false) := (hb'.block _ rl).trans hr
      have KO := Lib.hid (KeepsOthers.of_grownBy (grown_of_below hb' none) (fun _ _ e _ => by cases e))
      clear hb1 hb2
      gi_wp2
      exact ⟨KO.out, hb'.mono hsz, ⟨hr3, HX.out⟩, hb.trans (hb'.mono hsz)⟩
    · have hdf : (d == 1) = false := by simpa using hd1
      have HX : Hid (smB (rays ns) x = false) := HK.out.trans hdf
      gi_wp2_with fail
      refine ⟨trivial, ?_⟩
      refine CallsIn.mono (CallsIn.inRound l (callsIn_wide.2 HC.out)) ?_
      rintro e w1 ⟨rfl, hb1⟩
      gi_wp2_with fail
      refine ⟨trivial, ?_⟩
      refine CallsIn.mono (CallsIn.inRound l (callsIn_wide.2 (HD.out _))) ?_
      rintro e w2 ⟨rfl, hb2⟩
      have hb' := belowTo hb1 hb2
      have hr3 : Boxed w2 w.heap.size 4 (.bool false) := (hb'.block _ rl).trans hr
      have rr3 := hr3.cell
      have rf3 := hr3.frozen
      have KO := Lib.hid (KeepsOthers.of_grownBy (grown_of_below hb' none) (fun _ _ e _ => by cases e))
      clear hb1 hb2
      gi_wp2
      exact ⟨KO.out.trans (KeepsOthers.setCell _ _ _), ⟨⟨rfl, x, by simp, HX.out⟩, hr3.set _⟩, (hb.trans (hb'.mono hsz)).setCell (p := ⟨w.heap.size, 0, none⟩) (Nat.le_refl _) _⟩
  case done =>
    rintro D W hD ⟨⟨hr, hq⟩, hb⟩ hK
    have HQ : Hid (allS (rays ns) = true) := List.all_eq_true.2 (by rw [rays_len]; exact hq)
    have rr := hr.cell
    have rf := hr.frozen
    have hK' : (W.setCell ⟨w.heap.size, 0, none⟩ (.bool true)).heap[D]? = some (.deferred (some [])) := (Below.heap_setCell W ⟨w.heap.size, 0, none⟩ _ D (by simp; omega)).trans hK
    have kk := (boxed_putObj (hr.set (.bool true)) (.deferred none) hK' rfl).cell
    have hB2 : Below w.heap.size w ((W.setCell ⟨w.heap.size, 0, none⟩ (.bool true)).putObj D (.deferred none)) := (hb.setCell (p := ⟨w.heap.size, 0, none⟩) (Nat.le_refl _) (.bool true)).grown (grownBy_putObj' _ D (.deferred none)) (by simpa using hb.size) (fun k e => by cases e; omega)
    have hKK := Lib.hid hK'
    clear hK hK' hq
    gi_wp2
    refine ⟨by simp, .inl ⟨_, _, rfl, run_takeDeferred hKK.out, ?_⟩⟩
    exact ⟨.bool true, by simp [results, Tryd.f81, go_sem, kk], by rw [HQ.out], hB2⟩
  case stop =>
    rintro D c pre W hD hpre ⟨⟨⟨rfl, i, hi, hx⟩, hr⟩, hb⟩ hK
    have HQ : Hid (allS (rays ns) = false) := allS_not (i := i) (by rw [rays_len]; exact hpre.subset hi) hx
    have kk := (boxed_putObj hr (.deferred none) hK rfl).cell
    have hB2 : Below w.heap.size w (W.putObj D (.deferred none)) := hb.grown (grownBy_putObj' _ D (.deferred none)) hb.size (fun k e => by cases e; omega)
    have hKK := Lib.hid hK
    clear hK
    gi_wp2
    refine ⟨by simp, .inl ⟨_, _, rfl, run_takeDeferred hKK.out, ?_⟩⟩
    exact ⟨.bool false, by simp [results, Tryd.f81, go_sem, kk], by rw [HQ.out], hB2⟩
end Go.Proofs.YtmencjdlfeojkaaDoor
