/- Fans: the rays. -/
import Derived.Test.YtfgkpnpgemakdaaDoorB7
import Derived.Test.YtfgkpnpgemakdaaDoorB5
import Derived.Maps.AppendAt
namespace Go.Proofs.YtfgkpnpgemakdaaDoor
open Go.RowKit Go.Shelf

attribute [local go_sem] Oper.semAt_some

/-- a range over the links -/
theorem wpIn_links {n : Nat} {gop : Operand} {ps : Array Tmp} {assign body : Code} {Q : Exit → Act → World → Prop} {a : Act} {w : World} (h2 : 2 ≤ n) {Bf n₀ base g : Nat} {ns : List Node}
    (hg : a.eval gop = .func (.func 59) #[] #[.pointer (some ⟨Bf, 0, none⟩)]) (hB : w.cell? ⟨Bf, 0, none⟩ = some (.pointer (some ⟨g, 0, none⟩))) (hn₀ : n₀ ≤ w.heap.size)
    (hF : FanAt w base g ns) (hlow : ∀ p ∈ ns, p.1 < n₀) (hm : ns.length ≤ 1000) (hps : 1 = ps.size)
    (I : List Nat → World → Prop) (Ix : Code → List Nat → World → Prop) (hI : OwnFrom w.heap.size I) (hIx : ∀ c, OwnFrom w.heap.size (Ix c)) (h0 : I [] w) (a₁ : Nat → Act)
    (hassign : ∀ (l : Nat) (x : Nat) (W : World) (K : Act → World → Prop), K (a₁ x) W →
      assign.wpIn (Fence.wide.inRound l) (n - 1 - 1) Tryd.prog (Exit.then K (fun _ _ _ => False)) { tmps := (ps.zip #[.pointer (some ⟨(cyc ns x).1, 0, none⟩)]).foldl (fun t (p, v) => t.setIfInBounds p v) a.tmps, defers := [] } W)
    (hbody : ∀ (l : Nat) (pre : List Nat) (x : Nat) (W : World), I pre W → pre.length < ns.length → body.wpIn (Fence.wide.inRound l) (n - 1 - 1) Tryd.prog (ownPostK (Below n₀) I Ix (pre ++ [x]) W) (a₁ x) W)
    (hdone : ∀ (D : Nat) (W : World), w.heap.size ≤ D → I (List.range ns.length) W → W.heap[D]? = some (.deferred (some [])) → Q .normal { a with defers := { target := .collected D, args := #[] } :: a.defers } W)
    (hstop : ∀ (D : Nat) (c : Code) (pre : List Nat) (W : World), w.heap.size ≤ D → pre <+: List.range ns.length → Ix c pre W → W.heap[D]? = some (.deferred (some [])) → c.wpIn Fence.wide n Tryd.prog Q { a with defers := { target := .collected D, args := #[] } :: a.defers } W) :
    (Code.rangeFunc gop ps assign body).wpIn Fence.wide n Tryd.prog Q a w :=
  wpIn_rangeFunc_ownF rfl (by omega) hg trivial (enters_of Tryd.func59 (by kernel_rfl) rfl) (links_stops (n - 1) (by omega) Bf n₀ base g ns w hB hn₀ hF hlow hm)
    belowK_t (belowK_b hn₀) (Below.refl _ _) (fun _ => hps) I Ix hI hIx h0 a₁ hassign hbody (fun D xs W hD hS => by subst hS; exact hdone D W hD) hstop

/-- a box B holds a list of vectors of the call's own -/
def VecsI (w : World) (B : Nat) (f : List Nat → List V2) (pre : List Nat) (W : World) : Prop :=
  (∃ v, Boxed W B 24 v ∧ W.ownsRow w.heap.size 39 2 v (f pre).length (intsV (flat (f pre))) ∧ True) ∧ Below w.heap.size w W
theorem vecsI_own (w : World) (B : Nat) (f : List Nat → List V2) {k : Nat} (h : w.heap.size ≤ k) : OwnFrom k (VecsI w B f) :=
  OwnFrom.and (Own.from (holdsRow_own _ _ _ _ _ (fun pre => (f pre).length) (fun pre => intsV (flat (f pre))) (fun _ _ => True)) _) (ownFrom_below (Nat.le_refl _) h)
theorem Vecs.putObj {W : World} {base : Nat} {v : Value} {l : List V2} (h : Vecs W base v l) {D : Nat} {o : Obj} (o' : Obj) (hl : W.heap[D]? = some o) (ho : o.isCells = false) : Vecs (W.putObj D o') base v l := ownsRow_putObj h o' hl ho
def raysAt (ns : List Node) (pre : List Nat) : List V2 := pre.map fun i => (cyc ns i).2
theorem raysAt_snoc (ns : List Node) (pre : List Nat) (x : Nat) : raysAt ns (pre ++ [x]) = raysAt ns pre ++ [((cyc ns x).2.1, (cyc ns x).2.2)] := by simp [raysAt]
theorem raysAt_all (ns : List Node) : raysAt ns (List.range ns.length) = rays ns := by
  have := congrArg (List.map (·.2)) (list_cyc ns)
  rw [List.map_map] at this
  exact this
set_option maxHeartbeats 8000000 in
theorem rays_in (n : Nat) (hn : 3 ≤ n) (base g : Nat) (ns : List Node) (w : World) (hF : FanAt w base g ns) (hm : ns.length ≤ 1000) :
    CallsIn Fence.wide n Tryd.prog 27 #[.pointer (some ⟨g, 0, none⟩)] w (GivesVecs w (rays ns)) := by
  have h1 : 1 ≤ n := by omega
  refine callsIn_of_wp_marks Tryd.func27 rfl trivial ?_ rfl
  simp only [Tryd.ntmps27, List.size_toArray, List.length_cons, List.length_nil, Nat.reduceAdd, Nat.reduceSub, Array.replicate_succ, Array.replicate_zero, List.push_toArray, List.append_toArray, List.nil_append, List.cons_append]
  gi_wp2_with fail
  refine ⟨trivial, ?_⟩
  refine CallsIn.mono (links_in _ g _) ?_
  rintro e w3 ⟨rfl, rfl⟩
  have hA : Below w.heap.size w ((w.alloc (.cells #[.slice none 0 0] 24)).alloc (.cells #[.pointer (some ⟨g, 0, none⟩)] 49)) := by go_grown
  have hF5 := hF.below hA
  have bB := (Boxed.new w 24 (.slice none 0 0)).alloc (.cells #[.pointer (some ⟨g, 0, none⟩)] 49)
  have hBf : ((w.alloc (.cells #[.slice none 0 0] 24)).alloc (.cells #[.pointer (some ⟨g, 0, none⟩)] 49)).cell? ⟨w.heap.size + 1, 0, none⟩ = some (.pointer (some ⟨g, 0, none⟩)) := by
    have e : w.heap.size + 1 = (w.alloc (.cells #[.slice none 0 0] 24)).heap.size := by simp
    rw [e]
    simp
  have hz5 : ((w.alloc (.cells #[.slice none 0 0] 24)).alloc (.cells #[.pointer (some ⟨g, 0, none⟩)] 49)).heap.size = w.heap.size + 1 + 1 := by simp
  gi_wp2_with fail
  generalize ((w.alloc (.cells #[.slice none 0 0] 24)).alloc (.cells #[.pointer (some ⟨g, 0, none⟩)] 49)) = W5 at *
  obtain ⟨i0, hi, hz0, hz1, hz2⟩ := info_parts infoVec
  have hR := hF.ring
  refine wpIn_links (by omega) rfl hBf hA.size hF5 (fun p hp => hF.ring.mem_lt hp) hm rfl
    (VecsI w w.heap.size (raysAt ns)) (fun _ _ _ => False) (vecsI_own _ _ _ (by omega))
    (fun _ _ _ _ _ h _ _ => h) ⟨⟨_, bB, World.ownsRow_nil _ _ _ _, trivial⟩, hA⟩ ?a₁ ?assign ?body ?done ?stop
  case assign =>
    intro l x W K hK
    gi_wp2
    exact hK
  case body =>
    rintro l pre x W ⟨⟨v, hv, hrow, _⟩, hb⟩ hlen
    have hL := (hR.below hb).link x
    have k0 := hL.c0
    have k1 := hL.c1
    have kb := hv.cell
    have kf := hv.frozen
    have kl := hv.lt
    have hsz := hb.size
    have hp : (raysAt ns pre).length ≤ 1000 := by simp [raysAt]; omega
    gi_wp2
    have hv' : Boxed W.drew w.heap.size 24 v := hv
    have hrow' : W.drew.ownsRow w.heap.size 39 2 v (raysAt ns pre).length (intsV (flat (raysAt ns pre))) := hrow
    refine region_round (by kernel_rfl) (noDefer_of (by kernel_rfl)) (by rintro ⟨_, _, h⟩; exact False.elim h) ?_
    refine wpAny_take (i := 1) (v := ?_) rfl (by kernel_rfl) (by kernel_rfl) (by kernel_rfl) (fun _ _ _ h => h) (Or.inl ⟨by rfl, ?_⟩) ?_
    rotate_left
    focus (intro w0; go_simp; try with_reducible rfl)
    refine wpAny_take (i := 2) (v := ?_) rfl (by kernel_rfl) (by kernel_rfl) (by kernel_rfl) (fun _ _ _ h => h) (Or.inl ⟨by rfl, ?_⟩) ?_
    rotate_left
    focus (intro w0; go_simp; try with_reducible rfl)
    refine wpAny_take (i := 3) (v := ?_) rfl (by kernel_rfl) (by kernel_rfl) (by kernel_rfl) (fun _ _ _ h => h) (Or.inl ⟨by rfl, ?_⟩) ?_
    rotate_left
    focus (intro w0; go_simp; try with_reducible rfl)
    refine wpAny_ready (rs := [0, 4]) (by kernel_rfl) (by simp) (AllReady.cons rfl (fun K hK => ?_) (AllReady.cons rfl (fun K hK => ?_) (AllReady.nil)))
    focus
      go_simp
      refine hK _ _ ?_
      clear hK K
      refine wpAny_ready (rs := [4]) (by kernel_rfl) (by simp) (AllReady.cons rfl (fun K hK => ?_) (AllReady.nil))
      go_simp
      refine hK _ _ ?_
      clear hK K
      refine wpAny_ready (rs := [5]) (by kernel_rfl) (by simp) (AllReady.cons rfl (fun K hK => ?_) (AllReady.nil))
      go_simp
      refine hK _ _ ?_
      clear hK K
      refine wpAny_seq 6 rfl (by kernel_rfl) ?_
      simp only [List.drop_succ_cons, List.drop_zero]
    rotate_left 1
    focus
      go_simp
      refine hK _ _ ?_
      clear hK K
      refine wpAny_ready (rs := [0, 5]) (by kernel_rfl) (by simp) (AllReady.cons rfl (fun K hK => ?_) (AllReady.cons rfl (fun K hK => ?_) (AllReady.nil)))
      focus
        go_simp
        refine hK _ _ ?_
        clear hK K
        refine wpAny_ready (rs := [5]) (by kernel_rfl) (by simp) (AllReady.cons rfl (fun K hK => ?_) (AllReady.nil))
        go_simp
        refine hK _ _ ?_
        clear hK K
        refine wpAny_seq 6 rfl (by kernel_rfl) ?_
        simp only [List.drop_succ_cons, List.drop_zero]
      rotate_left 1
      focus
        go_simp
        refine hK _ _ ?_
        clear hK K
        refine wpAny_ready (rs := [0]) (by kernel_rfl) (by simp) (AllReady.cons rfl (fun K hK => ?_) (AllReady.nil))
        go_simp
        refine hK _ _ ?_
        clear hK K
        refine wpAny_seq 6 rfl (by kernel_rfl) ?_
        simp only [List.drop_succ_cons, List.drop_zero]
    all_goals
      go_wp2_with (at_builtin; refine wpList_append_own_at _ rfl _ _ 24 rfl w.heap.size 39 i0 (.agg #[.int .i64 (0), .int .i64 (0)]) 2 16 Tryd.underlying24 hi hz0 hz1 hz2 rfl (by decide) _ _ _ rfl (hrow'.alloc _) ⟨W.heap.size, 0, none⟩ 1 1 [.int .i64 (cyc ns x).2.1, .int .i64 (cyc ns x).2.2] rfl rfl ?c1 ?c2 ?c3 ?c4 ?c5 ?_)
      case c1 =>
        intro j u hj
        match j, hj with
        | 0, hj => simp at hj; subst hj; simp [Addr.add]
        | 1, hj => simp at hj; subst hj; simp [Addr.add]
      case c2 => intro u hu; simp at hu; rcases hu with rfl | rfl <;> rfl
      case c3 => unfold maxLen; omega
      case c4 => omega
      case c5 => simp; omega
      intro v' w1 hown' hgrow _ _
      obtain ⟨g', cap', rfl⟩ := ownsRow_succ hown'
      obtain ⟨hv1, hv2, hr2, hk2, hb2⟩ := hv.appended (n₀ := w.heap.size) (tmp := .cells #[.int .i64 (cyc ns x).2.1, .int .i64 (cyc ns x).2.2] 39) (by decide) hrow hb.size (Nat.le_refl _) hown' ⟨hgrow.os, hgrow.tape, hgrow.output, hgrow.size, hgrow.block⟩
      have hc1 := hv1.cell
      have hf1 := hv1.frozen
      have HV := Lib.hid (Vecs.snoc (l := raysAt ns pre) rfl hr2)
      rw [← raysAt_snoc] at HV
      clear hown' hgrow hv1 hr2 hrow hrow' hv hv'
      go_wp2
      exact ⟨hk2, hb2, ⟨⟨_, hv2, HV.out, trivial⟩, hb.trans hb2⟩⟩
  case done =>
    rintro D W hD ⟨⟨v, hv, hrow, _⟩, hb⟩ hK
    have k4 := hv.cell
    have hV : Vecs W w.heap.size v (rays ns) := by
      have : Vecs W w.heap.size v (raysAt ns (List.range ns.length)) := hrow
      rwa [raysAt_all] at this
    have HV := Lib.hid (Vecs.putObj hV (.deferred none) hK rfl)
    have hB2 : Below w.heap.size w (W.putObj D (.deferred none)) := hb.grown (grownBy_putObj' W D (.deferred none)) hb.size (fun k e => by cases e; omega)
    clear hV hrow
    gi_wp2
    refine ⟨by simp, .inl ⟨_, _, rfl, run_takeDeferred hK, ?_⟩⟩
    exact ⟨_, results_tmp rfl _ _ _, v, rfl, HV.out, hB2⟩
  case stop =>
    rintro D c pre W _ _ h _
    exact h.elim
end Go.Proofs.YtfgkpnpgemakdaaDoor
