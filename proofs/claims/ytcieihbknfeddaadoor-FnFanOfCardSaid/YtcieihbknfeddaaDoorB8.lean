import Derived.Test.YtcieihbknfeddaaDoorL4
import Derived.Test.YtcieihbknfeddaaDoorB7
import Derived.Test.YtcieihbknfeddaaDoorB5
import Derived.Maps.AppendAt
import Derived.Test.YtcieihbknfeddaaDoorB2
import Derived.Test.YtcieihbknfeddaaDoorWr
/- Fans: linked round from a list. -/
namespace Go.Proofs.YtcieihbknfeddaaDoor
open Go.RowKit

theorem ring_one (w : World) (p : V2) : Ring (w.alloc (linkObj p w.heap.size w.heap.size)) [(w.heap.size, p)] := by
  refine ring_mk (by simp) (fun i j hi hj _ => by simp at hi hj; omega) (fun i hi => ?_)
  simp at hi
  subst hi
  exact World.alloc_heap_new _ _
/-- a new fan with the rays l -/
def LinkedEnd (l : List V2) (w : World) (e : Ending) (w' : World) : Prop := ∃ g ns, e = .returned (.pointer (some ⟨g, 0, none⟩)) ∧ FanAt w' w.heap.size g ns ∧ rays ns = l ∧ Below w.heap.size w w'
set_option maxHeartbeats 8000000 in
theorem linked_any (v : Value) (l : List V2) (w : World) (hl : ReadsVecs w v l) (h0 : 0 < l.length) (hm : l.length ≤ 1000) :
    Calls Tryd.prog 112 #[v] w (LinkedEnd l w) := by
  obtain ⟨a, c, rfl, hc, _, hcell⟩ := hl
  obtain ⟨bb, off, rfl, hbb, hcs⟩ := hcell h0
  have k0 := (hcs 0 h0).1
  have k1 := (hcs 0 h0).2
  rw [Nat.zero_mul, Nat.add_zero] at k0 k1
  have HC := Lib.hid hcs
  have HRV := Lib.hid (fun wr k (h : k + 1 < l.length) (hb : Below w.heap.size w wr) => And.intro ((hb.cell (p := ⟨bb, off + (k + 1) * 2, none⟩) hbb).trans (hcs (k + 1) h).1) ((hb.cell (p := ⟨bb, off + (k + 1) * 2 + 1, none⟩) hbb).trans (hcs (k + 1) h).2))
  obtain ⟨m, hm'⟩ : ∃ m, m + 1 = l.length := ⟨l.length - 1, by omega⟩
  have HM := Lib.hid hm'
  have HT : Hid ([(w.heap.size, cyc l 0)].map (·.2) = l.take (0 + 1)) := by
    rw [List.take_add_one, cyc_get h0]
    rfl
  have HO := Lib.hid (ring_one w (cyc l 0))
  generalize hx : cyc l 0 = p at *
  obtain ⟨x, y⟩ := p
  dsimp only at k0 k1
  have hfl : m ≤ 999 := by omega
  have hcm : m + 1 ≤ c := by omega
  rw [← hm']
  clear hcs hm' hm hc hx h0
  have HE : Hid (∀ (W : World) (ns : List Node) (q : Nat), q = W.heap.size → Ring W ns → ns.map (·.2) = l → (∀ p ∈ ns, w.heap.size ≤ p.1) → Below w.heap.size w W → LinkedEnd l w (.returned (.pointer (some ⟨q, 0, none⟩))) (W.alloc (fanObj (cyc ns 0).1 ns.length))) := by
    rintro W ns q rfl hR hn hlow hb
    refine ⟨W.heap.size, ns, rfl, ⟨⟨hR.pos, hR.two, fun i => (hR.link i).alloc _⟩, World.alloc_heap_new _ _, fun p hp => Nat.ne_of_lt (hR.mem_lt hp), hlow, hb.size⟩, hn, hb.alloc hb.size _⟩
  have HL : Hid (∀ ns : List Node, ns.map (·.2) = l → ns.length = m + 1) := fun ns h => by
    have := congrArg List.length h
    rw [List.length_map] at this
    rw [this]
    exact HM.out.symm
  by_cases hm0 : m = 0
  · subst hm0
    have HX : Hid (rays [(w.heap.size, ((x, y) : V2))] = l) := HT.out.trans (List.take_of_length_le (by rw [← HM.out]; omega))
    go_enter Tryd.func112, Tryd.ntmps112
    go_wp2
    all_goals
      refine wp_loop_rounds 1 ?_
      rw [rounds_succ]
      go_wp2
      go_returns
      exact HE.out (w.alloc (linkObj (x, y) w.heap.size w.heap.size)) _ (w.heap.size + 1) (by simp) HO.out HX.out (fun p hp => by simp at hp; subst hp; exact Nat.le_refl _) ((Below.refl _ _).alloc (Nat.le_refl _) _)
  · have hc1 : ¬ c = 1 := by omega
    have hmp : 0 < m := by omega
    go_enter Tryd.func112, Tryd.ntmps112
    go_wp2
    go_loopw [27] (fun s wr => ∃ (k : Nat) (ns : List Node), s = .int .i64 k ∧ k ≤ m ∧ Hid (Ring wr ns ∧ ns.map (·.2) = l.take (k + 1) ∧ (∀ p ∈ ns, w.heap.size ≤ p.1) ∧ (cyc ns 0).1 = w.heap.size) ∧ Below w.heap.size w wr) (fun s _ => m - (intOf s).toNat)
    case atStart =>
      exact ⟨0, _, rfl, Nat.zero_le _, ⟨HO.out, HT.out, fun p hp => by simp at hp; subst hp; exact Nat.le_refl _, rfl⟩, (Below.refl _ _).alloc (Nat.le_refl _) _⟩
    case round =>
      obtain ⟨k, ns, rfl, hk, hR, hb⟩ := hrel
      by_cases hlt : k < m
      · obtain ⟨r1, r2, r3, r4⟩ := hR.out
        obtain ⟨d0, d1⟩ := HRV.out wr k (by have := HM.out; omega) hb
        have hF := r1.at (i := 0) r1.pos
        rw [if_pos rfl] at hF
        have f2 := hF.c2
        have ff := hF.free 2
        have fl := hF.lt
        rw [r4] at f2 ff fl
        have hbl := Nat.lt_of_lt_of_le hbb hb.size
        have HP := Lib.hid (fun W (hb' : Below wr.heap.size wr W) (u v : Int) => put_last ns u v W (r1.below hb'))
        have ea : off + (k + 1) * 2 = off + 2 + k * 2 := by omega
        rw [ea] at d0 d1
        have i1 : (0 : Int) ≤ (k : Int) := by omega
        have i2 : (k : Int) < (m : Int) := by omega
        generalize hz : cyc l (k + 1) = z at d0 d1
        obtain ⟨u, v⟩ := z
        dsimp only at d0 d1
        have HT2 : Hid (∀ g' : Nat, (ns ++ [(g', ((u, v) : V2))]).map (·.2) = l.take (k + 1 + 1)) := fun g' => by
          rw [List.map_append, r2, List.take_add_one (i := k + 1), cyc_get (by have := HM.out; omega), hz]
          rfl
        have H2 := Lib.hid (And.intro r3 (And.intro r4 r1.pos))
        clear r1 r2 r3 r4 hR hF hz
        generalize hq : (cyc ns (ns.length - 1)).1 = q at f2 HP
        clear hq
        go_wp2
        refine wp_region_any (by kernel_rfl) ?_
        try (change wpAny _ _ _ _ _ _ _ (World.drew _))
        refine wpAny_take (i := 0) (v := ?_) rfl (by kernel_rfl) (by kernel_rfl) (by kernel_rfl) (fun _ _ _ h => h) (Or.inl ⟨by rfl, ?_⟩) ?_
        rotate_left
        focus (intro w0; go_simp; try with_reducible rfl)
        refine wpAny_take (i := 1) (v := ?_) rfl (by kernel_rfl) (by kernel_rfl) (by kernel_rfl) (fun _ _ _ h => h) (Or.inl ⟨by rfl, ?_⟩) ?_
        rotate_left
        focus (intro w0; go_simp; try with_reducible rfl)
        refine wpAny_take (i := 2) (v := ?_) rfl (by kernel_rfl) (by kernel_rfl) (by kernel_rfl) (fun _ _ _ h => h) (Or.inl ⟨by rfl, ?_⟩) ?_
        rotate_left
        focus (intro w0; go_simp; try with_reducible rfl)
        refine wpAny_ready (rs := [3, 4]) (by kernel_rfl) (by simp) (AllReady.cons rfl (fun K hK => ?_) (AllReady.cons rfl (fun K hK => ?_) (AllReady.nil)))
        focus
          go_simp
          refine hK _ _ ?_
          clear hK K
          refine wpAny_ready (rs := [4]) (by kernel_rfl) (by simp) (AllReady.cons rfl (fun K hK => ?_) (AllReady.nil))
          go_simp
          refine hK _ _ ?_
          clear hK K
          refine wpAny_seq 5 rfl (by kernel_rfl) ?_
          simp only [List.drop_succ_cons, List.drop_zero]
        rotate_left 1
        focus
          go_simp
          refine hK _ _ ?_
          clear hK K
          refine wpAny_ready (rs := [3]) (by kernel_rfl) (by simp) (AllReady.cons rfl (fun K hK => ?_) (AllReady.nil))
          go_simp
          refine hK _ _ ?_
          clear hK K
          refine wpAny_seq 5 rfl (by kernel_rfl) ?_
          simp only [List.drop_succ_cons, List.drop_zero]
        all_goals
          go_wp2_with fail
          refine Calls.mono (HP.out _ (by go_grown) u v) ?_
          rintro e w4 ⟨⟨v', rfl⟩, g', hg', R4, T4⟩
          obtain ⟨s1, s2, s3⟩ := H2.out
          have hA : Below w.heap.size w (wr.alloc (.cells #[.int .i64 u, .int .i64 v] 26)).drew := (hb.alloc hb.size _).drew
          have hB := hA.trans (T4.below hA.size s1)
          have hgl : w.heap.size ≤ g' := Nat.le_trans hA.size hg'
          have HR := Lib.hid R4
          clear R4 T4 hA
          go_wp2
          go_roundw
          case rel =>
            refine ⟨_, _, _, _, _, _, _, _, _, _, _, _, ⟨k + 1, _, ?_, by omega, ⟨HR.out, HT2.out g', fun p hp => ?_, ?_⟩, hB⟩, rfl⟩
            · go_num
            · rcases List.mem_append.1 hp with hp | hp
              · exact s1 p hp
              · obtain rfl := List.mem_singleton.1 hp
                exact hgl
            · rw [cyc_snoc_lt s3]
              exact s2
          case measure => simp [intOf]; omega
      · obtain rfl : k = m := by omega
        obtain ⟨r1, r2, r3, r4⟩ := hR.out
        have e2 : ns.map (·.2) = l := r2.trans (List.take_of_length_le (by rw [← HM.out]; omega))
        have e3 := HL.out ns e2
        have HF := Lib.hid (HE.out wr ns _ rfl r1 e2 r3 hb)
        rw [r4, e3] at HF
        have i1 : ¬ (k : Int) < (k : Int) := by omega
        clear r1 r2 r3 r4 e2 e3 hR
        go_wp2
        go_returns
        exact HF.out
end Go.Proofs.YtcieihbknfeddaaDoor

/- Fans: the rays. -/
namespace Go.Proofs.YtcieihbknfeddaaDoor
open Go.RowKit Go.Shelf

attribute [local go_sem] Oper.semAt_some

/-- a range over the links -/
theorem wpIn_links {n : Nat} {gop : Operand} {ps : Array Tmp} {assign body : Code} {Q : Exit → Act → World → Prop} {a : Act} {w : World} (h2 : 2 ≤ n) {Bf n₀ base g : Nat} {ns : List Node}
    (hg : a.eval gop = .func (.func 139) #[] #[.pointer (some ⟨Bf, 0, none⟩)]) (hB : w.cell? ⟨Bf, 0, none⟩ = some (.pointer (some ⟨g, 0, none⟩))) (hn₀ : n₀ ≤ w.heap.size)
    (hF : FanAt w base g ns) (hlow : ∀ p ∈ ns, p.1 < n₀) (hm : ns.length ≤ 1000) (hps : 1 = ps.size)
    (I : List Nat → World → Prop) (Ix : Code → List Nat → World → Prop) (hI : OwnFrom w.heap.size I) (hIx : ∀ c, OwnFrom w.heap.size (Ix c)) (h0 : I [] w) (a₁ : Nat → Act)
    (hassign : ∀ (l : Nat) (x : Nat) (W : World) (K : Act → World → Prop), K (a₁ x) W →
      assign.wpIn (Fence.wide.inRound l) (n - 1 - 1) Tryd.prog (Exit.then K (fun _ _ _ => False)) { tmps := (ps.zip #[.pointer (some ⟨(cyc ns x).1, 0, none⟩)]).foldl (fun t (p, v) => t.setIfInBounds p v) a.tmps, defers := [] } W)
    (hbody : ∀ (l : Nat) (pre : List Nat) (x : Nat) (W : World), I pre W → pre.length < ns.length → body.wpIn (Fence.wide.inRound l) (n - 1 - 1) Tryd.prog (ownPostK (Below n₀) I Ix (pre ++ [x]) W) (a₁ x) W)
    (hdone : ∀ (D : Nat) (W : World), w.heap.size ≤ D → I (List.range ns.length) W → W.heap[D]? = some (.deferred (some [])) → Q .normal { a with defers := { target := .collected D, args := #[] } :: a.defers } W)
    (hstop : ∀ (D : Nat) (c : Code) (pre : List Nat) (W : World), w.heap.size ≤ D → pre <+: List.range ns.length → Ix c pre W → W.heap[D]? = some (.deferred (some [])) → c.wpIn Fence.wide n Tryd.prog Q { a with defers := { target := .collected D, args := #[] } :: a.defers } W) :
    (Code.rangeFunc gop ps assign body).wpIn Fence.wide n Tryd.prog Q a w :=
  wpIn_rangeFunc_ownF rfl (by omega) hg trivial (enters_of Tryd.func139 (by kernel_rfl) rfl) (links_stops (n - 1) (by omega) Bf n₀ base g ns w hB hn₀ hF hlow hm)
    belowK_t (belowK_b hn₀) (Below.refl _ _) (fun _ => hps) I Ix hI hIx h0 a₁ hassign hbody (fun D xs W hD hS => by subst hS; exact hdone D W hD) hstop

/-- a box B holds a list of vectors of the call's own -/
def VecsI (w : World) (B : Nat) (f : List Nat → List V2) (pre : List Nat) (W : World) : Prop :=
  (∃ v, Boxed W B 39 v ∧ W.ownsRow w.heap.size 26 2 v (f pre).length (intsV (flat (f pre))) ∧ True) ∧ Below w.heap.size w W
theorem vecsI_own (w : World) (B : Nat) (f : List Nat → List V2) {k : Nat} (h : w.heap.size ≤ k) : OwnFrom k (VecsI w B f) :=
  OwnFrom.and (Own.from (holdsRow_own _ _ _ _ _ (fun pre => (f pre).length) (fun pre => intsV (flat (f pre))) (fun _ _ => True)) _) (ownFrom_below (Nat.le_refl _) h)
theorem Vecs.putObj {W : World} {base : Nat} {v : Value} {l : List V2} (h : Vecs W base v l) {D : Nat} {o : Obj} (o' : Obj) (hl : W.heap[D]? = some o) (ho : o.isCells = false) : Vecs (W.putObj D o') base v l := ownsRow_putObj h o' hl ho
def raysAt (ns : List Node) (pre : List Nat) : List V2 := pre.map fun i => (cyc ns i).2
theorem raysAt_snoc (ns : List Node) (pre : List Nat) (x : Nat) : raysAt ns (pre ++ [x]) = raysAt ns pre ++ [((cyc ns x).2.1, (cyc ns x).2.2)] := by simp [raysAt]
theorem raysAt_all (ns : List Node) : raysAt ns (List.range ns.length) = rays ns := by
  have := congrArg (List.map (·.2)) (list_cyc ns)
  rw [List.map_map] at this
  exact this
set_option maxHeartbeats 8000000 in
theorem rays_in (n : Nat) (hn : 3 ≤ n) (base g : Nat) (ns : List Node) (w : World) (hF : FanAt w base g ns) (hm : ns.length ≤ 1000) :
    CallsIn Fence.wide n Tryd.prog 90 #[.pointer (some ⟨g, 0, none⟩)] w (GivesVecs w (rays ns)) := by
  have h1 : 1 ≤ n := by omega
  refine callsIn_of_wp_marks Tryd.func90 rfl trivial ?_ rfl
  simp only [Tryd.ntmps90, List.size_toArray, List.length_cons, List.length_nil, Nat.reduceAdd, Nat.reduceSub, Array.replicate_succ, Array.replicate_zero, List.push_toArray, List.append_toArray, List.nil_append, List.cons_append]
  gi_wp2_with fail
  refine ⟨trivial, ?_⟩
  refine CallsIn.mono (links_in _ g _) ?_
  rintro e w3 ⟨rfl, rfl⟩
  have hA : Below w.heap.size w ((w.alloc (.cells #[.slice none 0 0] 39)).alloc (.cells #[.pointer (some ⟨g, 0, none⟩)] 92)) := by go_grown
  have hF5 := hF.below hA
  have bB := (Boxed.new w 39 (.slice none 0 0)).alloc (.cells #[.pointer (some ⟨g, 0, none⟩)] 92)
  have hBf : ((w.alloc (.cells #[.slice none 0 0] 39)).alloc (.cells #[.pointer (some ⟨g, 0, none⟩)] 92)).cell? ⟨w.heap.size + 1, 0, none⟩ = some (.pointer (some ⟨g, 0, none⟩)) := by
    have e : w.heap.size + 1 = (w.alloc (.cells #[.slice none 0 0] 39)).heap.size := by simp
    rw [e]
    simp
  have hz5 : ((w.alloc (.cells #[.slice none 0 0] 39)).alloc (.cells #[.pointer (some ⟨g, 0, none⟩)] 92)).heap.size = w.heap.size + 1 + 1 := by simp
  gi_wp2_with fail
  generalize ((w.alloc (.cells #[.slice none 0 0] 39)).alloc (.cells #[.pointer (some ⟨g, 0, none⟩)] 92)) = W5 at *
  obtain ⟨i0, hi, hz0, hz1, hz2⟩ := info_parts infoVec
  have hR := hF.ring
  refine wpIn_links (by omega) rfl hBf hA.size hF5 (fun p hp => hF.ring.mem_lt hp) hm rfl
    (VecsI w w.heap.size (raysAt ns)) (fun _ _ _ => False) (vecsI_own _ _ _ (by omega))
    (fun _ _ _ _ _ h _ _ => h) ⟨⟨_, bB, World.ownsRow_nil _ _ _ _, trivial⟩, hA⟩ ?a₁ ?assign ?body ?done ?stop
  case assign =>
    intro l x W K hK
    gi_wp2
    exact hK
  case body =>
    rintro l pre x W ⟨⟨v, hv, hrow, _⟩, hb⟩ hlen
    have hL := (hR.below hb).link x
    have k0 := hL.c0
    have k1 := hL.c1
    have kb := hv.cell
    have kf := hv.frozen
    have kl := hv.lt
    have hsz := hb.size
    have hp : (raysAt ns pre).length ≤ 1000 := by simp [raysAt]; omega
    gi_wp2
    have hv' : Boxed W.drew w.heap.size 39 v := hv
    have hrow' : W.drew.ownsRow w.heap.size 26 2 v (raysAt ns pre).length (intsV (flat (raysAt ns pre))) := hrow
    refine region_round (by kernel_rfl) (noDefer_of (by kernel_rfl)) (by rintro ⟨_, _, h⟩; exact False.elim h) ?_
    refine wpAny_take (i := 1) (v := ?_) rfl (by kernel_rfl) (by kernel_rfl) (by kernel_rfl) (fun _ _ _ h => h) (Or.inl ⟨by rfl, ?_⟩) ?_
    rotate_left
    focus (intro w0; go_simp; try with_reducible rfl)
    refine wpAny_take (i := 2) (v := ?_) rfl (by kernel_rfl) (by kernel_rfl) (by kernel_rfl) (fun _ _ _ h => h) (Or.inl ⟨by rfl, ?_⟩) ?_
    rotate_left
    focus (intro w0; go_simp; try with_reducible rfl)
    refine wpAny_take (i := 3) (v := ?_) rfl (by kernel_rfl) (by kernel_rfl) (by kernel_rfl) (fun _ _ _ h => h) (Or.inl ⟨by rfl, ?_⟩) ?_
    rotate_left
    focus (intro w0; go_simp; try with_reducible rfl)
    refine wpAny_ready (rs := [0, 4]) (by kernel_rfl) (by simp) (AllReady.cons rfl (fun K hK => ?_) (AllReady.cons rfl (fun K hK => ?_) (AllReady.nil)))
    focus
      go_simp
      refine hK _ _ ?_
      clear hK K
      refine wpAny_ready (rs := [4]) (by kernel_rfl) (by simp) (AllReady.cons rfl (fun K hK => ?_) (AllReady.nil))
      go_simp
      refine hK _ _ ?_
      clear hK K
      refine wpAny_ready (rs := [5]) (by kernel_rfl) (by simp) (AllReady.cons rfl (fun K hK => ?_) (AllReady.nil))
      go_simp
      refine hK _ _ ?_
      clear hK K
      refine wpAny_seq 6 rfl (by kernel_rfl) ?_
      simp only [List.drop_succ_cons, List.drop_zero]
    rotate_left 1
    focus
      go_simp
      refine hK _ _ ?_
      clear hK K
      refine wpAny_ready (rs := [0, 5]) (by kernel_rfl) (by simp) (AllReady.cons rfl (fun K hK => ?_) (AllReady.cons rfl (fun K hK => ?_) (AllReady.nil)))
      focus
        go_simp
        refine hK _ _ ?_
        clear hK K
        refine wpAny_ready (rs := [5]) (by kernel_rfl) (by simp) (AllReady.cons rfl (fun K hK => ?_) (AllReady.nil))
        go_simp
        refine hK _ _ ?_
        clear hK K
        refine wpAny_seq 6 rfl (by kernel_rfl) ?_
        simp only [List.drop_succ_cons, List.drop_zero]
      rotate_left 1
      focus
        go_simp
        refine hK _ _ ?_
        clear hK K
        refine wpAny_ready (rs := [0]) (by kernel_rfl) (by simp) (AllReady.cons rfl (fun K hK => ?_) (AllReady.nil))
        go_simp
        refine hK _ _ ?_
        clear hK K
        refine wpAny_seq 6 rfl (by kernel_rfl) ?_
        simp only [List.drop_succ_cons, List.drop_zero]
    all_goals
      go_wp2_with (at_builtin; refine wpList_append_own_at _ rfl _ _ 39 rfl w.heap.size 26 i0 (.agg #[.int .i64 (0), .int .i64 (0)]) 2 16 Tryd.underlying39 hi hz0 hz1 hz2 rfl (by decide) _ _ _ rfl (hrow'.alloc _) ⟨W.heap.size, 0, none⟩ 1 1 [.int .i64 (cyc ns x).2.1, .int .i64 (cyc ns x).2.2] rfl rfl ?c1 ?c2 ?c3 ?c4 ?c5 ?_)
      case c1 =>
        intro j u hj
        match j, hj with
        | 0, hj => simp at hj; subst hj; simp [Addr.add]
        | 1, hj => simp at hj; subst hj; simp [Addr.add]
      case c2 => intro u hu; simp at hu; rcases hu with rfl | rfl <;> rfl
      case c3 => unfold maxLen; omega
      case c4 => omega
      case c5 => simp; omega
      intro v' w1 hown' hgrow _ _
      obtain ⟨g', cap', rfl⟩ := ownsRow_succ hown'
      obtain ⟨hv1, hv2, hr2, hk2, hb2⟩ := hv.appended (n₀ := w.heap.size) (tmp := .cells #[.int .i64 (cyc ns x).2.1, .int .i64 (cyc ns x).2.2] 26) (by decide) hrow hb.size (Nat.le_refl _) hown' ⟨hgrow.os, hgrow.tape, hgrow.output, hgrow.size, hgrow.block⟩
      have hc1 := hv1.cell
      have hf1 := hv1.frozen
      have HV := Lib.hid (Vecs.snoc (l := raysAt ns pre) rfl hr2)
      rw [← raysAt_snoc] at HV
      clear hown' hgrow hv1 hr2 hrow hrow' hv hv'
      go_wp2
      exact ⟨hk2, hb2, ⟨⟨_, hv2, HV.out, trivial⟩, hb.trans hb2⟩⟩
  case done =>
    rintro D W hD ⟨⟨v, hv, hrow, _⟩, hb⟩ hK
    have k4 := hv.cell
    have hV : Vecs W w.heap.size v (rays ns) := by
      have : Vecs W w.heap.size v (raysAt ns (List.range ns.length)) := hrow
      rwa [raysAt_all] at this
    have HV := Lib.hid (Vecs.putObj hV (.deferred none) hK rfl)
    have hB2 : Below w.heap.size w (W.putObj D (.deferred none)) := hb.grown (grownBy_putObj' W D (.deferred none)) hb.size (fun k e => by cases e; omega)
    clear hV hrow
    gi_wp2
    refine ⟨by simp, .inl ⟨_, _, rfl, run_takeDeferred hK, ?_⟩⟩
    exact ⟨_, results_tmp rfl _ _ _, v, rfl, HV.out, hB2⟩
  case stop =>
    rintro D c pre W _ _ h _
    exact h.elim
end Go.Proofs.YtcieihbknfeddaaDoor

/- Fans: checked. -/
namespace Go.Proofs.YtcieihbknfeddaaDoor
open Go.RowKit Go.Shelf

attribute [local go_sem] Oper.semAt_some

theorem con_rays {ns : List Node} (h : 0 < ns.length) (x : Nat) : conB (rays ns) x = coneB (cyc ns x).2.1 (cyc ns x).2.2 (cyc ns (x + 1)).2.1 (cyc ns (x + 1)).2.2 := by
  unfold conB
  rw [rays_cyc h, rays_cyc h]
theorem bk_rays {ns : List Node} (h : 0 < ns.length) (x : Nat) : bkB (rays ns) x = aheadB (cyc ns (x + 1)).2.1 (cyc ns (x + 1)).2.2 (cyc ns x).2.1 (cyc ns x).2.2 := by
  unfold bkB aheadV
  rw [rays_cyc h, rays_cyc h]
theorem fan_is {l : List V2} (hr : rng l = true) (h : ∀ i ∈ List.range l.length, conB l i = true) : fanB l = oneBack l := by
  have : allC l = true := List.all_eq_true.2 h
  unfold fanB
  rw [hr, this]
  simp
theorem fan_not {l : List V2} {i : Nat} (hi : i ∈ List.range l.length) (h : conB l i = false) : fanB l = false := by
  have : allC l = false := by
    unfold allC
    rw [List.all_eq_false]
    exact ⟨i, hi, by rw [h]; decide⟩
  unfold fanB
  rw [this]
  simp
/-- what a check hands back -/
def CheckEnd (b : Bool) (e : Ending) : Prop := if b then e = .returned .nilIface else IsNone e
def fanErr : Value := .iface 124 (.agg #[.string ⟨#[102, 97, 110]⟩])
theorem fanErr_none : IsNone (.returned fanErr) := ⟨_, rfl⟩
theorem ownErr (B : Nat) (t : TypeId) (v : Value) : Own (fun (_ : List Nat) W => Boxed W B t v) := boxed_own B t (fun _ => v)
theorem boxed_putObj {W : World} {B : Nat} {t : TypeId} {v : Value} (h : Boxed W B t v) {D : Nat} {o : Obj} (o' : Obj) (hl : W.heap[D]? = some o) (ho : o.isCells = false) : Boxed (W.putObj D o') B t v :=
  h.kept (grownBy_putObj' W D o') (fun e => by cases e; rw [show W.heap[B]? = _ from h] at hl; cases hl; cases ho)
def CheckI (w : World) (ns : List Node) (pre : List Nat) (W : World) : Prop :=
  (Boxed W w.heap.size 78 .nilIface ∧ ∀ i ∈ pre, conB (rays ns) i = true) ∧ Below w.heap.size w W
def CheckX (w : World) (ns : List Node) (c : Code) (pre : List Nat) (W : World) : Prop :=
  ((c = .ret ∧ ∃ i ∈ pre, conB (rays ns) i = false) ∧ Boxed W w.heap.size 78 fanErr) ∧ Below w.heap.size w W
theorem checkI_own (w : World) (ns : List Node) {k : Nat} (h : w.heap.size ≤ k) : OwnFrom k (CheckI w ns) :=
  OwnFrom.and (OwnFrom.and (Own.from (ownErr _ _ _) _) (ownFrom_pure k (fun pre => ∀ i ∈ pre, conB (rays ns) i = true))) (ownFrom_below (Nat.le_refl _) h)
theorem checkX_own (w : World) (ns : List Node) (c : Code) {k : Nat} (h : w.heap.size ≤ k) : OwnFrom k (CheckX w ns c) :=
  OwnFrom.and (OwnFrom.and (ownFrom_pure k (fun pre => c = .ret ∧ ∃ i ∈ pre, conB (rays ns) i = false)) (Own.from (ownErr _ _ _) _)) (ownFrom_below (Nat.le_refl _) h)
theorem allC_vec {l : List V2} (h : ∀ i ∈ List.range l.length, conB l i = true) (h0 : 0 < l.length) : allVec l := fun i => (con_vec (allC_at (List.all_eq_true.2 h) h0 i)).1

set_option maxHeartbeats 8000000 in
theorem fanCheck_in (n : Nat) (hn : 4 ≤ n) (base g : Nat) (ns : List Node) (w : World) (hg : EtOk w) (hF : FanAt w base g ns) (h3 : 3 ≤ ns.length) (h20 : ns.length ≤ 20) :
    CallsIn Fence.wide n Tryd.prog 134 #[.pointer (some ⟨g, 0, none⟩)] w fun e w' => CheckEnd (fanB (rays ns)) e ∧ Below w.heap.size w w' := by
  have h1 : 1 ≤ n := by omega
  have hd : 1 ≤ n - 1 - 1 := by omega
  have hR := hF.ring
  have hp := hR.pos
  have q0 := hF.head.c1
  have q1 := hF.head.lt
  have j1 : ¬ (ns.length : Int) < 3 := by omega
  have j2 : ¬ 20 < (ns.length : Int) := by omega
  have HE : Hid (CheckEnd (fanB (rays ns)) = CheckEnd (fanB (rays ns))) := rfl
  have HRy := Lib.hid (fun W' (hb : Below w.heap.size w W') => rays_in (n - 1) (by omega) base g ns W' (hF.below hb) (by omega))
  have HRo := Lib.hid (fun v W' b (hI : Vecs W' b v (rays ns)) (hv : allVec (rays ns)) => rounds_any v (rays ns) W' (hI.reads (by rw [rays_len]; omega)) (by rw [rays_len]; exact hp) (by rw [rays_len]; omega) hv)
  refine callsIn_of_wp_marks Tryd.func134 rfl trivial ?_ rfl
  simp only [Tryd.ntmps134, List.size_toArray, List.length_cons, List.length_nil, Nat.reduceAdd, Nat.reduceSub, Array.replicate_succ, Array.replicate_zero, List.push_toArray, List.append_toArray, List.nil_append, List.cons_append]
  gi_wp2_with fail
  refine ⟨trivial, ?_⟩
  refine CallsIn.mono (links_in _ g _) ?_
  rintro e w3 ⟨rfl, rfl⟩
  have bR := (Boxed.new w 78 .nilIface).alloc (.cells #[.pointer (some ⟨g, 0, none⟩)] 92)
  have bF := Boxed.new (w.alloc (.cells #[.nilIface] 78)) 92 (.pointer (some ⟨g, 0, none⟩))
  have hA : Below w.heap.size w ((w.alloc (.cells #[.nilIface] 78)).alloc (.cells #[.pointer (some ⟨g, 0, none⟩)] 92)) := by go_grown
  have hz5 : ((w.alloc (.cells #[.nilIface] 78)).alloc (.cells #[.pointer (some ⟨g, 0, none⟩)] 92)).heap.size = w.heap.size + 1 + 1 := by simp
  simp only [World.size_alloc] at bF
  gi_wp2_with fail
  generalize ((w.alloc (.cells #[.nilIface] 78)).alloc (.cells #[.pointer (some ⟨g, 0, none⟩)] 92)) = W5 at *
  refine wpIn_links (by omega) rfl bF.cell hA.size (hF.below hA) (fun p hp => hR.mem_lt hp) (by omega) rfl (CheckI w ns) (CheckX w ns) (checkI_own w ns (by omega)) (fun c => checkX_own w ns c (by omega))
    ⟨⟨bR, fun i hi => by cases hi⟩, hA⟩ ?a₁ ?assign ?body ?done ?stop
  case assign =>
    intro l x W K hK
    gi_wp2
    exact hK
  case body =>
    rintro l pre x W ⟨⟨hr, hq⟩, hb⟩ hlen
    have hRW := hR.below hb
    have hEW := hg.below hb
    have rr := hr.cell
    have rf := hr.frozen
    have rl := hr.lt
    have hsz := hb.size
    have HC := Lib.hid (linkCone_any ns x W hRW)
    have HK := Lib.hid (con_rays hp x)
    cases hx : conB (rays ns) x
    · rw [HK.out] at hx
      have HO := Lib.hid (fun w' => coneCheck_out _ _ _ _ w' hx)
      gi_wp2_with fail
      refine ⟨trivial, ?_⟩
      refine CallsIn.mono (CallsIn.inRound l (callsIn_wide.2 HC.out)) ?_
      rintro e w1 ⟨rfl, hb1⟩
      gi_wp2_with fail
      refine ⟨trivial, ?_⟩
      refine CallsIn.mono (CallsIn.inRound l (callsIn_wide.2 (HO.out _))) ?_
      rintro e w2 ⟨⟨s, rfl⟩, hb2⟩
      have hb12 := belowTo hb1 hb2
      gi_wp2_with fail
      refine ⟨trivial, ?_⟩
      refine CallsIn.mono (CallsIn.inRound l (callsIn_wide.2 (none_hit s _ (hEW.below hb12)))) ?_
      rintro e w3 ⟨rfl, hb3⟩
      have hb' := belowTo hb12 hb3
      have hr3 : Boxed w3 w.heap.size 78 .nilIface := (hb'.block _ rl).trans hr
      have HX : Hid (conB (rays ns) x = false) := HK.out.trans hx
      have KO := Lib.hid (KeepsOthers.of_grownBy (grown_of_below hb' none) (fun _ _ e _ => by cases e))
      have rr3 := hr3.cell
      have rf3 := hr3.frozen
      clear hx rr rf hb1 hb2 hb3 hb12
      gi_wp2
      exact ⟨KO.out.trans (KeepsOthers.setCell _ _ _), ⟨⟨rfl, x, by simp, HX.out⟩, hr3.set _⟩, (hb.trans (hb'.mono hsz)).setCell (p := ⟨w.heap.size, 0, none⟩) (Nat.le_refl _) _⟩
    · have HX : Hid (conB (rays ns) x = true) := hx
      rw [HK.out] at hx
      have HO := Lib.hid (fun w' => coneCheck_in _ _ _ _ w' hx)
      gi_wp2_with fail
      refine ⟨trivial, ?_⟩
      refine CallsIn.mono (CallsIn.inRound l (callsIn_wide.2 HC.out)) ?_
      rintro e w1 ⟨rfl, hb1⟩
      gi_wp2_with fail
      refine ⟨trivial, ?_⟩
      refine CallsIn.mono (CallsIn.inRound l (callsIn_wide.2 (HO.out _))) ?_
      rintro e w2 ⟨rfl, hb2⟩
      have hb12 := belowTo hb1 hb2
      gi_wp2_with fail
      refine ⟨trivial, ?_⟩
      refine CallsIn.mono (CallsIn.inRound l (callsIn_wide.2 (none_nil _))) ?_
      rintro e w3 ⟨rfl, hb3⟩
      have hb' := belowTo hb12 hb3
      have hr3 : Boxed w3 w.heap.size 78 .nilIface := (hb'.block _ rl).trans hr
      have KO := Lib.hid (KeepsOthers.of_grownBy (grown_of_below hb' none) (fun _ _ e _ => by cases e))
      have hq2 : Hid (∀ i ∈ pre ++ [x], conB (rays ns) i = true) := by
        intro i hi
        rcases List.mem_append.1 hi with hi | hi
        · exact hq i hi
        · obtain rfl := List.mem_singleton.1 hi
          exact HX.out
      have hB5 := hb.trans (hb'.mono hsz)
      clear hx rr rf hb1 hb2 hb3 hb12
      gi_wp2
      exact ⟨KO.out, hb'.mono hsz, ⟨hr3, hq2.out⟩, hB5⟩
  case done =>
    rintro D W hD ⟨⟨hr, hq⟩, hb⟩ hK
    have HQ : Hid (fanB (rays ns) = oneBack (rays ns)) := fan_is (by simp [rng, rays_len]; omega) (by rw [rays_len]; exact hq)
    have HV : Hid (allVec (rays ns)) := allC_vec (by rw [rays_len]; exact hq) (by rw [rays_len]; exact hp)
    have HC : Hid (oneBack (rays ns) = (cnt (bkB (rays ns)) (List.range (rays ns).length) == 1)) := rfl
    have hDl : D < W.heap.size := (Array.getElem?_eq_some_iff.1 hK).1
    have HRw := Lib.hid (HRy.out W hb)
    clear hq HRy
    gi_wp2_with fail
    refine ⟨trivial, ?_⟩
    refine CallsIn.mono HRw.out ?_
    rintro e W1 ⟨v1, rfl, hI, hb1⟩
    have HRz := Lib.hid (HRo.out v1 W1 _ hI HV.out)
    have hr1 : Boxed W1 w.heap.size 78 .nilIface := (hb1.block _ hr.lt).trans hr
    have hK1 : W1.heap[D]? = some (.deferred (some [])) := (hb1.block _ hDl).trans hK
    have hB1 := belowTo hb hb1
    have hD1 : D < W1.heap.size := Nat.lt_of_lt_of_le hDl hb1.size
    clear hI hb1 hr hK hb HRo HRw HV hDl
    generalize hk : cnt (bkB (rays ns)) (List.range (rays ns).length) = k at HC HRz
    clear hk
    gi_wp2_with fail
    refine ⟨trivial, ?_⟩
    refine CallsIn.mono (callsIn_wide.2 HRz.out) ?_
    rintro e W2 ⟨rfl, hb2⟩
    have hr2 : Boxed W2 w.heap.size 78 .nilIface := (hb2.block _ hr1.lt).trans hr1
    have hK2 : W2.heap[D]? = some (.deferred (some [])) := (hb2.block _ hD1).trans hK1
    have hB2 := belowTo hB1 hb2
    clear hb2 hr1 hK1 hB1 HRz hD1
    have rr := hr2.cell
    have rf := hr2.frozen
    by_cases h : k = 1
    · subst h
      have hK' : (W2.setCell ⟨w.heap.size, 0, none⟩ .nilIface).heap[D]? = some (.deferred (some [])) := (Below.heap_setCell W2 ⟨w.heap.size, 0, none⟩ _ D (by simp; omega)).trans hK2
      have kk := (boxed_putObj (hr2.set .nilIface) (.deferred none) hK' rfl).cell
      have hB3 : Below w.heap.size w ((W2.setCell ⟨w.heap.size, 0, none⟩ .nilIface).putObj D (.deferred none)) := (hB2.setCell (p := ⟨w.heap.size, 0, none⟩) (Nat.le_refl _) .nilIface).grown (grownBy_putObj' _ D (.deferred none)) (by simpa using hB2.size) (fun k e => by cases e; omega)
      have HE2 : Hid (CheckEnd (fanB (rays ns)) (.returned .nilIface)) := by
        rw [HQ.out, HC.out]
        rfl
      have hKK := Lib.hid hK'
      clear HQ HC HE hK2 hK'
      gi_wp2
      refine ⟨by simp, .inl ⟨_, _, rfl, run_takeDeferred hKK.out, ?_⟩⟩
      exact ⟨.nilIface, by simp [results, Tryd.f134, go_sem, kk], HE2.out, hB3⟩
    · have hkn : ¬ (k : Int) = 1 := by omega
      have hK' : (W2.setCell ⟨w.heap.size, 0, none⟩ fanErr).heap[D]? = some (.deferred (some [])) := (Below.heap_setCell W2 ⟨w.heap.size, 0, none⟩ _ D (by simp; omega)).trans hK2
      have kk := (boxed_putObj (hr2.set fanErr) (.deferred none) hK' rfl).cell
      have hB3 : Below w.heap.size w ((W2.setCell ⟨w.heap.size, 0, none⟩ fanErr).putObj D (.deferred none)) := (hB2.setCell (p := ⟨w.heap.size, 0, none⟩) (Nat.le_refl _) fanErr).grown (grownBy_putObj' _ D (.deferred none)) (by simpa using hB2.size) (fun k e => by cases e; omega)
      have HE2 : Hid (CheckEnd (fanB (rays ns)) (.returned fanErr)) := by
        have : (k == 1) = false := by simpa using h
        rw [HQ.out, HC.out, this]
        exact fanErr_none
      have hKK := Lib.hid hK'
      clear HQ HC HE hK2 hK'
      unfold fanErr at kk
      gi_wp2
      refine ⟨by simp, .inl ⟨_, _, rfl, run_takeDeferred hKK.out, ?_⟩⟩
      exact ⟨fanErr, by simp [results, Tryd.f134, go_sem, kk, fanErr], HE2.out, hB3⟩
  case stop =>
    rintro D c pre W hD hpre ⟨⟨⟨rfl, i, hi, hx⟩, hr⟩, hb⟩ hK
    have rr := hr.cell
    have HQ : Hid (fanB (rays ns) = false) := fan_not (i := i) (by rw [rays_len]; exact hpre.subset hi) hx
    have kk := (boxed_putObj hr (.deferred none) hK rfl).cell
    have hB2 : Below w.heap.size w (W.putObj D (.deferred none)) := hb.grown (grownBy_putObj' _ D (.deferred none)) hb.size (fun k e => by cases e; omega)
    have HE2 : Hid (CheckEnd (fanB (rays ns)) (.returned fanErr)) := by
      rw [HQ.out]
      exact fanErr_none
    have hKK := Lib.hid hK
    clear hK HQ HE
    gi_wp2
    refine ⟨by simp, .inl ⟨_, _, rfl, run_takeDeferred hKK.out, ?_⟩⟩
    exact ⟨fanErr, by simp [results, Tryd.f134, go_sem, kk], HE2.out, hB2⟩
end Go.Proofs.YtcieihbknfeddaaDoor

/- Fans: smooth ones. -/
namespace Go.Proofs.YtcieihbknfeddaaDoor
open Go.RowKit Go.Shelf

attribute [local go_sem] Oper.semAt_some

def SmoothI (w : World) (ns : List Node) (pre : List Nat) (W : World) : Prop :=
  (Boxed W w.heap.size 4 (.bool false) ∧ ∀ i ∈ pre, smB (rays ns) i = true) ∧ Below w.heap.size w W
def SmoothX (w : World) (ns : List Node) (c : Code) (pre : List Nat) (W : World) : Prop :=
  ((c = .ret ∧ ∃ i ∈ pre, smB (rays ns) i = false) ∧ Boxed W w.heap.size 4 (.bool false)) ∧ Below w.heap.size w W
theorem smoothI_own (w : World) (ns : List Node) {k : Nat} (h : w.heap.size ≤ k) : OwnFrom k (SmoothI w ns) :=
  OwnFrom.and (OwnFrom.and (Own.from (ownErr _ _ _) _) (ownFrom_pure k (fun pre => ∀ i ∈ pre, smB (rays ns) i = true))) (ownFrom_below (Nat.le_refl _) h)
theorem smoothX_own (w : World) (ns : List Node) (c : Code) {k : Nat} (h : w.heap.size ≤ k) : OwnFrom k (SmoothX w ns c) :=
  OwnFrom.and (OwnFrom.and (ownFrom_pure k (fun pre => c = .ret ∧ ∃ i ∈ pre, smB (rays ns) i = false)) (Own.from (ownErr _ _ _) _)) (ownFrom_below (Nat.le_refl _) h)
theorem allS_not {l : List V2} {i : Nat} (hi : i ∈ List.range l.length) (h : smB l i = false) : allS l = false := by
  unfold allS
  rw [List.all_eq_false]
  exact ⟨i, hi, by rw [h]; decide⟩
theorem sm_rays {ns : List Node} (h : 0 < ns.length) (x : Nat) : smB (rays ns) x = (detZ (cyc ns x).2.1 (cyc ns x).2.2 (cyc ns (x + 1)).2.1 (cyc ns (x + 1)).2.2 == 1) := by
  unfold smB detV
  rw [rays_cyc h, rays_cyc h]
set_option maxHeartbeats 8000000 in
theorem isSmooth_in (n : Nat) (hn : 3 ≤ n) (base g : Nat) (ns : List Node) (w : World) (hF : FanAt w base g ns) (hm : ns.length ≤ 1000) (hv : allVec (rays ns)) :
    CallsIn Fence.wide n Tryd.prog 129 #[.pointer (some ⟨g, 0, none⟩)] w fun e w' => e = .returned (.bool (allS (rays ns))) ∧ Below w.heap.size w w' := by
  have h1 : 1 ≤ n := by omega
  have hd : 1 ≤ n - 1 - 1 := by omega
  have hR := hF.ring
  have hp := hR.pos
  refine callsIn_of_wp_marks Tryd.func129 rfl trivial ?_ rfl
  simp only [Tryd.ntmps129, List.size_toArray, List.length_cons, List.length_nil, Nat.reduceAdd, Nat.reduceSub, Array.replicate_succ, Array.replicate_zero, List.push_toArray, List.append_toArray, List.nil_append, List.cons_append]
  gi_wp2_with fail
  refine ⟨trivial, ?_⟩
  refine CallsIn.mono (links_in _ g _) ?_
  rintro e w3 ⟨rfl, rfl⟩
  have bR := (Boxed.new w 4 (.bool false)).alloc (.cells #[.pointer (some ⟨g, 0, none⟩)] 92)
  have bF := Boxed.new (w.alloc (.cells #[.bool false] 4)) 92 (.pointer (some ⟨g, 0, none⟩))
  have hA : Below w.heap.size w ((w.alloc (.cells #[.bool false] 4)).alloc (.cells #[.pointer (some ⟨g, 0, none⟩)] 92)) := by go_grown
  have hz5 : ((w.alloc (.cells #[.bool false] 4)).alloc (.cells #[.pointer (some ⟨g, 0, none⟩)] 92)).heap.size = w.heap.size + 1 + 1 := by simp
  simp only [World.size_alloc] at bF
  gi_wp2_with fail
  generalize ((w.alloc (.cells #[.bool false] 4)).alloc (.cells #[.pointer (some ⟨g, 0, none⟩)] 92)) = W5 at *
  refine wpIn_links (by omega) rfl bF.cell hA.size (hF.below hA) (fun p hp => hR.mem_lt hp) (by omega) rfl (SmoothI w ns) (SmoothX w ns) (smoothI_own w ns (by omega)) (fun c => smoothX_own w ns c (by omega))
    ⟨⟨bR, fun i hi => by cases hi⟩, hA⟩ ?a₁ ?assign ?body ?done ?stop
  case assign =>
    intro l x W K hK
    gi_wp2
    exact hK
  case body =>
    rintro l pre x W ⟨⟨hr, hq⟩, hb⟩ hlen
    have hRW := hR.below hb
    have rl := hr.lt
    have hsz := hb.size
    have v1 := hv x
    have v2 := hv (x + 1)
    rw [rays_cyc hp] at v1 v2
    have HC := Lib.hid (linkCone_any ns x W hRW)
    have HD := Lib.hid (fun w' => index_any _ _ _ _ w' v1 v2)
    have HK := Lib.hid (sm_rays hp x)
    have HQ := Lib.hid hq
    clear v1 v2 hq
    generalize detZ (cyc ns x).2.1 (cyc ns x).2.2 (cyc ns (x + 1)).2.1 (cyc ns (x + 1)).2.2 = d at HD HK
    by_cases hd1 : d = 1
    · subst hd1
      have HX : Hid (∀ i ∈ pre ++ [x], smB (rays ns) i = true) := fun i hi => by
        rcases List.mem_append.1 hi with hi | hi
        · exact HQ.out i hi
        · obtain rfl := List.mem_singleton.1 hi
          exact HK.out
      gi_wp2_with fail
      refine ⟨trivial, ?_⟩
      refine CallsIn.mono (CallsIn.inRound l (callsIn_wide.2 HC.out)) ?_
      rintro e w1 ⟨rfl, hb1⟩
      gi_wp2_with fail
      refine ⟨trivial, ?_⟩
      refine CallsIn.mono (CallsIn.inRound l (callsIn_wide.2 (HD.out _))) ?_
      rintro e w2 ⟨rfl, hb2⟩
      have hb' := belowTo hb1 hb2
      have hr3 : Boxed w2 w.heap.size 4 (.bool false) := (hb'.block _ rl).trans hr
      have KO := Lib.hid (KeepsOthers.of_grownBy (grown_of_below hb' none) (fun _ _ e _ => by cases e))
      clear hb1 hb2
      gi_wp2
      exact ⟨KO.out, hb'.mono hsz, ⟨hr3, HX.out⟩, hb.trans (hb'.mono hsz)⟩
    · have hdf : (d == 1) = false := by simpa using hd1
      have HX : Hid (smB (rays ns) x = false) := HK.out.trans hdf
      gi_wp2_with fail
      refine ⟨trivial, ?_⟩
      refine CallsIn.mono (CallsIn.inRound l (callsIn_wide.2 HC.out)) ?_
      rintro e w1 ⟨rfl, hb1⟩
      gi_wp2_with fail
      refine ⟨trivial, ?_⟩
      refine CallsIn.mono (CallsIn.inRound l (callsIn_wide.2 (HD.out _))) ?_
      rintro e w2 ⟨rfl, hb2⟩
      have hb' := belowTo hb1 hb2
      have hr3 : Boxed w2 w.heap.size 4 (.bool false) := (hb'.block _ rl).trans hr
      have rr3 := hr3.cell
      have rf3 := hr3.frozen
      have KO := Lib.hid (KeepsOthers.of_grownBy (grown_of_below hb' none) (fun _ _ e _ => by cases e))
      clear hb1 hb2
      gi_wp2
      exact ⟨KO.out.trans (KeepsOthers.setCell _ _ _), ⟨⟨rfl, x, by simp, HX.out⟩, hr3.set _⟩, (hb.trans (hb'.mono hsz)).setCell (p := ⟨w.heap.size, 0, none⟩) (Nat.le_refl _) _⟩
  case done =>
    rintro D W hD ⟨⟨hr, hq⟩, hb⟩ hK
    have HQ : Hid (allS (rays ns) = true) := List.all_eq_true.2 (by rw [rays_len]; exact hq)
    have rr := hr.cell
    have rf := hr.frozen
    have hK' : (W.setCell ⟨w.heap.size, 0, none⟩ (.bool true)).heap[D]? = some (.deferred (some [])) := (Below.heap_setCell W ⟨w.heap.size, 0, none⟩ _ D (by simp; omega)).trans hK
    have kk := (boxed_putObj (hr.set (.bool true)) (.deferred none) hK' rfl).cell
    have hB2 : Below w.heap.size w ((W.setCell ⟨w.heap.size, 0, none⟩ (.bool true)).putObj D (.deferred none)) := (hb.setCell (p := ⟨w.heap.size, 0, none⟩) (Nat.le_refl _) (.bool true)).grown (grownBy_putObj' _ D (.deferred none)) (by simpa using hb.size) (fun k e => by cases e; omega)
    have hKK := Lib.hid hK'
    clear hK hK' hq
    gi_wp2
    refine ⟨by simp, .inl ⟨_, _, rfl, run_takeDeferred hKK.out, ?_⟩⟩
    exact ⟨.bool true, by simp [results, Tryd.f129, go_sem, kk], by rw [HQ.out], hB2⟩
  case stop =>
    rintro D c pre W hD hpre ⟨⟨⟨rfl, i, hi, hx⟩, hr⟩, hb⟩ hK
    have HQ : Hid (allS (rays ns) = false) := allS_not (i := i) (by rw [rays_len]; exact hpre.subset hi) hx
    have kk := (boxed_putObj hr (.deferred none) hK rfl).cell
    have hB2 : Below w.heap.size w (W.putObj D (.deferred none)) := hb.grown (grownBy_putObj' _ D (.deferred none)) hb.size (fun k e => by cases e; omega)
    have hKK := Lib.hid hK
    clear hK
    gi_wp2
    refine ⟨by simp, .inl ⟨_, _, rfl, run_takeDeferred hKK.out, ?_⟩⟩
    exact ⟨.bool false, by simp [results, Tryd.f129, go_sem, kk], by rw [HQ.out], hB2⟩
end Go.Proofs.YtcieihbknfeddaaDoor

/- Fans: of a list. -/
namespace Go.Proofs.YtcieihbknfeddaaDoor
open Go.RowKit

set_option maxHeartbeats 4000000 in
theorem fanCheck_small (g : Nat) (n : Nat) (w : World) (c1 : w.cell? ⟨g, 1, none⟩ = some (.int .i64 n)) (h : n < 3 ∨ 20 < n) :
    Calls Tryd.prog 134 #[.pointer (some ⟨g, 0, none⟩)] w fun e w' => IsNone e ∧ Below w.heap.size w w' := by
  have HE := Lib.hid fanErr_none
  have q1 : g < w.heap.size := World.block_lt_of_cell? w _ c1
  unfold fanErr at HE
  by_cases h3 : n < 3
  · have j1 : (n : Int) < 3 := by omega
    go_enter Tryd.func134, Tryd.ntmps134
    go_wp2
    refine bodyPost_ret (by simp [results, Tryd.results134, go_sem, *]; try rfl) rfl ?_
    exact ⟨HE.out, by go_grown⟩
  · have j1 : ¬ (n : Int) < 3 := by omega
    have j2 : 20 < (n : Int) := by omega
    have j3 : decide ((n : Int) < 3) = false := by simpa using j1
    go_enter Tryd.func134, Tryd.ntmps134
    go_wp2
    refine bodyPost_ret (by simp [results, Tryd.results134, go_sem, *]; try rfl) rfl ?_
    exact ⟨HE.out, by go_grown⟩
theorem fanCheck_any (base g : Nat) (ns : List Node) (w : World) (hg : EtOk w) (hF : FanAt w base g ns) :
    Calls Tryd.prog 134 #[.pointer (some ⟨g, 0, none⟩)] w fun e w' => CheckEnd (fanB (rays ns)) e ∧ Below w.heap.size w w' := by
  by_cases h : 3 ≤ ns.length ∧ ns.length ≤ 20
  · exact callsIn_wide.1 (fanCheck_in 4 (by omega) base g ns w hg hF h.1 h.2)
  · have hr : rng (rays ns) = false := by
      unfold rng
      rw [rays_len]
      simp
      omega
    have hf : fanB (rays ns) = false := by simp [fanB, hr]
    rw [hf]
    exact fanCheck_small g ns.length w hF.head.c1 (by omega)
/-- a fan with the rays l, if they are one -/
def FanEnd (b : Bool) (l : List V2) (w : World) (e : Ending) (w' : World) : Prop :=
  ((b = true ∧ ∃ g ns, e = .returned (.tuple #[.pointer (some ⟨g, 0, none⟩), .bool true]) ∧ FanAt w' w.heap.size g ns ∧ rays ns = l) ∨ (b = false ∧ e = .returned (.tuple #[.pointer none, .bool false]))) ∧ Below w.heap.size w w'
set_option maxHeartbeats 4000000 in
theorem madeFan (g : Nat) (b : Bool) (w : World) (hg : EtOk w) (h : Calls Tryd.prog 134 #[.pointer (some ⟨g, 0, none⟩)] w fun e w' => CheckEnd b e ∧ Below w.heap.size w w') :
    Calls Tryd.prog 123 #[.pointer (some ⟨g, 0, none⟩)] w fun e w' => e = .returned (.tuple #[.pointer (if b then some ⟨g, 0, none⟩ else none), .bool b]) ∧ Below w.heap.size w w' := by
  have HH := Lib.hid h
  clear h
  cases b
  · go_enter Tryd.func123, Tryd.ntmps123
    go_wp2_with fail
    refine Calls.mono HH.out ?_
    rintro e w1 ⟨he, hb1⟩
    obtain ⟨s, rfl⟩ : IsNone e := he
    go_wp2_with fail
    refine Calls.mono (none_hit s _ (hg.below hb1)) ?_
    rintro e w2 ⟨rfl, hb2⟩
    have hb := belowTo hb1 hb2
    clear hb1 hb2
    go_wp2
    go_returns
    exact ⟨rfl, hb⟩
  · go_enter Tryd.func123, Tryd.ntmps123
    go_wp2_with fail
    refine Calls.mono HH.out ?_
    rintro e w1 ⟨he, hb1⟩
    obtain rfl : e = .returned .nilIface := he
    go_wp2_with fail
    refine Calls.mono (none_nil _) ?_
    rintro e w2 ⟨rfl, hb2⟩
    have hb := belowTo hb1 hb2
    clear hb1 hb2
    go_wp2
    go_returns
    exact ⟨rfl, hb⟩
set_option maxHeartbeats 4000000 in
theorem linked_nil (a : Option Addr) (c : Nat) (w : World) :
    Calls Tryd.prog 112 #[.slice a 0 c] w fun e w' => e = .returned (.pointer (some ⟨w.heap.size, 0, none⟩)) ∧ w' = w.alloc (.cells #[.pointer none, .int .i64 0] 135) := by
  go_enter Tryd.func112, Tryd.ntmps112
  go_wp2
  go_returns
  exact ⟨rfl, rfl⟩
set_option maxHeartbeats 4000000 in
theorem fanOf_any (v : Value) (l : List V2) (w : World) (hl : ReadsVecs w v l) (hg : EtOk w) :
    Calls Tryd.prog 86 #[v] w (FanEnd (fanB l) l w) := by
  have hl' := hl
  obtain ⟨a, c, rfl, hc, hm, _⟩ := hl'
  by_cases h20 : 20 < l.length
  · have hf : fanB l = false := by
      have : rng l = false := by unfold rng; simp; omega
      simp [fanB, this]
    rw [hf]
    have j1 : 20 < (l.length : Int) := by omega
    clear hl hc hm
    go_enter Tryd.func86, Tryd.ntmps86
    go_wp2
    go_returns
    exact ⟨.inr ⟨rfl, rfl⟩, Below.refl _ _⟩
  · have j1 : ¬ 20 < (l.length : Int) := by omega
    by_cases h0 : l.length = 0
    · have hf : fanB l = false := by
        have : rng l = false := by unfold rng; simp; omega
        simp [fanB, this]
      rw [hf, h0]
      rw [h0] at j1
      clear hl hc hm
      have hb : Below w.heap.size w (w.alloc (.cells #[.pointer none, .int .i64 0] 135)) := by go_grown
      have HM := Lib.hid (madeFan w.heap.size false (w.alloc (.cells #[.pointer none, .int .i64 0] 135)) (hg.below hb) (Calls.mono (fanCheck_small w.heap.size 0 _ (by simp) (by omega)) (fun e w' h => h)))
      go_enter Tryd.func86, Tryd.ntmps86
      go_wp2_with fail
      refine Calls.mono (linked_nil a c w) ?_
      rintro e w1 ⟨rfl, rfl⟩
      go_wp2_with fail
      refine Calls.mono HM.out ?_
      rintro e w2 ⟨rfl, hb2⟩
      have hB := belowTo hb hb2
      clear hb2
      go_wp2
      go_returns
      exact ⟨.inr ⟨rfl, rfl⟩, hB⟩
    · have HL := Lib.hid (linked_any _ l w hl (by omega) (by omega))
      have HM := Lib.hid (fun g ns w' hg' hF => madeFan g _ w' hg' (fanCheck_any w.heap.size g ns w' hg' hF))
      clear hl hc hm
      go_enter Tryd.func86, Tryd.ntmps86
      go_wp2_with fail
      refine Calls.mono HL.out ?_
      rintro e w1 ⟨g, ns, rfl, hF, rfl, hb1⟩
      go_wp2_with fail
      refine Calls.mono (HM.out g ns _ (hg.below hb1) hF) ?_
      rintro e w2 ⟨rfl, hb2⟩
      have hF2 := Lib.hid (hF.below hb2)
      have hB := belowTo hb1 hb2
      have HB := Lib.hid (rfl : rays ns = rays ns)
      clear hb1 hb2 hF
      cases hf : fanB (rays ns)
      · have HH := Lib.hid hf
        clear hf
        go_wp2
        go_returns
        exact ⟨.inr ⟨HH.out, rfl⟩, hB⟩
      · have HH := Lib.hid hf
        clear hf
        go_wp2
        go_returns
        exact ⟨.inl ⟨HH.out, g, ns, rfl, hF2.out, rfl⟩, hB⟩
set_option maxHeartbeats 4000000 in
theorem smoothFanOf_any (v : Value) (l : List V2) (w : World) (hl : ReadsVecs w v l) (hg : EtOk w) :
    Calls Tryd.prog 94 #[v] w (FanEnd (smoothB l) l w) := by
  have HO := Lib.hid (fanOf_any v l w hl hg)
  have HV := Lib.hid (fun h => fan_vec (l := l) h)
  have HLn := Lib.hid (fun h => fan_len (l := l) h)
  unfold smoothB
  clear hl
  go_enter Tryd.func94, Tryd.ntmps94
  go_wp2_with fail
  refine Calls.mono HO.out ?_
  rintro e w1 ⟨⟨hf, g, ns, rfl, hF, hn⟩ | ⟨hf, rfl⟩, hb1⟩
  · have HFb := Lib.hid hf
    have hs : ns.length ≤ 1000 := by have := HLn.out hf; rw [← hn, rays_len] at this; omega
    have HS := Lib.hid (fun w' (h : Below w1.heap.size w1 w') => callsIn_wide.1 (isSmooth_in 3 (by omega) _ g ns w' (hF.below h) hs (by rw [hn]; exact HV.out hf)))
    rw [hn] at HS
    have HF := Lib.hid hF
    have HN := Lib.hid hn
    clear hF hn hf
    generalize hk : allS l = k at HS
    have HK := Lib.hid hk
    clear hk
    go_wp2_with fail
    refine Calls.mono (HS.out _ (Below.refl _ _)) ?_
    rintro e w2 ⟨rfl, hb2⟩
    have hF2 := Lib.hid (HF.out.below hb2)
    have hB := belowTo hb1 hb2
    clear hb1 hb2 HF HS
    cases k
    · go_wp2
      go_returns
      exact ⟨.inr ⟨by rw [HFb.out, HK.out]; rfl, rfl⟩, hB⟩
    · go_wp2
      go_returns
      exact ⟨.inl ⟨by rw [HFb.out, HK.out]; rfl, g, ns, rfl, hF2.out, HN.out⟩, hB⟩
  · have HFb := Lib.hid hf
    clear hf HV HLn
    go_wp2
    go_returns
    exact ⟨.inr ⟨by rw [HFb.out]; rfl, rfl⟩, hb1⟩
end Go.Proofs.YtcieihbknfeddaaDoor
