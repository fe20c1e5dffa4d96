import Derived.Test.YtcieihbknfeddaaDoorB9
import Derived.Test.YtcieihbknfeddaaDoorB6
/- Fans: blown up at a cone: the program. -/
namespace Go.Proofs.YtcieihbknfeddaaDoor
open Go.RowKit

/-- the sum of a ray and the next one -/
def blowP (l : List V2) (i : Nat) : V2 := ((cyc l i).1 + (cyc l (i + 1)).1, (cyc l i).2 + (cyc l (i + 1)).2)
def blowL {α : Type} (l : List α) (i : Nat) (p : α) : List α := l.take (i + 1) ++ [p] ++ l.drop (i + 1)
theorem blowL_len {α : Type} {l : List α} {i : Nat} {p : α} (h : i < l.length) : (blowL l i p).length = l.length + 1 := by
  simp [blowL]
  omega
theorem rays_blow (ns : List Node) (i q : Nat) (p : V2) : rays (blowL ns i (q, p)) = blowL (rays ns) i p := by simp [rays, blowL, List.map_take, List.map_drop]
theorem rot_blow {ns : List Node} {i : Nat} {p : Node} : rot (ns.length - (i + 1)) (rot (i + 1) ns ++ [p]) = blowL ns i p := by
  unfold rot blowL
  rw [List.append_assoc, ← List.length_drop, List.drop_left, List.take_left]
theorem blow_zero {ns : List Node} {i : Nat} {p : Node} (h : i < ns.length) : cyc (blowL ns i p) 0 = cyc ns 0 := by
  rw [cyc_lt (by rw [blowL_len h]; omega), cyc_lt (by omega)]
  unfold blowL
  rw [List.append_assoc, List.getElem?_append_left (by simp; omega), List.getElem?_take_of_lt (by omega)]
theorem mem_blow {ns : List Node} {i : Nat} {p q : Node} (h : p ∈ blowL ns i q) : p ∈ ns ∨ p = q := by
  unfold blowL at h
  rcases List.mem_append.1 h with h | h
  · rcases List.mem_append.1 h with h | h
    · exact .inl (List.mem_of_mem_take h)
    · exact .inr (List.mem_singleton.1 h)
  · exact .inl (List.mem_of_mem_drop h)
theorem mem_rot {ns : List Node} {k : Nat} {p : Node} (h : p ∈ rot k ns) : p ∈ ns := by
  unfold rot at h
  rcases List.mem_append.1 h with h | h
  · exact List.mem_of_mem_drop h
  · exact List.mem_of_mem_take h
/-- what 'blow' leaves -/
def BlowEnd (base g : Nat) (ns : List Node) (i : Nat) (w : World) (e : Ending) (w' : World) : Prop :=
  CheckEnd (fanB (blowL (rays ns) i (blowP (rays ns) i))) e ∧ (∃ q, FanAt w' base g (blowL ns i (q, blowP (rays ns) i))) ∧ Below base w w'
set_option linter.unusedSimpArgs false in
set_option maxHeartbeats 8000000 in
theorem blow_at (base g : Nat) (ns : List Node) (i : Nat) (w : World) (hF : FanAt w base g ns) (hm : ns.length ≤ 1000) (hi : i < ns.length) (hv : allVec (rays ns)) (hg : EtOk w) (hbase : base ≤ w.heap.size) (hb0 : 0 < base) :
    Calls Tryd.prog 102 #[.pointer (some ⟨g, 0, none⟩), .int .i64 i] w (BlowEnd base g ns i w) := by
  have hR := hF.ring
  have hp := hR.pos
  have HA := Lib.hid (at_in base g ns i w hF hm hi)
  have hr := hR.rot (k := i + 1) (by omega)
  have hlast : cyc (rot (i + 1) ns) ((rot (i + 1) ns).length - 1) = cyc ns i := by
    rw [rot_len, cyc_rot (by omega), show i + 1 + (ns.length - 1) = i + ns.length by omega, cyc_add]
  have HP := Lib.hid (fun w1 (h1 : Below w.heap.size w w1) x y => put_last (rot (i + 1) ns) x y w1 (hr.below h1))
  rw [hlast] at HP
  have v1 := hv i
  have v2 := hv (i + 1)
  have hBP : blowP (rays ns) i = ((cyc (rays ns) i).1 + (cyc (rays ns) (i + 1)).1, (cyc (rays ns) i).2 + (cyc (rays ns) (i + 1)).2) := rfl
  rw [rays_cyc hp] at v1 v2
  rw [rays_cyc hp, rays_cyc hp] at hBP
  have HBP := Lib.hid hBP
  have HPl := Lib.hid (fun w' => plus_any _ _ _ _ w' v1 v2)
  have HEnd : Hid (∀ w1 w2 q p, Below w.heap.size w w1 → w1.heap.size ≤ q → Ring w2 (rot (i + 1) ns ++ [(q, p)]) → Touched (rot (i + 1) ns) w1 w2 →
      Fan0 w2 g (cyc ns 0).1 ns.length ∧ FanAt (w2.setCell ⟨g, 1, none⟩ (.int .i64 ((ns.length : Int) + 1))) base g (blowL ns i (q, p)) ∧ Below base w (w2.setCell ⟨g, 1, none⟩ (.int .i64 ((ns.length : Int) + 1)))) := by
    intro w1 w2 q p hb hq hR2 hT
    have hgl := hF.head.lt
    have h0 : Fan0 w2 g (cyc ns 0).1 ns.length := (hT.block g (Nat.lt_of_lt_of_le hgl hb.size) (fun p hp => hF.apart p (mem_rot hp))).trans ((hb.block g hgl).trans hF.head)
    have hqg : q ≠ g := by have := hb.size; omega
    have e1 : ((ns.length : Int) + 1) = ((ns.length + 1 : Nat) : Int) := by omega
    refine ⟨h0, ⟨?_, ?_, fun r hr => ?_, fun r hr => ?_, hF.lowg⟩, ?_⟩
    · rw [← rot_blow]
      refine (hR2.same (fun r hr => Below.heap_setCell _ ⟨g, 1, none⟩ _ _ ?_)).rot (by simp [rot_len]; omega)
      rcases List.mem_append.1 hr with hr | hr
      · exact hF.apart r (mem_rot hr)
      · rw [List.mem_singleton.1 hr]; exact hqg
    · rw [blow_zero hi, blowL_len hi, e1]
      exact h0.set1 (ns.length + 1)
    · rcases mem_blow hr with hr | rfl
      · exact hF.apart r hr
      · exact hqg
    · rcases mem_blow hr with hr | rfl
      · exact hF.low r hr
      · have := hb.size; show base ≤ q; omega
    · have hb1 : Below base w1 w2 := hT.below (Nat.le_trans hbase hb.size) (fun r hr => hF.low r (mem_rot hr))
      exact ((hb.mono hbase).trans hb1).setCell (p := ⟨g, 1, none⟩) hF.lowg _
  have hL := hR.link i
  have hZ := hR.link (i + 1)
  have c0 := hL.c0
  have c1 := hL.c1
  have c3 := hL.c3
  have d0 := hZ.c0
  have d1 := hZ.c1
  have l1 := hL.lt
  have l2 := hZ.lt
  have gl := hF.head.lt
  have HC := Lib.hid (fun w' q p (hF' : FanAt w' base g (blowL ns i (q, p))) (hg' : EtOk w') => fanCheck_any base g (blowL ns i (q, p)) w' hg' hF')
  have HRB := Lib.hid (fun q p => rays_blow ns i q p)
  have HG := Lib.hid hg
  have hnl : (ns.length : Int) ≤ 1000 := by omega
  have hn0 : (0 : Int) ≤ (ns.length : Int) := by omega
  unfold BlowEnd
  generalize hP : blowP (rays ns) i = P at *
  generalize (cyc ns i).2 = p1 at *
  generalize (cyc ns (i + 1)).2 = p2 at *
  generalize (cyc ns (i + 1)).1 = Z at *
  generalize (cyc ns i).1 = L at *
  obtain ⟨x1, y1⟩ := p1
  obtain ⟨x2, y2⟩ := p2
  dsimp only at c0 c1 d0 d1 HPl HBP v1 v2
  obtain rfl : P = (x1 + x2, y1 + y2) := HBP.out
  clear hL hZ hR hr hF hv v1 v2 hg hlast hp HBP hi hP hBP
  go_enter Tryd.func102, Tryd.ntmps102
  go_wp2_with fail
  refine Calls.mono HA.out ?_
  rintro e w0 ⟨rfl, rfl⟩
  go_wp2
  refine wp_region_any (by kernel_rfl) ?_
  try (change wpAny _ _ _ _ _ _ _ (World.drew _))
  refine wpAny_take (i := 0) (v := ?_) rfl (by kernel_rfl) (by kernel_rfl) (by kernel_rfl) (fun _ _ _ h => h) (Or.inl ⟨by rfl, ?_⟩) ?_
  rotate_left
  focus (intro w0; go_simp; try with_reducible rfl)
  refine wpAny_take (i := 1) (v := ?_) rfl (by kernel_rfl) (by kernel_rfl) (by kernel_rfl) (fun _ _ _ h => h) (Or.inl ⟨by rfl, ?_⟩) ?_
  rotate_left
  focus (intro w0; go_simp; try with_reducible rfl)
  refine wpAny_take (i := 2) (v := ?_) rfl (by kernel_rfl) (by kernel_rfl) (by kernel_rfl) (fun _ _ _ h => h) (Or.inl ⟨by rfl, ?_⟩) ?_
  rotate_left
  focus (intro w0; go_simp; try with_reducible rfl)
  refine wpAny_take (i := 3) (v := ?_) rfl (by kernel_rfl) (by kernel_rfl) (by kernel_rfl) (fun _ _ _ h => h) (Or.inl ⟨by rfl, ?_⟩) ?_
  rotate_left
  focus (intro w0; go_simp; try with_reducible rfl)
  refine wpAny_take (i := 5) (v := ?_) rfl (by kernel_rfl) (by kernel_rfl) (by kernel_rfl) (fun _ _ _ h => h) (Or.inl ⟨by rfl, ?_⟩) ?_
  rotate_left
  focus (intro w0; go_simp; try with_reducible rfl)
  refine wpAny_take (i := 6) (v := ?_) rfl (by kernel_rfl) (by kernel_rfl) (by kernel_rfl) (fun _ _ _ h => h) (Or.inl ⟨by rfl, ?_⟩) ?_
  rotate_left
  focus (intro w0; go_simp; try with_reducible rfl)
  refine wpAny_take (i := 7) (v := ?_) rfl (by kernel_rfl) (by kernel_rfl) (by kernel_rfl) (fun _ _ _ h => h) (Or.inl ⟨by rfl, ?_⟩) ?_
  rotate_left
  focus (intro w0; go_simp; try with_reducible rfl)
  refine wpAny_ready (rs := [4, 8]) (by kernel_rfl) (by simp) (AllReady.cons rfl (fun K hK => ?_) (AllReady.cons rfl (fun K hK => ?_) (AllReady.nil)))
  focus
    go_simp
    refine hK _ _ ?_
    clear hK K
    refine wpAny_ready (rs := [8]) (by kernel_rfl) (by simp) (AllReady.cons rfl (fun K hK => ?_) (AllReady.nil))
    go_simp
    refine hK _ _ ?_
    clear hK K
    refine wpAny_ready (rs := [9]) (by kernel_rfl) (by simp) (AllReady.cons rfl (fun K hK => ?_) (AllReady.nil))
    go_simp
    refine hK _ _ ?_
    clear hK K
    refine wpAny_ready (rs := [10]) (by kernel_rfl) (by simp) (AllReady.cons rfl (fun K hK => ?_) (AllReady.nil))
    go_simp
    refine hK _ _ ?_
    clear hK K
    refine wpAny_ready (rs := [11]) (by kernel_rfl) (by simp) (AllReady.cons rfl (fun K hK => ?_) (AllReady.nil))
    go_simp
    refine hK _ _ ?_
    clear hK K
    refine wpAny_ready (rs := [12]) (by kernel_rfl) (by simp) (AllReady.cons rfl (fun K hK => ?_) (AllReady.nil))
    go_simp
    (refine Calls.mono (HPl.out _) ?_; rintro e w1 ⟨rfl, hb1⟩; replace hb1 := undrew hb1)
    refine hK _ _ ?_
    clear hK K
    refine wpAny_seq 13 rfl (by kernel_rfl) ?_
    simp only [List.drop_succ_cons, List.drop_zero]
  rotate_left 1
  focus
    go_simp
    refine hK _ _ ?_
    clear hK K
    refine wpAny_ready (rs := [4, 9]) (by kernel_rfl) (by simp) (AllReady.cons rfl (fun K hK => ?_) (AllReady.cons rfl (fun K hK => ?_) (AllReady.nil)))
    focus
      go_simp
      refine hK _ _ ?_
      clear hK K
      refine wpAny_ready (rs := [9]) (by kernel_rfl) (by simp) (AllReady.cons rfl (fun K hK => ?_) (AllReady.nil))
      go_simp
      refine hK _ _ ?_
      clear hK K
      refine wpAny_ready (rs := [10]) (by kernel_rfl) (by simp) (AllReady.cons rfl (fun K hK => ?_) (AllReady.nil))
      go_simp
      refine hK _ _ ?_
      clear hK K
      refine wpAny_ready (rs := [11]) (by kernel_rfl) (by simp) (AllReady.cons rfl (fun K hK => ?_) (AllReady.nil))
      go_simp
      refine hK _ _ ?_
      clear hK K
      refine wpAny_ready (rs := [12]) (by kernel_rfl) (by simp) (AllReady.cons rfl (fun K hK => ?_) (AllReady.nil))
      go_simp
      (refine Calls.mono (HPl.out _) ?_; rintro e w1 ⟨rfl, hb1⟩; replace hb1 := undrew hb1)
      refine hK _ _ ?_
      clear hK K
      refine wpAny_seq 13 rfl (by kernel_rfl) ?_
      simp only [List.drop_succ_cons, List.drop_zero]
    rotate_left 1
    focus
      go_simp
      refine hK _ _ ?_
      clear hK K
      refine wpAny_ready (rs := [4, 10]) (by kernel_rfl) (by simp) (AllReady.cons rfl (fun K hK => ?_) (AllReady.cons rfl (fun K hK => ?_) (AllReady.nil)))
      focus
        go_simp
        refine hK _ _ ?_
        clear hK K
        refine wpAny_ready (rs := [10]) (by kernel_rfl) (by simp) (AllReady.cons rfl (fun K hK => ?_) (AllReady.nil))
        go_simp
        refine hK _ _ ?_
        clear hK K
        refine wpAny_ready (rs := [11]) (by kernel_rfl) (by simp) (AllReady.cons rfl (fun K hK => ?_) (AllReady.nil))
        go_simp
        refine hK _ _ ?_
        clear hK K
        refine wpAny_ready (rs := [12]) (by kernel_rfl) (by simp) (AllReady.cons rfl (fun K hK => ?_) (AllReady.nil))
        go_simp
        (refine Calls.mono (HPl.out _) ?_; rintro e w1 ⟨rfl, hb1⟩; replace hb1 := undrew hb1)
        refine hK _ _ ?_
        clear hK K
        refine wpAny_seq 13 rfl (by kernel_rfl) ?_
        simp only [List.drop_succ_cons, List.drop_zero]
      rotate_left 1
      focus
        go_simp
        refine hK _ _ ?_
        clear hK K
        refine wpAny_ready (rs := [4, 11]) (by kernel_rfl) (by simp) (AllReady.cons rfl (fun K hK => ?_) (AllReady.cons rfl (fun K hK => ?_) (AllReady.nil)))
        focus
          go_simp
          refine hK _ _ ?_
          clear hK K
          refine wpAny_ready (rs := [11]) (by kernel_rfl) (by simp) (AllReady.cons rfl (fun K hK => ?_) (AllReady.nil))
          go_simp
          refine hK _ _ ?_
          clear hK K
          refine wpAny_ready (rs := [12]) (by kernel_rfl) (by simp) (AllReady.cons rfl (fun K hK => ?_) (AllReady.nil))
          go_simp
          (refine Calls.mono (HPl.out _) ?_; rintro e w1 ⟨rfl, hb1⟩; replace hb1 := undrew hb1)
          refine hK _ _ ?_
          clear hK K
          refine wpAny_seq 13 rfl (by kernel_rfl) ?_
          simp only [List.drop_succ_cons, List.drop_zero]
        rotate_left 1
        focus
          go_simp
          refine hK _ _ ?_
          clear hK K
          refine wpAny_ready (rs := [4]) (by kernel_rfl) (by simp) (AllReady.cons rfl (fun K hK => ?_) (AllReady.nil))
          go_simp
          refine hK _ _ ?_
          clear hK K
          refine wpAny_ready (rs := [12]) (by kernel_rfl) (by simp) (AllReady.cons rfl (fun K hK => ?_) (AllReady.nil))
          go_simp
          (refine Calls.mono (HPl.out _) ?_; rintro e w1 ⟨rfl, hb1⟩; replace hb1 := undrew hb1)
          refine hK _ _ ?_
          clear hK K
          refine wpAny_seq 13 rfl (by kernel_rfl) ?_
          simp only [List.drop_succ_cons, List.drop_zero]
  all_goals
    go_wp2_with fail
    refine Calls.mono (HP.out _ hb1 _ _) ?_
    rintro e w2 ⟨⟨v, rfl⟩, q, hq, R2, T2⟩
    obtain ⟨h0, hF3, hB3⟩ := HEnd.out w1 w2 q _ hb1 hq R2 T2
    have a0 := h0.c1
    have a1 := h0.free 1
    have al := h0.lt
    have HF3 := Lib.hid hF3
    have HB3 := Lib.hid hB3
    have hG3 : EtOk (w2.setCell ⟨g, 1, none⟩ (.int .i64 ((ns.length : Int) + 1))) := by
      unfold EtOk
      rw [hB3.cell (p := ⟨0, 0, none⟩) hb0]
      exact HG.out
    have HG3 := Lib.hid hG3
    clear hG3
    clear h0 hF3 hB3 R2 T2 hb1 hq
    go_wp2_with fail
    refine Calls.mono (HC.out _ _ _ HF3.out HG3.out) ?_
    rintro e w4 ⟨hc, hb4⟩
    rw [HRB.out] at hc
    have HF4 := Lib.hid (HF3.out.below hb4)
    have HB4 := Lib.hid (HB3.out.trans (hb4.mono (Nat.le_trans hbase HB3.out.size)))
    clear hb4 HF3 HB3 HG3 HC
    generalize hk : fanB (blowL (rays ns) i (x1 + x2, y1 + y2)) = b at hc
    have HK := Lib.hid hk
    clear hk
    cases b
    · obtain ⟨s, rfl⟩ : IsNone e := hc
      go_wp2
      go_returns
      exact ⟨by rw [HK.out]; exact ⟨s, rfl⟩, ⟨q, HF4.out⟩, HB4.out⟩
    · obtain rfl : e = .returned .nilIface := hc
      go_wp2
      go_returns
      exact ⟨by rw [HK.out]; rfl, ⟨q, HF4.out⟩, HB4.out⟩
theorem blow_out (base g : Nat) (ns : List Node) (i : Int) (w : World) (hF : FanAt w base g ns) (hi : i < 0 ∨ (ns.length : Int) ≤ i) :
    Calls Tryd.prog 102 #[.pointer (some ⟨g, 0, none⟩), .int .i64 i] w fun e w' => IsNone e ∧ Below w.heap.size w w' := by
  have HA := Lib.hid (at_out base g ns i w hF hi)
  clear hF hi
  go_enter Tryd.func102, Tryd.ntmps102
  go_wp2_with fail
  refine Calls.mono HA.out ?_
  rintro e w0 ⟨rfl, rfl⟩
  go_wp2
  go_returns
  exact ⟨⟨_, rfl⟩, Below.refl _ _⟩
def blowB (l : List V2) (i : Int) : Bool := idxB l i && fanB (blowL l i.toNat (blowP l i.toNat))
set_option maxHeartbeats 8000000 in
theorem fanBlow_any (v : Value) (l : List V2) (i : Int) (w : World) (hl : ReadsVecs w v l) (hg : EtOk w) :
    Calls Tryd.prog 49 #[v, .int .i64 i] w (GivesVecsOk w (gV (smoothB l && blowB l i) (blowL l i.toNat (blowP l i.toNat))) (smoothB l && blowB l i)) := by
  have HO := Lib.hid (smoothFanOf_any v l w hl hg)
  have HV := Lib.hid (fun h => (smooth_all (l := l) h).1)
  have HS := Lib.hid (fun (ns : List Node) h hn => fan_small (l := l) (ns := ns) (smooth_in h).1 hn)
  have HG := Lib.hid hg
  have h0 := hg.pos
  clear hl hg
  unfold blowB
  cases hb : smoothB l
  · rw [hb] at HO
    clear hb HV HS
    go_enter Tryd.func49, Tryd.ntmps49
    go_wp2_with fail
    refine Calls.mono HO.out ?_
    rintro e w1 ⟨⟨h, _⟩ | ⟨_, rfl⟩, hb1⟩
    · cases h
    · go_wp2
      go_returns
      exact ⟨_, rfl, Vecs.nil _ _, hb1⟩
  · rw [hb] at HO HV HS
    clear hb
    cases hi : idxB l i
    · have HX := Lib.hid (fun base g (ns : List Node) w' hF (hn : ns.length = l.length) => blow_out base g ns i w' hF (by rw [hn]; exact idx_out hi))
      clear hi
      go_enter Tryd.func49, Tryd.ntmps49
      go_wp2_with fail
      refine Calls.mono HO.out ?_
      rintro e w1 ⟨⟨_, g, ns, rfl, hF, hn⟩ | ⟨h, _⟩, hb1⟩
      · obtain ⟨hs, hnl⟩ := HS.out ns (by simp) hn
        have HA := Lib.hid (HX.out _ g ns w1 hF hnl)
        have HG1 := Lib.hid (HG.out.below hb1)
        clear hF hn hnl hs
        go_wp2_with fail
        refine Calls.mono HA.out ?_
        rintro e w2 ⟨⟨s, rfl⟩, hb2⟩
        have HN := Lib.hid (none_hit s w2 (HG1.out.below hb2))
        replace hb1 := belowTo hb1 hb2
        clear hb2
        go_wp2_with fail
        refine Calls.mono HN.out ?_
        rintro e w3 ⟨rfl, hb3⟩
        replace hb1 := belowTo hb1 hb3
        clear hb3
        go_wp2
        go_returns
        exact ⟨_, rfl, Vecs.nil _ _, hb1⟩
      · cases h
    · obtain ⟨m, rfl, hm⟩ := idx_in hi
      rw [Int.toNat_natCast]
      clear hi
      go_enter Tryd.func49, Tryd.ntmps49
      go_wp2_with fail
      refine Calls.mono HO.out ?_
      rintro e w1 ⟨⟨_, g, ns, rfl, hF, hn⟩ | ⟨h, _⟩, hb1⟩
      · obtain ⟨hs, hnl⟩ := HS.out ns (by simp) hn
        have HA := Lib.hid (blow_at _ g ns m w1 hF hs (by omega) (by rw [hn]; exact HV.out (by simp)) (HG.out.below hb1) hb1.size h0)
        have HFL : Hid (∀ q p, fanB (blowL (rays ns) m p) = true → (blowL ns m (q, p)).length ≤ 1000) := fun q p h => by
          have := fan_len h
          rw [← rays_blow ns m q p, rays_len] at this
          omega
        have HRB := Lib.hid (fun q p => rays_blow ns m q p)
        unfold BlowEnd at HA
        rw [hn] at HA HFL HRB
        clear hF hn hnl hs hm HO HV HS
        generalize hP : blowP l m = P at HA
        have HP := Lib.hid hP
        clear hP
        go_wp2_with fail
        refine Calls.mono HA.out ?_
        rintro e w2 ⟨hc, ⟨q, hF2⟩, hB2⟩
        have hB := hb1.trans hB2
        have HG2 : Hid (EtOk w2) := by
          show EtOk w2
          have := HG.out
          unfold EtOk at *
          rw [hB.cell (p := ⟨0, 0, none⟩) h0]
          exact this
        have HF2 := Lib.hid hF2
        clear hF2 hB2 hb1 HA
        cases hk : fanB (blowL l m P)
        · rw [hk] at hc
          have HK : Hid (fanB (blowL l m (blowP l m)) = false) := by rw [HP.out]; exact hk
          clear hk
          obtain ⟨s, rfl⟩ : IsNone e := hc
          go_wp2_with fail
          refine Calls.mono (none_hit s w2 HG2.out) ?_
          rintro e w3 ⟨rfl, hb3⟩
          replace hB := belowTo hB hb3
          clear hb3
          go_wp2
          go_returns
          rw [HK.out]
          exact ⟨_, rfl, Vecs.nil _ _, hB⟩
        · rw [hk] at hc
          have HK : Hid (fanB (blowL l m (blowP l m)) = true) := by rw [HP.out]; exact hk
          have HR := Lib.hid (fun w' (hb : Below w2.heap.size w2 w') => rays_any _ g _ w' (HF2.out.below hb) (HFL.out q P hk))
          rw [HRB.out] at HR
          clear hk
          obtain rfl : e = .returned .nilIface := hc
          go_wp2_with fail
          refine Calls.mono (none_nil _) ?_
          rintro e w3 ⟨rfl, hb3⟩
          go_wp2_with fail
          refine Calls.mono (HR.out _ hb3) ?_
          rintro e w4 ⟨v4, rfl, hV, hb4⟩
          replace hB := belowTo hB hb3
          have HV4 := Lib.hid (hV.lower hB.size)
          replace hB := belowTo hB hb4
          clear hb3 hb4 hV HR
          go_wp2
          go_returns
          rw [HK.out, HP.out]
          exact ⟨_, rfl, HV4.out, hB⟩
      · cases h
end Go.Proofs.YtcieihbknfeddaaDoor

/- Least fans: the mathematics. -/
namespace Go.Proofs.YtcieihbknfeddaaDoor
open Go.RowKit

theorem cyc_app_lt {α : Type} [Inhabited α] {l : List α} {p : α} {i : Nat} (h : i < l.length) : cyc (l ++ [p]) i = cyc l i := by
  rw [cyc_lt h, cyc_lt (by simp; omega), List.getElem?_append_left h]
theorem cyc_app_last {α : Type} [Inhabited α] {l : List α} {p : α} : cyc (l ++ [p]) l.length = p := by
  rw [cyc_lt (by simp), List.getElem?_append_right (Nat.le_refl _)]
  simp
theorem smooth_rot {l : List V2} {k : Nat} (h : Smooth l) (hk : k ≤ l.length) : Smooth (rot k l) := by
  refine ⟨fun i => ?_, fun i => ?_⟩
  · rw [cyc_rot hk]
    exact h.1 _
  · rw [cyc_rot hk, cyc_rot hk]
    exact h.2 (k + i)
theorem smooth_of {l : List V2} (h0 : 0 < l.length) (h1 : ∀ i, i < l.length → vecB (cyc l i).1 (cyc l i).2 = true) (h2 : ∀ i, i < l.length → detV (cyc l i) (cyc l (i + 1)) = 1) : Smooth l := by
  refine ⟨fun i => ?_, fun i => ?_⟩
  · have := h1 _ (Nat.mod_lt i h0)
    rwa [cyc_mod] at this
  · have := h2 _ (Nat.mod_lt i h0)
    rwa [cyc_mod, show cyc l (i % l.length + 1) = cyc l (i + 1) from cyc_congr l (by rw [Nat.mod_add_mod])] at this
theorem smooth_last {l : List V2} {p : V2} (h : Smooth (l ++ [p])) (h0 : 0 < l.length) (hd : detV (cyc l (l.length - 1)) (cyc l 0) = 1) : Smooth l := by
  refine smooth_of h0 (fun i hi => ?_) (fun i hi => ?_)
  · have := h.1 i
    rwa [cyc_app_lt hi] at this
  · by_cases e : i + 1 = l.length
    · rw [cyc_next, if_pos e, show i = l.length - 1 by omega]
      exact hd
    · have := h.2 i
      rwa [cyc_app_lt hi, cyc_app_lt (by omega)] at this
theorem rot_lastV {l : List V2} {i : Nat} (h : i < l.length) : rot (i + 1) l = (l.drop (i + 1) ++ l.take i) ++ [cyc l i] := by
  unfold rot
  rw [List.take_add_one, cyc_get h, List.append_assoc]
  rfl
theorem rot_downV {l : List V2} {i : Nat} : rot (l.length - (i + 1)) (l.drop (i + 1) ++ l.take i) = downL l i := by
  unfold rot downL
  rw [← List.length_drop, List.drop_left, List.take_left]
theorem smooth_down {l : List V2} {i : Nat} (h : Smooth l) (hi : i < l.length) (hd : downB l i = true) : Smooth (downL l i) := by
  have hd' := hd
  unfold downB at hd'
  rw [Bool.and_eq_true] at hd'
  have h3 : 3 < l.length := of_decide_eq_true hd'.1
  have hn : numZ l i = -1 := by simpa using hd'.2
  have hr := smooth_rot (k := i + 1) h (by omega)
  rw [rot_lastV hi] at hr
  have hml : (l.drop (i + 1) ++ l.take i).length = l.length - 1 := by simp; omega
  have e1 : cyc (l.drop (i + 1) ++ l.take i) (l.length - 2) = cyc l (i + l.length - 1) := by
    have : cyc (rot (i + 1) l) (l.length - 2) = cyc l (i + 1 + (l.length - 2)) := cyc_rot (by omega) _
    rw [rot_lastV hi, cyc_app_lt (by omega)] at this
    rw [this, show i + 1 + (l.length - 2) = i + l.length - 1 by omega]
  have e2 : cyc (l.drop (i + 1) ++ l.take i) 0 = cyc l (i + 1) := by
    have : cyc (rot (i + 1) l) 0 = cyc l (i + 1 + 0) := cyc_rot (by omega) _
    rw [rot_lastV hi, cyc_app_lt (by omega)] at this
    exact this
  have hs := smooth_last hr (by omega) (by
    rw [hml, show l.length - 1 - 1 = l.length - 2 by omega, e1, e2]
    unfold numZ at hn
    omega)
  rw [← rot_downV]
  exact smooth_rot hs (by omega)
/-- the first index at which a ray can be blown down -/
def firstD (l : List V2) : Option Nat := (List.range l.length).find? (downB l)
theorem firstD_some {l : List V2} {k : Nat} (hk : k < l.length) (h1 : downB l k = true) (h2 : ∀ i, i < k → downB l i = false) : firstD l = some k := by
  unfold firstD
  have e : List.range l.length = List.range k ++ k :: (List.range l.length).drop (k + 1) := by
    have e1 : List.range k ++ [k] = (List.range l.length).take (k + 1) := by rw [List.take_range, Nat.min_eq_left (by omega), List.range_succ]
    rw [List.append_cons, e1, List.take_append_drop]
  rw [e, List.find?_append]
  have : (List.range k).find? (downB l) = none := by
    rw [List.find?_eq_none]
    intro x hx
    rw [h2 x (List.mem_range.1 hx)]
    decide
  rw [this, List.find?_cons_of_pos h1]
  rfl
theorem firstD_none {l : List V2} (h : ∀ i, i < l.length → downB l i = false) : firstD l = none := by
  unfold firstD
  rw [List.find?_eq_none]
  intro x hx
  rw [h x (List.mem_range.1 hx)]
  decide
def leastN : Nat → List V2 → List V2
  | 0, l => l
  | k + 1, l => match firstD l with
    | none => l
    | some i => leastN k (downL l i)
def leastL (l : List V2) : List V2 := leastN l.length l
theorem least_step {l : List V2} {k : Nat} (hk : k < l.length) (h1 : downB l k = true) (h2 : ∀ i, i < k → downB l i = false) : leastL l = leastL (downL l k) := by
  unfold leastL
  rw [downL_len hk]
  obtain ⟨n, hn⟩ : ∃ n, l.length = n + 1 := ⟨l.length - 1, by omega⟩
  rw [hn, Nat.add_sub_cancel]
  show (match firstD l with | none => l | some i => leastN n (downL l i)) = _
  rw [firstD_some hk h1 h2]
theorem least_end {l : List V2} (h : ∀ i, i < l.length → downB l i = false) : leastL l = l := by
  unfold leastL
  cases hn : l.length with
  | zero => rfl
  | succ n =>
    show (match firstD l with | none => l | some i => leastN n (downL l i)) = _
    rw [firstD_none h]
theorem leastN_len (k : Nat) : ∀ l : List V2, (leastN k l).length ≤ l.length := by
  induction k with
  | zero => intro l; exact Nat.le_refl _
  | succ k ih =>
    intro l
    show (match firstD l with | none => l | some i => leastN k (downL l i)).length ≤ _
    cases firstD l with
    | none => exact Nat.le_refl _
    | some i =>
      refine Nat.le_trans (ih _) ?_
      simp [downL]
      omega
theorem least_len (l : List V2) : (leastL l).length ≤ l.length := leastN_len _ _
end Go.Proofs.YtcieihbknfeddaaDoor
