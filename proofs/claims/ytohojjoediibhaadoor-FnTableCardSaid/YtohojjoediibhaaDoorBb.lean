import Derived.Test.YtohojjoediibhaaDoorB9
import Derived.Test.YtohojjoediibhaaDoorBa
import Derived.Test.YtohojjoediibhaaDoorB6
import Derived.Test.YtohojjoediibhaaDoorB3
/- Fans: blown up at a cone: the program. -/
namespace Go.Proofs.YtohojjoediibhaaDoor
open Go.RowKit

/-- the sum of a ray and the next one -/
def blowP (l : List V2) (i : Nat) : V2 := ((cyc l i).1 + (cyc l (i + 1)).1, (cyc l i).2 + (cyc l (i + 1)).2)
def blowL {α : Type} (l : List α) (i : Nat) (p : α) : List α := l.take (i + 1) ++ [p] ++ l.drop (i + 1)
theorem blowL_len {α : Type} {l : List α} {i : Nat} {p : α} (h : i < l.length) : (blowL l i p).length = l.length + 1 := by
  simp [blowL]
  omega
theorem rays_blow (ns : List Node) (i q : Nat) (p : V2) : rays (blowL ns i (q, p)) = blowL (rays ns) i p := by simp [rays, blowL, List.map_take, List.map_drop]
theorem rot_blow {ns : List Node} {i : Nat} {p : Node} : rot (ns.length - (i + 1)) (rot (i + 1) ns ++ [p]) = blowL ns i p := by
  unfold rot blowL
  rw [List.append_assoc, ← List.length_drop, List.drop_left, List.take_left]
theorem blow_zero {ns : List Node} {i : Nat} {p : Node} (h : i < ns.length) : cyc (blowL ns i p) 0 = cyc ns 0 := by
  rw [cyc_lt (by rw [blowL_len h]; omega), cyc_lt (by omega)]
  unfold blowL
  rw [List.append_assoc, List.getElem?_append_left (by simp; omega), List.getElem?_take_of_lt (by omega)]
theorem mem_blow {ns : List Node} {i : Nat} {p q : Node} (h : p ∈ blowL ns i q) : p ∈ ns ∨ p = q := by
  unfold blowL at h
  rcases List.mem_append.1 h with h | h
  · rcases List.mem_append.1 h with h | h
    · exact .inl (List.mem_of_mem_take h)
    · exact .inr (List.mem_singleton.1 h)
  · exact .inl (List.mem_of_mem_drop h)
theorem mem_rot {ns : List Node} {k : Nat} {p : Node} (h : p ∈ rot k ns) : p ∈ ns := by
  unfold rot at h
  rcases List.mem_append.1 h with h | h
  · exact List.mem_of_mem_drop h
  · exact List.mem_of_mem_take h
/-- what 'blow' leaves -/
def BlowEnd (base g : Nat) (ns : List Node) (i : Nat) (w : World) (e : Ending) (w' : World) : Prop :=
  CheckEnd (fanB (blowL (rays ns) i (blowP (rays ns) i))) e ∧ (∃ q, FanAt w' base g (blowL ns i (q, blowP (rays ns) i))) ∧ Below base w w'
set_option linter.unusedSimpArgs false in
set_option maxHeartbeats 8000000 in
theorem blow_at (base g : Nat) (ns : List Node) (i : Nat) (w : World) (hF : FanAt w base g ns) (hm : ns.length ≤ 1000) (hi : i < ns.length) (hv : allVec (rays ns)) (hg : EtOk w) (hbase : base ≤ w.heap.size) (hb0 : 0 < base) :
    Calls Tryd.prog 114 #[.pointer (some ⟨g, 0, none⟩), .int .i64 i] w (BlowEnd base g ns i w) := by
  have hR := hF.ring
  have hp := hR.pos
  have HA := Lib.hid (at_in base g ns i w hF hm hi)
  have hr := hR.rot (k := i + 1) (by omega)
  have hlast : cyc (rot (i + 1) ns) ((rot (i + 1) ns).length - 1) = cyc ns i := by
    rw [rot_len, cyc_rot (by omega), show i + 1 + (ns.length - 1) = i + ns.length by omega, cyc_add]
  have HP := Lib.hid (fun w1 (h1 : Below w.heap.size w w1) x y => put_last (rot (i + 1) ns) x y w1 (hr.below h1))
  rw [hlast] at HP
  have v1 := hv i
  have v2 := hv (i + 1)
  have hBP : blowP (rays ns) i = ((cyc (rays ns) i).1 + (cyc (rays ns) (i + 1)).1, (cyc (rays ns) i).2 + (cyc (rays ns) (i + 1)).2) := rfl
  rw [rays_cyc hp] at v1 v2
  rw [rays_cyc hp, rays_cyc hp] at hBP
  have HBP := Lib.hid hBP
  have HPl := Lib.hid (fun w' => plus_any _ _ _ _ w' v1 v2)
  have HEnd : Hid (∀ w1 w2 q p, Below w.heap.size w w1 → w1.heap.size ≤ q → Ring w2 (rot (i + 1) ns ++ [(q, p)]) → Touched (rot (i + 1) ns) w1 w2 →
      Fan0 w2 g (cyc ns 0).1 ns.length ∧ FanAt (w2.setCell ⟨g, 1, none⟩ (.int .i64 ((ns.length : Int) + 1))) base g (blowL ns i (q, p)) ∧ Below base w (w2.setCell ⟨g, 1, none⟩ (.int .i64 ((ns.length : Int) + 1)))) := by
    intro w1 w2 q p hb hq hR2 hT
    have hgl := hF.head.lt
    have h0 : Fan0 w2 g (cyc ns 0).1 ns.length := (hT.block g (Nat.lt_of_lt_of_le hgl hb.size) (fun p hp => hF.apart p (mem_rot hp))).trans ((hb.block g hgl).trans hF.head)
    have hqg : q ≠ g := by have := hb.size; omega
    have e1 : ((ns.length : Int) + 1) = ((ns.length + 1 : Nat) : Int) := by omega
    refine ⟨h0, ⟨?_, ?_, fun r hr => ?_, fun r hr => ?_, hF.lowg⟩, ?_⟩
    · rw [← rot_blow]
      refine (hR2.same (fun r hr => Below.heap_setCell _ ⟨g, 1, none⟩ _ _ ?_)).rot (by simp [rot_len]; omega)
      rcases List.mem_append.1 hr with hr | hr
      · exact hF.apart r (mem_rot hr)
      · rw [List.mem_singleton.1 hr]; exact hqg
    · rw [blow_zero hi, blowL_len hi, e1]
      exact h0.set1 (ns.length + 1)
    · rcases mem_blow hr with hr | rfl
      · exact hF.apart r hr
      · exact hqg
    · rcases mem_blow hr with hr | rfl
      · exact hF.low r hr
      · have := hb.size; show base ≤ q; omega
    · have hb1 : Below base w1 w2 := hT.below (Nat.le_trans hbase hb.size) (fun r hr => hF.low r (mem_rot hr))
      exact ((hb.mono hbase).trans hb1).setCell (p := ⟨g, 1, none⟩) hF.lowg _
  have hL := hR.link i
  have hZ := hR.link (i + 1)
  have c0 := hL.c0
  have c1 := hL.c1
  have c3 := hL.c3
  have d0 := hZ.c0
  have d1 := hZ.c1
  have l1 := hL.lt
  have l2 := hZ.lt
  have gl := hF.head.lt
  have HC := Lib.hid (fun w' q p (hF' : FanAt w' base g (blowL ns i (q, p))) (hg' : EtOk w') => fanCheck_any base g (blowL ns i (q, p)) w' hg' hF')
  have HRB := Lib.hid (fun q p => rays_blow ns i q p)
  have HG := Lib.hid hg
  have hnl : (ns.length : Int) ≤ 1000 := by omega
  have hn0 : (0 : Int) ≤ (ns.length : Int) := by omega
  unfold BlowEnd
  generalize hP : blowP (rays ns) i = P at *
  generalize (cyc ns i).2 = p1 at *
  generalize (cyc ns (i + 1)).2 = p2 at *
  generalize (cyc ns (i + 1)).1 = Z at *
  generalize (cyc ns i).1 = L at *
  obtain ⟨x1, y1⟩ := p1
  obtain ⟨x2, y2⟩ := p2
  dsimp only at c0 c1 d0 d1 HPl HBP v1 v2
  obtain rfl : P = (x1 + x2, y1 + y2) := HBP.out
  clear hL hZ hR hr hF hv v1 v2 hg hlast hp HBP hi hP hBP
  go_enter Tryd.func114, Tryd.ntmps114
  go_wp2_with fail
  refine Calls.mono HA.out ?_
  rintro e w0 ⟨rfl, rfl⟩
  go_wp2
  refine wp_region_any (by kernel_rfl) ?_
  try (change wpAny _ _ _ _ _ _ _ (World.drew _))
  refine wpAny_take (i := 0) (v := ?_) rfl (by kernel_rfl) (by kernel_rfl) (by kernel_rfl) (fun _ _ _ h => h) (Or.inl ⟨by rfl, ?_⟩) ?_
  rotate_left
  focus (intro w0; go_simp; try with_reducible rfl)
  refine wpAny_take (i := 1) (v := ?_) rfl (by kernel_rfl) (by kernel_rfl) (by kernel_rfl) (fun _ _ _ h => h) (Or.inl ⟨by rfl, ?_⟩) ?_
  rotate_left
  focus (intro w0; go_simp; try with_reducible rfl)
  refine wpAny_take (i := 2) (v := ?_) rfl (by kernel_rfl) (by kernel_rfl) (by kernel_rfl) (fun _ _ _ h => h) (Or.inl ⟨by rfl, ?_⟩) ?_
  rotate_left
  focus (intro w0; go_simp; try with_reducible rfl)
  refine wpAny_take (i := 3) (v := ?_) rfl (by kernel_rfl) (by kernel_rfl) (by kernel_rfl) (fun _ _ _ h => h) (Or.inl ⟨by rfl, ?_⟩) ?_
  rotate_left
  focus (intro w0; go_simp; try with_reducible rfl)
  refine wpAny_take (i := 5) (v := ?_) rfl (by kernel_rfl) (by kernel_rfl) (by kernel_rfl) (fun _ _ _ h => h) (Or.inl ⟨by rfl, ?_⟩) ?_
  rotate_left
  focus (intro w0; go_simp; try with_reducible rfl)
  refine wpAny_take (i := 6) (v := ?_) rfl (by kernel_rfl) (by kernel_rfl) (by kernel_rfl) (fun _ _ _ h => h) (Or.inl ⟨by rfl, ?_⟩) ?_
  rotate_left
  focus (intro w0; go_simp; try with_reducible rfl)
  refine wpAny_take (i := 7) (v := ?_) rfl (by kernel_rfl) (by kernel_rfl) (by kernel_rfl) (fun _ _ _ h => h) (Or.inl ⟨by rfl, ?_⟩) ?_
  rotate_left
  focus (intro w0; go_simp; try with_reducible rfl)
  refine wpAny_ready (rs := [4, 8]) (by kernel_rfl) (by simp) (AllReady.cons rfl (fun K hK => ?_) (AllReady.cons rfl (fun K hK => ?_) (AllReady.nil)))
  focus
    go_simp
    refine hK _ _ ?_
    clear hK K
    refine wpAny_ready (rs := [8]) (by kernel_rfl) (by simp) (AllReady.cons rfl (fun K hK => ?_) (AllReady.nil))
    go_simp
    refine hK _ _ ?_
    clear hK K
    refine wpAny_ready (rs := [9]) (by kernel_rfl) (by simp) (AllReady.cons rfl (fun K hK => ?_) (AllReady.nil))
    go_simp
    refine hK _ _ ?_
    clear hK K
    refine wpAny_ready (rs := [10]) (by kernel_rfl) (by simp) (AllReady.cons rfl (fun K hK => ?_) (AllReady.nil))
    go_simp
    refine hK _ _ ?_
    clear hK K
    refine wpAny_ready (rs := [11]) (by kernel_rfl) (by simp) (AllReady.cons rfl (fun K hK => ?_) (AllReady.nil))
    go_simp
    refine hK _ _ ?_
    clear hK K
    refine wpAny_ready (rs := [12]) (by kernel_rfl) (by simp) (AllReady.cons rfl (fun K hK => ?_) (AllReady.nil))
    go_simp
    (refine Calls.mono (HPl.out _) ?_; rintro e w1 ⟨rfl, hb1⟩; replace hb1 := undrew hb1)
    refine hK _ _ ?_
    clear hK K
    refine wpAny_seq 13 rfl (by kernel_rfl) ?_
    simp only [List.drop_succ_cons, List.drop_zero]
  rotate_left 1
  focus
    go_simp
    refine hK _ _ ?_
    clear hK K
    refine wpAny_ready (rs := [4, 9]) (by kernel_rfl) (by simp) (AllReady.cons rfl (fun K hK => ?_) (AllReady.cons rfl (fun K hK => ?_) (AllReady.nil)))
    focus
      go_simp
      refine hK _ _ ?_
      clear hK K
      refine wpAny_ready (rs := [9]) (by kernel_rfl) (by simp) (AllReady.cons rfl (fun K hK => ?_) (AllReady.nil))
      go_simp
      refine hK _ _ ?_
      clear hK K
      refine wpAny_ready (rs := [10]) (by kernel_rfl) (by simp) (AllReady.cons rfl (fun K hK => ?_) (AllReady.nil))
      go_simp
      refine hK _ _ ?_
      clear hK K
      refine wpAny_ready (rs := [11]) (by kernel_rfl) (by simp) (AllReady.cons rfl (fun K hK => ?_) (AllReady.nil))
      go_simp
      refine hK _ _ ?_
      clear hK K
      refine wpAny_ready (rs := [12]) (by kernel_rfl) (by simp) (AllReady.cons rfl (fun K hK => ?_) (AllReady.nil))
      go_simp
      (refine Calls.mono (HPl.out _) ?_; rintro e w1 ⟨rfl, hb1⟩; replace hb1 := undrew hb1)
      refine hK _ _ ?_
      clear hK K
      refine wpAny_seq 13 rfl (by kernel_rfl) ?_
      simp only [List.drop_succ_cons, List.drop_zero]
    rotate_left 1
    focus
      go_simp
      refine hK _ _ ?_
      clear hK K
      refine wpAny_ready (rs := [4, 10]) (by kernel_rfl) (by simp) (AllReady.cons rfl (fun K hK => ?_) (AllReady.cons rfl (fun K hK => ?_) (AllReady.nil)))
      focus
        go_simp
        refine hK _ _ ?_
        clear hK K
        refine wpAny_ready (rs := [10]) (by kernel_rfl) (by simp) (AllReady.cons rfl (fun K hK => ?_) (AllReady.nil))
        go_simp
        refine hK _ _ ?_
        clear hK K
        refine wpAny_ready (rs := [11]) (by kernel_rfl) (by simp) (AllReady.cons rfl (fun K hK => ?_) (AllReady.nil))
        go_simp
        refine hK _ _ ?_
        clear hK K
        refine wpAny_ready (rs := [12]) (by kernel_rfl) (by simp) (AllReady.cons rfl (fun K hK => ?_) (AllReady.nil))
        go_simp
        (refine Calls.mono (HPl.out _) ?_; rintro e w1 ⟨rfl, hb1⟩; replace hb1 := undrew hb1)
        refine hK _ _ ?_
        clear hK K
        refine wpAny_seq 13 rfl (by kernel_rfl) ?_
        simp only [List.drop_succ_cons, List.drop_zero]
      rotate_left 1
      focus
        go_simp
        refine hK _ _ ?_
        clear hK K
        refine wpAny_ready (rs := [4, 11]) (by kernel_rfl) (by simp) (AllReady.cons rfl (fun K hK => ?_) (AllReady.cons rfl (fun K hK => ?_) (AllReady.nil)))
        focus
          go_simp
          refine hK _ _ ?_
          clear hK K
          refine wpAny_ready (rs := [11]) (by kernel_rfl) (by simp) (AllReady.cons rfl (fun K hK => ?_) (AllReady.nil))
          go_simp
          refine hK _ _ ?_
          clear hK K
          refine wpAny_ready (rs := [12]) (by kernel_rfl) (by simp) (AllReady.cons rfl (fun K hK => ?_) (AllReady.nil))
          go_simp
          (refine Calls.mono (HPl.out _) ?_; rintro e w1 ⟨rfl, hb1⟩; replace hb1 := undrew hb1)
          refine hK _ _ ?_
          clear hK K
          refine wpAny_seq 13 rfl (by kernel_rfl) ?_
          simp only [List.drop_succ_cons, List.drop_zero]
        rotate_left 1
        focus
          go_simp
          refine hK _ _ ?_
          clear hK K
          refine wpAny_ready (rs := [4]) (by kernel_rfl) (by simp) (AllReady.cons rfl (fun K hK => ?_) (AllReady.nil))
          go_simp
          refine hK _ _ ?_
          clear hK K
          refine wpAny_ready (rs := [12]) (by kernel_rfl) (by simp) (AllReady.cons rfl (fun K hK => ?_) (AllReady.nil))
          go_simp
          (refine Calls.mono (HPl.out _) ?_; rintro e w1 ⟨rfl, hb1⟩; replace hb1 := undrew hb1)
          refine hK _ _ ?_
          clear hK K
          refine wpAny_seq 13 rfl (by kernel_rfl) ?_
          simp only [List.drop_succ_cons, List.drop_zero]
  all_goals
    go_wp2_with fail
    refine Calls.mono (HP.out _ hb1 _ _) ?_
    rintro e w2 ⟨⟨v, rfl⟩, q, hq, R2, T2⟩
    obtain ⟨h0, hF3, hB3⟩ := HEnd.out w1 w2 q _ hb1 hq R2 T2
    have a0 := h0.c1
    have a1 := h0.free 1
    have al := h0.lt
    have HF3 := Lib.hid hF3
    have HB3 := Lib.hid hB3
    have hG3 : EtOk (w2.setCell ⟨g, 1, none⟩ (.int .i64 ((ns.length : Int) + 1))) := by
      unfold EtOk
      rw [hB3.cell (p := ⟨0, 0, none⟩) hb0]
      exact HG.out
    have HG3 := Lib.hid hG3
    clear hG3
    clear h0 hF3 hB3 R2 T2 hb1 hq
    go_wp2_with fail
    refine Calls.mono (HC.out _ _ _ HF3.out HG3.out) ?_
    rintro e w4 ⟨hc, hb4⟩
    rw [HRB.out] at hc
    have HF4 := Lib.hid (HF3.out.below hb4)
    have HB4 := Lib.hid (HB3.out.trans (hb4.mono (Nat.le_trans hbase HB3.out.size)))
    clear hb4 HF3 HB3 HG3 HC
    generalize hk : fanB (blowL (rays ns) i (x1 + x2, y1 + y2)) = b at hc
    have HK := Lib.hid hk
    clear hk
    cases b
    · obtain ⟨s, rfl⟩ : IsNone e := hc
      go_wp2
      go_returns
      exact ⟨by rw [HK.out]; exact ⟨s, rfl⟩, ⟨q, HF4.out⟩, HB4.out⟩
    · obtain rfl : e = .returned .nilIface := hc
      go_wp2
      go_returns
      exact ⟨by rw [HK.out]; rfl, ⟨q, HF4.out⟩, HB4.out⟩
theorem blow_out (base g : Nat) (ns : List Node) (i : Int) (w : World) (hF : FanAt w base g ns) (hi : i < 0 ∨ (ns.length : Int) ≤ i) :
    Calls Tryd.prog 114 #[.pointer (some ⟨g, 0, none⟩), .int .i64 i] w fun e w' => IsNone e ∧ Below w.heap.size w w' := by
  have HA := Lib.hid (at_out base g ns i w hF hi)
  clear hF hi
  go_enter Tryd.func114, Tryd.ntmps114
  go_wp2_with fail
  refine Calls.mono HA.out ?_
  rintro e w0 ⟨rfl, rfl⟩
  go_wp2
  go_returns
  exact ⟨⟨_, rfl⟩, Below.refl _ _⟩
def blowB (l : List V2) (i : Int) : Bool := idxB l i && fanB (blowL l i.toNat (blowP l i.toNat))
set_option maxHeartbeats 8000000 in
theorem fanBlow_any (v : Value) (l : List V2) (i : Int) (w : World) (hl : ReadsVecs w v l) (hg : EtOk w) :
    Calls Tryd.prog 48 #[v, .int .i64 i] w (GivesVecsOk w (gV (smoothB l && blowB l i) (blowL l i.toNat (blowP l i.toNat))) (smoothB l && blowB l i)) := by
  have HO := Lib.hid (smoothFanOf_any v l w hl hg)
  have HV := Lib.hid (fun h => (smooth_all (l := l) h).1)
  have HS := Lib.hid (fun (ns : List Node) h hn => fan_small (l := l) (ns := ns) (smooth_in h).1 hn)
  have HG := Lib.hid hg
  have h0 := hg.pos
  clear hl hg
  unfold blowB
  cases hb : smoothB l
  · rw [hb] at HO
    clear hb HV HS
    go_enter Tryd.func48, Tryd.ntmps48
    go_wp2_with fail
    refine Calls.mono HO.out ?_
    rintro e w1 ⟨⟨h, _⟩ | ⟨_, rfl⟩, hb1⟩
    · cases h
    · go_wp2
      go_returns
      exact ⟨_, rfl, Vecs.nil _ _, hb1⟩
  · rw [hb] at HO HV HS
    clear hb
    cases hi : idxB l i
    · have HX := Lib.hid (fun base g (ns : List Node) w' hF (hn : ns.length = l.length) => blow_out base g ns i w' hF (by rw [hn]; exact idx_out hi))
      clear hi
      go_enter Tryd.func48, Tryd.ntmps48
      go_wp2_with fail
      refine Calls.mono HO.out ?_
      rintro e w1 ⟨⟨_, g, ns, rfl, hF, hn⟩ | ⟨h, _⟩, hb1⟩
      · obtain ⟨hs, hnl⟩ := HS.out ns (by simp) hn
        have HA := Lib.hid (HX.out _ g ns w1 hF hnl)
        have HG1 := Lib.hid (HG.out.below hb1)
        clear hF hn hnl hs
        go_wp2_with fail
        refine Calls.mono HA.out ?_
        rintro e w2 ⟨⟨s, rfl⟩, hb2⟩
        have HN := Lib.hid (none_hit s w2 (HG1.out.below hb2))
        replace hb1 := belowTo hb1 hb2
        clear hb2
        go_wp2_with fail
        refine Calls.mono HN.out ?_
        rintro e w3 ⟨rfl, hb3⟩
        replace hb1 := belowTo hb1 hb3
        clear hb3
        go_wp2
        go_returns
        exact ⟨_, rfl, Vecs.nil _ _, hb1⟩
      · cases h
    · obtain ⟨m, rfl, hm⟩ := idx_in hi
      rw [Int.toNat_natCast]
      clear hi
      go_enter Tryd.func48, Tryd.ntmps48
      go_wp2_with fail
      refine Calls.mono HO.out ?_
      rintro e w1 ⟨⟨_, g, ns, rfl, hF, hn⟩ | ⟨h, _⟩, hb1⟩
      · obtain ⟨hs, hnl⟩ := HS.out ns (by simp) hn
        have HA := Lib.hid (blow_at _ g ns m w1 hF hs (by omega) (by rw [hn]; exact HV.out (by simp)) (HG.out.below hb1) hb1.size h0)
        have HFL : Hid (∀ q p, fanB (blowL (rays ns) m p) = true → (blowL ns m (q, p)).length ≤ 1000) := fun q p h => by
          have := fan_len h
          rw [← rays_blow ns m q p, rays_len] at this
          omega
        have HRB := Lib.hid (fun q p => rays_blow ns m q p)
        unfold BlowEnd at HA
        rw [hn] at HA HFL HRB
        clear hF hn hnl hs hm HO HV HS
        generalize hP : blowP l m = P at HA
        have HP := Lib.hid hP
        clear hP
        go_wp2_with fail
        refine Calls.mono HA.out ?_
        rintro e w2 ⟨hc, ⟨q, hF2⟩, hB2⟩
        have hB := hb1.trans hB2
        have HG2 : Hid (EtOk w2) := by
          show EtOk w2
          have := HG.out
          unfold EtOk at *
          rw [hB.cell (p := ⟨0, 0, none⟩) h0]
          exact this
        have HF2 := Lib.hid hF2
        clear hF2 hB2 hb1 HA
        cases hk : fanB (blowL l m P)
        · rw [hk] at hc
          have HK : Hid (fanB (blowL l m (blowP l m)) = false) := by rw [HP.out]; exact hk
          clear hk
          obtain ⟨s, rfl⟩ : IsNone e := hc
          go_wp2_with fail
          refine Calls.mono (none_hit s w2 HG2.out) ?_
          rintro e w3 ⟨rfl, hb3⟩
          replace hB := belowTo hB hb3
          clear hb3
          go_wp2
          go_returns
          rw [HK.out]
          exact ⟨_, rfl, Vecs.nil _ _, hB⟩
        · rw [hk] at hc
          have HK : Hid (fanB (blowL l m (blowP l m)) = true) := by rw [HP.out]; exact hk
          have HR := Lib.hid (fun w' (hb : Below w2.heap.size w2 w') => rays_any _ g _ w' (HF2.out.below hb) (HFL.out q P hk))
          rw [HRB.out] at HR
          clear hk
          obtain rfl : e = .returned .nilIface := hc
          go_wp2_with fail
          refine Calls.mono (none_nil _) ?_
          rintro e w3 ⟨rfl, hb3⟩
          go_wp2_with fail
          refine Calls.mono (HR.out _ hb3) ?_
          rintro e w4 ⟨v4, rfl, hV, hb4⟩
          replace hB := belowTo hB hb3
          have HV4 := Lib.hid (hV.lower hB.size)
          replace hB := belowTo hB hb4
          clear hb3 hb4 hV HR
          go_wp2
          go_returns
          rw [HK.out, HP.out]
          exact ⟨_, rfl, HV4.out, hB⟩
      · cases h
end Go.Proofs.YtohojjoediibhaaDoor

/- Fans: blown up at a cone: the model's side. -/
namespace Go.Proofs.YtohojjoediibhaaDoor
open Go.RowKit

theorem two_cells {W : World} {b : Nat} {x y : Value} (h0 : W.cell? ⟨b, 0, none⟩ = some x) (h1 : W.cell? ⟨b, 1, none⟩ = some y) : ∀ j u, [x, y][j]? = some u → W.cell? ((⟨b, 0, none⟩ : Addr).add j) = some u := by
  intro j u hj
  match j, hj with
  | 0, hj => simp at hj; subst hj; simpa [Addr.add] using h0
  | 1, hj => simp at hj; subst hj; simpa [Addr.add] using h1
theorem two_one (x y : Int) : ∀ u ∈ [Value.int .i64 x, Value.int .i64 y], u.oneCell' = true := by
  intro u hu
  simp at hu
  rcases hu with rfl | rfl <;> rfl
theorem cell_same {W W' : World} {b : Nat} (h : W'.heap[b]? = W.heap[b]?) (o : Nat) : W'.cell? ⟨b, o, none⟩ = W.cell? ⟨b, o, none⟩ := by
  unfold World.cell?
  simp only [h]
theorem idx_is' (l : List V2) (i : Int) : (decide (0 ≤ i) && decide (i ≤ (l.length : Int) - 1)) = idxB l i := by
  unfold idxB
  congr 1
  exact decide_eq_decide.2 (by omega)
set_option maxHeartbeats 16000000 in
theorem specFanBlow_any (v : Value) (l : List V2) (i : Int) (w : World) (hl : ReadsVecs w v l) :
    Calls Tryd.prog 49 #[v, .int .i64 i] w (GivesVecsOk w (gV (smoothB l && blowB l i) (blowL l i.toNat (blowP l i.toNat))) (smoothB l && blowB l i)) := by
  have HF := Lib.hid (specFanSmooth_any v l w hl)
  have hE := Lib.hid (fun w' => Vecs.empty w')
  have HI := Lib.hid (fun w' => l6In_any i 0 ((l.length : Int) - 1) w')
  rw [idx_is'] at HI
  have HLen : Hid (smoothB l = true → l.length ≤ 20) := fun h => (fan_len (smooth_in (l := l) h).1).2
  have HSm := Lib.hid (fun h => (smooth_all (l := l) h).1)
  have hop := fun h0 => hl.open h0
  obtain ⟨a, c, rfl, hcap, hmm, _⟩ := hl
  have q1 : IntKind.i64.wrap ((l.length : Int) - 1) = (l.length : Int) - 1 := by rw [IntKind.wrap_i64]; omega
  unfold blowB
  cases hb : smoothB l
  · rw [hb] at HF
    clear hb HI hop
    go_enter Tryd.func49, Tryd.ntmps49
    go_wp2_with fail
    refine Calls.mono HF.out ?_
    rintro e w1 ⟨rfl, hb1⟩
    have hs1 := hb1.size
    have HE := Lib.hid ((hE.out w1).lower hs1)
    go_wp2
    go_returns
    exact ⟨_, rfl, HE.out, by go_grown⟩
  · rw [hb] at HF HLen HSm
    clear hb
    cases hi : idxB l i
    · rw [hi] at HI
      clear hi hop
      go_enter Tryd.func49, Tryd.ntmps49
      go_wp2_with fail
      refine Calls.mono HF.out ?_
      rintro e w1 ⟨rfl, hb1⟩
      have hs1 := hb1.size
      have HE := Lib.hid ((hE.out w1).lower hs1)
      go_wp2_with fail
      refine Calls.mono (HI.out _) ?_
      rintro e w2 ⟨rfl, rfl⟩
      go_wp2
      go_returns
      exact ⟨_, rfl, HE.out, by go_grown⟩
    · rw [hi] at HI
      obtain ⟨k, rfl, hk⟩ := idx_in hi
      rw [Int.toNat_natCast]
      have h20 := HLen.out (by simp)
      obtain ⟨bb, off, c', hev, _, _, hbb, hcs⟩ := hop (by omega)
      injection hev with ha _ hc'
      subst ha
      have hv := HSm.out (by simp)
      obtain ⟨v1a, v1b⟩ := vecB_true (hv k)
      obtain ⟨v2a, v2b⟩ := vecB_true (hv (k + 1))
      obtain ⟨b1, b2⟩ := szB_true v1a
      obtain ⟨b3, b4⟩ := szB_true v1b
      obtain ⟨b5, b6⟩ := szB_true v2a
      obtain ⟨b7, b8⟩ := szB_true v2b
      have HCl := Lib.hid hcs
      have HX := Lib.hid (fun w' => l3Next_any (some ⟨bb, off, none⟩) l.length c k w' hk (by omega))
      have hjn : (k + 1) % l.length < l.length := Nat.mod_lt _ (by omega)
      have HCa := Lib.hid (fun w' (h : Below w.heap.size w w') => hcs w' h k hk)
      have HCb := Lib.hid (fun w' (h : Below w.heap.size w w') => hcs w' h _ hjn)
      rw [cyc_mod] at HCb
      have i1 : (0 : Int) ≤ (k : Int) := by omega
      have i2 : (k : Int) < (l.length : Int) := by omega
      have i3 : (0 : Int) ≤ (((k + 1) % l.length : Nat) : Int) := by omega
      have i4 : (((k + 1) % l.length : Nat) : Int) < (l.length : Int) := by omega
      have HP : Hid (blowP l k = ((cyc l k).1 + (cyc l (k + 1)).1, (cyc l k).2 + (cyc l (k + 1)).2)) := rfl
      have s1 : IntKind.i64.wrap ((cyc l k).1 + (cyc l (k + 1)).1) = (cyc l k).1 + (cyc l (k + 1)).1 := by rw [IntKind.wrap_i64]; omega
      have s2 : IntKind.i64.wrap ((cyc l k).2 + (cyc l (k + 1)).2) = (cyc l k).2 + (cyc l (k + 1)).2 := by rw [IntKind.wrap_i64]; omega
      clear hi hop hcs hc' HSm HLen hv v1a v1b v2a v2b
      generalize (k + 1) % l.length = m at *
      generalize cyc l (k + 1) = z2 at *
      generalize cyc l k = z1 at *
      obtain ⟨x1, y1⟩ := z1
      obtain ⟨x2, y2⟩ := z2
      dsimp only at HCa HCb s1 s2 HP b1 b2 b3 b4 b5 b6 b7 b8
      rw [HP.out]
      obtain ⟨n, hn⟩ : ∃ n, n = l.length := ⟨_, rfl⟩
      have HL := Lib.hid hn
      rw [← hn] at h20 hk hmm hcap i2 i4 q1 HI HX HF
      rw [← hn]
      clear hn
      go_enter Tryd.func49, Tryd.ntmps49
      go_wp2_with fail
      refine Calls.mono HF.out ?_
      rintro e w1 ⟨rfl, hb1⟩
      go_wp2_with fail
      refine Calls.mono (HI.out _) ?_
      rintro e w2 ⟨rfl, rfl⟩
      obtain ⟨d0, d1⟩ := HCb.out w1 hb1
      have hbl := Nat.lt_of_lt_of_le hbb hb1.size
      go_wp2_with fail
      refine Calls.mono (HX.out _) ?_
      rintro e w2 ⟨rfl, rfl⟩
      obtain ⟨f0, f1⟩ := HCa.out w1 hb1
      have hbl1 : bb < w1.heap.size + 1 := by omega
      go_wp2
      go_region
      have hs1 := hb1.size
      have hBW0 : Below w.heap.size w ((w1.alloc (.cells #[.int .i64 x2, .int .i64 y2] 43)).alloc (.cells #[.int .i64 (x1 + x2), .int .i64 (y1 + y2)] 43)).drew := by go_grown
      have c0 : (((w1.alloc (.cells #[.int .i64 x2, .int .i64 y2] 43)).alloc (.cells #[.int .i64 (x1 + x2), .int .i64 (y1 + y2)] 43)).drew).cell? ⟨w1.heap.size + 1, 0, none⟩ = some (.int .i64 (x1 + x2)) := by simp
      have c1 : (((w1.alloc (.cells #[.int .i64 x2, .int .i64 y2] 43)).alloc (.cells #[.int .i64 (x1 + x2), .int .i64 (y1 + y2)] 43)).drew).cell? ⟨w1.heap.size + 1, 1, none⟩ = some (.int .i64 (y1 + y2)) := by simp
      have hrb : w1.heap.size + 1 < (((w1.alloc (.cells #[.int .i64 x2, .int .i64 y2] 43)).alloc (.cells #[.int .i64 (x1 + x2), .int .i64 (y1 + y2)] 43)).drew).heap.size := by simp only [World.size_alloc, World.size_drew]; omega
      clear d0 d1 f0 f1 hbl hbl1 HCa HCb HX HI HF i2 i3 i4 b1 b2 b3 b4 b5 b6 b7 b8 s1 s2 q1
      generalize (((w1.alloc (.cells #[.int .i64 x2, .int .i64 y2] 43)).alloc (.cells #[.int .i64 (x1 + x2), .int .i64 (y1 + y2)] 43)).drew) = W at *
      generalize w1.heap.size + 1 = rb at *
      clear hb1 hs1
      obtain ⟨i0, hi, hz0, hz1, hz2⟩ := info_parts infoVec
      have HBW := Lib.hid hBW0
      have HCl' : Hid (∀ wr, Below W.heap.size W wr → ∀ j, j < l.length → wr.cell? ⟨bb, off + j * 2, none⟩ = some (.int .i64 (cyc l j).1) ∧ wr.cell? ⟨bb, off + j * 2 + 1, none⟩ = some (.int .i64 (cyc l j).2)) := fun wr h => HCl.out wr (belowTo hBW0 h)
      clear HCl hBW0
      have HCl := HCl'
      clear HCl'
      have HO1 : Hid (Vecs (W.drew.alloc (.cells #[] 43)) W.heap.size (.slice (some ⟨W.heap.size, 0, none⟩) 0 0) []) := Vecs.empty W.drew
      have hB1 : Below W.heap.size W (W.drew.alloc (.cells #[] 43)) := by go_grown
      have HB1 := Lib.hid hB1
      have HO2 : Hid (Vecs ((W.drew.alloc (.cells #[] 43)).alloc (.cells #[.int .i64 (x1 + x2), .int .i64 (y1 + y2)] 43)) W.heap.size (.slice (some ⟨W.heap.size, 0, none⟩) 0 0) []) := HO1.out.below (by go_grown)
      have hB2 : Below W.heap.size W ((W.drew.alloc (.cells #[] 43)).alloc (.cells #[.int .i64 (x1 + x2), .int .i64 (y1 + y2)] 43)) := by go_grown
      have HB2 := Lib.hid hB2
      have hO3 := (Vecs.empty (W.drew.alloc (.cells #[.int .i64 (x1 + x2), .int .i64 (y1 + y2)] 43))).lower (base' := W.heap.size) (by simp)
      simp only [World.size_alloc, World.size_drew] at hO3
      have HO3 : Hid (Vecs ((W.drew.alloc (.cells #[.int .i64 (x1 + x2), .int .i64 (y1 + y2)] 43)).alloc (.cells #[] 43)) W.heap.size (.slice (some ⟨W.heap.size + 1, 0, none⟩) 0 0) []) := hO3
      have hB3 : Below W.heap.size W ((W.drew.alloc (.cells #[.int .i64 (x1 + x2), .int .i64 (y1 + y2)] 43)).alloc (.cells #[] 43)) := by go_grown
      have HB3 := Lib.hid hB3
      have KE0 : Hid (((W.drew.alloc (.cells #[] 43)).alloc (.cells #[.int .i64 (x1 + x2), .int .i64 (y1 + y2)] 43)).cell? ⟨W.heap.size + 1, 0, none⟩ = some (.int .i64 (x1 + x2))) := by show ((W.drew.alloc (.cells #[] 43)).alloc (.cells #[.int .i64 (x1 + x2), .int .i64 (y1 + y2)] 43)).cell? ⟨W.heap.size + 1, 0, none⟩ = some (.int .i64 (x1 + x2)); rw [World.cell?_alloc_at _ _ _ _ (by simp only [World.size_alloc, World.size_drew])]; rfl
      have KE1 : Hid (((W.drew.alloc (.cells #[] 43)).alloc (.cells #[.int .i64 (x1 + x2), .int .i64 (y1 + y2)] 43)).cell? ⟨W.heap.size + 1, 1, none⟩ = some (.int .i64 (y1 + y2))) := by show ((W.drew.alloc (.cells #[] 43)).alloc (.cells #[.int .i64 (x1 + x2), .int .i64 (y1 + y2)] 43)).cell? ⟨W.heap.size + 1, 1, none⟩ = some (.int .i64 (y1 + y2)); rw [World.cell?_alloc_at _ _ _ _ (by simp only [World.size_alloc, World.size_drew])]; rfl
      have KR0 : Hid (((W.drew.alloc (.cells #[.int .i64 (x1 + x2), .int .i64 (y1 + y2)] 43)).alloc (.cells #[] 43)).cell? ⟨W.heap.size, 0, none⟩ = some (.int .i64 (x1 + x2))) := by show ((W.drew.alloc (.cells #[.int .i64 (x1 + x2), .int .i64 (y1 + y2)] 43)).alloc (.cells #[] 43)).cell? ⟨W.heap.size, 0, none⟩ = some (.int .i64 (x1 + x2)); rw [World.cell?_alloc_lt _ _ ⟨_, _, none⟩ (by simp only [World.size_alloc, World.size_drew]; omega), World.cell?_alloc_at _ _ _ _ (by simp only [World.size_drew])]; rfl
      have KR1 : Hid (((W.drew.alloc (.cells #[.int .i64 (x1 + x2), .int .i64 (y1 + y2)] 43)).alloc (.cells #[] 43)).cell? ⟨W.heap.size, 1, none⟩ = some (.int .i64 (y1 + y2))) := by show ((W.drew.alloc (.cells #[.int .i64 (x1 + x2), .int .i64 (y1 + y2)] 43)).alloc (.cells #[] 43)).cell? ⟨W.heap.size, 1, none⟩ = some (.int .i64 (y1 + y2)); rw [World.cell?_alloc_lt _ _ ⟨_, _, none⟩ (by simp only [World.size_alloc, World.size_drew]; omega), World.cell?_alloc_at _ _ _ _ (by simp only [World.size_drew])]; rfl
      clear hB1 hB2 hB3 hO3
      have h20l : l.length ≤ 20 := by have := HL.out; omega
      have q1 : IntKind.i64.wrap ((k : Int) + 1) = (k : Int) + 1 := by rw [IntKind.wrap_i64]; omega
      have q2 : ((k : Int) + 1).toNat = k + 1 := by omega
      have q3 : (0 : Int) ≤ (k : Int) + 1 := by omega
      have q4 : (k : Int) + 1 ≤ (c : Int) := by omega
      have q5 : k + 1 ≤ c := by omega
      have q6 : ¬ c = 0 := by omega
      have HT1 : Hid (0 + (k + 1) ≤ l.length) := by have := HL.out; show 0 + (k + 1) ≤ l.length; omega
      have HK0 : Hid (k < l.length) := by have := HL.out; show k < l.length; omega
      have HSI := Lib.hid (fun v' (L : List V2) w' h' => specFanIn_any v' L w' h')
      by_cases hck : c = k + 1
      case pos =>
        have hnk : n = k + 1 := by omega
        subst hck
        subst hnk
        have HR : Hid ((([] ++ (l.drop 0).take (k + 1)) ++ [(x1 + x2, y1 + y2)]) ++ [] = blowL l k (x1 + x2, y1 + y2)) := by
          unfold blowL
          rw [List.drop_of_length_le (i := k + 1) (by have := HL.out; omega)]
          rfl
        have i6 : (k : Int) ≤ (k : Int) + 1 := by omega
        go_wp2
        refine wp_region_any (by kernel_rfl) ?_
        try (change wpAny _ _ _ _ _ _ _ (World.drew _))
        refine wpAny_take (i := 1) (v := ?_) rfl (by kernel_rfl) (by kernel_rfl) (by kernel_rfl) (fun _ _ _ h => h) (Or.inl ⟨by rfl, ?_⟩) ?_
        rotate_left
        focus (intro w0; go_simp; try with_reducible rfl)
        refine wpAny_take (i := 2) (v := ?_) rfl (by kernel_rfl) (by kernel_rfl) (by kernel_rfl) (fun _ _ _ h => h) (Or.inl ⟨by rfl, ?_⟩) ?_
        rotate_left
        focus (intro w0; go_simp; try with_reducible rfl)
        refine wpAny_take (i := 3) (v := ?_) rfl (by kernel_rfl) (by kernel_rfl) (by kernel_rfl) (fun _ _ _ h => h) (Or.inl ⟨by rfl, ?_⟩) ?_
        rotate_left
        focus (intro w0; go_simp; try with_reducible rfl)
        refine wpAny_take (i := 4) (v := ?_) rfl (by kernel_rfl) (by kernel_rfl) (by kernel_rfl) (fun _ _ _ h => h) (Or.inl ⟨by rfl, ?_⟩) ?_
        rotate_left
        focus (intro w0; go_simp; try with_reducible rfl)
        refine wpAny_take (i := 9) (v := ?_) rfl (by kernel_rfl) (by kernel_rfl) (by kernel_rfl) (fun _ _ _ h => h) (Or.inl ⟨by rfl, ?_⟩) ?_
        rotate_left
        focus (intro w0; go_simp; try with_reducible rfl)
        refine wpAny_take (i := 10) (v := ?_) rfl (by kernel_rfl) (by kernel_rfl) (by kernel_rfl) (fun _ _ _ h => h) (Or.inl ⟨by rfl, ?_⟩) ?_
        rotate_left
        focus (intro w0; go_simp; try with_reducible rfl)
        refine wpAny_take (i := 11) (v := ?_) rfl (by kernel_rfl) (by kernel_rfl) (by kernel_rfl) (fun _ _ _ h => h) (Or.inl ⟨by rfl, ?_⟩) ?_
        rotate_left
        focus (intro w0; go_simp; try with_reducible rfl)
        refine wpAny_take (i := 12) (v := ?_) rfl (by kernel_rfl) (by kernel_rfl) (by kernel_rfl) (fun _ _ _ h => h) (Or.inl ⟨by rfl, ?_⟩) ?_
        rotate_left
        focus (intro w0; go_simp; try with_reducible rfl)
        refine wpAny_ready (rs := [0, 6]) (by kernel_rfl) (by simp) (AllReady.cons rfl (fun K hK => ?_) (AllReady.cons rfl (fun K hK => ?_) (AllReady.nil)))
        focus
          go_simp
          refine hK _ _ ?_
          clear hK K
          refine wpAny_ready (rs := [5, 6]) (by kernel_rfl) (by simp) (AllReady.cons rfl (fun K hK => ?_) (AllReady.cons rfl (fun K hK => ?_) (AllReady.nil)))
          focus
            (refine step_list (by rintro ⟨_, _, h⟩; obtain ⟨_, hv, _⟩ := h; cases hv) (by kernel_rfl) ?_; first | (refine wpList_append_own_at _ rfl _ _ 23 rfl W.heap.size 43 i0 (.agg #[.int .i64 (0), .int .i64 (0)]) 2 16 Tryd.underlying23 hi hz0 hz1 hz2 rfl (by decide) (.slice (some ⟨W.heap.size, 0, none⟩) 0 0) _ _ rfl HO1.out _ _ _ _ rfl (piece_len HT1.out) (piece_cells (HCl.out _ HB1.out) HT1.out) (piece_one _) (by unfold maxLen; simp; omega) (by simp; omega) HB1.out.size ?_; intro v2 w2 hown2 hgrow2 _ _; have HBA := Lib.hid (HB1.out.grown hgrow2 HB1.out.size (fun q hq => (World.ownsRow.lt HO1.out q hq).1)); have HO := Lib.hid (Vecs.join (l := []) hown2 (by have := HL.out; simp <;> omega)); have b0 := (HBA.out.cell (p := ⟨rb, 0, none⟩) hrb).trans c0; have b1 := (HBA.out.cell (p := ⟨rb, 1, none⟩) hrb).trans c1; have bl := Nat.lt_of_lt_of_le hrb HBA.out.size; clear hown2 hgrow2) | (refine wpList_append_own_at _ rfl _ _ 23 rfl W.heap.size 43 i0 (.agg #[.int .i64 (0), .int .i64 (0)]) 2 16 Tryd.underlying23 hi hz0 hz1 hz2 rfl (by decide) (.slice (some ⟨W.heap.size + 1, 0, none⟩) 0 0) _ _ rfl HO3.out _ _ _ _ rfl (piece_len HT1.out) (piece_cells (HCl.out _ HB3.out) HT1.out) (piece_one _) (by unfold maxLen; simp; omega) (by simp; omega) HB3.out.size ?_; intro v2 w2 hown2 hgrow2 _ _; have HBA := Lib.hid (HB3.out.grown hgrow2 HB3.out.size (fun q hq => (World.ownsRow.lt HO3.out q hq).1)); have HO := Lib.hid (Vecs.join (l := []) hown2 (by have := HL.out; simp <;> omega)); have rr : w2.heap[W.heap.size]? = ((W.drew.alloc (.cells #[.int .i64 (x1 + x2), .int .i64 (y1 + y2)] 43)).alloc (.cells #[] 43)).heap[W.heap.size]? := hgrow2.block _ (by simp <;> omega) (by simp [Value.ownBlock]); have RR0 : Hid (w2.cell? ⟨W.heap.size, 0, none⟩ = some (.int .i64 (x1 + x2))) := (cell_same rr 0).trans KR0.out; have RR1 : Hid (w2.cell? ⟨W.heap.size, 1, none⟩ = some (.int .i64 (y1 + y2))) := (cell_same rr 1).trans KR1.out; clear rr; clear hown2 hgrow2) | (refine wpList_append_own_at _ rfl _ _ 23 rfl W.heap.size 43 i0 (.agg #[.int .i64 (0), .int .i64 (0)]) 2 16 Tryd.underlying23 hi hz0 hz1 hz2 rfl (by decide) (.slice (some ⟨W.heap.size, 0, none⟩) 0 0) _ _ rfl HO2.out _ _ _ _ rfl (piece_len HT1.out) (piece_cells (HCl.out _ HB2.out) HT1.out) (piece_one _) (by unfold maxLen; simp; omega) (by simp; omega) HB2.out.size ?_; intro v2 w2 hown2 hgrow2 _ _; have HBA := Lib.hid (HB2.out.grown hgrow2 HB2.out.size (fun q hq => (World.ownsRow.lt HO2.out q hq).1)); have HO := Lib.hid (Vecs.join (l := []) hown2 (by have := HL.out; simp <;> omega)); have rr : w2.heap[W.heap.size + 1]? = ((W.drew.alloc (.cells #[] 43)).alloc (.cells #[.int .i64 (x1 + x2), .int .i64 (y1 + y2)] 43)).heap[W.heap.size + 1]? := hgrow2.block _ (by simp <;> omega) (by simp [Value.ownBlock]); have RR0 : Hid (w2.cell? ⟨W.heap.size + 1, 0, none⟩ = some (.int .i64 (x1 + x2))) := (cell_same rr 0).trans KE0.out; have RR1 : Hid (w2.cell? ⟨W.heap.size + 1, 1, none⟩ = some (.int .i64 (y1 + y2))) := (cell_same rr 1).trans KE1.out; clear rr; clear hown2 hgrow2))
            refine hK _ _ ?_
            clear hK K
            refine wpAny_ready (rs := [6]) (by kernel_rfl) (by simp) (AllReady.cons rfl (fun K hK => ?_) (AllReady.nil))
            go_simp
            refine hK _ _ ?_
            clear hK K
            refine wpAny_ready (rs := [7]) (by kernel_rfl) (by simp) (AllReady.cons rfl (fun K hK => ?_) (AllReady.nil))
            go_simp
            refine hK _ _ ?_
            clear hK K
            refine wpAny_ready (rs := [8]) (by kernel_rfl) (by simp) (AllReady.cons rfl (fun K hK => ?_) (AllReady.nil))
            (refine step_list (by rintro ⟨_, _, h⟩; obtain ⟨_, hv, _⟩ := h; cases hv) (by kernel_rfl) ?_; first | (refine wpList_append_own_at _ rfl _ _ 23 rfl W.heap.size 43 i0 (.agg #[.int .i64 (0), .int .i64 (0)]) 2 16 Tryd.underlying23 hi hz0 hz1 hz2 rfl (by decide) _ _ _ rfl HO.out _ 1 1 [.int .i64 (x1 + x2), .int .i64 (y1 + y2)] rfl rfl (two_cells RR0.out RR1.out) (two_one _ _) (by unfold maxLen; simp; omega) (by simp; omega) HBA.out.size ?_; intro v3 w3 hown3 hgrow3 _ _; have HBC := Lib.hid (HBA.out.grown hgrow3 HBA.out.size (fun q hq => (World.ownsRow.lt HO.out q hq).1)); have HOC := Lib.hid (Vecs.snoc (l := [] ++ (l.drop 0).take (k + 1)) rfl hown3); clear hown3 hgrow3) | (refine wpList_append_own_at _ rfl _ _ 23 rfl W.heap.size 43 i0 (.agg #[.int .i64 (0), .int .i64 (0)]) 2 16 Tryd.underlying23 hi hz0 hz1 hz2 rfl (by decide) _ _ _ rfl (HO.out.below (by go_grown)) _ 1 1 [.int .i64 (x1 + x2), .int .i64 (y1 + y2)] rfl rfl (two_cells (by simp) (by simp)) (two_one _ _) (by unfold maxLen; simp; omega) (by simp; omega) (HBA.out.alloc HBA.out.size _).size ?_; intro v3 w3 hown3 hgrow3 _ _; have HBC := Lib.hid ((HBA.out.alloc HBA.out.size _).grown hgrow3 (HBA.out.alloc HBA.out.size _).size (fun q hq => (World.ownsRow.lt HO.out q hq).1)); have HOC := Lib.hid (Vecs.snoc (l := [] ++ (l.drop 0).take (k + 1)) rfl hown3); clear hown3 hgrow3))
            refine hK _ _ ?_
            clear hK K
            refine wpAny_ready (rs := [13]) (by kernel_rfl) (by simp) (AllReady.cons rfl (fun K hK => ?_) (AllReady.nil))
            (refine step_list (by rintro ⟨_, _, h⟩; obtain ⟨_, hv, _⟩ := h; cases hv) (by kernel_rfl) ?_; refine wpList_append_own_at _ rfl _ _ 23 rfl W.heap.size 43 i0 (.agg #[.int .i64 (0), .int .i64 (0)]) 2 16 Tryd.underlying23 hi hz0 hz1 hz2 rfl (by decide) _ _ _ rfl HOC.out _ 0 _ [] rfl rfl (fun j u hj => by simp at hj) (fun u hu => by simp at hu) (by unfold maxLen; simp; omega) (by simp; omega) HBC.out.size ?_; intro v4 w4 hown4 hgrow4 _ _; have HBD := Lib.hid (HBC.out.grown hgrow4 HBC.out.size (fun q hq => (World.ownsRow.lt HOC.out q hq).1)); have HOD := Lib.hid (Vecs.join (m := []) hown4 (by have := HL.out; simp <;> omega)); clear hown4 hgrow4)
            refine hK _ _ ?_
            clear hK K
            refine wpAny_seq 14 rfl (by kernel_rfl) ?_
            simp only [List.drop_succ_cons, List.drop_zero]
          rotate_left 1
          focus
            go_simp
            refine hK _ _ ?_
            clear hK K
            refine wpAny_ready (rs := [5, 7]) (by kernel_rfl) (by simp) (AllReady.cons rfl (fun K hK => ?_) (AllReady.cons rfl (fun K hK => ?_) (AllReady.nil)))
            focus
              (refine step_list (by rintro ⟨_, _, h⟩; obtain ⟨_, hv, _⟩ := h; cases hv) (by kernel_rfl) ?_; first | (refine wpList_append_own_at _ rfl _ _ 23 rfl W.heap.size 43 i0 (.agg #[.int .i64 (0), .int .i64 (0)]) 2 16 Tryd.underlying23 hi hz0 hz1 hz2 rfl (by decide) (.slice (some ⟨W.heap.size, 0, none⟩) 0 0) _ _ rfl HO1.out _ _ _ _ rfl (piece_len HT1.out) (piece_cells (HCl.out _ HB1.out) HT1.out) (piece_one _) (by unfold maxLen; simp; omega) (by simp; omega) HB1.out.size ?_; intro v2 w2 hown2 hgrow2 _ _; have HBA := Lib.hid (HB1.out.grown hgrow2 HB1.out.size (fun q hq => (World.ownsRow.lt HO1.out q hq).1)); have HO := Lib.hid (Vecs.join (l := []) hown2 (by have := HL.out; simp <;> omega)); have b0 := (HBA.out.cell (p := ⟨rb, 0, none⟩) hrb).trans c0; have b1 := (HBA.out.cell (p := ⟨rb, 1, none⟩) hrb).trans c1; have bl := Nat.lt_of_lt_of_le hrb HBA.out.size; clear hown2 hgrow2) | (refine wpList_append_own_at _ rfl _ _ 23 rfl W.heap.size 43 i0 (.agg #[.int .i64 (0), .int .i64 (0)]) 2 16 Tryd.underlying23 hi hz0 hz1 hz2 rfl (by decide) (.slice (some ⟨W.heap.size + 1, 0, none⟩) 0 0) _ _ rfl HO3.out _ _ _ _ rfl (piece_len HT1.out) (piece_cells (HCl.out _ HB3.out) HT1.out) (piece_one _) (by unfold maxLen; simp; omega) (by simp; omega) HB3.out.size ?_; intro v2 w2 hown2 hgrow2 _ _; have HBA := Lib.hid (HB3.out.grown hgrow2 HB3.out.size (fun q hq => (World.ownsRow.lt HO3.out q hq).1)); have HO := Lib.hid (Vecs.join (l := []) hown2 (by have := HL.out; simp <;> omega)); have rr : w2.heap[W.heap.size]? = ((W.drew.alloc (.cells #[.int .i64 (x1 + x2), .int .i64 (y1 + y2)] 43)).alloc (.cells #[] 43)).heap[W.heap.size]? := hgrow2.block _ (by simp <;> omega) (by simp [Value.ownBlock]); have RR0 : Hid (w2.cell? ⟨W.heap.size, 0, none⟩ = some (.int .i64 (x1 + x2))) := (cell_same rr 0).trans KR0.out; have RR1 : Hid (w2.cell? ⟨W.heap.size, 1, none⟩ = some (.int .i64 (y1 + y2))) := (cell_same rr 1).trans KR1.out; clear rr; clear hown2 hgrow2) | (refine wpList_append_own_at _ rfl _ _ 23 rfl W.heap.size 43 i0 (.agg #[.int .i64 (0), .int .i64 (0)]) 2 16 Tryd.underlying23 hi hz0 hz1 hz2 rfl (by decide) (.slice (some ⟨W.heap.size, 0, none⟩) 0 0) _ _ rfl HO2.out _ _ _ _ rfl (piece_len HT1.out) (piece_cells (HCl.out _ HB2.out) HT1.out) (piece_one _) (by unfold maxLen; simp; omega) (by simp; omega) HB2.out.size ?_; intro v2 w2 hown2 hgrow2 _ _; have HBA := Lib.hid (HB2.out.grown hgrow2 HB2.out.size (fun q hq => (World.ownsRow.lt HO2.out q hq).1)); have HO := Lib.hid (Vecs.join (l := []) hown2 (by have := HL.out; simp <;> omega)); have rr : w2.heap[W.heap.size + 1]? = ((W.drew.alloc (.cells #[] 43)).alloc (.cells #[.int .i64 (x1 + x2), .int .i64 (y1 + y2)] 43)).heap[W.heap.size + 1]? := hgrow2.block _ (by simp <;> omega) (by simp [Value.ownBlock]); have RR0 : Hid (w2.cell? ⟨W.heap.size + 1, 0, none⟩ = some (.int .i64 (x1 + x2))) := (cell_same rr 0).trans KE0.out; have RR1 : Hid (w2.cell? ⟨W.heap.size + 1, 1, none⟩ = some (.int .i64 (y1 + y2))) := (cell_same rr 1).trans KE1.out; clear rr; clear hown2 hgrow2))
              refine hK _ _ ?_
              clear hK K
              refine wpAny_ready (rs := [7]) (by kernel_rfl) (by simp) (AllReady.cons rfl (fun K hK => ?_) (AllReady.nil))
              go_simp
              refine hK _ _ ?_
              clear hK K
              refine wpAny_ready (rs := [8]) (by kernel_rfl) (by simp) (AllReady.cons rfl (fun K hK => ?_) (AllReady.nil))
              (refine step_list (by rintro ⟨_, _, h⟩; obtain ⟨_, hv, _⟩ := h; cases hv) (by kernel_rfl) ?_; first | (refine wpList_append_own_at _ rfl _ _ 23 rfl W.heap.size 43 i0 (.agg #[.int .i64 (0), .int .i64 (0)]) 2 16 Tryd.underlying23 hi hz0 hz1 hz2 rfl (by decide) _ _ _ rfl HO.out _ 1 1 [.int .i64 (x1 + x2), .int .i64 (y1 + y2)] rfl rfl (two_cells RR0.out RR1.out) (two_one _ _) (by unfold maxLen; simp; omega) (by simp; omega) HBA.out.size ?_; intro v3 w3 hown3 hgrow3 _ _; have HBC := Lib.hid (HBA.out.grown hgrow3 HBA.out.size (fun q hq => (World.ownsRow.lt HO.out q hq).1)); have HOC := Lib.hid (Vecs.snoc (l := [] ++ (l.drop 0).take (k + 1)) rfl hown3); clear hown3 hgrow3) | (refine wpList_append_own_at _ rfl _ _ 23 rfl W.heap.size 43 i0 (.agg #[.int .i64 (0), .int .i64 (0)]) 2 16 Tryd.underlying23 hi hz0 hz1 hz2 rfl (by decide) _ _ _ rfl (HO.out.below (by go_grown)) _ 1 1 [.int .i64 (x1 + x2), .int .i64 (y1 + y2)] rfl rfl (two_cells (by simp) (by simp)) (two_one _ _) (by unfold maxLen; simp; omega) (by simp; omega) (HBA.out.alloc HBA.out.size _).size ?_; intro v3 w3 hown3 hgrow3 _ _; have HBC := Lib.hid ((HBA.out.alloc HBA.out.size _).grown hgrow3 (HBA.out.alloc HBA.out.size _).size (fun q hq => (World.ownsRow.lt HO.out q hq).1)); have HOC := Lib.hid (Vecs.snoc (l := [] ++ (l.drop 0).take (k + 1)) rfl hown3); clear hown3 hgrow3))
              refine hK _ _ ?_
              clear hK K
              refine wpAny_ready (rs := [13]) (by kernel_rfl) (by simp) (AllReady.cons rfl (fun K hK => ?_) (AllReady.nil))
              (refine step_list (by rintro ⟨_, _, h⟩; obtain ⟨_, hv, _⟩ := h; cases hv) (by kernel_rfl) ?_; refine wpList_append_own_at _ rfl _ _ 23 rfl W.heap.size 43 i0 (.agg #[.int .i64 (0), .int .i64 (0)]) 2 16 Tryd.underlying23 hi hz0 hz1 hz2 rfl (by decide) _ _ _ rfl HOC.out _ 0 _ [] rfl rfl (fun j u hj => by simp at hj) (fun u hu => by simp at hu) (by unfold maxLen; simp; omega) (by simp; omega) HBC.out.size ?_; intro v4 w4 hown4 hgrow4 _ _; have HBD := Lib.hid (HBC.out.grown hgrow4 HBC.out.size (fun q hq => (World.ownsRow.lt HOC.out q hq).1)); have HOD := Lib.hid (Vecs.join (m := []) hown4 (by have := HL.out; simp <;> omega)); clear hown4 hgrow4)
              refine hK _ _ ?_
              clear hK K
              refine wpAny_seq 14 rfl (by kernel_rfl) ?_
              simp only [List.drop_succ_cons, List.drop_zero]
            rotate_left 1
            focus
              go_simp
              refine hK _ _ ?_
              clear hK K
              refine wpAny_ready (rs := [5]) (by kernel_rfl) (by simp) (AllReady.cons rfl (fun K hK => ?_) (AllReady.nil))
              (refine step_list (by rintro ⟨_, _, h⟩; obtain ⟨_, hv, _⟩ := h; cases hv) (by kernel_rfl) ?_; first | (refine wpList_append_own_at _ rfl _ _ 23 rfl W.heap.size 43 i0 (.agg #[.int .i64 (0), .int .i64 (0)]) 2 16 Tryd.underlying23 hi hz0 hz1 hz2 rfl (by decide) (.slice (some ⟨W.heap.size, 0, none⟩) 0 0) _ _ rfl HO1.out _ _ _ _ rfl (piece_len HT1.out) (piece_cells (HCl.out _ HB1.out) HT1.out) (piece_one _) (by unfold maxLen; simp; omega) (by simp; omega) HB1.out.size ?_; intro v2 w2 hown2 hgrow2 _ _; have HBA := Lib.hid (HB1.out.grown hgrow2 HB1.out.size (fun q hq => (World.ownsRow.lt HO1.out q hq).1)); have HO := Lib.hid (Vecs.join (l := []) hown2 (by have := HL.out; simp <;> omega)); have b0 := (HBA.out.cell (p := ⟨rb, 0, none⟩) hrb).trans c0; have b1 := (HBA.out.cell (p := ⟨rb, 1, none⟩) hrb).trans c1; have bl := Nat.lt_of_lt_of_le hrb HBA.out.size; clear hown2 hgrow2) | (refine wpList_append_own_at _ rfl _ _ 23 rfl W.heap.size 43 i0 (.agg #[.int .i64 (0), .int .i64 (0)]) 2 16 Tryd.underlying23 hi hz0 hz1 hz2 rfl (by decide) (.slice (some ⟨W.heap.size + 1, 0, none⟩) 0 0) _ _ rfl HO3.out _ _ _ _ rfl (piece_len HT1.out) (piece_cells (HCl.out _ HB3.out) HT1.out) (piece_one _) (by unfold maxLen; simp; omega) (by simp; omega) HB3.out.size ?_; intro v2 w2 hown2 hgrow2 _ _; have HBA := Lib.hid (HB3.out.grown hgrow2 HB3.out.size (fun q hq => (World.ownsRow.lt HO3.out q hq).1)); have HO := Lib.hid (Vecs.join (l := []) hown2 (by have := HL.out; simp <;> omega)); have rr : w2.heap[W.heap.size]? = ((W.drew.alloc (.cells #[.int .i64 (x1 + x2), .int .i64 (y1 + y2)] 43)).alloc (.cells #[] 43)).heap[W.heap.size]? := hgrow2.block _ (by simp <;> omega) (by simp [Value.ownBlock]); have RR0 : Hid (w2.cell? ⟨W.heap.size, 0, none⟩ = some (.int .i64 (x1 + x2))) := (cell_same rr 0).trans KR0.out; have RR1 : Hid (w2.cell? ⟨W.heap.size, 1, none⟩ = some (.int .i64 (y1 + y2))) := (cell_same rr 1).trans KR1.out; clear rr; clear hown2 hgrow2) | (refine wpList_append_own_at _ rfl _ _ 23 rfl W.heap.size 43 i0 (.agg #[.int .i64 (0), .int .i64 (0)]) 2 16 Tryd.underlying23 hi hz0 hz1 hz2 rfl (by decide) (.slice (some ⟨W.heap.size, 0, none⟩) 0 0) _ _ rfl HO2.out _ _ _ _ rfl (piece_len HT1.out) (piece_cells (HCl.out _ HB2.out) HT1.out) (piece_one _) (by unfold maxLen; simp; omega) (by simp; omega) HB2.out.size ?_; intro v2 w2 hown2 hgrow2 _ _; have HBA := Lib.hid (HB2.out.grown hgrow2 HB2.out.size (fun q hq => (World.ownsRow.lt HO2.out q hq).1)); have HO := Lib.hid (Vecs.join (l := []) hown2 (by have := HL.out; simp <;> omega)); have rr : w2.heap[W.heap.size + 1]? = ((W.drew.alloc (.cells #[] 43)).alloc (.cells #[.int .i64 (x1 + x2), .int .i64 (y1 + y2)] 43)).heap[W.heap.size + 1]? := hgrow2.block _ (by simp <;> omega) (by simp [Value.ownBlock]); have RR0 : Hid (w2.cell? ⟨W.heap.size + 1, 0, none⟩ = some (.int .i64 (x1 + x2))) := (cell_same rr 0).trans KE0.out; have RR1 : Hid (w2.cell? ⟨W.heap.size + 1, 1, none⟩ = some (.int .i64 (y1 + y2))) := (cell_same rr 1).trans KE1.out; clear rr; clear hown2 hgrow2))
              refine hK _ _ ?_
              clear hK K
              refine wpAny_ready (rs := [8]) (by kernel_rfl) (by simp) (AllReady.cons rfl (fun K hK => ?_) (AllReady.nil))
              (refine step_list (by rintro ⟨_, _, h⟩; obtain ⟨_, hv, _⟩ := h; cases hv) (by kernel_rfl) ?_; first | (refine wpList_append_own_at _ rfl _ _ 23 rfl W.heap.size 43 i0 (.agg #[.int .i64 (0), .int .i64 (0)]) 2 16 Tryd.underlying23 hi hz0 hz1 hz2 rfl (by decide) _ _ _ rfl HO.out _ 1 1 [.int .i64 (x1 + x2), .int .i64 (y1 + y2)] rfl rfl (two_cells RR0.out RR1.out) (two_one _ _) (by unfold maxLen; simp; omega) (by simp; omega) HBA.out.size ?_; intro v3 w3 hown3 hgrow3 _ _; have HBC := Lib.hid (HBA.out.grown hgrow3 HBA.out.size (fun q hq => (World.ownsRow.lt HO.out q hq).1)); have HOC := Lib.hid (Vecs.snoc (l := [] ++ (l.drop 0).take (k + 1)) rfl hown3); clear hown3 hgrow3) | (refine wpList_append_own_at _ rfl _ _ 23 rfl W.heap.size 43 i0 (.agg #[.int .i64 (0), .int .i64 (0)]) 2 16 Tryd.underlying23 hi hz0 hz1 hz2 rfl (by decide) _ _ _ rfl (HO.out.below (by go_grown)) _ 1 1 [.int .i64 (x1 + x2), .int .i64 (y1 + y2)] rfl rfl (two_cells (by simp) (by simp)) (two_one _ _) (by unfold maxLen; simp; omega) (by simp; omega) (HBA.out.alloc HBA.out.size _).size ?_; intro v3 w3 hown3 hgrow3 _ _; have HBC := Lib.hid ((HBA.out.alloc HBA.out.size _).grown hgrow3 (HBA.out.alloc HBA.out.size _).size (fun q hq => (World.ownsRow.lt HO.out q hq).1)); have HOC := Lib.hid (Vecs.snoc (l := [] ++ (l.drop 0).take (k + 1)) rfl hown3); clear hown3 hgrow3))
              refine hK _ _ ?_
              clear hK K
              refine wpAny_ready (rs := [13]) (by kernel_rfl) (by simp) (AllReady.cons rfl (fun K hK => ?_) (AllReady.nil))
              (refine step_list (by rintro ⟨_, _, h⟩; obtain ⟨_, hv, _⟩ := h; cases hv) (by kernel_rfl) ?_; refine wpList_append_own_at _ rfl _ _ 23 rfl W.heap.size 43 i0 (.agg #[.int .i64 (0), .int .i64 (0)]) 2 16 Tryd.underlying23 hi hz0 hz1 hz2 rfl (by decide) _ _ _ rfl HOC.out _ 0 _ [] rfl rfl (fun j u hj => by simp at hj) (fun u hu => by simp at hu) (by unfold maxLen; simp; omega) (by simp; omega) HBC.out.size ?_; intro v4 w4 hown4 hgrow4 _ _; have HBD := Lib.hid (HBC.out.grown hgrow4 HBC.out.size (fun q hq => (World.ownsRow.lt HOC.out q hq).1)); have HOD := Lib.hid (Vecs.join (m := []) hown4 (by have := HL.out; simp <;> omega)); clear hown4 hgrow4)
              refine hK _ _ ?_
              clear hK K
              refine wpAny_seq 14 rfl (by kernel_rfl) ?_
              simp only [List.drop_succ_cons, List.drop_zero]
        rotate_left 3
        focus
          go_simp
          refine hK _ _ ?_
          clear hK K
          refine wpAny_ready (rs := [0, 7]) (by kernel_rfl) (by simp) (AllReady.cons rfl (fun K hK => ?_) (AllReady.cons rfl (fun K hK => ?_) (AllReady.nil)))
          focus
            go_simp
            refine hK _ _ ?_
            clear hK K
            refine wpAny_ready (rs := [5, 7]) (by kernel_rfl) (by simp) (AllReady.cons rfl (fun K hK => ?_) (AllReady.cons rfl (fun K hK => ?_) (AllReady.nil)))
            focus
              (refine step_list (by rintro ⟨_, _, h⟩; obtain ⟨_, hv, _⟩ := h; cases hv) (by kernel_rfl) ?_; first | (refine wpList_append_own_at _ rfl _ _ 23 rfl W.heap.size 43 i0 (.agg #[.int .i64 (0), .int .i64 (0)]) 2 16 Tryd.underlying23 hi hz0 hz1 hz2 rfl (by decide) (.slice (some ⟨W.heap.size, 0, none⟩) 0 0) _ _ rfl HO1.out _ _ _ _ rfl (piece_len HT1.out) (piece_cells (HCl.out _ HB1.out) HT1.out) (piece_one _) (by unfold maxLen; simp; omega) (by simp; omega) HB1.out.size ?_; intro v2 w2 hown2 hgrow2 _ _; have HBA := Lib.hid (HB1.out.grown hgrow2 HB1.out.size (fun q hq => (World.ownsRow.lt HO1.out q hq).1)); have HO := Lib.hid (Vecs.join (l := []) hown2 (by have := HL.out; simp <;> omega)); have b0 := (HBA.out.cell (p := ⟨rb, 0, none⟩) hrb).trans c0; have b1 := (HBA.out.cell (p := ⟨rb, 1, none⟩) hrb).trans c1; have bl := Nat.lt_of_lt_of_le hrb HBA.out.size; clear hown2 hgrow2) | (refine wpList_append_own_at _ rfl _ _ 23 rfl W.heap.size 43 i0 (.agg #[.int .i64 (0), .int .i64 (0)]) 2 16 Tryd.underlying23 hi hz0 hz1 hz2 rfl (by decide) (.slice (some ⟨W.heap.size + 1, 0, none⟩) 0 0) _ _ rfl HO3.out _ _ _ _ rfl (piece_len HT1.out) (piece_cells (HCl.out _ HB3.out) HT1.out) (piece_one _) (by unfold maxLen; simp; omega) (by simp; omega) HB3.out.size ?_; intro v2 w2 hown2 hgrow2 _ _; have HBA := Lib.hid (HB3.out.grown hgrow2 HB3.out.size (fun q hq => (World.ownsRow.lt HO3.out q hq).1)); have HO := Lib.hid (Vecs.join (l := []) hown2 (by have := HL.out; simp <;> omega)); have rr : w2.heap[W.heap.size]? = ((W.drew.alloc (.cells #[.int .i64 (x1 + x2), .int .i64 (y1 + y2)] 43)).alloc (.cells #[] 43)).heap[W.heap.size]? := hgrow2.block _ (by simp <;> omega) (by simp [Value.ownBlock]); have RR0 : Hid (w2.cell? ⟨W.heap.size, 0, none⟩ = some (.int .i64 (x1 + x2))) := (cell_same rr 0).trans KR0.out; have RR1 : Hid (w2.cell? ⟨W.heap.size, 1, none⟩ = some (.int .i64 (y1 + y2))) := (cell_same rr 1).trans KR1.out; clear rr; clear hown2 hgrow2) | (refine wpList_append_own_at _ rfl _ _ 23 rfl W.heap.size 43 i0 (.agg #[.int .i64 (0), .int .i64 (0)]) 2 16 Tryd.underlying23 hi hz0 hz1 hz2 rfl (by decide) (.slice (some ⟨W.heap.size, 0, none⟩) 0 0) _ _ rfl HO2.out _ _ _ _ rfl (piece_len HT1.out) (piece_cells (HCl.out _ HB2.out) HT1.out) (piece_one _) (by unfold maxLen; simp; omega) (by simp; omega) HB2.out.size ?_; intro v2 w2 hown2 hgrow2 _ _; have HBA := Lib.hid (HB2.out.grown hgrow2 HB2.out.size (fun q hq => (World.ownsRow.lt HO2.out q hq).1)); have HO := Lib.hid (Vecs.join (l := []) hown2 (by have := HL.out; simp <;> omega)); have rr : w2.heap[W.heap.size + 1]? = ((W.drew.alloc (.cells #[] 43)).alloc (.cells #[.int .i64 (x1 + x2), .int .i64 (y1 + y2)] 43)).heap[W.heap.size + 1]? := hgrow2.block _ (by simp <;> omega) (by simp [Value.ownBlock]); have RR0 : Hid (w2.cell? ⟨W.heap.size + 1, 0, none⟩ = some (.int .i64 (x1 + x2))) := (cell_same rr 0).trans KE0.out; have RR1 : Hid (w2.cell? ⟨W.heap.size + 1, 1, none⟩ = some (.int .i64 (y1 + y2))) := (cell_same rr 1).trans KE1.out; clear rr; clear hown2 hgrow2))
              refine hK _ _ ?_
              clear hK K
              refine wpAny_ready (rs := [7]) (by kernel_rfl) (by simp) (AllReady.cons rfl (fun K hK => ?_) (AllReady.nil))
              go_simp
              refine hK _ _ ?_
              clear hK K
              refine wpAny_ready (rs := [8]) (by kernel_rfl) (by simp) (AllReady.cons rfl (fun K hK => ?_) (AllReady.nil))
              (refine step_list (by rintro ⟨_, _, h⟩; obtain ⟨_, hv, _⟩ := h; cases hv) (by kernel_rfl) ?_; first | (refine wpList_append_own_at _ rfl _ _ 23 rfl W.heap.size 43 i0 (.agg #[.int .i64 (0), .int .i64 (0)]) 2 16 Tryd.underlying23 hi hz0 hz1 hz2 rfl (by decide) _ _ _ rfl HO.out _ 1 1 [.int .i64 (x1 + x2), .int .i64 (y1 + y2)] rfl rfl (two_cells RR0.out RR1.out) (two_one _ _) (by unfold maxLen; simp; omega) (by simp; omega) HBA.out.size ?_; intro v3 w3 hown3 hgrow3 _ _; have HBC := Lib.hid (HBA.out.grown hgrow3 HBA.out.size (fun q hq => (World.ownsRow.lt HO.out q hq).1)); have HOC := Lib.hid (Vecs.snoc (l := [] ++ (l.drop 0).take (k + 1)) rfl hown3); clear hown3 hgrow3) | (refine wpList_append_own_at _ rfl _ _ 23 rfl W.heap.size 43 i0 (.agg #[.int .i64 (0), .int .i64 (0)]) 2 16 Tryd.underlying23 hi hz0 hz1 hz2 rfl (by decide) _ _ _ rfl (HO.out.below (by go_grown)) _ 1 1 [.int .i64 (x1 + x2), .int .i64 (y1 + y2)] rfl rfl (two_cells (by simp) (by simp)) (two_one _ _) (by unfold maxLen; simp; omega) (by simp; omega) (HBA.out.alloc HBA.out.size _).size ?_; intro v3 w3 hown3 hgrow3 _ _; have HBC := Lib.hid ((HBA.out.alloc HBA.out.size _).grown hgrow3 (HBA.out.alloc HBA.out.size _).size (fun q hq => (World.ownsRow.lt HO.out q hq).1)); have HOC := Lib.hid (Vecs.snoc (l := [] ++ (l.drop 0).take (k + 1)) rfl hown3); clear hown3 hgrow3))
              refine hK _ _ ?_
              clear hK K
              refine wpAny_ready (rs := [13]) (by kernel_rfl) (by simp) (AllReady.cons rfl (fun K hK => ?_) (AllReady.nil))
              (refine step_list (by rintro ⟨_, _, h⟩; obtain ⟨_, hv, _⟩ := h; cases hv) (by kernel_rfl) ?_; refine wpList_append_own_at _ rfl _ _ 23 rfl W.heap.size 43 i0 (.agg #[.int .i64 (0), .int .i64 (0)]) 2 16 Tryd.underlying23 hi hz0 hz1 hz2 rfl (by decide) _ _ _ rfl HOC.out _ 0 _ [] rfl rfl (fun j u hj => by simp at hj) (fun u hu => by simp at hu) (by unfold maxLen; simp; omega) (by simp; omega) HBC.out.size ?_; intro v4 w4 hown4 hgrow4 _ _; have HBD := Lib.hid (HBC.out.grown hgrow4 HBC.out.size (fun q hq => (World.ownsRow.lt HOC.out q hq).1)); have HOD := Lib.hid (Vecs.join (m := []) hown4 (by have := HL.out; simp <;> omega)); clear hown4 hgrow4)
              refine hK _ _ ?_
              clear hK K
              refine wpAny_seq 14 rfl (by kernel_rfl) ?_
              simp only [List.drop_succ_cons, List.drop_zero]
            rotate_left 1
            focus
              go_simp
              refine hK _ _ ?_
              clear hK K
              refine wpAny_ready (rs := [5]) (by kernel_rfl) (by simp) (AllReady.cons rfl (fun K hK => ?_) (AllReady.nil))
              (refine step_list (by rintro ⟨_, _, h⟩; obtain ⟨_, hv, _⟩ := h; cases hv) (by kernel_rfl) ?_; first | (refine wpList_append_own_at _ rfl _ _ 23 rfl W.heap.size 43 i0 (.agg #[.int .i64 (0), .int .i64 (0)]) 2 16 Tryd.underlying23 hi hz0 hz1 hz2 rfl (by decide) (.slice (some ⟨W.heap.size, 0, none⟩) 0 0) _ _ rfl HO1.out _ _ _ _ rfl (piece_len HT1.out) (piece_cells (HCl.out _ HB1.out) HT1.out) (piece_one _) (by unfold maxLen; simp; omega) (by simp; omega) HB1.out.size ?_; intro v2 w2 hown2 hgrow2 _ _; have HBA := Lib.hid (HB1.out.grown hgrow2 HB1.out.size (fun q hq => (World.ownsRow.lt HO1.out q hq).1)); have HO := Lib.hid (Vecs.join (l := []) hown2 (by have := HL.out; simp <;> omega)); have b0 := (HBA.out.cell (p := ⟨rb, 0, none⟩) hrb).trans c0; have b1 := (HBA.out.cell (p := ⟨rb, 1, none⟩) hrb).trans c1; have bl := Nat.lt_of_lt_of_le hrb HBA.out.size; clear hown2 hgrow2) | (refine wpList_append_own_at _ rfl _ _ 23 rfl W.heap.size 43 i0 (.agg #[.int .i64 (0), .int .i64 (0)]) 2 16 Tryd.underlying23 hi hz0 hz1 hz2 rfl (by decide) (.slice (some ⟨W.heap.size + 1, 0, none⟩) 0 0) _ _ rfl HO3.out _ _ _ _ rfl (piece_len HT1.out) (piece_cells (HCl.out _ HB3.out) HT1.out) (piece_one _) (by unfold maxLen; simp; omega) (by simp; omega) HB3.out.size ?_; intro v2 w2 hown2 hgrow2 _ _; have HBA := Lib.hid (HB3.out.grown hgrow2 HB3.out.size (fun q hq => (World.ownsRow.lt HO3.out q hq).1)); have HO := Lib.hid (Vecs.join (l := []) hown2 (by have := HL.out; simp <;> omega)); have rr : w2.heap[W.heap.size]? = ((W.drew.alloc (.cells #[.int .i64 (x1 + x2), .int .i64 (y1 + y2)] 43)).alloc (.cells #[] 43)).heap[W.heap.size]? := hgrow2.block _ (by simp <;> omega) (by simp [Value.ownBlock]); have RR0 : Hid (w2.cell? ⟨W.heap.size, 0, none⟩ = some (.int .i64 (x1 + x2))) := (cell_same rr 0).trans KR0.out; have RR1 : Hid (w2.cell? ⟨W.heap.size, 1, none⟩ = some (.int .i64 (y1 + y2))) := (cell_same rr 1).trans KR1.out; clear rr; clear hown2 hgrow2) | (refine wpList_append_own_at _ rfl _ _ 23 rfl W.heap.size 43 i0 (.agg #[.int .i64 (0), .int .i64 (0)]) 2 16 Tryd.underlying23 hi hz0 hz1 hz2 rfl (by decide) (.slice (some ⟨W.heap.size, 0, none⟩) 0 0) _ _ rfl HO2.out _ _ _ _ rfl (piece_len HT1.out) (piece_cells (HCl.out _ HB2.out) HT1.out) (piece_one _) (by unfold maxLen; simp; omega) (by simp; omega) HB2.out.size ?_; intro v2 w2 hown2 hgrow2 _ _; have HBA := Lib.hid (HB2.out.grown hgrow2 HB2.out.size (fun q hq => (World.ownsRow.lt HO2.out q hq).1)); have HO := Lib.hid (Vecs.join (l := []) hown2 (by have := HL.out; simp <;> omega)); have rr : w2.heap[W.heap.size + 1]? = ((W.drew.alloc (.cells #[] 43)).alloc (.cells #[.int .i64 (x1 + x2), .int .i64 (y1 + y2)] 43)).heap[W.heap.size + 1]? := hgrow2.block _ (by simp <;> omega) (by simp [Value.ownBlock]); have RR0 : Hid (w2.cell? ⟨W.heap.size + 1, 0, none⟩ = some (.int .i64 (x1 + x2))) := (cell_same rr 0).trans KE0.out; have RR1 : Hid (w2.cell? ⟨W.heap.size + 1, 1, none⟩ = some (.int .i64 (y1 + y2))) := (cell_same rr 1).trans KE1.out; clear rr; clear hown2 hgrow2))
              refine hK _ _ ?_
              clear hK K
              refine wpAny_ready (rs := [8]) (by kernel_rfl) (by simp) (AllReady.cons rfl (fun K hK => ?_) (AllReady.nil))
              (refine step_list (by rintro ⟨_, _, h⟩; obtain ⟨_, hv, _⟩ := h; cases hv) (by kernel_rfl) ?_; first | (refine wpList_append_own_at _ rfl _ _ 23 rfl W.heap.size 43 i0 (.agg #[.int .i64 (0), .int .i64 (0)]) 2 16 Tryd.underlying23 hi hz0 hz1 hz2 rfl (by decide) _ _ _ rfl HO.out _ 1 1 [.int .i64 (x1 + x2), .int .i64 (y1 + y2)] rfl rfl (two_cells RR0.out RR1.out) (two_one _ _) (by unfold maxLen; simp; omega) (by simp; omega) HBA.out.size ?_; intro v3 w3 hown3 hgrow3 _ _; have HBC := Lib.hid (HBA.out.grown hgrow3 HBA.out.size (fun q hq => (World.ownsRow.lt HO.out q hq).1)); have HOC := Lib.hid (Vecs.snoc (l := [] ++ (l.drop 0).take (k + 1)) rfl hown3); clear hown3 hgrow3) | (refine wpList_append_own_at _ rfl _ _ 23 rfl W.heap.size 43 i0 (.agg #[.int .i64 (0), .int .i64 (0)]) 2 16 Tryd.underlying23 hi hz0 hz1 hz2 rfl (by decide) _ _ _ rfl (HO.out.below (by go_grown)) _ 1 1 [.int .i64 (x1 + x2), .int .i64 (y1 + y2)] rfl rfl (two_cells (by simp) (by simp)) (two_one _ _) (by unfold maxLen; simp; omega) (by simp; omega) (HBA.out.alloc HBA.out.size _).size ?_; intro v3 w3 hown3 hgrow3 _ _; have HBC := Lib.hid ((HBA.out.alloc HBA.out.size _).grown hgrow3 (HBA.out.alloc HBA.out.size _).size (fun q hq => (World.ownsRow.lt HO.out q hq).1)); have HOC := Lib.hid (Vecs.snoc (l := [] ++ (l.drop 0).take (k + 1)) rfl hown3); clear hown3 hgrow3))
              refine hK _ _ ?_
              clear hK K
              refine wpAny_ready (rs := [13]) (by kernel_rfl) (by simp) (AllReady.cons rfl (fun K hK => ?_) (AllReady.nil))
              (refine step_list (by rintro ⟨_, _, h⟩; obtain ⟨_, hv, _⟩ := h; cases hv) (by kernel_rfl) ?_; refine wpList_append_own_at _ rfl _ _ 23 rfl W.heap.size 43 i0 (.agg #[.int .i64 (0), .int .i64 (0)]) 2 16 Tryd.underlying23 hi hz0 hz1 hz2 rfl (by decide) _ _ _ rfl HOC.out _ 0 _ [] rfl rfl (fun j u hj => by simp at hj) (fun u hu => by simp at hu) (by unfold maxLen; simp; omega) (by simp; omega) HBC.out.size ?_; intro v4 w4 hown4 hgrow4 _ _; have HBD := Lib.hid (HBC.out.grown hgrow4 HBC.out.size (fun q hq => (World.ownsRow.lt HOC.out q hq).1)); have HOD := Lib.hid (Vecs.join (m := []) hown4 (by have := HL.out; simp <;> omega)); clear hown4 hgrow4)
              refine hK _ _ ?_
              clear hK K
              refine wpAny_seq 14 rfl (by kernel_rfl) ?_
              simp only [List.drop_succ_cons, List.drop_zero]
          rotate_left 2
          focus
            go_simp
            refine hK _ _ ?_
            clear hK K
            refine wpAny_ready (rs := [0]) (by kernel_rfl) (by simp) (AllReady.cons rfl (fun K hK => ?_) (AllReady.nil))
            go_simp
            refine hK _ _ ?_
            clear hK K
            refine wpAny_ready (rs := [5]) (by kernel_rfl) (by simp) (AllReady.cons rfl (fun K hK => ?_) (AllReady.nil))
            (refine step_list (by rintro ⟨_, _, h⟩; obtain ⟨_, hv, _⟩ := h; cases hv) (by kernel_rfl) ?_; first | (refine wpList_append_own_at _ rfl _ _ 23 rfl W.heap.size 43 i0 (.agg #[.int .i64 (0), .int .i64 (0)]) 2 16 Tryd.underlying23 hi hz0 hz1 hz2 rfl (by decide) (.slice (some ⟨W.heap.size, 0, none⟩) 0 0) _ _ rfl HO1.out _ _ _ _ rfl (piece_len HT1.out) (piece_cells (HCl.out _ HB1.out) HT1.out) (piece_one _) (by unfold maxLen; simp; omega) (by simp; omega) HB1.out.size ?_; intro v2 w2 hown2 hgrow2 _ _; have HBA := Lib.hid (HB1.out.grown hgrow2 HB1.out.size (fun q hq => (World.ownsRow.lt HO1.out q hq).1)); have HO := Lib.hid (Vecs.join (l := []) hown2 (by have := HL.out; simp <;> omega)); have b0 := (HBA.out.cell (p := ⟨rb, 0, none⟩) hrb).trans c0; have b1 := (HBA.out.cell (p := ⟨rb, 1, none⟩) hrb).trans c1; have bl := Nat.lt_of_lt_of_le hrb HBA.out.size; clear hown2 hgrow2) | (refine wpList_append_own_at _ rfl _ _ 23 rfl W.heap.size 43 i0 (.agg #[.int .i64 (0), .int .i64 (0)]) 2 16 Tryd.underlying23 hi hz0 hz1 hz2 rfl (by decide) (.slice (some ⟨W.heap.size + 1, 0, none⟩) 0 0) _ _ rfl HO3.out _ _ _ _ rfl (piece_len HT1.out) (piece_cells (HCl.out _ HB3.out) HT1.out) (piece_one _) (by unfold maxLen; simp; omega) (by simp; omega) HB3.out.size ?_; intro v2 w2 hown2 hgrow2 _ _; have HBA := Lib.hid (HB3.out.grown hgrow2 HB3.out.size (fun q hq => (World.ownsRow.lt HO3.out q hq).1)); have HO := Lib.hid (Vecs.join (l := []) hown2 (by have := HL.out; simp <;> omega)); have rr : w2.heap[W.heap.size]? = ((W.drew.alloc (.cells #[.int .i64 (x1 + x2), .int .i64 (y1 + y2)] 43)).alloc (.cells #[] 43)).heap[W.heap.size]? := hgrow2.block _ (by simp <;> omega) (by simp [Value.ownBlock]); have RR0 : Hid (w2.cell? ⟨W.heap.size, 0, none⟩ = some (.int .i64 (x1 + x2))) := (cell_same rr 0).trans KR0.out; have RR1 : Hid (w2.cell? ⟨W.heap.size, 1, none⟩ = some (.int .i64 (y1 + y2))) := (cell_same rr 1).trans KR1.out; clear rr; clear hown2 hgrow2) | (refine wpList_append_own_at _ rfl _ _ 23 rfl W.heap.size 43 i0 (.agg #[.int .i64 (0), .int .i64 (0)]) 2 16 Tryd.underlying23 hi hz0 hz1 hz2 rfl (by decide) (.slice (some ⟨W.heap.size, 0, none⟩) 0 0) _ _ rfl HO2.out _ _ _ _ rfl (piece_len HT1.out) (piece_cells (HCl.out _ HB2.out) HT1.out) (piece_one _) (by unfold maxLen; simp; omega) (by simp; omega) HB2.out.size ?_; intro v2 w2 hown2 hgrow2 _ _; have HBA := Lib.hid (HB2.out.grown hgrow2 HB2.out.size (fun q hq => (World.ownsRow.lt HO2.out q hq).1)); have HO := Lib.hid (Vecs.join (l := []) hown2 (by have := HL.out; simp <;> omega)); have rr : w2.heap[W.heap.size + 1]? = ((W.drew.alloc (.cells #[] 43)).alloc (.cells #[.int .i64 (x1 + x2), .int .i64 (y1 + y2)] 43)).heap[W.heap.size + 1]? := hgrow2.block _ (by simp <;> omega) (by simp [Value.ownBlock]); have RR0 : Hid (w2.cell? ⟨W.heap.size + 1, 0, none⟩ = some (.int .i64 (x1 + x2))) := (cell_same rr 0).trans KE0.out; have RR1 : Hid (w2.cell? ⟨W.heap.size + 1, 1, none⟩ = some (.int .i64 (y1 + y2))) := (cell_same rr 1).trans KE1.out; clear rr; clear hown2 hgrow2))
            refine hK _ _ ?_
            clear hK K
            refine wpAny_ready (rs := [8]) (by kernel_rfl) (by simp) (AllReady.cons rfl (fun K hK => ?_) (AllReady.nil))
            (refine step_list (by rintro ⟨_, _, h⟩; obtain ⟨_, hv, _⟩ := h; cases hv) (by kernel_rfl) ?_; first | (refine wpList_append_own_at _ rfl _ _ 23 rfl W.heap.size 43 i0 (.agg #[.int .i64 (0), .int .i64 (0)]) 2 16 Tryd.underlying23 hi hz0 hz1 hz2 rfl (by decide) _ _ _ rfl HO.out _ 1 1 [.int .i64 (x1 + x2), .int .i64 (y1 + y2)] rfl rfl (two_cells RR0.out RR1.out) (two_one _ _) (by unfold maxLen; simp; omega) (by simp; omega) HBA.out.size ?_; intro v3 w3 hown3 hgrow3 _ _; have HBC := Lib.hid (HBA.out.grown hgrow3 HBA.out.size (fun q hq => (World.ownsRow.lt HO.out q hq).1)); have HOC := Lib.hid (Vecs.snoc (l := [] ++ (l.drop 0).take (k + 1)) rfl hown3); clear hown3 hgrow3) | (refine wpList_append_own_at _ rfl _ _ 23 rfl W.heap.size 43 i0 (.agg #[.int .i64 (0), .int .i64 (0)]) 2 16 Tryd.underlying23 hi hz0 hz1 hz2 rfl (by decide) _ _ _ rfl (HO.out.below (by go_grown)) _ 1 1 [.int .i64 (x1 + x2), .int .i64 (y1 + y2)] rfl rfl (two_cells (by simp) (by simp)) (two_one _ _) (by unfold maxLen; simp; omega) (by simp; omega) (HBA.out.alloc HBA.out.size _).size ?_; intro v3 w3 hown3 hgrow3 _ _; have HBC := Lib.hid ((HBA.out.alloc HBA.out.size _).grown hgrow3 (HBA.out.alloc HBA.out.size _).size (fun q hq => (World.ownsRow.lt HO.out q hq).1)); have HOC := Lib.hid (Vecs.snoc (l := [] ++ (l.drop 0).take (k + 1)) rfl hown3); clear hown3 hgrow3))
            refine hK _ _ ?_
            clear hK K
            refine wpAny_ready (rs := [13]) (by kernel_rfl) (by simp) (AllReady.cons rfl (fun K hK => ?_) (AllReady.nil))
            (refine step_list (by rintro ⟨_, _, h⟩; obtain ⟨_, hv, _⟩ := h; cases hv) (by kernel_rfl) ?_; refine wpList_append_own_at _ rfl _ _ 23 rfl W.heap.size 43 i0 (.agg #[.int .i64 (0), .int .i64 (0)]) 2 16 Tryd.underlying23 hi hz0 hz1 hz2 rfl (by decide) _ _ _ rfl HOC.out _ 0 _ [] rfl rfl (fun j u hj => by simp at hj) (fun u hu => by simp at hu) (by unfold maxLen; simp; omega) (by simp; omega) HBC.out.size ?_; intro v4 w4 hown4 hgrow4 _ _; have HBD := Lib.hid (HBC.out.grown hgrow4 HBC.out.size (fun q hq => (World.ownsRow.lt HOC.out q hq).1)); have HOD := Lib.hid (Vecs.join (m := []) hown4 (by have := HL.out; simp <;> omega)); clear hown4 hgrow4)
            refine hK _ _ ?_
            clear hK K
            refine wpAny_seq 14 rfl (by kernel_rfl) ?_
            simp only [List.drop_succ_cons, List.drop_zero]
        all_goals go_wp2_with fail
        all_goals
          rw [HR.out] at HOD
          refine Calls.mono (HSI.out _ _ _ (HOD.out.reads (by rw [blowL_len HK0.out]; omega))) ?_
          rintro e w5 ⟨rfl, hb5⟩
          have hB5 := belowTo HBW.out (HBD.out.trans (hb5.mono HBD.out.size))
          have HO5 := Lib.hid ((HOD.out.below hb5).lower (base' := w.heap.size) HBW.out.size)
          have hs5 := hB5.size
          have HE5 := Lib.hid ((hE.out w5).lower hs5)
          clear hb5
          cases hK : fanB (blowL l k (x1 + x2, y1 + y2))
          · have HK := Lib.hid hK
            clear hK
            go_wp2
            go_returns
            first
              | exact ⟨_, rfl, HE5.out, by go_grown⟩
              | (rw [HK.out]; exact ⟨_, rfl, HE5.out, by go_grown⟩)
          · have HK := Lib.hid hK
            clear hK
            go_wp2
            go_returns
            first
              | exact ⟨_, rfl, HO5.out, hB5⟩
              | (rw [HK.out]; exact ⟨_, rfl, HO5.out, hB5⟩)
      case neg =>
        have HT2 : Hid (k + 1 + (n - (k + 1)) ≤ l.length) := by have := HL.out; show k + 1 + (n - (k + 1)) ≤ l.length; omega
        have HR : Hid ((([] ++ (l.drop 0).take (k + 1)) ++ [(x1 + x2, y1 + y2)]) ++ (l.drop (k + 1)).take (n - (k + 1)) = blowL l k (x1 + x2, y1 + y2)) := by
          unfold blowL
          rw [List.take_of_length_le (l := l.drop (k + 1)) (by have := HL.out; simp <;> omega)]
          rfl
        have j1 : k + 1 ≤ n := by omega
        have j2 : ¬ (k + 1) * 2 = 0 := by omega
        have j3 : (k : Int) + 1 ≤ (n : Int) := by omega
        go_wp2
        refine wp_region_any (by kernel_rfl) ?_
        try (change wpAny _ _ _ _ _ _ _ (World.drew _))
        refine wpAny_take (i := 1) (v := ?_) rfl (by kernel_rfl) (by kernel_rfl) (by kernel_rfl) (fun _ _ _ h => h) (Or.inl ⟨by rfl, ?_⟩) ?_
        rotate_left
        focus (intro w0; go_simp; try with_reducible rfl)
        refine wpAny_take (i := 2) (v := ?_) rfl (by kernel_rfl) (by kernel_rfl) (by kernel_rfl) (fun _ _ _ h => h) (Or.inl ⟨by rfl, ?_⟩) ?_
        rotate_left
        focus (intro w0; go_simp; try with_reducible rfl)
        refine wpAny_take (i := 3) (v := ?_) rfl (by kernel_rfl) (by kernel_rfl) (by kernel_rfl) (fun _ _ _ h => h) (Or.inl ⟨by rfl, ?_⟩) ?_
        rotate_left
        focus (intro w0; go_simp; try with_reducible rfl)
        refine wpAny_take (i := 4) (v := ?_) rfl (by kernel_rfl) (by kernel_rfl) (by kernel_rfl) (fun _ _ _ h => h) (Or.inl ⟨by rfl, ?_⟩) ?_
        rotate_left
        focus (intro w0; go_simp; try with_reducible rfl)
        refine wpAny_take (i := 9) (v := ?_) rfl (by kernel_rfl) (by kernel_rfl) (by kernel_rfl) (fun _ _ _ h => h) (Or.inl ⟨by rfl, ?_⟩) ?_
        rotate_left
        focus (intro w0; go_simp; try with_reducible rfl)
        refine wpAny_take (i := 10) (v := ?_) rfl (by kernel_rfl) (by kernel_rfl) (by kernel_rfl) (fun _ _ _ h => h) (Or.inl ⟨by rfl, ?_⟩) ?_
        rotate_left
        focus (intro w0; go_simp; try with_reducible rfl)
        refine wpAny_take (i := 11) (v := ?_) rfl (by kernel_rfl) (by kernel_rfl) (by kernel_rfl) (fun _ _ _ h => h) (Or.inl ⟨by rfl, ?_⟩) ?_
        rotate_left
        focus (intro w0; go_simp; try with_reducible rfl)
        refine wpAny_take (i := 12) (v := ?_) rfl (by kernel_rfl) (by kernel_rfl) (by kernel_rfl) (fun _ _ _ h => h) (Or.inl ⟨by rfl, ?_⟩) ?_
        rotate_left
        focus (intro w0; go_simp; try with_reducible rfl)
        refine wpAny_ready (rs := [0, 6]) (by kernel_rfl) (by simp) (AllReady.cons rfl (fun K hK => ?_) (AllReady.cons rfl (fun K hK => ?_) (AllReady.nil)))
        focus
          go_simp
          refine hK _ _ ?_
          clear hK K
          refine wpAny_ready (rs := [5, 6]) (by kernel_rfl) (by simp) (AllReady.cons rfl (fun K hK => ?_) (AllReady.cons rfl (fun K hK => ?_) (AllReady.nil)))
          focus
            (refine step_list (by rintro ⟨_, _, h⟩; obtain ⟨_, hv, _⟩ := h; cases hv) (by kernel_rfl) ?_; first | (refine wpList_append_own_at _ rfl _ _ 23 rfl W.heap.size 43 i0 (.agg #[.int .i64 (0), .int .i64 (0)]) 2 16 Tryd.underlying23 hi hz0 hz1 hz2 rfl (by decide) (.slice (some ⟨W.heap.size, 0, none⟩) 0 0) _ _ rfl HO1.out _ _ _ _ rfl (piece_len HT1.out) (piece_cells (HCl.out _ HB1.out) HT1.out) (piece_one _) (by unfold maxLen; simp; omega) (by simp; omega) HB1.out.size ?_; intro v2 w2 hown2 hgrow2 _ _; have HBA := Lib.hid (HB1.out.grown hgrow2 HB1.out.size (fun q hq => (World.ownsRow.lt HO1.out q hq).1)); have HO := Lib.hid (Vecs.join (l := []) hown2 (by have := HL.out; simp <;> omega)); have b0 := (HBA.out.cell (p := ⟨rb, 0, none⟩) hrb).trans c0; have b1 := (HBA.out.cell (p := ⟨rb, 1, none⟩) hrb).trans c1; have bl := Nat.lt_of_lt_of_le hrb HBA.out.size; clear hown2 hgrow2) | (refine wpList_append_own_at _ rfl _ _ 23 rfl W.heap.size 43 i0 (.agg #[.int .i64 (0), .int .i64 (0)]) 2 16 Tryd.underlying23 hi hz0 hz1 hz2 rfl (by decide) (.slice (some ⟨W.heap.size + 1, 0, none⟩) 0 0) _ _ rfl HO3.out _ _ _ _ rfl (piece_len HT1.out) (piece_cells (HCl.out _ HB3.out) HT1.out) (piece_one _) (by unfold maxLen; simp; omega) (by simp; omega) HB3.out.size ?_; intro v2 w2 hown2 hgrow2 _ _; have HBA := Lib.hid (HB3.out.grown hgrow2 HB3.out.size (fun q hq => (World.ownsRow.lt HO3.out q hq).1)); have HO := Lib.hid (Vecs.join (l := []) hown2 (by have := HL.out; simp <;> omega)); have rr : w2.heap[W.heap.size]? = ((W.drew.alloc (.cells #[.int .i64 (x1 + x2), .int .i64 (y1 + y2)] 43)).alloc (.cells #[] 43)).heap[W.heap.size]? := hgrow2.block _ (by simp <;> omega) (by simp [Value.ownBlock]); have RR0 : Hid (w2.cell? ⟨W.heap.size, 0, none⟩ = some (.int .i64 (x1 + x2))) := (cell_same rr 0).trans KR0.out; have RR1 : Hid (w2.cell? ⟨W.heap.size, 1, none⟩ = some (.int .i64 (y1 + y2))) := (cell_same rr 1).trans KR1.out; clear rr; clear hown2 hgrow2) | (refine wpList_append_own_at _ rfl _ _ 23 rfl W.heap.size 43 i0 (.agg #[.int .i64 (0), .int .i64 (0)]) 2 16 Tryd.underlying23 hi hz0 hz1 hz2 rfl (by decide) (.slice (some ⟨W.heap.size, 0, none⟩) 0 0) _ _ rfl HO2.out _ _ _ _ rfl (piece_len HT1.out) (piece_cells (HCl.out _ HB2.out) HT1.out) (piece_one _) (by unfold maxLen; simp; omega) (by simp; omega) HB2.out.size ?_; intro v2 w2 hown2 hgrow2 _ _; have HBA := Lib.hid (HB2.out.grown hgrow2 HB2.out.size (fun q hq => (World.ownsRow.lt HO2.out q hq).1)); have HO := Lib.hid (Vecs.join (l := []) hown2 (by have := HL.out; simp <;> omega)); have rr : w2.heap[W.heap.size + 1]? = ((W.drew.alloc (.cells #[] 43)).alloc (.cells #[.int .i64 (x1 + x2), .int .i64 (y1 + y2)] 43)).heap[W.heap.size + 1]? := hgrow2.block _ (by simp <;> omega) (by simp [Value.ownBlock]); have RR0 : Hid (w2.cell? ⟨W.heap.size + 1, 0, none⟩ = some (.int .i64 (x1 + x2))) := (cell_same rr 0).trans KE0.out; have RR1 : Hid (w2.cell? ⟨W.heap.size + 1, 1, none⟩ = some (.int .i64 (y1 + y2))) := (cell_same rr 1).trans KE1.out; clear rr; clear hown2 hgrow2))
            refine hK _ _ ?_
            clear hK K
            refine wpAny_ready (rs := [6]) (by kernel_rfl) (by simp) (AllReady.cons rfl (fun K hK => ?_) (AllReady.nil))
            go_simp
            refine hK _ _ ?_
            clear hK K
            refine wpAny_ready (rs := [7]) (by kernel_rfl) (by simp) (AllReady.cons rfl (fun K hK => ?_) (AllReady.nil))
            go_simp
            refine hK _ _ ?_
            clear hK K
            refine wpAny_ready (rs := [8]) (by kernel_rfl) (by simp) (AllReady.cons rfl (fun K hK => ?_) (AllReady.nil))
            (refine step_list (by rintro ⟨_, _, h⟩; obtain ⟨_, hv, _⟩ := h; cases hv) (by kernel_rfl) ?_; first | (refine wpList_append_own_at _ rfl _ _ 23 rfl W.heap.size 43 i0 (.agg #[.int .i64 (0), .int .i64 (0)]) 2 16 Tryd.underlying23 hi hz0 hz1 hz2 rfl (by decide) _ _ _ rfl HO.out _ 1 1 [.int .i64 (x1 + x2), .int .i64 (y1 + y2)] rfl rfl (two_cells RR0.out RR1.out) (two_one _ _) (by unfold maxLen; simp; omega) (by simp; omega) HBA.out.size ?_; intro v3 w3 hown3 hgrow3 _ _; have HBC := Lib.hid (HBA.out.grown hgrow3 HBA.out.size (fun q hq => (World.ownsRow.lt HO.out q hq).1)); have HOC := Lib.hid (Vecs.snoc (l := [] ++ (l.drop 0).take (k + 1)) rfl hown3); clear hown3 hgrow3) | (refine wpList_append_own_at _ rfl _ _ 23 rfl W.heap.size 43 i0 (.agg #[.int .i64 (0), .int .i64 (0)]) 2 16 Tryd.underlying23 hi hz0 hz1 hz2 rfl (by decide) _ _ _ rfl (HO.out.below (by go_grown)) _ 1 1 [.int .i64 (x1 + x2), .int .i64 (y1 + y2)] rfl rfl (two_cells (by simp) (by simp)) (two_one _ _) (by unfold maxLen; simp; omega) (by simp; omega) (HBA.out.alloc HBA.out.size _).size ?_; intro v3 w3 hown3 hgrow3 _ _; have HBC := Lib.hid ((HBA.out.alloc HBA.out.size _).grown hgrow3 (HBA.out.alloc HBA.out.size _).size (fun q hq => (World.ownsRow.lt HO.out q hq).1)); have HOC := Lib.hid (Vecs.snoc (l := [] ++ (l.drop 0).take (k + 1)) rfl hown3); clear hown3 hgrow3))
            refine hK _ _ ?_
            clear hK K
            refine wpAny_ready (rs := [13]) (by kernel_rfl) (by simp) (AllReady.cons rfl (fun K hK => ?_) (AllReady.nil))
            (refine step_list (by rintro ⟨_, _, h⟩; obtain ⟨_, hv, _⟩ := h; cases hv) (by kernel_rfl) ?_; refine wpList_append_own_at _ rfl _ _ 23 rfl W.heap.size 43 i0 (.agg #[.int .i64 (0), .int .i64 (0)]) 2 16 Tryd.underlying23 hi hz0 hz1 hz2 rfl (by decide) _ _ _ rfl HOC.out _ _ _ _ rfl (piece_len HT2.out) (piece_cells (HCl.out _ HBC.out) HT2.out) (piece_one _) (by unfold maxLen; simp; omega) (by simp; omega) HBC.out.size ?_; intro v4 w4 hown4 hgrow4 _ _; have HBD := Lib.hid (HBC.out.grown hgrow4 HBC.out.size (fun q hq => (World.ownsRow.lt HOC.out q hq).1)); have HOD := Lib.hid (Vecs.join hown4 (by have := HL.out; simp <;> omega)); clear hown4 hgrow4)
            refine hK _ _ ?_
            clear hK K
            refine wpAny_seq 14 rfl (by kernel_rfl) ?_
            simp only [List.drop_succ_cons, List.drop_zero]
          rotate_left 1
          focus
            go_simp
            refine hK _ _ ?_
            clear hK K
            refine wpAny_ready (rs := [5, 7]) (by kernel_rfl) (by simp) (AllReady.cons rfl (fun K hK => ?_) (AllReady.cons rfl (fun K hK => ?_) (AllReady.nil)))
            focus
              (refine step_list (by rintro ⟨_, _, h⟩; obtain ⟨_, hv, _⟩ := h; cases hv) (by kernel_rfl) ?_; first | (refine wpList_append_own_at _ rfl _ _ 23 rfl W.heap.size 43 i0 (.agg #[.int .i64 (0), .int .i64 (0)]) 2 16 Tryd.underlying23 hi hz0 hz1 hz2 rfl (by decide) (.slice (some ⟨W.heap.size, 0, none⟩) 0 0) _ _ rfl HO1.out _ _ _ _ rfl (piece_len HT1.out) (piece_cells (HCl.out _ HB1.out) HT1.out) (piece_one _) (by unfold maxLen; simp; omega) (by simp; omega) HB1.out.size ?_; intro v2 w2 hown2 hgrow2 _ _; have HBA := Lib.hid (HB1.out.grown hgrow2 HB1.out.size (fun q hq => (World.ownsRow.lt HO1.out q hq).1)); have HO := Lib.hid (Vecs.join (l := []) hown2 (by have := HL.out; simp <;> omega)); have b0 := (HBA.out.cell (p := ⟨rb, 0, none⟩) hrb).trans c0; have b1 := (HBA.out.cell (p := ⟨rb, 1, none⟩) hrb).trans c1; have bl := Nat.lt_of_lt_of_le hrb HBA.out.size; clear hown2 hgrow2) | (refine wpList_append_own_at _ rfl _ _ 23 rfl W.heap.size 43 i0 (.agg #[.int .i64 (0), .int .i64 (0)]) 2 16 Tryd.underlying23 hi hz0 hz1 hz2 rfl (by decide) (.slice (some ⟨W.heap.size + 1, 0, none⟩) 0 0) _ _ rfl HO3.out _ _ _ _ rfl (piece_len HT1.out) (piece_cells (HCl.out _ HB3.out) HT1.out) (piece_one _) (by unfold maxLen; simp; omega) (by simp; omega) HB3.out.size ?_; intro v2 w2 hown2 hgrow2 _ _; have HBA := Lib.hid (HB3.out.grown hgrow2 HB3.out.size (fun q hq => (World.ownsRow.lt HO3.out q hq).1)); have HO := Lib.hid (Vecs.join (l := []) hown2 (by have := HL.out; simp <;> omega)); have rr : w2.heap[W.heap.size]? = ((W.drew.alloc (.cells #[.int .i64 (x1 + x2), .int .i64 (y1 + y2)] 43)).alloc (.cells #[] 43)).heap[W.heap.size]? := hgrow2.block _ (by simp <;> omega) (by simp [Value.ownBlock]); have RR0 : Hid (w2.cell? ⟨W.heap.size, 0, none⟩ = some (.int .i64 (x1 + x2))) := (cell_same rr 0).trans KR0.out; have RR1 : Hid (w2.cell? ⟨W.heap.size, 1, none⟩ = some (.int .i64 (y1 + y2))) := (cell_same rr 1).trans KR1.out; clear rr; clear hown2 hgrow2) | (refine wpList_append_own_at _ rfl _ _ 23 rfl W.heap.size 43 i0 (.agg #[.int .i64 (0), .int .i64 (0)]) 2 16 Tryd.underlying23 hi hz0 hz1 hz2 rfl (by decide) (.slice (some ⟨W.heap.size, 0, none⟩) 0 0) _ _ rfl HO2.out _ _ _ _ rfl (piece_len HT1.out) (piece_cells (HCl.out _ HB2.out) HT1.out) (piece_one _) (by unfold maxLen; simp; omega) (by simp; omega) HB2.out.size ?_; intro v2 w2 hown2 hgrow2 _ _; have HBA := Lib.hid (HB2.out.grown hgrow2 HB2.out.size (fun q hq => (World.ownsRow.lt HO2.out q hq).1)); have HO := Lib.hid (Vecs.join (l := []) hown2 (by have := HL.out; simp <;> omega)); have rr : w2.heap[W.heap.size + 1]? = ((W.drew.alloc (.cells #[] 43)).alloc (.cells #[.int .i64 (x1 + x2), .int .i64 (y1 + y2)] 43)).heap[W.heap.size + 1]? := hgrow2.block _ (by simp <;> omega) (by simp [Value.ownBlock]); have RR0 : Hid (w2.cell? ⟨W.heap.size + 1, 0, none⟩ = some (.int .i64 (x1 + x2))) := (cell_same rr 0).trans KE0.out; have RR1 : Hid (w2.cell? ⟨W.heap.size + 1, 1, none⟩ = some (.int .i64 (y1 + y2))) := (cell_same rr 1).trans KE1.out; clear rr; clear hown2 hgrow2))
              refine hK _ _ ?_
              clear hK K
              refine wpAny_ready (rs := [7]) (by kernel_rfl) (by simp) (AllReady.cons rfl (fun K hK => ?_) (AllReady.nil))
              go_simp
              refine hK _ _ ?_
              clear hK K
              refine wpAny_ready (rs := [8]) (by kernel_rfl) (by simp) (AllReady.cons rfl (fun K hK => ?_) (AllReady.nil))
              (refine step_list (by rintro ⟨_, _, h⟩; obtain ⟨_, hv, _⟩ := h; cases hv) (by kernel_rfl) ?_; first | (refine wpList_append_own_at _ rfl _ _ 23 rfl W.heap.size 43 i0 (.agg #[.int .i64 (0), .int .i64 (0)]) 2 16 Tryd.underlying23 hi hz0 hz1 hz2 rfl (by decide) _ _ _ rfl HO.out _ 1 1 [.int .i64 (x1 + x2), .int .i64 (y1 + y2)] rfl rfl (two_cells RR0.out RR1.out) (two_one _ _) (by unfold maxLen; simp; omega) (by simp; omega) HBA.out.size ?_; intro v3 w3 hown3 hgrow3 _ _; have HBC := Lib.hid (HBA.out.grown hgrow3 HBA.out.size (fun q hq => (World.ownsRow.lt HO.out q hq).1)); have HOC := Lib.hid (Vecs.snoc (l := [] ++ (l.drop 0).take (k + 1)) rfl hown3); clear hown3 hgrow3) | (refine wpList_append_own_at _ rfl _ _ 23 rfl W.heap.size 43 i0 (.agg #[.int .i64 (0), .int .i64 (0)]) 2 16 Tryd.underlying23 hi hz0 hz1 hz2 rfl (by decide) _ _ _ rfl (HO.out.below (by go_grown)) _ 1 1 [.int .i64 (x1 + x2), .int .i64 (y1 + y2)] rfl rfl (two_cells (by simp) (by simp)) (two_one _ _) (by unfold maxLen; simp; omega) (by simp; omega) (HBA.out.alloc HBA.out.size _).size ?_; intro v3 w3 hown3 hgrow3 _ _; have HBC := Lib.hid ((HBA.out.alloc HBA.out.size _).grown hgrow3 (HBA.out.alloc HBA.out.size _).size (fun q hq => (World.ownsRow.lt HO.out q hq).1)); have HOC := Lib.hid (Vecs.snoc (l := [] ++ (l.drop 0).take (k + 1)) rfl hown3); clear hown3 hgrow3))
              refine hK _ _ ?_
              clear hK K
              refine wpAny_ready (rs := [13]) (by kernel_rfl) (by simp) (AllReady.cons rfl (fun K hK => ?_) (AllReady.nil))
              (refine step_list (by rintro ⟨_, _, h⟩; obtain ⟨_, hv, _⟩ := h; cases hv) (by kernel_rfl) ?_; refine wpList_append_own_at _ rfl _ _ 23 rfl W.heap.size 43 i0 (.agg #[.int .i64 (0), .int .i64 (0)]) 2 16 Tryd.underlying23 hi hz0 hz1 hz2 rfl (by decide) _ _ _ rfl HOC.out _ _ _ _ rfl (piece_len HT2.out) (piece_cells (HCl.out _ HBC.out) HT2.out) (piece_one _) (by unfold maxLen; simp; omega) (by simp; omega) HBC.out.size ?_; intro v4 w4 hown4 hgrow4 _ _; have HBD := Lib.hid (HBC.out.grown hgrow4 HBC.out.size (fun q hq => (World.ownsRow.lt HOC.out q hq).1)); have HOD := Lib.hid (Vecs.join hown4 (by have := HL.out; simp <;> omega)); clear hown4 hgrow4)
              refine hK _ _ ?_
              clear hK K
              refine wpAny_seq 14 rfl (by kernel_rfl) ?_
              simp only [List.drop_succ_cons, List.drop_zero]
            rotate_left 1
            focus
              go_simp
              refine hK _ _ ?_
              clear hK K
              refine wpAny_ready (rs := [5]) (by kernel_rfl) (by simp) (AllReady.cons rfl (fun K hK => ?_) (AllReady.nil))
              (refine step_list (by rintro ⟨_, _, h⟩; obtain ⟨_, hv, _⟩ := h; cases hv) (by kernel_rfl) ?_; first | (refine wpList_append_own_at _ rfl _ _ 23 rfl W.heap.size 43 i0 (.agg #[.int .i64 (0), .int .i64 (0)]) 2 16 Tryd.underlying23 hi hz0 hz1 hz2 rfl (by decide) (.slice (some ⟨W.heap.size, 0, none⟩) 0 0) _ _ rfl HO1.out _ _ _ _ rfl (piece_len HT1.out) (piece_cells (HCl.out _ HB1.out) HT1.out) (piece_one _) (by unfold maxLen; simp; omega) (by simp; omega) HB1.out.size ?_; intro v2 w2 hown2 hgrow2 _ _; have HBA := Lib.hid (HB1.out.grown hgrow2 HB1.out.size (fun q hq => (World.ownsRow.lt HO1.out q hq).1)); have HO := Lib.hid (Vecs.join (l := []) hown2 (by have := HL.out; simp <;> omega)); have b0 := (HBA.out.cell (p := ⟨rb, 0, none⟩) hrb).trans c0; have b1 := (HBA.out.cell (p := ⟨rb, 1, none⟩) hrb).trans c1; have bl := Nat.lt_of_lt_of_le hrb HBA.out.size; clear hown2 hgrow2) | (refine wpList_append_own_at _ rfl _ _ 23 rfl W.heap.size 43 i0 (.agg #[.int .i64 (0), .int .i64 (0)]) 2 16 Tryd.underlying23 hi hz0 hz1 hz2 rfl (by decide) (.slice (some ⟨W.heap.size + 1, 0, none⟩) 0 0) _ _ rfl HO3.out _ _ _ _ rfl (piece_len HT1.out) (piece_cells (HCl.out _ HB3.out) HT1.out) (piece_one _) (by unfold maxLen; simp; omega) (by simp; omega) HB3.out.size ?_; intro v2 w2 hown2 hgrow2 _ _; have HBA := Lib.hid (HB3.out.grown hgrow2 HB3.out.size (fun q hq => (World.ownsRow.lt HO3.out q hq).1)); have HO := Lib.hid (Vecs.join (l := []) hown2 (by have := HL.out; simp <;> omega)); have rr : w2.heap[W.heap.size]? = ((W.drew.alloc (.cells #[.int .i64 (x1 + x2), .int .i64 (y1 + y2)] 43)).alloc (.cells #[] 43)).heap[W.heap.size]? := hgrow2.block _ (by simp <;> omega) (by simp [Value.ownBlock]); have RR0 : Hid (w2.cell? ⟨W.heap.size, 0, none⟩ = some (.int .i64 (x1 + x2))) := (cell_same rr 0).trans KR0.out; have RR1 : Hid (w2.cell? ⟨W.heap.size, 1, none⟩ = some (.int .i64 (y1 + y2))) := (cell_same rr 1).trans KR1.out; clear rr; clear hown2 hgrow2) | (refine wpList_append_own_at _ rfl _ _ 23 rfl W.heap.size 43 i0 (.agg #[.int .i64 (0), .int .i64 (0)]) 2 16 Tryd.underlying23 hi hz0 hz1 hz2 rfl (by decide) (.slice (some ⟨W.heap.size, 0, none⟩) 0 0) _ _ rfl HO2.out _ _ _ _ rfl (piece_len HT1.out) (piece_cells (HCl.out _ HB2.out) HT1.out) (piece_one _) (by unfold maxLen; simp; omega) (by simp; omega) HB2.out.size ?_; intro v2 w2 hown2 hgrow2 _ _; have HBA := Lib.hid (HB2.out.grown hgrow2 HB2.out.size (fun q hq => (World.ownsRow.lt HO2.out q hq).1)); have HO := Lib.hid (Vecs.join (l := []) hown2 (by have := HL.out; simp <;> omega)); have rr : w2.heap[W.heap.size + 1]? = ((W.drew.alloc (.cells #[] 43)).alloc (.cells #[.int .i64 (x1 + x2), .int .i64 (y1 + y2)] 43)).heap[W.heap.size + 1]? := hgrow2.block _ (by simp <;> omega) (by simp [Value.ownBlock]); have RR0 : Hid (w2.cell? ⟨W.heap.size + 1, 0, none⟩ = some (.int .i64 (x1 + x2))) := (cell_same rr 0).trans KE0.out; have RR1 : Hid (w2.cell? ⟨W.heap.size + 1, 1, none⟩ = some (.int .i64 (y1 + y2))) := (cell_same rr 1).trans KE1.out; clear rr; clear hown2 hgrow2))
              refine hK _ _ ?_
              clear hK K
              refine wpAny_ready (rs := [8]) (by kernel_rfl) (by simp) (AllReady.cons rfl (fun K hK => ?_) (AllReady.nil))
              (refine step_list (by rintro ⟨_, _, h⟩; obtain ⟨_, hv, _⟩ := h; cases hv) (by kernel_rfl) ?_; first | (refine wpList_append_own_at _ rfl _ _ 23 rfl W.heap.size 43 i0 (.agg #[.int .i64 (0), .int .i64 (0)]) 2 16 Tryd.underlying23 hi hz0 hz1 hz2 rfl (by decide) _ _ _ rfl HO.out _ 1 1 [.int .i64 (x1 + x2), .int .i64 (y1 + y2)] rfl rfl (two_cells RR0.out RR1.out) (two_one _ _) (by unfold maxLen; simp; omega) (by simp; omega) HBA.out.size ?_; intro v3 w3 hown3 hgrow3 _ _; have HBC := Lib.hid (HBA.out.grown hgrow3 HBA.out.size (fun q hq => (World.ownsRow.lt HO.out q hq).1)); have HOC := Lib.hid (Vecs.snoc (l := [] ++ (l.drop 0).take (k + 1)) rfl hown3); clear hown3 hgrow3) | (refine wpList_append_own_at _ rfl _ _ 23 rfl W.heap.size 43 i0 (.agg #[.int .i64 (0), .int .i64 (0)]) 2 16 Tryd.underlying23 hi hz0 hz1 hz2 rfl (by decide) _ _ _ rfl (HO.out.below (by go_grown)) _ 1 1 [.int .i64 (x1 + x2), .int .i64 (y1 + y2)] rfl rfl (two_cells (by simp) (by simp)) (two_one _ _) (by unfold maxLen; simp; omega) (by simp; omega) (HBA.out.alloc HBA.out.size _).size ?_; intro v3 w3 hown3 hgrow3 _ _; have HBC := Lib.hid ((HBA.out.alloc HBA.out.size _).grown hgrow3 (HBA.out.alloc HBA.out.size _).size (fun q hq => (World.ownsRow.lt HO.out q hq).1)); have HOC := Lib.hid (Vecs.snoc (l := [] ++ (l.drop 0).take (k + 1)) rfl hown3); clear hown3 hgrow3))
              refine hK _ _ ?_
              clear hK K
              refine wpAny_ready (rs := [13]) (by kernel_rfl) (by simp) (AllReady.cons rfl (fun K hK => ?_) (AllReady.nil))
              (refine step_list (by rintro ⟨_, _, h⟩; obtain ⟨_, hv, _⟩ := h; cases hv) (by kernel_rfl) ?_; refine wpList_append_own_at _ rfl _ _ 23 rfl W.heap.size 43 i0 (.agg #[.int .i64 (0), .int .i64 (0)]) 2 16 Tryd.underlying23 hi hz0 hz1 hz2 rfl (by decide) _ _ _ rfl HOC.out _ _ _ _ rfl (piece_len HT2.out) (piece_cells (HCl.out _ HBC.out) HT2.out) (piece_one _) (by unfold maxLen; simp; omega) (by simp; omega) HBC.out.size ?_; intro v4 w4 hown4 hgrow4 _ _; have HBD := Lib.hid (HBC.out.grown hgrow4 HBC.out.size (fun q hq => (World.ownsRow.lt HOC.out q hq).1)); have HOD := Lib.hid (Vecs.join hown4 (by have := HL.out; simp <;> omega)); clear hown4 hgrow4)
              refine hK _ _ ?_
              clear hK K
              refine wpAny_seq 14 rfl (by kernel_rfl) ?_
              simp only [List.drop_succ_cons, List.drop_zero]
        rotate_left 3
        focus
          go_simp
          refine hK _ _ ?_
          clear hK K
          refine wpAny_ready (rs := [0, 7]) (by kernel_rfl) (by simp) (AllReady.cons rfl (fun K hK => ?_) (AllReady.cons rfl (fun K hK => ?_) (AllReady.nil)))
          focus
            go_simp
            refine hK _ _ ?_
            clear hK K
            refine wpAny_ready (rs := [5, 7]) (by kernel_rfl) (by simp) (AllReady.cons rfl (fun K hK => ?_) (AllReady.cons rfl (fun K hK => ?_) (AllReady.nil)))
            focus
              (refine step_list (by rintro ⟨_, _, h⟩; obtain ⟨_, hv, _⟩ := h; cases hv) (by kernel_rfl) ?_; first | (refine wpList_append_own_at _ rfl _ _ 23 rfl W.heap.size 43 i0 (.agg #[.int .i64 (0), .int .i64 (0)]) 2 16 Tryd.underlying23 hi hz0 hz1 hz2 rfl (by decide) (.slice (some ⟨W.heap.size, 0, none⟩) 0 0) _ _ rfl HO1.out _ _ _ _ rfl (piece_len HT1.out) (piece_cells (HCl.out _ HB1.out) HT1.out) (piece_one _) (by unfold maxLen; simp; omega) (by simp; omega) HB1.out.size ?_; intro v2 w2 hown2 hgrow2 _ _; have HBA := Lib.hid (HB1.out.grown hgrow2 HB1.out.size (fun q hq => (World.ownsRow.lt HO1.out q hq).1)); have HO := Lib.hid (Vecs.join (l := []) hown2 (by have := HL.out; simp <;> omega)); have b0 := (HBA.out.cell (p := ⟨rb, 0, none⟩) hrb).trans c0; have b1 := (HBA.out.cell (p := ⟨rb, 1, none⟩) hrb).trans c1; have bl := Nat.lt_of_lt_of_le hrb HBA.out.size; clear hown2 hgrow2) | (refine wpList_append_own_at _ rfl _ _ 23 rfl W.heap.size 43 i0 (.agg #[.int .i64 (0), .int .i64 (0)]) 2 16 Tryd.underlying23 hi hz0 hz1 hz2 rfl (by decide) (.slice (some ⟨W.heap.size + 1, 0, none⟩) 0 0) _ _ rfl HO3.out _ _ _ _ rfl (piece_len HT1.out) (piece_cells (HCl.out _ HB3.out) HT1.out) (piece_one _) (by unfold maxLen; simp; omega) (by simp; omega) HB3.out.size ?_; intro v2 w2 hown2 hgrow2 _ _; have HBA := Lib.hid (HB3.out.grown hgrow2 HB3.out.size (fun q hq => (World.ownsRow.lt HO3.out q hq).1)); have HO := Lib.hid (Vecs.join (l := []) hown2 (by have := HL.out; simp <;> omega)); have rr : w2.heap[W.heap.size]? = ((W.drew.alloc (.cells #[.int .i64 (x1 + x2), .int .i64 (y1 + y2)] 43)).alloc (.cells #[] 43)).heap[W.heap.size]? := hgrow2.block _ (by simp <;> omega) (by simp [Value.ownBlock]); have RR0 : Hid (w2.cell? ⟨W.heap.size, 0, none⟩ = some (.int .i64 (x1 + x2))) := (cell_same rr 0).trans KR0.out; have RR1 : Hid (w2.cell? ⟨W.heap.size, 1, none⟩ = some (.int .i64 (y1 + y2))) := (cell_same rr 1).trans KR1.out; clear rr; clear hown2 hgrow2) | (refine wpList_append_own_at _ rfl _ _ 23 rfl W.heap.size 43 i0 (.agg #[.int .i64 (0), .int .i64 (0)]) 2 16 Tryd.underlying23 hi hz0 hz1 hz2 rfl (by decide) (.slice (some ⟨W.heap.size, 0, none⟩) 0 0) _ _ rfl HO2.out _ _ _ _ rfl (piece_len HT1.out) (piece_cells (HCl.out _ HB2.out) HT1.out) (piece_one _) (by unfold maxLen; simp; omega) (by simp; omega) HB2.out.size ?_; intro v2 w2 hown2 hgrow2 _ _; have HBA := Lib.hid (HB2.out.grown hgrow2 HB2.out.size (fun q hq => (World.ownsRow.lt HO2.out q hq).1)); have HO := Lib.hid (Vecs.join (l := []) hown2 (by have := HL.out; simp <;> omega)); have rr : w2.heap[W.heap.size + 1]? = ((W.drew.alloc (.cells #[] 43)).alloc (.cells #[.int .i64 (x1 + x2), .int .i64 (y1 + y2)] 43)).heap[W.heap.size + 1]? := hgrow2.block _ (by simp <;> omega) (by simp [Value.ownBlock]); have RR0 : Hid (w2.cell? ⟨W.heap.size + 1, 0, none⟩ = some (.int .i64 (x1 + x2))) := (cell_same rr 0).trans KE0.out; have RR1 : Hid (w2.cell? ⟨W.heap.size + 1, 1, none⟩ = some (.int .i64 (y1 + y2))) := (cell_same rr 1).trans KE1.out; clear rr; clear hown2 hgrow2))
              refine hK _ _ ?_
              clear hK K
              refine wpAny_ready (rs := [7]) (by kernel_rfl) (by simp) (AllReady.cons rfl (fun K hK => ?_) (AllReady.nil))
              go_simp
              refine hK _ _ ?_
              clear hK K
              refine wpAny_ready (rs := [8]) (by kernel_rfl) (by simp) (AllReady.cons rfl (fun K hK => ?_) (AllReady.nil))
              (refine step_list (by rintro ⟨_, _, h⟩; obtain ⟨_, hv, _⟩ := h; cases hv) (by kernel_rfl) ?_; first | (refine wpList_append_own_at _ rfl _ _ 23 rfl W.heap.size 43 i0 (.agg #[.int .i64 (0), .int .i64 (0)]) 2 16 Tryd.underlying23 hi hz0 hz1 hz2 rfl (by decide) _ _ _ rfl HO.out _ 1 1 [.int .i64 (x1 + x2), .int .i64 (y1 + y2)] rfl rfl (two_cells RR0.out RR1.out) (two_one _ _) (by unfold maxLen; simp; omega) (by simp; omega) HBA.out.size ?_; intro v3 w3 hown3 hgrow3 _ _; have HBC := Lib.hid (HBA.out.grown hgrow3 HBA.out.size (fun q hq => (World.ownsRow.lt HO.out q hq).1)); have HOC := Lib.hid (Vecs.snoc (l := [] ++ (l.drop 0).take (k + 1)) rfl hown3); clear hown3 hgrow3) | (refine wpList_append_own_at _ rfl _ _ 23 rfl W.heap.size 43 i0 (.agg #[.int .i64 (0), .int .i64 (0)]) 2 16 Tryd.underlying23 hi hz0 hz1 hz2 rfl (by decide) _ _ _ rfl (HO.out.below (by go_grown)) _ 1 1 [.int .i64 (x1 + x2), .int .i64 (y1 + y2)] rfl rfl (two_cells (by simp) (by simp)) (two_one _ _) (by unfold maxLen; simp; omega) (by simp; omega) (HBA.out.alloc HBA.out.size _).size ?_; intro v3 w3 hown3 hgrow3 _ _; have HBC := Lib.hid ((HBA.out.alloc HBA.out.size _).grown hgrow3 (HBA.out.alloc HBA.out.size _).size (fun q hq => (World.ownsRow.lt HO.out q hq).1)); have HOC := Lib.hid (Vecs.snoc (l := [] ++ (l.drop 0).take (k + 1)) rfl hown3); clear hown3 hgrow3))
              refine hK _ _ ?_
              clear hK K
              refine wpAny_ready (rs := [13]) (by kernel_rfl) (by simp) (AllReady.cons rfl (fun K hK => ?_) (AllReady.nil))
              (refine step_list (by rintro ⟨_, _, h⟩; obtain ⟨_, hv, _⟩ := h; cases hv) (by kernel_rfl) ?_; refine wpList_append_own_at _ rfl _ _ 23 rfl W.heap.size 43 i0 (.agg #[.int .i64 (0), .int .i64 (0)]) 2 16 Tryd.underlying23 hi hz0 hz1 hz2 rfl (by decide) _ _ _ rfl HOC.out _ _ _ _ rfl (piece_len HT2.out) (piece_cells (HCl.out _ HBC.out) HT2.out) (piece_one _) (by unfold maxLen; simp; omega) (by simp; omega) HBC.out.size ?_; intro v4 w4 hown4 hgrow4 _ _; have HBD := Lib.hid (HBC.out.grown hgrow4 HBC.out.size (fun q hq => (World.ownsRow.lt HOC.out q hq).1)); have HOD := Lib.hid (Vecs.join hown4 (by have := HL.out; simp <;> omega)); clear hown4 hgrow4)
              refine hK _ _ ?_
              clear hK K
              refine wpAny_seq 14 rfl (by kernel_rfl) ?_
              simp only [List.drop_succ_cons, List.drop_zero]
            rotate_left 1
            focus
              go_simp
              refine hK _ _ ?_
              clear hK K
              refine wpAny_ready (rs := [5]) (by kernel_rfl) (by simp) (AllReady.cons rfl (fun K hK => ?_) (AllReady.nil))
              (refine step_list (by rintro ⟨_, _, h⟩; obtain ⟨_, hv, _⟩ := h; cases hv) (by kernel_rfl) ?_; first | (refine wpList_append_own_at _ rfl _ _ 23 rfl W.heap.size 43 i0 (.agg #[.int .i64 (0), .int .i64 (0)]) 2 16 Tryd.underlying23 hi hz0 hz1 hz2 rfl (by decide) (.slice (some ⟨W.heap.size, 0, none⟩) 0 0) _ _ rfl HO1.out _ _ _ _ rfl (piece_len HT1.out) (piece_cells (HCl.out _ HB1.out) HT1.out) (piece_one _) (by unfold maxLen; simp; omega) (by simp; omega) HB1.out.size ?_; intro v2 w2 hown2 hgrow2 _ _; have HBA := Lib.hid (HB1.out.grown hgrow2 HB1.out.size (fun q hq => (World.ownsRow.lt HO1.out q hq).1)); have HO := Lib.hid (Vecs.join (l := []) hown2 (by have := HL.out; simp <;> omega)); have b0 := (HBA.out.cell (p := ⟨rb, 0, none⟩) hrb).trans c0; have b1 := (HBA.out.cell (p := ⟨rb, 1, none⟩) hrb).trans c1; have bl := Nat.lt_of_lt_of_le hrb HBA.out.size; clear hown2 hgrow2) | (refine wpList_append_own_at _ rfl _ _ 23 rfl W.heap.size 43 i0 (.agg #[.int .i64 (0), .int .i64 (0)]) 2 16 Tryd.underlying23 hi hz0 hz1 hz2 rfl (by decide) (.slice (some ⟨W.heap.size + 1, 0, none⟩) 0 0) _ _ rfl HO3.out _ _ _ _ rfl (piece_len HT1.out) (piece_cells (HCl.out _ HB3.out) HT1.out) (piece_one _) (by unfold maxLen; simp; omega) (by simp; omega) HB3.out.size ?_; intro v2 w2 hown2 hgrow2 _ _; have HBA := Lib.hid (HB3.out.grown hgrow2 HB3.out.size (fun q hq => (World.ownsRow.lt HO3.out q hq).1)); have HO := Lib.hid (Vecs.join (l := []) hown2 (by have := HL.out; simp <;> omega)); have rr : w2.heap[W.heap.size]? = ((W.drew.alloc (.cells #[.int .i64 (x1 + x2), .int .i64 (y1 + y2)] 43)).alloc (.cells #[] 43)).heap[W.heap.size]? := hgrow2.block _ (by simp <;> omega) (by simp [Value.ownBlock]); have RR0 : Hid (w2.cell? ⟨W.heap.size, 0, none⟩ = some (.int .i64 (x1 + x2))) := (cell_same rr 0).trans KR0.out; have RR1 : Hid (w2.cell? ⟨W.heap.size, 1, none⟩ = some (.int .i64 (y1 + y2))) := (cell_same rr 1).trans KR1.out; clear rr; clear hown2 hgrow2) | (refine wpList_append_own_at _ rfl _ _ 23 rfl W.heap.size 43 i0 (.agg #[.int .i64 (0), .int .i64 (0)]) 2 16 Tryd.underlying23 hi hz0 hz1 hz2 rfl (by decide) (.slice (some ⟨W.heap.size, 0, none⟩) 0 0) _ _ rfl HO2.out _ _ _ _ rfl (piece_len HT1.out) (piece_cells (HCl.out _ HB2.out) HT1.out) (piece_one _) (by unfold maxLen; simp; omega) (by simp; omega) HB2.out.size ?_; intro v2 w2 hown2 hgrow2 _ _; have HBA := Lib.hid (HB2.out.grown hgrow2 HB2.out.size (fun q hq => (World.ownsRow.lt HO2.out q hq).1)); have HO := Lib.hid (Vecs.join (l := []) hown2 (by have := HL.out; simp <;> omega)); have rr : w2.heap[W.heap.size + 1]? = ((W.drew.alloc (.cells #[] 43)).alloc (.cells #[.int .i64 (x1 + x2), .int .i64 (y1 + y2)] 43)).heap[W.heap.size + 1]? := hgrow2.block _ (by simp <;> omega) (by simp [Value.ownBlock]); have RR0 : Hid (w2.cell? ⟨W.heap.size + 1, 0, none⟩ = some (.int .i64 (x1 + x2))) := (cell_same rr 0).trans KE0.out; have RR1 : Hid (w2.cell? ⟨W.heap.size + 1, 1, none⟩ = some (.int .i64 (y1 + y2))) := (cell_same rr 1).trans KE1.out; clear rr; clear hown2 hgrow2))
              refine hK _ _ ?_
              clear hK K
              refine wpAny_ready (rs := [8]) (by kernel_rfl) (by simp) (AllReady.cons rfl (fun K hK => ?_) (AllReady.nil))
              (refine step_list (by rintro ⟨_, _, h⟩; obtain ⟨_, hv, _⟩ := h; cases hv) (by kernel_rfl) ?_; first | (refine wpList_append_own_at _ rfl _ _ 23 rfl W.heap.size 43 i0 (.agg #[.int .i64 (0), .int .i64 (0)]) 2 16 Tryd.underlying23 hi hz0 hz1 hz2 rfl (by decide) _ _ _ rfl HO.out _ 1 1 [.int .i64 (x1 + x2), .int .i64 (y1 + y2)] rfl rfl (two_cells RR0.out RR1.out) (two_one _ _) (by unfold maxLen; simp; omega) (by simp; omega) HBA.out.size ?_; intro v3 w3 hown3 hgrow3 _ _; have HBC := Lib.hid (HBA.out.grown hgrow3 HBA.out.size (fun q hq => (World.ownsRow.lt HO.out q hq).1)); have HOC := Lib.hid (Vecs.snoc (l := [] ++ (l.drop 0).take (k + 1)) rfl hown3); clear hown3 hgrow3) | (refine wpList_append_own_at _ rfl _ _ 23 rfl W.heap.size 43 i0 (.agg #[.int .i64 (0), .int .i64 (0)]) 2 16 Tryd.underlying23 hi hz0 hz1 hz2 rfl (by decide) _ _ _ rfl (HO.out.below (by go_grown)) _ 1 1 [.int .i64 (x1 + x2), .int .i64 (y1 + y2)] rfl rfl (two_cells (by simp) (by simp)) (two_one _ _) (by unfold maxLen; simp; omega) (by simp; omega) (HBA.out.alloc HBA.out.size _).size ?_; intro v3 w3 hown3 hgrow3 _ _; have HBC := Lib.hid ((HBA.out.alloc HBA.out.size _).grown hgrow3 (HBA.out.alloc HBA.out.size _).size (fun q hq => (World.ownsRow.lt HO.out q hq).1)); have HOC := Lib.hid (Vecs.snoc (l := [] ++ (l.drop 0).take (k + 1)) rfl hown3); clear hown3 hgrow3))
              refine hK _ _ ?_
              clear hK K
              refine wpAny_ready (rs := [13]) (by kernel_rfl) (by simp) (AllReady.cons rfl (fun K hK => ?_) (AllReady.nil))
              (refine step_list (by rintro ⟨_, _, h⟩; obtain ⟨_, hv, _⟩ := h; cases hv) (by kernel_rfl) ?_; refine wpList_append_own_at _ rfl _ _ 23 rfl W.heap.size 43 i0 (.agg #[.int .i64 (0), .int .i64 (0)]) 2 16 Tryd.underlying23 hi hz0 hz1 hz2 rfl (by decide) _ _ _ rfl HOC.out _ _ _ _ rfl (piece_len HT2.out) (piece_cells (HCl.out _ HBC.out) HT2.out) (piece_one _) (by unfold maxLen; simp; omega) (by simp; omega) HBC.out.size ?_; intro v4 w4 hown4 hgrow4 _ _; have HBD := Lib.hid (HBC.out.grown hgrow4 HBC.out.size (fun q hq => (World.ownsRow.lt HOC.out q hq).1)); have HOD := Lib.hid (Vecs.join hown4 (by have := HL.out; simp <;> omega)); clear hown4 hgrow4)
              refine hK _ _ ?_
              clear hK K
              refine wpAny_seq 14 rfl (by kernel_rfl) ?_
              simp only [List.drop_succ_cons, List.drop_zero]
          rotate_left 2
          focus
            go_simp
            refine hK _ _ ?_
            clear hK K
            refine wpAny_ready (rs := [0]) (by kernel_rfl) (by simp) (AllReady.cons rfl (fun K hK => ?_) (AllReady.nil))
            go_simp
            refine hK _ _ ?_
            clear hK K
            refine wpAny_ready (rs := [5]) (by kernel_rfl) (by simp) (AllReady.cons rfl (fun K hK => ?_) (AllReady.nil))
            (refine step_list (by rintro ⟨_, _, h⟩; obtain ⟨_, hv, _⟩ := h; cases hv) (by kernel_rfl) ?_; first | (refine wpList_append_own_at _ rfl _ _ 23 rfl W.heap.size 43 i0 (.agg #[.int .i64 (0), .int .i64 (0)]) 2 16 Tryd.underlying23 hi hz0 hz1 hz2 rfl (by decide) (.slice (some ⟨W.heap.size, 0, none⟩) 0 0) _ _ rfl HO1.out _ _ _ _ rfl (piece_len HT1.out) (piece_cells (HCl.out _ HB1.out) HT1.out) (piece_one _) (by unfold maxLen; simp; omega) (by simp; omega) HB1.out.size ?_; intro v2 w2 hown2 hgrow2 _ _; have HBA := Lib.hid (HB1.out.grown hgrow2 HB1.out.size (fun q hq => (World.ownsRow.lt HO1.out q hq).1)); have HO := Lib.hid (Vecs.join (l := []) hown2 (by have := HL.out; simp <;> omega)); have b0 := (HBA.out.cell (p := ⟨rb, 0, none⟩) hrb).trans c0; have b1 := (HBA.out.cell (p := ⟨rb, 1, none⟩) hrb).trans c1; have bl := Nat.lt_of_lt_of_le hrb HBA.out.size; clear hown2 hgrow2) | (refine wpList_append_own_at _ rfl _ _ 23 rfl W.heap.size 43 i0 (.agg #[.int .i64 (0), .int .i64 (0)]) 2 16 Tryd.underlying23 hi hz0 hz1 hz2 rfl (by decide) (.slice (some ⟨W.heap.size + 1, 0, none⟩) 0 0) _ _ rfl HO3.out _ _ _ _ rfl (piece_len HT1.out) (piece_cells (HCl.out _ HB3.out) HT1.out) (piece_one _) (by unfold maxLen; simp; omega) (by simp; omega) HB3.out.size ?_; intro v2 w2 hown2 hgrow2 _ _; have HBA := Lib.hid (HB3.out.grown hgrow2 HB3.out.size (fun q hq => (World.ownsRow.lt HO3.out q hq).1)); have HO := Lib.hid (Vecs.join (l := []) hown2 (by have := HL.out; simp <;> omega)); have rr : w2.heap[W.heap.size]? = ((W.drew.alloc (.cells #[.int .i64 (x1 + x2), .int .i64 (y1 + y2)] 43)).alloc (.cells #[] 43)).heap[W.heap.size]? := hgrow2.block _ (by simp <;> omega) (by simp [Value.ownBlock]); have RR0 : Hid (w2.cell? ⟨W.heap.size, 0, none⟩ = some (.int .i64 (x1 + x2))) := (cell_same rr 0).trans KR0.out; have RR1 : Hid (w2.cell? ⟨W.heap.size, 1, none⟩ = some (.int .i64 (y1 + y2))) := (cell_same rr 1).trans KR1.out; clear rr; clear hown2 hgrow2) | (refine wpList_append_own_at _ rfl _ _ 23 rfl W.heap.size 43 i0 (.agg #[.int .i64 (0), .int .i64 (0)]) 2 16 Tryd.underlying23 hi hz0 hz1 hz2 rfl (by decide) (.slice (some ⟨W.heap.size, 0, none⟩) 0 0) _ _ rfl HO2.out _ _ _ _ rfl (piece_len HT1.out) (piece_cells (HCl.out _ HB2.out) HT1.out) (piece_one _) (by unfold maxLen; simp; omega) (by simp; omega) HB2.out.size ?_; intro v2 w2 hown2 hgrow2 _ _; have HBA := Lib.hid (HB2.out.grown hgrow2 HB2.out.size (fun q hq => (World.ownsRow.lt HO2.out q hq).1)); have HO := Lib.hid (Vecs.join (l := []) hown2 (by have := HL.out; simp <;> omega)); have rr : w2.heap[W.heap.size + 1]? = ((W.drew.alloc (.cells #[] 43)).alloc (.cells #[.int .i64 (x1 + x2), .int .i64 (y1 + y2)] 43)).heap[W.heap.size + 1]? := hgrow2.block _ (by simp <;> omega) (by simp [Value.ownBlock]); have RR0 : Hid (w2.cell? ⟨W.heap.size + 1, 0, none⟩ = some (.int .i64 (x1 + x2))) := (cell_same rr 0).trans KE0.out; have RR1 : Hid (w2.cell? ⟨W.heap.size + 1, 1, none⟩ = some (.int .i64 (y1 + y2))) := (cell_same rr 1).trans KE1.out; clear rr; clear hown2 hgrow2))
            refine hK _ _ ?_
            clear hK K
            refine wpAny_ready (rs := [8]) (by kernel_rfl) (by simp) (AllReady.cons rfl (fun K hK => ?_) (AllReady.nil))
            (refine step_list (by rintro ⟨_, _, h⟩; obtain ⟨_, hv, _⟩ := h; cases hv) (by kernel_rfl) ?_; first | (refine wpList_append_own_at _ rfl _ _ 23 rfl W.heap.size 43 i0 (.agg #[.int .i64 (0), .int .i64 (0)]) 2 16 Tryd.underlying23 hi hz0 hz1 hz2 rfl (by decide) _ _ _ rfl HO.out _ 1 1 [.int .i64 (x1 + x2), .int .i64 (y1 + y2)] rfl rfl (two_cells RR0.out RR1.out) (two_one _ _) (by unfold maxLen; simp; omega) (by simp; omega) HBA.out.size ?_; intro v3 w3 hown3 hgrow3 _ _; have HBC := Lib.hid (HBA.out.grown hgrow3 HBA.out.size (fun q hq => (World.ownsRow.lt HO.out q hq).1)); have HOC := Lib.hid (Vecs.snoc (l := [] ++ (l.drop 0).take (k + 1)) rfl hown3); clear hown3 hgrow3) | (refine wpList_append_own_at _ rfl _ _ 23 rfl W.heap.size 43 i0 (.agg #[.int .i64 (0), .int .i64 (0)]) 2 16 Tryd.underlying23 hi hz0 hz1 hz2 rfl (by decide) _ _ _ rfl (HO.out.below (by go_grown)) _ 1 1 [.int .i64 (x1 + x2), .int .i64 (y1 + y2)] rfl rfl (two_cells (by simp) (by simp)) (two_one _ _) (by unfold maxLen; simp; omega) (by simp; omega) (HBA.out.alloc HBA.out.size _).size ?_; intro v3 w3 hown3 hgrow3 _ _; have HBC := Lib.hid ((HBA.out.alloc HBA.out.size _).grown hgrow3 (HBA.out.alloc HBA.out.size _).size (fun q hq => (World.ownsRow.lt HO.out q hq).1)); have HOC := Lib.hid (Vecs.snoc (l := [] ++ (l.drop 0).take (k + 1)) rfl hown3); clear hown3 hgrow3))
            refine hK _ _ ?_
            clear hK K
            refine wpAny_ready (rs := [13]) (by kernel_rfl) (by simp) (AllReady.cons rfl (fun K hK => ?_) (AllReady.nil))
            (refine step_list (by rintro ⟨_, _, h⟩; obtain ⟨_, hv, _⟩ := h; cases hv) (by kernel_rfl) ?_; refine wpList_append_own_at _ rfl _ _ 23 rfl W.heap.size 43 i0 (.agg #[.int .i64 (0), .int .i64 (0)]) 2 16 Tryd.underlying23 hi hz0 hz1 hz2 rfl (by decide) _ _ _ rfl HOC.out _ _ _ _ rfl (piece_len HT2.out) (piece_cells (HCl.out _ HBC.out) HT2.out) (piece_one _) (by unfold maxLen; simp; omega) (by simp; omega) HBC.out.size ?_; intro v4 w4 hown4 hgrow4 _ _; have HBD := Lib.hid (HBC.out.grown hgrow4 HBC.out.size (fun q hq => (World.ownsRow.lt HOC.out q hq).1)); have HOD := Lib.hid (Vecs.join hown4 (by have := HL.out; simp <;> omega)); clear hown4 hgrow4)
            refine hK _ _ ?_
            clear hK K
            refine wpAny_seq 14 rfl (by kernel_rfl) ?_
            simp only [List.drop_succ_cons, List.drop_zero]
        all_goals go_wp2_with fail
        all_goals
          rw [HR.out] at HOD
          refine Calls.mono (HSI.out _ _ _ (HOD.out.reads (by rw [blowL_len HK0.out]; omega))) ?_
          rintro e w5 ⟨rfl, hb5⟩
          have hB5 := belowTo HBW.out (HBD.out.trans (hb5.mono HBD.out.size))
          have HO5 := Lib.hid ((HOD.out.below hb5).lower (base' := w.heap.size) HBW.out.size)
          have hs5 := hB5.size
          have HE5 := Lib.hid ((hE.out w5).lower hs5)
          clear hb5
          cases hK : fanB (blowL l k (x1 + x2, y1 + y2))
          · have HK := Lib.hid hK
            clear hK
            go_wp2
            go_returns
            first
              | exact ⟨_, rfl, HE5.out, by go_grown⟩
              | (rw [HK.out]; exact ⟨_, rfl, HE5.out, by go_grown⟩)
          · have HK := Lib.hid hK
            clear hK
            go_wp2
            go_returns
            first
              | exact ⟨_, rfl, HO5.out, hB5⟩
              | (rw [HK.out]; exact ⟨_, rfl, HO5.out, hB5⟩)
end Go.Proofs.YtohojjoediibhaaDoor

/- Least fans: the mathematics. -/
namespace Go.Proofs.YtohojjoediibhaaDoor
open Go.RowKit

theorem cyc_app_lt {α : Type} [Inhabited α] {l : List α} {p : α} {i : Nat} (h : i < l.length) : cyc (l ++ [p]) i = cyc l i := by
  rw [cyc_lt h, cyc_lt (by simp; omega), List.getElem?_append_left h]
theorem cyc_app_last {α : Type} [Inhabited α] {l : List α} {p : α} : cyc (l ++ [p]) l.length = p := by
  rw [cyc_lt (by simp), List.getElem?_append_right (Nat.le_refl _)]
  simp
theorem smooth_rot {l : List V2} {k : Nat} (h : Smooth l) (hk : k ≤ l.length) : Smooth (rot k l) := by
  refine ⟨fun i => ?_, fun i => ?_⟩
  · rw [cyc_rot hk]
    exact h.1 _
  · rw [cyc_rot hk, cyc_rot hk]
    exact h.2 (k + i)
theorem smooth_of {l : List V2} (h0 : 0 < l.length) (h1 : ∀ i, i < l.length → vecB (cyc l i).1 (cyc l i).2 = true) (h2 : ∀ i, i < l.length → detV (cyc l i) (cyc l (i + 1)) = 1) : Smooth l := by
  refine ⟨fun i => ?_, fun i => ?_⟩
  · have := h1 _ (Nat.mod_lt i h0)
    rwa [cyc_mod] at this
  · have := h2 _ (Nat.mod_lt i h0)
    rwa [cyc_mod, show cyc l (i % l.length + 1) = cyc l (i + 1) from cyc_congr l (by rw [Nat.mod_add_mod])] at this
theorem smooth_last {l : List V2} {p : V2} (h : Smooth (l ++ [p])) (h0 : 0 < l.length) (hd : detV (cyc l (l.length - 1)) (cyc l 0) = 1) : Smooth l := by
  refine smooth_of h0 (fun i hi => ?_) (fun i hi => ?_)
  · have := h.1 i
    rwa [cyc_app_lt hi] at this
  · by_cases e : i + 1 = l.length
    · rw [cyc_next, if_pos e, show i = l.length - 1 by omega]
      exact hd
    · have := h.2 i
      rwa [cyc_app_lt hi, cyc_app_lt (by omega)] at this
theorem rot_lastV {l : List V2} {i : Nat} (h : i < l.length) : rot (i + 1) l = (l.drop (i + 1) ++ l.take i) ++ [cyc l i] := by
  unfold rot
  rw [List.take_add_one, cyc_get h, List.append_assoc]
  rfl
theorem rot_downV {l : List V2} {i : Nat} : rot (l.length - (i + 1)) (l.drop (i + 1) ++ l.take i) = downL l i := by
  unfold rot downL
  rw [← List.length_drop, List.drop_left, List.take_left]
theorem smooth_down {l : List V2} {i : Nat} (h : Smooth l) (hi : i < l.length) (hd : downB l i = true) : Smooth (downL l i) := by
  have hd' := hd
  unfold downB at hd'
  rw [Bool.and_eq_true] at hd'
  have h3 : 3 < l.length := of_decide_eq_true hd'.1
  have hn : numZ l i = -1 := by simpa using hd'.2
  have hr := smooth_rot (k := i + 1) h (by omega)
  rw [rot_lastV hi] at hr
  have hml : (l.drop (i + 1) ++ l.take i).length = l.length - 1 := by simp; omega
  have e1 : cyc (l.drop (i + 1) ++ l.take i) (l.length - 2) = cyc l (i + l.length - 1) := by
    have : cyc (rot (i + 1) l) (l.length - 2) = cyc l (i + 1 + (l.length - 2)) := cyc_rot (by omega) _
    rw [rot_lastV hi, cyc_app_lt (by omega)] at this
    rw [this, show i + 1 + (l.length - 2) = i + l.length - 1 by omega]
  have e2 : cyc (l.drop (i + 1) ++ l.take i) 0 = cyc l (i + 1) := by
    have : cyc (rot (i + 1) l) 0 = cyc l (i + 1 + 0) := cyc_rot (by omega) _
    rw [rot_lastV hi, cyc_app_lt (by omega)] at this
    exact this
  have hs := smooth_last hr (by omega) (by
    rw [hml, show l.length - 1 - 1 = l.length - 2 by omega, e1, e2]
    unfold numZ at hn
    omega)
  rw [← rot_downV]
  exact smooth_rot hs (by omega)
/-- the first index at which a ray can be blown down -/
def firstD (l : List V2) : Option Nat := (List.range l.length).find? (downB l)
theorem firstD_some {l : List V2} {k : Nat} (hk : k < l.length) (h1 : downB l k = true) (h2 : ∀ i, i < k → downB l i = false) : firstD l = some k := by
  unfold firstD
  have e : List.range l.length = List.range k ++ k :: (List.range l.length).drop (k + 1) := by
    have e1 : List.range k ++ [k] = (List.range l.length).take (k + 1) := by rw [List.take_range, Nat.min_eq_left (by omega), List.range_succ]
    rw [List.append_cons, e1, List.take_append_drop]
  rw [e, List.find?_append]
  have : (List.range k).find? (downB l) = none := by
    rw [List.find?_eq_none]
    intro x hx
    rw [h2 x (List.mem_range.1 hx)]
    decide
  rw [this, List.find?_cons_of_pos h1]
  rfl
theorem firstD_none {l : List V2} (h : ∀ i, i < l.length → downB l i = false) : firstD l = none := by
  unfold firstD
  rw [List.find?_eq_none]
  intro x hx
  rw [h x (List.mem_range.1 hx)]
  decide
def leastN : Nat → List V2 → List V2
  | 0, l => l
  | k + 1, l => match firstD l with
    | none => l
    | some i => leastN k (downL l i)
def leastL (l : List V2) : List V2 := leastN l.length l
theorem least_step {l : List V2} {k : Nat} (hk : k < l.length) (h1 : downB l k = true) (h2 : ∀ i, i < k → downB l i = false) : leastL l = leastL (downL l k) := by
  unfold leastL
  rw [downL_len hk]
  obtain ⟨n, hn⟩ : ∃ n, l.length = n + 1 := ⟨l.length - 1, by omega⟩
  rw [hn, Nat.add_sub_cancel]
  show (match firstD l with | none => l | some i => leastN n (downL l i)) = _
  rw [firstD_some hk h1 h2]
theorem least_end {l : List V2} (h : ∀ i, i < l.length → downB l i = false) : leastL l = l := by
  unfold leastL
  cases hn : l.length with
  | zero => rfl
  | succ n =>
    show (match firstD l with | none => l | some i => leastN n (downL l i)) = _
    rw [firstD_none h]
theorem leastN_len (k : Nat) : ∀ l : List V2, (leastN k l).length ≤ l.length := by
  induction k with
  | zero => intro l; exact Nat.le_refl _
  | succ k ih =>
    intro l
    show (match firstD l with | none => l | some i => leastN k (downL l i)).length ≤ _
    cases firstD l with
    | none => exact Nat.le_refl _
    | some i =>
      refine Nat.le_trans (ih _) ?_
      simp [downL]
      omega
theorem least_len (l : List V2) : (leastL l).length ≤ l.length := leastN_len _ _
end Go.Proofs.YtohojjoediibhaaDoor

/- Fans: built from a list of cones: both sides. -/
namespace Go.Proofs.YtohojjoediibhaaDoor
open Go.RowKit

def buildS : List Int → List V2 → Option (List V2)
  | [], l => some l
  | i :: r, l => if smoothB l && blowB l i then buildS r (blowL l i.toNat (blowP l i.toNat)) else none
def triL : List V2 := [(1, 0), (0, 1), (-1, -1)]
theorem tri_smooth : smoothB triL = true := by decide +kernel
def builtB (is : List Int) : Bool := (buildS is triL).isSome
def builtL (is : List Int) : List V2 := (buildS is triL).getD []
theorem build_step {is : List Int} {k : Nat} {l : List V2} (hk : k < is.length) : buildS (is.drop k) l = if smoothB l && blowB l (is[k]?.getD 0) then buildS (is.drop (k + 1)) (blowL l (is[k]?.getD 0).toNat (blowP l (is[k]?.getD 0).toNat)) else none := by
  rw [List.drop_eq_getElem_cons hk, List.getElem?_eq_getElem hk]
  rfl
theorem build_len (is : List Int) : ∀ l l', l.length ≤ 20 → buildS is l = some l' → l'.length ≤ 20 := by
  induction is with
  | nil => intro l l' h e; cases e; exact h
  | cons i r ih =>
    intro l l' h e
    unfold buildS at e
    split at e
    · next hc =>
      rw [Bool.and_eq_true] at hc
      have h2 := hc.2
      unfold blowB at h2
      rw [Bool.and_eq_true] at h2
      exact ih _ _ (fan_len h2.2).2 e
    · cases e
theorem built_len {is : List Int} (h : builtB is = true) : (builtL is).length ≤ 20 := by
  unfold builtB at h
  obtain ⟨l', hl⟩ := Option.isSome_iff_exists.1 h
  unfold builtL
  rw [hl]
  exact build_len is triL l' (by decide) hl
theorem smooth_snoc {l : List V2} {p : V2} (h : Smooth l) (h0 : 0 < l.length) (hp : vecB p.1 p.2 = true) (h1 : detV (cyc l (l.length - 1)) p = 1) (h2 : detV p (cyc l 0) = 1) : Smooth (l ++ [p]) := by
  refine smooth_of (by simp) (fun i hi => ?_) (fun i hi => ?_)
  · simp at hi
    by_cases e : i < l.length
    · rw [cyc_app_lt e]; exact h.1 i
    · rw [show i = l.length by omega, cyc_app_last]; exact hp
  · simp at hi
    by_cases e : i + 1 < l.length
    · rw [cyc_app_lt (by omega), cyc_app_lt e]; exact h.2 i
    · by_cases e2 : i + 1 = l.length
      · rw [cyc_app_lt (by omega), e2, cyc_app_last, show i = l.length - 1 by omega]; exact h1
      · obtain rfl : i = l.length := by omega
        rw [cyc_app_last]
        have : cyc (l ++ [p]) (l.length + 1) = cyc (l ++ [p]) 0 := by
          have := cyc_add (l ++ [p]) 0
          rwa [show 0 + (l ++ [p]).length = l.length + 1 by simp] at this
        rw [this, cyc_app_lt h0]
        exact h2
theorem rot_blowV {l : List V2} {i : Nat} {p : V2} : rot (l.length - (i + 1)) (rot (i + 1) l ++ [p]) = blowL l i p := by
  unfold rot blowL
  rw [List.append_assoc, ← List.length_drop, List.drop_left, List.take_left]
theorem blow_cyc {l : List V2} {i : Nat} {p : V2} (h : i < l.length) : cyc (blowL l i p) (i + 1) = p := by
  rw [cyc_lt (by rw [blowL_len h]; omega)]
  unfold blowL
  have e : (l.take (i + 1)).length = i + 1 := by simp; omega
  rw [List.append_assoc, List.getElem?_append_right (by omega), e, Nat.sub_self]
  rfl
theorem smooth_blow {l : List V2} {i : Nat} (h : Smooth l) (hi : i < l.length) (hf : fanB (blowL l i (blowP l i)) = true) : smoothB (blowL l i (blowP l i)) = true := by
  have hv := fan_vec hf (i + 1)
  rw [blow_cyc hi] at hv
  have hr := smooth_rot (k := i + 1) h (by omega)
  have hd := h.2 i
  have hlast : cyc (rot (i + 1) l) ((rot (i + 1) l).length - 1) = cyc l i := by
    rw [rot_len, cyc_rot (by omega), show i + 1 + (l.length - 1) = i + l.length by omega, cyc_add]
  have hfirst : cyc (rot (i + 1) l) 0 = cyc l (i + 1) := by rw [cyc_rot (by omega), Nat.add_zero]
  have hS : Smooth (blowL l i (blowP l i)) := by
    rw [← rot_blowV]
    refine smooth_rot (smooth_snoc hr (by rw [rot_len]; omega) hv ?_ ?_) (by simp [rot_len]; omega)
    · rw [hlast]
      unfold detV detZ blowP at *
      rw [Int.mul_add, Int.mul_add, Int.mul_comm (cyc l i).1 (cyc l i).2]
      omega
    · rw [hfirst]
      unfold detV detZ blowP at *
      rw [Int.add_mul, Int.add_mul, Int.mul_comm (cyc l (i + 1)).1 (cyc l (i + 1)).2]
      omega
  unfold smoothB
  rw [hf, Bool.true_and]
  exact List.all_eq_true.2 (fun j _ => by simpa [smB] using hS.2 j)
theorem Vecs.tri (w : World) : Vecs (w.alloc (.cells #[.int .i64 1, .int .i64 0, .int .i64 0, .int .i64 1, .int .i64 (-1), .int .i64 (-1)] 43)) w.heap.size (.slice (some ⟨w.heap.size, 0, none⟩) 3 3) triL :=
  ⟨rfl, .inr ⟨w.heap.size, 3, #[.int .i64 1, .int .i64 0, .int .i64 0, .int .i64 1, .int .i64 (-1), .int .i64 (-1)], rfl, Nat.le_refl _, heap_alloc_new w _, Nat.le_refl _, by decide, rfl, rfl⟩⟩
def BuildI (w : World) (is : List Int) (s4 s5 : Value) (wr : World) : Prop :=
  ∃ (L : List V2) (k : Nat), Vecs wr w.heap.size s4 L ∧ s5 = .int .i64 k ∧ k ≤ is.length ∧ L.length ≤ 20 ∧ buildS (is.drop k) L = buildS is triL ∧ Below w.heap.size w wr
set_option maxHeartbeats 8000000 in
theorem specFanBuild_any (v : Value) (is : List Int) (w : World) (hl : ReadsInts w v is) :
    Calls Tryd.prog 144 #[v] w (GivesVecsOk w (gV (builtB is) (builtL is)) (builtB is)) := by
  obtain ⟨a, c, rfl, hm, hcell⟩ := hl
  have HC := Lib.hid hcell
  have hE := Lib.hid (fun w' => Vecs.empty w')
  have HI0 : Hid (BuildI w is (.slice (some ⟨w.heap.size, 0, none⟩) 3 3) (.int .i64 0) (w.alloc (.cells #[.int .i64 1, .int .i64 0, .int .i64 0, .int .i64 1, .int .i64 (-1), .int .i64 (-1)] 43))) :=
    ⟨triL, 0, Vecs.tri w, rfl, Nat.zero_le _, by decide, rfl, by go_grown⟩
  have HS := Lib.hid (fun k (l : List V2) (hk : k < is.length) => build_step (l := l) hk)
  clear hcell
  go_enter Tryd.func144, Tryd.ntmps144
  go_wp2
  go_loopw [4, 5] (fun s4 s5 wr => Hid (BuildI w is s4 s5 wr)) (fun _ s5 _ => is.length - (intOf s5).toNat)
  case atStart => exact HI0
  case round =>
    obtain ⟨L, k, hV, he, hk, h20, hbd, hB⟩ := hrel.out
    clear hrel HI0
    subst he
    have i1 : (0 : Int) ≤ (k : Int) := by omega
    have HV := Lib.hid hV
    have HBd := Lib.hid hbd
    clear hV hbd
    by_cases hlt : k < is.length
    · obtain ⟨bb, off, rfl, hbb, hcs⟩ := HC.out (by omega)
      have i2 : (k : Int) < (is.length : Int) := by omega
      have c0 := (hB.cell (p := ⟨bb, off + k, none⟩) hbb).trans (hcs k hlt)
      have hbl := Nat.lt_of_lt_of_le hbb hB.size
      have HSk := Lib.hid (HS.out k L hlt)
      clear hcs
      generalize is[k]?.getD 0 = i at *
      have HW := Lib.hid (specFanBlow_any _ L i wr (HV.out.reads (by omega)))
      have hs := hB.size
      cases hK : smoothB L && blowB L i
      · rw [hK] at HW
        have HN : Hid (buildS is triL = none) := by
          have := HSk.out
          rw [hK] at this
          exact HBd.out.symm.trans this
        clear hK HSk HBd HV
        go_wp2_with fail
        refine Calls.mono HW.out ?_
        rintro e w2 ⟨v2, rfl, _, hb2⟩
        have hB2 := belowTo hB hb2
        have HE := Lib.hid ((hE.out w2).lower hB2.size)
        clear hb2
        go_wp2
        go_returns
        have h1 : builtB is = false := by unfold builtB; rw [HN.out]; rfl
        rw [h1]
        exact ⟨_, rfl, HE.out, hB2.alloc hB2.size _⟩
      · rw [hK] at HW
        have hLn : (blowL L i.toNat (blowP L i.toNat)).length ≤ 20 := by
          rw [Bool.and_eq_true] at hK
          have h2 := hK.2
          unfold blowB at h2
          rw [Bool.and_eq_true] at h2
          exact (fan_len h2.2).2
        have HN : Hid (buildS (is.drop (k + 1)) (blowL L i.toNat (blowP L i.toNat)) = buildS is triL) := by
          have := HSk.out
          rw [hK] at this
          exact this.symm.trans HBd.out
        have HLn := Lib.hid hLn
        clear hK HSk HBd HV hLn
        go_wp2_with fail
        refine Calls.mono HW.out ?_
        rintro e w2 ⟨v2, rfl, hV2, hb2⟩
        have hB2 := belowTo hB hb2
        have HI2 : Hid (BuildI w is v2 (.int .i64 ((k : Int) + 1)) w2) := ⟨_, k + 1, hV2.lower hs, by simp, by omega, HLn.out, HN.out, hB2⟩
        clear hb2 hV2 hB2
        go_wp2
        go_roundw
        case rel => exact HI2
        case measure => simp [intOf]; omega
    · obtain rfl : k = is.length := by omega
      have i2 : ¬ (is.length : Int) < (is.length : Int) := by omega
      have HN : Hid (buildS is triL = some L) := by
        have := HBd.out
        rw [List.drop_length] at this
        exact this.symm
      clear HBd
      go_wp2
      go_returns
      have h1 : builtB is = true := by unfold builtB; rw [HN.out]; rfl
      have h2 : builtL is = L := by unfold builtL; rw [HN.out]; rfl
      rw [h1, h2]
      exact ⟨_, rfl, HV.out, hB⟩
def BuildG (w : World) (g : Nat) (is : List Int) (s : Value) (wr : World) : Prop :=
  ∃ (ns : List Node) (k : Nat), FanAt wr w.heap.size g ns ∧ s = .int .i64 k ∧ k ≤ is.length ∧ smoothB (rays ns) = true ∧ buildS (is.drop k) (rays ns) = buildS is triL ∧ Below w.heap.size w wr
end Go.Proofs.YtohojjoediibhaaDoor
