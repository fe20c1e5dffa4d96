/- Resolutions: the program: the vectors of all whole bases. -/
import Derived.Test.YtfgkpnpgemakdaaDoorMr
import Derived.Test.YtfgkpnpgemakdaaDoorGy
import Derived.Test.YtfgkpnpgemakdaaDoorSe
import Derived.Test.YtfgkpnpgemakdaaDoorVn
import Derived.Test.YtfgkpnpgemakdaaDoorVi
namespace Go.Proofs.YtfgkpnpgemakdaaDoor
open Go.RowKit Go.Shelf

attribute [local go_sem] Oper.semAt_some

/-- what the range over the base of one cone keeps: the list, in box B; the ray, in box bl; the iterator's own blocks lie from M on -/
structure ResI (n0 M : Nat) (W0 : World) (B Bs bl : Nat) (pv : Value) (f : List V2 → List V2) (X : Nat → Prop) (pre : List V2) (V : World) : Prop where
  list : ∃ v, Boxed V B 24 v ∧ Vecs V n0 v (f pre) ∧ ∀ k, v.ownBlock = some k → ¬ X k ∧ k ≠ B ∧ k ≠ Bs ∧ k ≠ bl
  ray : Boxed V bl 63 pv
  own : ∀ k, X k → M ≤ k
  low : Below n0 W0 V
  keeps : KeepsOthers W0 V
  size : M ≤ V.heap.size
theorem resI_abides {n0 M : Nat} {W0 : World} {B Bs bl : Nat} {pv : Value} {f : List V2 → List V2} (hB : B < M) (hl : bl < M) (h0 : n0 ≤ M) : Abides (ResI n0 M W0 B Bs bl pv f) where
  less := by
    rintro X Y pre A ⟨⟨v, h1, h2, h3⟩, h4, h5, h6, h7, h8⟩ hY
    exact ⟨⟨v, h1, h2, fun k hk => ⟨fun hx => (h3 k hk).1 (hY k hx), (h3 k hk).2⟩⟩, h4, fun k hk => h5 k (hY k hk), h6, h7, h8⟩
  fresh := by
    rintro X pre A ⟨⟨v, h1, h2, h3⟩, h4, h5, h6, h7, h8⟩
    refine ⟨⟨v, h1, h2, fun k hk => ⟨fun hx => ?_, (h3 k hk).2⟩⟩, h4, fun k hk => ?_, h6, h7, h8⟩
    · rcases hx with hx | hx
      · exact (h3 k hk).1 hx
      · have := (h2.block k hk).2
        omega
    · rcases hk with hx | hx
      · exact h5 k hx
      · omega
  grows := by
    rintro X pre A A' ⟨⟨v, h1, h2, h3⟩, h4, h5, h6, h7, h8⟩ hg
    exact ⟨⟨v, h1.kept hg (by simp), h2.far hg (fun k _ e => by cases e), h3⟩, h4.kept hg (by simp), h5, h6.grown hg (by omega) (fun k e => by cases e), h7.trans (KeepsOthers.of_grownBy hg (fun _ _ e _ => by cases e)), Nat.le_trans h8 hg.size⟩
  own := by
    rintro X pre A g o u ⟨⟨v, h1, h2, h3⟩, h4, h5, h6, h7, h8⟩ hx
    have hg := h5 g hx
    have hgr := grown_set A g o u
    exact ⟨⟨v, h1.kept hgr (fun e => by cases e; omega), h2.far hgr (fun k hk e => (h3 k hk).1 (by cases e; exact hx)), h3⟩, h4.kept hgr (fun e => by cases e; omega), h5, h6.grown hgr (by omega) (fun k e => by cases e; omega), h7.trans (KeepsOthers.setCell _ _ _), Nat.le_trans h8 hgr.size⟩
theorem resI_put {n0 M : Nat} {W0 : World} {B Bs bl : Nat} {pv : Value} {f : List V2 → List V2} (h0 : n0 ≤ M) (hW : W0.heap.size ≤ M) {X : Nat → Prop} {pre : List V2} {A : World} {l : Nat} {o : Obj} (o' : Obj)
    (h : ResI n0 M W0 B Bs bl pv f X pre A) (hl : M ≤ l) (ho : A.heap[l]? = some o) (hc : o.isCells = false) : ResI n0 M W0 B Bs bl pv f X pre (A.putObj l o') := by
  obtain ⟨⟨v, h1, h2, h3⟩, h4, h5, h6, h7, h8⟩ := h
  have hgr := grownBy_putObj' A l o'
  refine ⟨⟨v, boxed_putObj h1 o' ho hc, Vecs.putObj h2 o' ho hc, h3⟩, boxed_putObj h4 o' ho hc, h5, h6.grown hgr (by omega) (fun k e => by cases e; omega), ⟨Nat.le_trans h7.size hgr.size, fun k ob hk hb => ?_⟩, Nat.le_trans h8 hgr.size⟩
  have hlt := (Array.getElem?_eq_some_iff.1 hk).1
  exact (heap_putObj_other _ (by omega)).trans (h7.same k ob hk hb)
theorem KeepsFrom.of {B : Nat} {W W' : World} (h : KeepsOthers W W') : KeepsFrom B W W' := h.from B

set_option linter.unusedSimpArgs false in
set_option maxRecDepth 100000 in
set_option maxHeartbeats 32000000 in
theorem resolved_in (n : Nat) (hn : 6 ≤ n) (base g : Nat) (ns : List Node) (w : World) (hF : FanAt w base g ns) (hm : ns.length ≤ 1000) (hC : ∀ i, conB (rays ns) i = true) :
    CallsIn Fence.wide n Tryd.prog 31 #[.pointer (some ⟨g, 0, none⟩)] w (GivesVecs w (resZ (rays ns))) := by
  have h1 : 1 ≤ n := by omega
  have h2' : 2 ≤ n := by omega
  have hd : 1 ≤ n - 1 - 1 := by omega
  have hd2 : 1 ≤ n - 1 - 1 - 1 := by omega
  have hR := hF.ring
  have hp := hR.pos
  have HCn := Lib.hid hC
  have HRL := Lib.hid (fun pre => resL_len hC pre)
  clear hC
  refine callsIn_of_wp_marks Tryd.func31 rfl trivial ?_ rfl
  simp only [Tryd.ntmps31, List.size_toArray, List.length_cons, List.length_nil, Nat.reduceAdd, Nat.reduceSub, Array.replicate_succ, Array.replicate_zero, List.push_toArray, List.append_toArray, List.nil_append, List.cons_append]
  gi_wp2_with fail
  refine ⟨trivial, ?_⟩
  refine CallsIn.mono (links_in _ g _) ?_
  rintro e w3 ⟨rfl, rfl⟩
  have hA : Below w.heap.size w ((w.alloc (.cells #[.slice none 0 0] 24)).alloc (.cells #[.pointer (some ⟨g, 0, none⟩)] 49)) := by go_grown
  have bB := (Boxed.new w 24 (.slice none 0 0)).alloc (.cells #[.pointer (some ⟨g, 0, none⟩)] 49)
  have bF := Boxed.new (w.alloc (.cells #[.slice none 0 0] 24)) 49 (.pointer (some ⟨g, 0, none⟩))
  have hz5 : ((w.alloc (.cells #[.slice none 0 0] 24)).alloc (.cells #[.pointer (some ⟨g, 0, none⟩)] 49)).heap.size = w.heap.size + 1 + 1 := by simp
  simp only [World.size_alloc] at bF
  have hF5 := hF.below hA
  gi_wp2_with fail
  generalize ((w.alloc (.cells #[.slice none 0 0] 24)).alloc (.cells #[.pointer (some ⟨g, 0, none⟩)] 49)) = W5 at *
  obtain ⟨i0, hi, hz0, hz1, hz2⟩ := info_parts infoVec
  have hlow : ∀ p ∈ ns, p.1 < w.heap.size := fun p hp => hR.mem_lt hp
  have hgd := guardV
  refine wpIn_rangeFunc_ownH rfl h1 (gf := 59) (lb := #[.pointer (some ⟨w.heap.size + 1, 0, none⟩)]) rfl trivial (enters_of Tryd.func59 (by kernel_rfl) rfl)
    (links_stops (n - 1) (by omega) (w.heap.size + 1) w.heap.size base g ns W5 bF.cell hA.size hF5 hlow hm) belowK_t (belowK_b hA.size) (Below.refl _ _) (fun _ => rfl)
    (VecsI w w.heap.size (resL (rays ns))) (fun _ _ _ => False) (vecsI_own _ _ _ (by omega)) (fun _ _ _ _ _ h _ _ => h) ⟨⟨_, bB, World.ownsRow_nil _ _ _ _, trivial⟩, hA⟩
    (fun x a' W => ∃ Bx, w.heap.size < Bx ∧ Boxed W Bx 63 (.pointer (some ⟨(cyc ns x).1, 0, none⟩)) ∧ a' = { tmps := #[.pointer (some ⟨g, 0, none⟩), undef, .slice none 0 0, .pointer (some ⟨w.heap.size, 0, none⟩), .pointer (some ⟨Bx, 0, none⟩), undef, .pointer (some ⟨g, 0, none⟩), .func (.func 59) #[] #[.pointer (some ⟨w.heap.size + 1, 0, none⟩)], .pointer (some ⟨(cyc ns x).1, 0, none⟩), undef, undef, undef, undef, undef, undef, undef, undef, undef, undef, undef, undef, undef, undef, undef, undef, undef, undef], defers := [] })
    (fun x a' _ X Y row hs hg hr => by obtain ⟨Bx, h1, h2, h3⟩ := hs; exact ⟨Bx, h1, boxed_own Bx 63 (fun (_ : Unit) => .pointer (some ⟨(cyc ns x).1, 0, none⟩)) () X Y row h2 hg (fun r e => (hr r e).2), h3⟩)
    ?assign ?body ?done ?stop
  case assign =>
    rintro l' pre x W K hI hK
    obtain ⟨⟨v, hv, hrow, _⟩, hb⟩ := hI
    gi_wp2
    exact hK _ _ ((KeepsOthers.alloc _ _).from _) ((Below.refl _ W).alloc hb.size _) ⟨⟨v, hv.alloc _, Vecs.below hrow ((Below.refl _ W).alloc (Nat.le_refl _) _), trivial⟩, hb.alloc hb.size _⟩ ⟨W.heap.size, hv.lt, Boxed.new W _ _, rfl⟩
  case body =>
    rintro l' pre x a' W hl' ⟨r, hr⟩ ⟨⟨v, hv, hrow, _⟩, hb⟩ ⟨Bx, hBx, bX, rfl⟩ hlen
    have hRW := hR.below hb
    have HCo := Lib.hid (linkCone_any ns x W hRW)
    have hcx := HCn.out x
    rw [con_rays hp] at hcx
    have hrs : resL (rays ns) (pre ++ [x]) = resL (rays ns) pre ++ (baseL (cyc ns x).2.1 (cyc ns x).2.2 (cyc ns (x + 1)).2.1 (cyc ns (x + 1)).2.2).filter (notV (cyc ns (x + 1)).2) := by
      rw [resL_snoc, rays_cyc hp, rays_cyc hp, base_filter hcx]
    have HRs := Lib.hid hrs
    clear hrs
    have HBl : Hid ((baseL (cyc ns x).2.1 (cyc ns x).2.2 (cyc ns (x + 1)).2.1 (cyc ns (x + 1)).2.2).length ≤ 2000002) := baseL_len hcx
    have HAl : Hid ((resL (rays ns) pre).length ≤ 2000002000) := by have := HRL.out pre; show _ ≤ _; omega
    have hL := hR.link x
    have hZ := hR.link (x + 1)
    generalize (cyc ns (x + 1)).1 = q2 at hL hZ
    generalize hq1 : (cyc ns x).1 = q1 at *
    generalize hz2' : (cyc ns (x + 1)).2 = z2 at *
    generalize (cyc ns x).2 = z1 at *
    obtain ⟨c, d⟩ := z2
    obtain ⟨a, b⟩ := z1
    dsimp only at HCo hcx HRs HBl
    have HS := Lib.hid (fun Bs W hc => base_seq (n - 1 - 1 - 1) (by omega) Bs a b c d hcx W hc)
    generalize baseL a b c d = BL at HS HRs HBl
    have bXc := bX.cell
    have bXl := bX.lt
    have kl := hv.lt
    have hsz := hb.size
    gi_wp2_with fail
    refine ⟨trivial, ?_⟩
    refine CallsIn.mono (CallsIn.inRound l' (callsIn_wide.2 HCo.out)) ?_
    rintro e w1 ⟨rfl, hb1⟩
    gi_wp2_with fail
    refine ⟨trivial, ?_⟩
    refine CallsIn.mono (CallsIn.inRound l' (base_in _ a b c d _)) ?_
    rintro e w2 ⟨rfl, rfl⟩
    have hb2 : Below W.heap.size W (w1.alloc (.cells #[.int .i64 a, .int .i64 b, .int .i64 c, .int .i64 d] 56)) := by have := hb1.size; go_grown
    have hr2 := (hb2.block l' (Array.getElem?_eq_some_iff.1 hr).1).trans hr
    have hc5 : ConeAt (w1.alloc (.cells #[.int .i64 a, .int .i64 b, .int .i64 c, .int .i64 d] 56)) w1.heap.size a b c d := by
      refine ⟨⟨?_, ?_, ?_, ?_⟩, ?_⟩ <;> simp
    have hs1 := hb1.size
    have hz6 : (w1.alloc (.cells #[.int .i64 a, .int .i64 b, .int .i64 c, .int .i64 d] 56)).heap.size = w1.heap.size + 1 := by simp
    obtain ⟨Bs, hBse⟩ : ∃ Bs, Bs = w1.heap.size := ⟨_, rfl⟩
    rw [← hBse] at hc5 hz6
    gi_wp2_with fail
    rw [← hBse]
    have hBsl : W.heap.size ≤ Bs := by omega
    clear hb1 HCo
    generalize (w1.alloc (.cells #[.int .i64 a, .int .i64 b, .int .i64 c, .int .i64 d] 56)) = W6 at *
    have hv6 : Boxed W6 w.heap.size 24 v := (hb2.block _ kl).trans hv
    have bX6 : Boxed W6 Bx 63 (.pointer (some ⟨q1, 0, none⟩)) := (hb2.block _ bXl).trans bX
    have hrow6 : Vecs W6 w.heap.size v (resL (rays ns) pre) := Vecs.below hrow hb2
    have hap : ∀ k, v.ownBlock = some k → ¬ W6.heap.size ≤ k ∧ k ≠ w.heap.size ∧ k ≠ Bs ∧ k ≠ Bx := fun k hk => by
      have h3 := World.ownsRow.lt hrow k hk
      have h4 : some w.heap.size ≠ v.ownBlock := hv.not_row (by decide) hrow
      have h5 : some Bx ≠ v.ownBlock := bX.not_row (by decide) hrow
      refine ⟨by omega, fun e => h4 (by rw [hk, e]), by omega, fun e => h5 (by rw [hk, e])⟩
    have hM1 : w.heap.size < W6.heap.size := by omega
    have hM2 : Bx < W6.heap.size := by omega
    have hM3 : Bs < W6.heap.size := by omega
    have hM4 : W.heap.size ≤ W6.heap.size := by omega
    have KO6 : KeepsOthers W W6 := KeepsOthers.of_grownBy (grown_of_below hb2 none) (fun _ _ e _ => by cases e)
    have HR0 := Lib.hid hR
    have hbW := Lib.hid hb
    generalize hacc : resL (rays ns) pre = acc at *
    have h0I : ResI w.heap.size W6.heap.size W w.heap.size Bs Bx (.pointer (some ⟨q1, 0, none⟩)) (fun q => acc ++ q.filter (notV (c, d))) (fun k => W6.heap.size ≤ k) [] W6 :=
      ⟨⟨v, hv6, by rw [show acc ++ ([] : List V2).filter (notV (c, d)) = acc by simp]; exact hrow6, hap⟩, bX6, fun k hk => hk, hb2.mono hsz, KO6, Nat.le_refl _⟩
    have HI0 := Lib.hid h0I
    clear h0I hv6 bX6 hrow6 hap KO6 hb2 hv bX hrow hb hBse bXc hacc hR bB bF hA hF5 hF hcx hr
    refine wpIn_rangePrivN hr2 hd (gf := 70) (lb := #[.pointer (some ⟨Bs, 0, none⟩)]) rfl (enters_of Tryd.func70 (by kernel_rfl) rfl) hM3 (HS.out Bs W6 hc5) (fun _ => rfl)
      (ResI w.heap.size W6.heap.size W w.heap.size Bs Bx (.pointer (some ⟨q1, 0, none⟩)) (fun q => acc ++ q.filter (notV (c, d)))) (resI_abides hM1 hM2 (by omega)) (fun X pre A l o o' hi hl ho hc => resI_put (by omega) hM4 o' hi hl ho hc)
      HI0.out
      (fun y bb => { tmps := #[.pointer (some ⟨g, 0, none⟩), undef, .slice none 0 0, .pointer (some ⟨w.heap.size, 0, none⟩), .pointer (some ⟨Bx, 0, none⟩), .pointer (some ⟨bb, 0, none⟩), .pointer (some ⟨g, 0, none⟩), .func (.func 59) #[] #[.pointer (some ⟨w.heap.size + 1, 0, none⟩)], .pointer (some ⟨q1, 0, none⟩), .pointer (some ⟨q1, 0, none⟩), .agg #[.int .i64 (a), .int .i64 (b), .int .i64 (c), .int .i64 (d)], .func (.func 70) #[] #[.pointer (some ⟨Bs, 0, none⟩)], .agg #[.int .i64 (y.1), .int .i64 (y.2)], undef, undef, undef, undef, undef, undef, undef, undef, undef, undef, undef, undef, undef, undef], defers := [] })
      (fun y => .cells #[.int .i64 y.1, .int .i64 y.2] 39) ?assign2 ?body2 ?done2
    case assign2 =>
      intro l2 y W' K hK
      gi_wp2
      exact hK
    case body2 =>
      rintro l2 X pre2 y V bk ⟨⟨v2, c4, hv2, hap⟩, bY, hX, hlowV, hkV, hsV⟩ hXV hbk hob hlen2
      have hbl : bk < V.heap.size := (Array.getElem?_eq_some_iff.1 hob).1
      have hbV : Below w.heap.size w V := hbW.out.trans hlowV
      have hL2 := (HR0.out.below hbV).link x
      have hZ2 := (HR0.out.below hbV).link (x + 1)
      rw [hq1] at hL2
      rw [hz2'] at hZ2
      generalize (cyc ns (x + 1)).1 = q3 at hL2 hZ2
      have k0 := hL2.c3
      have k1 := hZ2.c0
      have k2 := hZ2.c1
      dsimp only at k1 k2
      have k4 := c4.cell
      have f4 := c4.frozen
      have k5 := bY.cell
      have u0 : V.cell? ⟨bk, 0, none⟩ = some (.int .i64 y.1) := by simp [World.cell?, hob]
      have u1 : V.cell? ⟨bk, 1, none⟩ = some (.int .i64 y.2) := by simp [World.cell?, hob]
      obtain ⟨yx, yy⟩ := y
      dsimp only at u0 u1
      cases hnv : notV (c, d) (yx, yy)
      · have qe : ∀ w', (binOp .neq 39 (.agg #[.int .i64 (yx), .int .i64 (yy)]) (.agg #[.int .i64 (c), .int .i64 (d)])).run Tryd.prog w' = .ok (.bool false) w' := fun w' => by
          rw [run_neV]
          show Result.ok (Value.bool (notV (c, d) (yx, yy))) w' = _
          rw [hnv]
        have HFl : Hid ((pre2 ++ [(yx, yy)]).filter (notV (c, d)) = pre2.filter (notV (c, d))) := by
          show _ = _
          rw [List.filter_append]
          simp [hnv]
        clear hL2 hZ2
        gi_wp2
        refine region_round (by kernel_rfl) (noDefer_of (by kernel_rfl)) (by rintro ⟨_, _, h⟩; exact False.elim h) ?_
        refine wpAny_ready (rs := [0, 1]) (by kernel_rfl) (by simp) (AllReady.cons rfl (fun K hK => ?_) (AllReady.cons rfl (fun K hK => ?_) (AllReady.nil)))
        focus
          go_simp
          refine hK _ _ ?_
          clear hK K
          refine wpAny_ready (rs := [1]) (by kernel_rfl) (by simp) (AllReady.cons rfl (fun K hK => ?_) (AllReady.nil))
          go_simp
          refine hK _ _ ?_
          clear hK K
          refine wpAny_take (i := 2) (v := ?_) rfl (by kernel_rfl) (by kernel_rfl) (by kernel_rfl) (fun _ _ _ h => h) (Or.inl ⟨by rfl, ?_⟩) ?_
          rotate_left
          focus (intro w0; go_simp; try with_reducible rfl)
          refine wpAny_take (i := 3) (v := ?_) rfl (by kernel_rfl) (by kernel_rfl) (by kernel_rfl) (fun _ _ _ h => h) (Or.inl ⟨by rfl, ?_⟩) ?_
          rotate_left
          focus (intro w0; go_simp; try with_reducible rfl)
          refine wpAny_ready (rs := [4]) (by kernel_rfl) (by simp) (AllReady.cons rfl (fun K hK => ?_) (AllReady.nil))
          go_simp
          refine hK _ _ ?_
          clear hK K
          refine wpAny_take (i := 5) (v := ?_) rfl (by kernel_rfl) (by kernel_rfl) (by kernel_rfl) (fun _ _ _ h => h) (Or.inl ⟨by rfl, ?_⟩) ?_
          rotate_left
          focus (intro w0; go_simp; try with_reducible rfl)
          refine wpAny_take (i := 6) (v := ?_) rfl (by kernel_rfl) (by kernel_rfl) (by kernel_rfl) (fun _ _ _ h => h) (Or.inl ⟨by rfl, ?_⟩) ?_
          rotate_left
          focus (intro w0; go_simp; try with_reducible rfl)
          refine wpAny_ready (rs := [7]) (by kernel_rfl) (by simp) (AllReady.cons rfl (fun K hK => ?_) (AllReady.nil))
          go_simp
          refine hK _ _ ?_
          clear hK K
          refine wpAny_seq 8 rfl (by kernel_rfl) ?_
          simp only [List.drop_succ_cons, List.drop_zero]
        rotate_left 1
        focus
          go_simp
          refine hK _ _ ?_
          clear hK K
          refine wpAny_take (i := 2) (v := ?_) rfl (by kernel_rfl) (by kernel_rfl) (by kernel_rfl) (fun _ _ _ h => h) (Or.inl ⟨by rfl, ?_⟩) ?_
          rotate_left
          focus (intro w0; go_simp; try with_reducible rfl)
          refine wpAny_take (i := 3) (v := ?_) rfl (by kernel_rfl) (by kernel_rfl) (by kernel_rfl) (fun _ _ _ h => h) (Or.inl ⟨by rfl, ?_⟩) ?_
          rotate_left
          focus (intro w0; go_simp; try with_reducible rfl)
          refine wpAny_ready (rs := [0, 4]) (by kernel_rfl) (by simp) (AllReady.cons rfl (fun K hK => ?_) (AllReady.cons rfl (fun K hK => ?_) (AllReady.nil)))
          focus
            go_simp
            refine hK _ _ ?_
            clear hK K
            refine wpAny_ready (rs := [4]) (by kernel_rfl) (by simp) (AllReady.cons rfl (fun K hK => ?_) (AllReady.nil))
            go_simp
            refine hK _ _ ?_
            clear hK K
            refine wpAny_take (i := 5) (v := ?_) rfl (by kernel_rfl) (by kernel_rfl) (by kernel_rfl) (fun _ _ _ h => h) (Or.inl ⟨by rfl, ?_⟩) ?_
            rotate_left
            focus (intro w0; go_simp; try with_reducible rfl)
            refine wpAny_take (i := 6) (v := ?_) rfl (by kernel_rfl) (by kernel_rfl) (by kernel_rfl) (fun _ _ _ h => h) (Or.inl ⟨by rfl, ?_⟩) ?_
            rotate_left
            focus (intro w0; go_simp; try with_reducible rfl)
            refine wpAny_ready (rs := [7]) (by kernel_rfl) (by simp) (AllReady.cons rfl (fun K hK => ?_) (AllReady.nil))
            go_simp
            refine hK _ _ ?_
            clear hK K
            refine wpAny_seq 8 rfl (by kernel_rfl) ?_
            simp only [List.drop_succ_cons, List.drop_zero]
          rotate_left 1
          focus
            go_simp
            refine hK _ _ ?_
            clear hK K
            refine wpAny_take (i := 5) (v := ?_) rfl (by kernel_rfl) (by kernel_rfl) (by kernel_rfl) (fun _ _ _ h => h) (Or.inl ⟨by rfl, ?_⟩) ?_
            rotate_left
            focus (intro w0; go_simp; try with_reducible rfl)
            refine wpAny_take (i := 6) (v := ?_) rfl (by kernel_rfl) (by kernel_rfl) (by kernel_rfl) (fun _ _ _ h => h) (Or.inl ⟨by rfl, ?_⟩) ?_
            rotate_left
            focus (intro w0; go_simp; try with_reducible rfl)
            refine wpAny_ready (rs := [0, 7]) (by kernel_rfl) (by simp) (AllReady.cons rfl (fun K hK => ?_) (AllReady.cons rfl (fun K hK => ?_) (AllReady.nil)))
            focus
              go_simp
              refine hK _ _ ?_
              clear hK K
              refine wpAny_ready (rs := [7]) (by kernel_rfl) (by simp) (AllReady.cons rfl (fun K hK => ?_) (AllReady.nil))
              go_simp
              refine hK _ _ ?_
              clear hK K
              refine wpAny_seq 8 rfl (by kernel_rfl) ?_
              simp only [List.drop_succ_cons, List.drop_zero]
            rotate_left 1
            focus
              go_simp
              refine hK _ _ ?_
              clear hK K
              refine wpAny_ready (rs := [0]) (by kernel_rfl) (by simp) (AllReady.cons rfl (fun K hK => ?_) (AllReady.nil))
              go_simp
              refine hK _ _ ?_
              clear hK K
              refine wpAny_seq 8 rfl (by kernel_rfl) ?_
              simp only [List.drop_succ_cons, List.drop_zero]
        all_goals go_wp2
        all_goals gi_wp2
        all_goals exact ⟨⟨Nat.le_refl _, fun _ _ h _ => h⟩, ⟨fun _ _ => rfl, rfl, Nat.le_refl _⟩, ⟨⟨v2, c4, by rw [HFl.out]; exact hv2, hap⟩, bY, hX, hlowV.drew, ⟨hkV.size, hkV.same⟩, hsV⟩⟩
      · have qe : ∀ w', (binOp .neq 39 (.agg #[.int .i64 (yx), .int .i64 (yy)]) (.agg #[.int .i64 (c), .int .i64 (d)])).run Tryd.prog w' = .ok (.bool true) w' := fun w' => by
          rw [run_neV]
          show Result.ok (Value.bool (notV (c, d) (yx, yy))) w' = _
          rw [hnv]
        have HFl : Hid (acc ++ (pre2 ++ [(yx, yy)]).filter (notV (c, d)) = (acc ++ pre2.filter (notV (c, d))) ++ [(yx, yy)]) := by
          show _ = _
          rw [List.filter_append]
          simp [hnv]
        have hown : V.drew.ownsRow w.heap.size 39 2 v2 _ _ := hv2
        have hal2 : (acc ++ pre2.filter (notV (c, d))).length ≤ 2002002002 := by
          have h3 := HAl.out
          have h4 := HBl.out
          have h5 := List.length_filter_le (notV (c, d)) pre2
          rw [List.length_append]
          omega
        have hbd : Below w.heap.size w V.drew := hbV.drew
        have hbs := hbV.size
        have hsd : V.drew.heap.size = V.heap.size := rfl
        generalize acc ++ pre2.filter (notV (c, d)) = L2 at *
        have c4' : Boxed V.drew w.heap.size 24 v2 := c4
        have bY' : Boxed V.drew Bx 63 (.pointer (some ⟨q1, 0, none⟩)) := bY
        have hlt : ∀ k, v2.ownBlock = some k → k < V.heap.size := fun k hk => (hv2.block k hk).2
        have hcl : ∀ k, v2.ownBlock = some k → ∃ o, V.heap[k]? = some o ∧ o.isCells = true := hv2.cells
        have hblk : ∀ k, v2.ownBlock = some k → w.heap.size ≤ k := fun k hk => (hv2.block k hk).1
        have hV2 := Lib.hid hv2
        clear hL2 hZ2 hv2
        gi_wp2
        refine region_round (by kernel_rfl) (noDefer_of (by kernel_rfl)) (by rintro ⟨_, _, h⟩; exact False.elim h) ?_
        refine wpAny_ready (rs := [0, 1]) (by kernel_rfl) (by simp) (AllReady.cons rfl (fun K hK => ?_) (AllReady.cons rfl (fun K hK => ?_) (AllReady.nil)))
        focus
          go_simp
          refine hK _ _ ?_
          clear hK K
          refine wpAny_ready (rs := [1]) (by kernel_rfl) (by simp) (AllReady.cons rfl (fun K hK => ?_) (AllReady.nil))
          go_simp
          refine hK _ _ ?_
          clear hK K
          refine wpAny_take (i := 2) (v := ?_) rfl (by kernel_rfl) (by kernel_rfl) (by kernel_rfl) (fun _ _ _ h => h) (Or.inl ⟨by rfl, ?_⟩) ?_
          rotate_left
          focus (intro w0; go_simp; try with_reducible rfl)
          refine wpAny_take (i := 3) (v := ?_) rfl (by kernel_rfl) (by kernel_rfl) (by kernel_rfl) (fun _ _ _ h => h) (Or.inl ⟨by rfl, ?_⟩) ?_
          rotate_left
          focus (intro w0; go_simp; try with_reducible rfl)
          refine wpAny_ready (rs := [4]) (by kernel_rfl) (by simp) (AllReady.cons rfl (fun K hK => ?_) (AllReady.nil))
          go_simp
          refine hK _ _ ?_
          clear hK K
          refine wpAny_take (i := 5) (v := ?_) rfl (by kernel_rfl) (by kernel_rfl) (by kernel_rfl) (fun _ _ _ h => h) (Or.inl ⟨by rfl, ?_⟩) ?_
          rotate_left
          focus (intro w0; go_simp; try with_reducible rfl)
          refine wpAny_take (i := 6) (v := ?_) rfl (by kernel_rfl) (by kernel_rfl) (by kernel_rfl) (fun _ _ _ h => h) (Or.inl ⟨by rfl, ?_⟩) ?_
          rotate_left
          focus (intro w0; go_simp; try with_reducible rfl)
          refine wpAny_ready (rs := [7]) (by kernel_rfl) (by simp) (AllReady.cons rfl (fun K hK => ?_) (AllReady.nil))
          go_simp
          refine hK _ _ ?_
          clear hK K
          refine wpAny_seq 8 rfl (by kernel_rfl) ?_
          simp only [List.drop_succ_cons, List.drop_zero]
        rotate_left 1
        focus
          go_simp
          refine hK _ _ ?_
          clear hK K
          refine wpAny_take (i := 2) (v := ?_) rfl (by kernel_rfl) (by kernel_rfl) (by kernel_rfl) (fun _ _ _ h => h) (Or.inl ⟨by rfl, ?_⟩) ?_
          rotate_left
          focus (intro w0; go_simp; try with_reducible rfl)
          refine wpAny_take (i := 3) (v := ?_) rfl (by kernel_rfl) (by kernel_rfl) (by kernel_rfl) (fun _ _ _ h => h) (Or.inl ⟨by rfl, ?_⟩) ?_
          rotate_left
          focus (intro w0; go_simp; try with_reducible rfl)
          refine wpAny_ready (rs := [0, 4]) (by kernel_rfl) (by simp) (AllReady.cons rfl (fun K hK => ?_) (AllReady.cons rfl (fun K hK => ?_) (AllReady.nil)))
          focus
            go_simp
            refine hK _ _ ?_
            clear hK K
            refine wpAny_ready (rs := [4]) (by kernel_rfl) (by simp) (AllReady.cons rfl (fun K hK => ?_) (AllReady.nil))
            go_simp
            refine hK _ _ ?_
            clear hK K
            refine wpAny_take (i := 5) (v := ?_) rfl (by kernel_rfl) (by kernel_rfl) (by kernel_rfl) (fun _ _ _ h => h) (Or.inl ⟨by rfl, ?_⟩) ?_
            rotate_left
            focus (intro w0; go_simp; try with_reducible rfl)
            refine wpAny_take (i := 6) (v := ?_) rfl (by kernel_rfl) (by kernel_rfl) (by kernel_rfl) (fun _ _ _ h => h) (Or.inl ⟨by rfl, ?_⟩) ?_
            rotate_left
            focus (intro w0; go_simp; try with_reducible rfl)
            refine wpAny_ready (rs := [7]) (by kernel_rfl) (by simp) (AllReady.cons rfl (fun K hK => ?_) (AllReady.nil))
            go_simp
            refine hK _ _ ?_
            clear hK K
            refine wpAny_seq 8 rfl (by kernel_rfl) ?_
            simp only [List.drop_succ_cons, List.drop_zero]
          rotate_left 1
          focus
            go_simp
            refine hK _ _ ?_
            clear hK K
            refine wpAny_take (i := 5) (v := ?_) rfl (by kernel_rfl) (by kernel_rfl) (by kernel_rfl) (fun _ _ _ h => h) (Or.inl ⟨by rfl, ?_⟩) ?_
            rotate_left
            focus (intro w0; go_simp; try with_reducible rfl)
            refine wpAny_take (i := 6) (v := ?_) rfl (by kernel_rfl) (by kernel_rfl) (by kernel_rfl) (fun _ _ _ h => h) (Or.inl ⟨by rfl, ?_⟩) ?_
            rotate_left
            focus (intro w0; go_simp; try with_reducible rfl)
            refine wpAny_ready (rs := [0, 7]) (by kernel_rfl) (by simp) (AllReady.cons rfl (fun K hK => ?_) (AllReady.cons rfl (fun K hK => ?_) (AllReady.nil)))
            focus
              go_simp
              refine hK _ _ ?_
              clear hK K
              refine wpAny_ready (rs := [7]) (by kernel_rfl) (by simp) (AllReady.cons rfl (fun K hK => ?_) (AllReady.nil))
              go_simp
              refine hK _ _ ?_
              clear hK K
              refine wpAny_seq 8 rfl (by kernel_rfl) ?_
              simp only [List.drop_succ_cons, List.drop_zero]
            rotate_left 1
            focus
              go_simp
              refine hK _ _ ?_
              clear hK K
              refine wpAny_ready (rs := [0]) (by kernel_rfl) (by simp) (AllReady.cons rfl (fun K hK => ?_) (AllReady.nil))
              go_simp
              refine hK _ _ ?_
              clear hK K
              refine wpAny_seq 8 rfl (by kernel_rfl) ?_
              simp only [List.drop_succ_cons, List.drop_zero]
        all_goals
          go_wp2
          gi_wp2_with (gi_at_builtin; refine wpListIn_append_own_at _ rfl _ _ 24 rfl w.heap.size 39 i0 (.agg #[.int .i64 (0), .int .i64 (0)]) 2 16 Tryd.underlying24 hi hz0 hz1 hz2 rfl (by decide) _ _ _ rfl (hown.alloc _) ⟨V.heap.size, 0, none⟩ 1 1 [.int .i64 yx, .int .i64 yy] rfl rfl ?c1 ?c2 ?c3 ?c4 ?c5 ?_)
          case c1 =>
            intro j u hj
            match j, hj with
            | 0, hj => simp at hj; subst hj; simp [Addr.add]
            | 1, hj => simp at hj; subst hj; simp [Addr.add]
          case c2 => intro u hu; simp at hu; rcases hu with rfl | rfl <;> rfl
          case c3 => unfold maxLen; omega
          case c4 => omega
          case c5 => simp; omega
          intro v' w5 hown' hgrow _ hat
          obtain ⟨sa, sl, sc, rfl⟩ : ∃ sa sl sc, v' = .slice sa sl sc := by rcases hown'.2 with ⟨e, _⟩ | ⟨g, cap, cur, e, _⟩ <;> exact ⟨_, _, _, e⟩
          have hV' : Vecs w5 w.heap.size (.slice sa sl sc) (L2 ++ [(yx, yy)]) := Vecs.snoc rfl hown'
          rw [← HFl.out] at hV'
          have c5 : Boxed w5 w.heap.size 24 v2 := (c4'.alloc _).kept hgrow (fun e => (hap _ e.symm).2.1 rfl)
          have b5 : Boxed w5 Bx 63 (.pointer (some ⟨q1, 0, none⟩)) := (bY'.alloc _).kept hgrow (fun e => (hap _ e.symm).2.2.2 rfl)
          have k5 := c5.cell
          have f5 := c5.frozen
          have eb : ∀ g, g < V.heap.size → (∀ kk, v2.ownBlock = some kk → kk ≠ g) → w5.heap[g]? = V.heap[g]? := fun g hg hne =>
            (hgrow.block g (by simp; omega) (fun e => hne g e.symm rfl)).trans (Below.heap_alloc V.drew _ g hg)
          have hsz5 : V.heap.size + 1 ≤ w5.heap.size := by have := hgrow.size; simpa using this
          have HG5 := Lib.hid hgrow
          have HV' := Lib.hid hV'
          clear hown' hgrow hown hV'
          gi_wp2
          have hgrow' := HG5.out
          have KO2 : KeepsOthers V.drew w5 := (KeepsOthers.alloc V.drew _).trans (KeepsOthers.of_grownBy hgrow' (by
            intro j o hj ho
            obtain ⟨o2, e2, hc2⟩ := hcl j hj
            rw [Below.heap_alloc V.drew _ j (hlt j hj)] at ho
            rw [show V.drew.heap[j]? = V.heap[j]? from rfl, e2] at ho
            cases ho
            exact hc2))
          have KO3 := KO2.trans (KeepsOthers.setCell w5 ⟨w.heap.size, 0, none⟩ (.slice sa sl sc))
          have hnB : ∀ k, (Value.slice sa sl sc).ownBlock = some k → ¬ X k ∧ k ≠ w.heap.size ∧ k ≠ Bs ∧ k ≠ Bx := fun k hk => by
            rcases hat with h2 | h2
            · exact hap k (h2.symm.trans hk)
            · rw [hk] at h2
              have e3 : k = V.heap.size + 1 := by simpa using h2
              exact ⟨fun hx => by have := hXV k hx; omega, by omega, by omega, by omega⟩
          refine ⟨⟨KO3.size, KO3.same⟩, ⟨fun k hk => ?_, ?_, ?_⟩, ⟨⟨_, c5.set _, HV'.out.far (grown_set _ _ _ _) (fun k hk e => ?_), hnB⟩, b5.kept (grown_set _ _ _ _) (fun e => ?_), hX, ?_, hkV.trans ⟨KO3.size, KO3.same⟩, ?_⟩⟩
          · have hne := hX k hk
            rw [Below.heap_setCell _ ⟨w.heap.size, 0, none⟩ _ k (by simp; omega)]
            exact eb k (hXV k hk) (fun kk h2 e => (hap kk h2).1 (by rw [e]; exact hk))
          · rw [Below.heap_setCell _ ⟨w.heap.size, 0, none⟩ _ Bs (by simp; omega)]
            exact eb Bs (by omega) (fun kk h2 => (hap kk h2).2.2.1)
          · simp; omega
          · have e' : w.heap.size = k := by cases e; rfl
            exact (hnB k hk).2.1 e'.symm
          · cases e
            omega
          · exact ((hlowV.drew.alloc hbs _).grown hgrow' (by simp; omega) (fun kk h => hblk kk h)).setCell (p := ⟨w.heap.size, 0, none⟩) (Nat.le_refl _) _
          · simp; omega
    case done2 =>
      rintro X xs W' rfl ⟨⟨v2, c4, hv2, hap⟩, bY, hX, hlowV, hkV, hsV⟩
      gi_wp2
      refine ⟨hkV.from _, hlowV, ⟨⟨v2, c4, ?_, trivial⟩, hbW.out.trans hlowV⟩⟩
      rw [HRs.out]
      exact hv2
  case done =>
    rintro D xs W hD rfl ⟨⟨v, hv, hrow, _⟩, hb⟩ hK
    have k4 := hv.cell
    have hV : Vecs W w.heap.size v (resZ (rays ns)) := by
      have : Vecs W w.heap.size v (resL (rays ns) (List.range ns.length)) := hrow
      unfold resZ
      rw [rays_len]
      exact this
    have HV := Lib.hid (Vecs.putObj hV (.deferred none) hK rfl)
    have hB2 : Below w.heap.size w (W.putObj D (.deferred none)) := hb.grown (grownBy_putObj' W D (.deferred none)) hb.size (fun k e => by cases e; omega)
    clear hV hrow
    gi_wp2
    refine ⟨by simp, .inl ⟨_, _, rfl, run_takeDeferred hK, ?_⟩⟩
    exact ⟨_, results_tmp rfl _ _ _, v, rfl, HV.out, hB2⟩
  case stop =>
    rintro D c pre W _ _ h _
    exact h.elim
set_option maxHeartbeats 8000000 in
theorem fanResolve_any (v : Value) (l : List V2) (w : World) (hl : ReadsVecs w v l) (hg : EtOk w) :
    Calls Tryd.prog 14 #[v] w (GivesVecsOk w (gV (resB l) (resZ l)) (resB l)) := by
  have HO := Lib.hid (fanOf_any v l w hl hg)
  have HG := Lib.hid hg
  cases hf : fanB l
  · have e0 : resB l = false := by simp [resB, hf]
    rw [e0]
    rw [hf] at HO
    clear hf hl hg
    go_enter Tryd.func14, Tryd.ntmps14
    go_wp2_with fail
    refine Calls.mono HO.out ?_
    rintro e1 w1 ⟨⟨h, _⟩ | ⟨_, rfl⟩, hb1⟩
    · cases h
    · go_wp2
      go_returns
      exact ⟨_, rfl, Vecs.nil _ _, hb1⟩
  · have e0 : resB l = fanB (resZ l) := by simp [resB, hf]
    rw [e0]
    have HS := Lib.hid (fun (ns : List Node) hn => fan_small (l := l) (ns := ns) hf hn)
    have HC := Lib.hid (fun i => fan_cone hf i)
    have HLn : Hid ((resZ l).length ≤ 40000040) := by
      have h1 := resL_len (fun i => fan_cone hf i) (List.range l.length)
      have h2 := fan_len hf
      rw [List.length_range] at h1
      show (resL l (List.range l.length)).length ≤ _
      omega
    have HF2 := Lib.hid (fun v' w' h' hg' => fanOf_any v' (resZ l) w' h' hg')
    have HSm := Lib.hid (fun (ns : List Node) h hn => fan_small (l := resZ l) (ns := ns) h hn)
    rw [hf] at HO
    clear hf hl hg
    go_enter Tryd.func14, Tryd.ntmps14
    go_wp2_with fail
    refine Calls.mono HO.out ?_
    rintro e1 w1 ⟨⟨_, g, ns, rfl, hF, hn⟩ | ⟨h, _⟩, hb1⟩
    · obtain ⟨hs, _⟩ := HS.out ns hn
      have HR := Lib.hid (callsIn_wide.1 (resolved_in 6 (by omega) _ g ns w1 hF hs (by rw [hn]; exact HC.out)))
      rw [hn] at HR
      clear hF hn hs HO HS HC
      go_wp2_with fail
      refine Calls.mono HR.out ?_
      rintro e2 w2 ⟨v2, rfl, hV2, hb2⟩
      have hB2 := belowTo hb1 hb2
      have HFo := Lib.hid (HF2.out v2 w2 (hV2.reads (by have := HLn.out; omega)) (HG.out.below hB2))
      clear hb1 hb2 hV2 HR HF2 HLn
      cases hf : fanB (resZ l)
      · rw [hf] at HFo
        have HO : Hid (fanB (resZ l) = false) := hf
        clear hf HSm
        go_wp2_with fail
        refine Calls.mono HFo.out ?_
        rintro e w3 ⟨⟨h, _⟩ | ⟨_, rfl⟩, hb3⟩
        · cases h
        · replace hB2 := belowTo hB2 hb3
          clear hb3
          go_wp2
          go_returns
          rw [HO.out]
          exact ⟨_, rfl, Vecs.nil _ _, hB2⟩
      · rw [hf] at HFo HSm
        have HO : Hid (fanB (resZ l) = true) := hf
        clear hf
        go_wp2_with fail
        refine Calls.mono HFo.out ?_
        rintro e w3 ⟨⟨_, g, ns, rfl, hF, hn⟩ | ⟨h, _⟩, hb3⟩
        · obtain ⟨hs, _⟩ := HSm.out ns (by simp) hn
          have HR := Lib.hid (rays_any _ g ns w3 hF hs)
          have hB3 := belowTo hB2 hb3
          rw [hn] at HR
          clear hF hn hs hb3 HFo
          go_wp2_with fail
          refine Calls.mono HR.out ?_
          rintro e w4 ⟨v4, rfl, hV4, hb4⟩
          have HV4 := Lib.hid (hV4.lower hB3.size)
          have hB4 := belowTo hB3 hb4
          clear hV4 hb4
          go_wp2
          go_returns
          rw [HO.out]
          exact ⟨_, rfl, HV4.out, hB4⟩
        · cases h
    · cases h
end Go.Proofs.YtfgkpnpgemakdaaDoor
