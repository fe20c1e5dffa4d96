/- Divisors of vectors: the program. -/
import Derived.Test.YtcieihbknfeddabDoorBe
import Derived.Test.YtcieihbknfeddabDoorQf
import Derived.Test.YtcieihbknfeddabDoorQh
import Derived.Test.YtcieihbknfeddabDoorB9
import Derived.Test.YtcieihbknfeddabDoorB2
import Derived.Test.YtcieihbknfeddabDoorB7
namespace Go.Proofs.YtcieihbknfeddabDoor
open Go.RowKit Go.Shelf

attribute [local go_sem] Oper.semAt_some

set_option maxHeartbeats 1000000 in
theorem productBig_any (x1 y1 x2 y2 : Int) (w : World) (h1 : (-400000 ≤ x1 ∧ x1 ≤ 400000) ∧ -400000 ≤ y1 ∧ y1 ≤ 400000) (h2 : vecB x2 y2 = true) :
    Calls Tryd.prog 100 #[.agg #[.int .i64 (x1), .int .i64 (y1)], .agg #[.int .i64 (x2), .int .i64 (y2)]] w fun e w' => e = .returned (.int .i64 (dotZ x1 y1 x2 y2)) ∧ Below w.heap.size w w' := by
  have h3 := dot_big h1 h2
  obtain ⟨⟨_, _⟩, _, _⟩ := h3
  clear h1 h2
  go_enter Tryd.func100, Tryd.ntmps100
  go_wp2
  go_returns
  exact ⟨rfl, by go_grown⟩
theorem cell_of_block {W W' : World} {b o : Nat} (h : W'.heap[b]? = W.heap[b]?) : W'.cell? ⟨b, o, none⟩ = W.cell? ⟨b, o, none⟩ := by simp [World.cell?, h]
def trivAt (l : List V2) (x y : Int) (pre : List Nat) : List Int := pre.map (fun i => dotZ x y (cyc l i).1 (cyc l i).2)
theorem trivAt_snoc (l : List V2) (x y : Int) (pre : List Nat) (k : Nat) : trivAt l x y (pre ++ [k]) = trivAt l x y pre ++ [dotZ x y (cyc l k).1 (cyc l k).2] := by simp [trivAt]
set_option maxRecDepth 100000 in
set_option maxHeartbeats 16000000 in
theorem trivial_in (n : Nat) (hn : 3 ≤ n) (base g : Nat) (ns : List Node) (x y : Int) (w : World) (hF : FanAt w base g ns) (hm : ns.length ≤ 1000) (hv : allVec (rays ns)) (hxy : (-400000 ≤ x ∧ x ≤ 400000) ∧ -400000 ≤ y ∧ y ≤ 400000) :
    CallsIn Fence.wide n Tryd.prog 64 #[.pointer (some ⟨g, 0, none⟩), .agg #[.int .i64 (x), .int .i64 (y)]] w (GivesDiv w g (trivL (rays ns) (x, y))) := by
  have h1 : 1 ≤ n := by omega
  have hd : 1 ≤ n - 1 - 1 := by omega
  have HMv := Lib.hid (fun c d w' (hc : vecB c d = true) => productBig_any x y c d w' hxy hc)
  have HV := Lib.hid hv
  have HN : Hid (trivL (rays ns) (x, y) = trivAt (rays ns) x y (List.range ns.length)) := by
    show trivL _ _ = _
    unfold trivL trivAt
    rw [rays_len]
  generalize hl : rays ns = l at *
  clear hv hxy
  refine callsIn_of_wp_marks Tryd.func64 rfl trivial ?_ rfl
  simp only [Tryd.ntmps64, List.size_toArray, List.length_cons, List.length_nil, Nat.reduceAdd, Nat.reduceSub, Array.replicate_succ, Array.replicate_zero, List.push_toArray, List.append_toArray, List.nil_append, List.cons_append]
  gi_wp2_with fail
  refine ⟨trivial, ?_⟩
  refine CallsIn.mono (links_in _ g _) ?_
  rintro e w4 ⟨rfl, rfl⟩
  have hA0 : Below w.heap.size w ((w.alloc (.cells #[.int .i64 x, .int .i64 y] 36)).alloc (.cells #[.pointer none, .slice none 0 0] 60)) := by go_grown
  have x0 : ((w.alloc (.cells #[.int .i64 x, .int .i64 y] 36)).alloc (.cells #[.pointer none, .slice none 0 0] 60)).cell? ⟨w.heap.size, 0, none⟩ = some (.int .i64 x) := by first | (go_cell; done) | (go_simp; done) | (simp; done)
  have x1 : ((w.alloc (.cells #[.int .i64 x, .int .i64 y] 36)).alloc (.cells #[.pointer none, .slice none 0 0] 60)).cell? ⟨w.heap.size, 1, none⟩ = some (.int .i64 y) := by first | (go_cell; done) | (go_simp; done) | (simp; done)
  have r0 : ((w.alloc (.cells #[.int .i64 x, .int .i64 y] 36)).alloc (.cells #[.pointer none, .slice none 0 0] 60)).cell? ⟨w.heap.size + 1, 0, none⟩ = some (.pointer none) := by first | (go_cell; done) | (go_simp; done) | (simp; done)
  have r1 : ((w.alloc (.cells #[.int .i64 x, .int .i64 y] 36)).alloc (.cells #[.pointer none, .slice none 0 0] 60)).cell? ⟨w.heap.size + 1, 1, none⟩ = some (.slice none 0 0) := by first | (go_cell; done) | (go_simp; done) | (simp; done)
  have rf : ∀ o, ((w.alloc (.cells #[.int .i64 x, .int .i64 y] 36)).alloc (.cells #[.pointer none, .slice none 0 0] 60)).frozen? ⟨w.heap.size + 1, o, none⟩ = false := fun o => by first | (go_cell; done) | (go_simp; done) | (simp; done)
  have hz : ((w.alloc (.cells #[.int .i64 x, .int .i64 y] 36)).alloc (.cells #[.pointer none, .slice none 0 0] 60)).heap.size = w.heap.size + 1 + 1 := by simp
  gi_wp2_with fail
  generalize ((w.alloc (.cells #[.int .i64 x, .int .i64 y] 36)).alloc (.cells #[.pointer none, .slice none 0 0] 60)) = w3 at *
  have hF3 := hF.below hA0
  have hR := hF3.ring
  have hp := hR.pos
  have hA : Below w3.heap.size w3 ((w3.alloc (.cells #[.slice none 0 0] 23)).alloc (.cells #[.pointer (some ⟨g, 0, none⟩)] 58)) := by go_grown
  have bB := (Boxed.new w3 23 (.slice none 0 0)).alloc (.cells #[.pointer (some ⟨g, 0, none⟩)] 58)
  have bF := Boxed.new (w3.alloc (.cells #[.slice none 0 0] 23)) 58 (.pointer (some ⟨g, 0, none⟩))
  have hz5 : ((w3.alloc (.cells #[.slice none 0 0] 23)).alloc (.cells #[.pointer (some ⟨g, 0, none⟩)] 58)).heap.size = w3.heap.size + 1 + 1 := by simp
  simp only [World.size_alloc] at bF
  rw [hz] at bB bF
  have hF5 := hF3.below hA
  generalize ((w3.alloc (.cells #[.slice none 0 0] 23)).alloc (.cells #[.pointer (some ⟨g, 0, none⟩)] 58)) = W5 at *
  obtain ⟨i0, hi, hz0, hz1, hz2⟩ := info_parts infoInt
  have hlow : ∀ p ∈ ns, p.1 < w3.heap.size := fun p hp => hR.mem_lt hp
  have hs3 := hA0.size
  have HX0 := Lib.hid x0
  have HX1 := Lib.hid x1
  have HR0 := Lib.hid r0
  have HR1 := Lib.hid r1
  have HRF := Lib.hid rf
  have HZ3 := Lib.hid hz
  clear x0 x1 r0 r1 rf hz
  refine wpIn_links (by omega) rfl bF.cell hA.size hF5 hlow hm rfl
    (IntsI w3 (w.heap.size + 1 + 1) (trivAt l x y)) (fun _ _ _ => False) (intsI_own _ _ _ (by omega))
    (fun _ _ _ _ _ h _ _ => h) ⟨⟨_, bB, World.ownsRow_nil _ _ _ _, trivial⟩, hA⟩ ?a₁ ?assign ?body ?done ?stop
  case assign =>
    intro l' q W K hK
    gi_wp2
    exact hK
  case body =>
    rintro l' pre q W ⟨⟨v', hv', hrow, _⟩, hb⟩ hlen'
    have hL := (hR.below hb).link q
    have e1 : cyc l q = (cyc ns q).2 := by rw [← hl, rays_cyc hp]
    have hvx := HV.out q
    rw [e1] at hvx
    have HX : Hid (trivAt l x y (pre ++ [q]) = trivAt l x y pre ++ [dotZ x y (cyc ns q).2.1 (cyc ns q).2.2]) := by rw [← e1]; exact trivAt_snoc l x y pre q
    have HM2 := Lib.hid (fun w' => HMv.out (cyc ns q).2.1 (cyc ns q).2.2 w' hvx)
    have d0 := (hb.cell (p := ⟨w.heap.size, 0, none⟩) (show w.heap.size < _ by have := HZ3.out; omega)).trans HX0.out
    have d1 := (hb.cell (p := ⟨w.heap.size, 1, none⟩) (show w.heap.size < _ by have := HZ3.out; omega)).trans HX1.out
    have k0 := hL.c0
    have k1 := hL.c1
    have kb := hv'.cell
    have kf := hv'.frozen
    have kl := hv'.lt
    have hsz := hb.size
    have HRo := Lib.hid hrow
    have hpl : (trivAt l x y pre).length ≤ 1000 := by simp [trivAt]; omega
    generalize hmx : dotZ x y (cyc ns q).2.1 (cyc ns q).2.2 = mx at HX HM2
    generalize hpt : (cyc ns q).1 = qb at k0 k1
    generalize (cyc ns q).2 = z at k0 k1 HM2
    obtain ⟨zx, zy⟩ := z
    dsimp only at k0 k1 HM2
    clear hrow hvx e1 hmx HMv HV hL
    gi_wp2
    try rw [hpt]
    refine region_round (by kernel_rfl) (noDefer_of (by kernel_rfl)) (by rintro ⟨_, _, h⟩; exact False.elim h) ?_
    refine wpAny_take (i := 2) (v := ?_) rfl (by kernel_rfl) (by kernel_rfl) (by kernel_rfl) (fun _ _ _ h => h) (Or.inl ⟨by rfl, ?_⟩) ?_
    rotate_left
    focus (intro w0; go_simp; try with_reducible rfl)
    refine wpAny_take (i := 3) (v := ?_) rfl (by kernel_rfl) (by kernel_rfl) (by kernel_rfl) (fun _ _ _ h => h) (Or.inl ⟨by rfl, ?_⟩) ?_
    rotate_left
    focus (intro w0; go_simp; try with_reducible rfl)
    refine wpAny_take (i := 4) (v := ?_) rfl (by kernel_rfl) (by kernel_rfl) (by kernel_rfl) (fun _ _ _ h => h) (Or.inl ⟨by rfl, ?_⟩) ?_
    rotate_left
    focus (intro w0; go_simp; try with_reducible rfl)
    refine wpAny_ready (rs := [0, 1, 5]) (by kernel_rfl) (by simp) (AllReady.cons rfl (fun K hK => ?_) (AllReady.cons rfl (fun K hK => ?_) (AllReady.cons rfl (fun K hK => ?_) (AllReady.nil))))
    focus
      go_simp
      refine hK _ _ ?_
      clear hK K
      refine wpAny_ready (rs := [1, 5]) (by kernel_rfl) (by simp) (AllReady.cons rfl (fun K hK => ?_) (AllReady.cons rfl (fun K hK => ?_) (AllReady.nil)))
      focus
        go_simp
        refine hK _ _ ?_
        clear hK K
        refine wpAny_ready (rs := [5]) (by kernel_rfl) (by simp) (AllReady.cons rfl (fun K hK => ?_) (AllReady.nil))
        go_simp
        refine hK _ _ ?_
        clear hK K
        refine wpAny_ready (rs := [6]) (by kernel_rfl) (by simp) (AllReady.cons rfl (fun K hK => ?_) (AllReady.nil))
        go_simp
        (refine Calls.mono (HM2.out _) ?_; rintro e w1 ⟨rfl, hb1⟩; replace hb1 := undrew hb1; have b0 := (hb1.cell (p := ⟨w.heap.size + 1 + 1, 0, none⟩) kl).trans kb; have bl := Nat.lt_of_lt_of_le kl hb1.size)
        refine hK _ _ ?_
        clear hK K
        refine wpAny_ready (rs := [7]) (by kernel_rfl) (by simp) (AllReady.cons rfl (fun K hK => ?_) (AllReady.nil))
        go_simp
        refine hK _ _ ?_
        clear hK K
        refine wpAny_seq 8 rfl (by kernel_rfl) ?_
        simp only [List.drop_succ_cons, List.drop_zero]
      rotate_left 1
      focus
        go_simp
        refine hK _ _ ?_
        clear hK K
        refine wpAny_ready (rs := [1]) (by kernel_rfl) (by simp) (AllReady.cons rfl (fun K hK => ?_) (AllReady.nil))
        go_simp
        refine hK _ _ ?_
        clear hK K
        refine wpAny_ready (rs := [6]) (by kernel_rfl) (by simp) (AllReady.cons rfl (fun K hK => ?_) (AllReady.nil))
        go_simp
        (refine Calls.mono (HM2.out _) ?_; rintro e w1 ⟨rfl, hb1⟩; replace hb1 := undrew hb1; have b0 := (hb1.cell (p := ⟨w.heap.size + 1 + 1, 0, none⟩) kl).trans kb; have bl := Nat.lt_of_lt_of_le kl hb1.size)
        refine hK _ _ ?_
        clear hK K
        refine wpAny_ready (rs := [7]) (by kernel_rfl) (by simp) (AllReady.cons rfl (fun K hK => ?_) (AllReady.nil))
        go_simp
        refine hK _ _ ?_
        clear hK K
        refine wpAny_seq 8 rfl (by kernel_rfl) ?_
        simp only [List.drop_succ_cons, List.drop_zero]
    rotate_left 2
    focus
      go_simp
      refine hK _ _ ?_
      clear hK K
      refine wpAny_ready (rs := [0, 5]) (by kernel_rfl) (by simp) (AllReady.cons rfl (fun K hK => ?_) (AllReady.cons rfl (fun K hK => ?_) (AllReady.nil)))
      focus
        go_simp
        refine hK _ _ ?_
        clear hK K
        refine wpAny_ready (rs := [5]) (by kernel_rfl) (by simp) (AllReady.cons rfl (fun K hK => ?_) (AllReady.nil))
        go_simp
        refine hK _ _ ?_
        clear hK K
        refine wpAny_ready (rs := [6]) (by kernel_rfl) (by simp) (AllReady.cons rfl (fun K hK => ?_) (AllReady.nil))
        go_simp
        (refine Calls.mono (HM2.out _) ?_; rintro e w1 ⟨rfl, hb1⟩; replace hb1 := undrew hb1; have b0 := (hb1.cell (p := ⟨w.heap.size + 1 + 1, 0, none⟩) kl).trans kb; have bl := Nat.lt_of_lt_of_le kl hb1.size)
        refine hK _ _ ?_
        clear hK K
        refine wpAny_ready (rs := [7]) (by kernel_rfl) (by simp) (AllReady.cons rfl (fun K hK => ?_) (AllReady.nil))
        go_simp
        refine hK _ _ ?_
        clear hK K
        refine wpAny_seq 8 rfl (by kernel_rfl) ?_
        simp only [List.drop_succ_cons, List.drop_zero]
      rotate_left 1
      focus
        go_simp
        refine hK _ _ ?_
        clear hK K
        refine wpAny_ready (rs := [0, 6]) (by kernel_rfl) (by simp) (AllReady.cons rfl (fun K hK => ?_) (AllReady.cons rfl (fun K hK => ?_) (AllReady.nil)))
        focus
          go_simp
          refine hK _ _ ?_
          clear hK K
          refine wpAny_ready (rs := [6]) (by kernel_rfl) (by simp) (AllReady.cons rfl (fun K hK => ?_) (AllReady.nil))
          go_simp
          (refine Calls.mono (HM2.out _) ?_; rintro e w1 ⟨rfl, hb1⟩; replace hb1 := undrew hb1; have b0 := (hb1.cell (p := ⟨w.heap.size + 1 + 1, 0, none⟩) kl).trans kb; have bl := Nat.lt_of_lt_of_le kl hb1.size)
          refine hK _ _ ?_
          clear hK K
          refine wpAny_ready (rs := [7]) (by kernel_rfl) (by simp) (AllReady.cons rfl (fun K hK => ?_) (AllReady.nil))
          go_simp
          refine hK _ _ ?_
          clear hK K
          refine wpAny_seq 8 rfl (by kernel_rfl) ?_
          simp only [List.drop_succ_cons, List.drop_zero]
        rotate_left 1
        focus
          go_simp
          (refine Calls.mono (HM2.out _) ?_; rintro e w1 ⟨rfl, hb1⟩; replace hb1 := undrew hb1; have b0 := (hb1.cell (p := ⟨w.heap.size + 1 + 1, 0, none⟩) kl).trans kb; have bl := Nat.lt_of_lt_of_le kl hb1.size)
          refine hK _ _ ?_
          clear hK K
          refine wpAny_ready (rs := [0, 7]) (by kernel_rfl) (by simp) (AllReady.cons rfl (fun K hK => ?_) (AllReady.cons rfl (fun K hK => ?_) (AllReady.nil)))
          focus
            go_simp
            refine hK _ _ ?_
            clear hK K
            refine wpAny_ready (rs := [7]) (by kernel_rfl) (by simp) (AllReady.cons rfl (fun K hK => ?_) (AllReady.nil))
            go_simp
            refine hK _ _ ?_
            clear hK K
            refine wpAny_seq 8 rfl (by kernel_rfl) ?_
            simp only [List.drop_succ_cons, List.drop_zero]
          rotate_left 1
          focus
            go_simp
            refine hK _ _ ?_
            clear hK K
            refine wpAny_ready (rs := [0]) (by kernel_rfl) (by simp) (AllReady.cons rfl (fun K hK => ?_) (AllReady.nil))
            go_simp
            refine hK _ _ ?_
            clear hK K
            refine wpAny_seq 8 rfl (by kernel_rfl) ?_
            simp only [List.drop_succ_cons, List.drop_zero]
    rotate_left 4
    focus
      go_simp
      refine hK _ _ ?_
      clear hK K
      refine wpAny_ready (rs := [0, 1]) (by kernel_rfl) (by simp) (AllReady.cons rfl (fun K hK => ?_) (AllReady.cons rfl (fun K hK => ?_) (AllReady.nil)))
      focus
        go_simp
        refine hK _ _ ?_
        clear hK K
        refine wpAny_ready (rs := [1]) (by kernel_rfl) (by simp) (AllReady.cons rfl (fun K hK => ?_) (AllReady.nil))
        go_simp
        refine hK _ _ ?_
        clear hK K
        refine wpAny_ready (rs := [6]) (by kernel_rfl) (by simp) (AllReady.cons rfl (fun K hK => ?_) (AllReady.nil))
        go_simp
        (refine Calls.mono (HM2.out _) ?_; rintro e w1 ⟨rfl, hb1⟩; replace hb1 := undrew hb1; have b0 := (hb1.cell (p := ⟨w.heap.size + 1 + 1, 0, none⟩) kl).trans kb; have bl := Nat.lt_of_lt_of_le kl hb1.size)
        refine hK _ _ ?_
        clear hK K
        refine wpAny_ready (rs := [7]) (by kernel_rfl) (by simp) (AllReady.cons rfl (fun K hK => ?_) (AllReady.nil))
        go_simp
        refine hK _ _ ?_
        clear hK K
        refine wpAny_seq 8 rfl (by kernel_rfl) ?_
        simp only [List.drop_succ_cons, List.drop_zero]
      rotate_left 1
      focus
        go_simp
        refine hK _ _ ?_
        clear hK K
        refine wpAny_ready (rs := [0, 6]) (by kernel_rfl) (by simp) (AllReady.cons rfl (fun K hK => ?_) (AllReady.cons rfl (fun K hK => ?_) (AllReady.nil)))
        focus
          go_simp
          refine hK _ _ ?_
          clear hK K
          refine wpAny_ready (rs := [6]) (by kernel_rfl) (by simp) (AllReady.cons rfl (fun K hK => ?_) (AllReady.nil))
          go_simp
          (refine Calls.mono (HM2.out _) ?_; rintro e w1 ⟨rfl, hb1⟩; replace hb1 := undrew hb1; have b0 := (hb1.cell (p := ⟨w.heap.size + 1 + 1, 0, none⟩) kl).trans kb; have bl := Nat.lt_of_lt_of_le kl hb1.size)
          refine hK _ _ ?_
          clear hK K
          refine wpAny_ready (rs := [7]) (by kernel_rfl) (by simp) (AllReady.cons rfl (fun K hK => ?_) (AllReady.nil))
          go_simp
          refine hK _ _ ?_
          clear hK K
          refine wpAny_seq 8 rfl (by kernel_rfl) ?_
          simp only [List.drop_succ_cons, List.drop_zero]
        rotate_left 1
        focus
          go_simp
          (refine Calls.mono (HM2.out _) ?_; rintro e w1 ⟨rfl, hb1⟩; replace hb1 := undrew hb1; have b0 := (hb1.cell (p := ⟨w.heap.size + 1 + 1, 0, none⟩) kl).trans kb; have bl := Nat.lt_of_lt_of_le kl hb1.size)
          refine hK _ _ ?_
          clear hK K
          refine wpAny_ready (rs := [0, 7]) (by kernel_rfl) (by simp) (AllReady.cons rfl (fun K hK => ?_) (AllReady.cons rfl (fun K hK => ?_) (AllReady.nil)))
          focus
            go_simp
            refine hK _ _ ?_
            clear hK K
            refine wpAny_ready (rs := [7]) (by kernel_rfl) (by simp) (AllReady.cons rfl (fun K hK => ?_) (AllReady.nil))
            go_simp
            refine hK _ _ ?_
            clear hK K
            refine wpAny_seq 8 rfl (by kernel_rfl) ?_
            simp only [List.drop_succ_cons, List.drop_zero]
          rotate_left 1
          focus
            go_simp
            refine hK _ _ ?_
            clear hK K
            refine wpAny_ready (rs := [0]) (by kernel_rfl) (by simp) (AllReady.cons rfl (fun K hK => ?_) (AllReady.nil))
            go_simp
            refine hK _ _ ?_
            clear hK K
            refine wpAny_seq 8 rfl (by kernel_rfl) ?_
            simp only [List.drop_succ_cons, List.drop_zero]
    all_goals
      have hv1 : Boxed w1 (w.heap.size + 1 + 1) 23 v' := (hb1.block _ kl).trans hv'
      have hrow1 : w1.ownsRow w3.heap.size 3 1 v' (trivAt l x y pre).length (intsV (trivAt l x y pre)) := Ints.below HRo.out hb1
      have hs1 := hb1.size
      go_wp2_with (at_builtin; refine wpList_append_own_at _ rfl _ _ 23 rfl w3.heap.size 3 i0 (.int .i64 0) 1 8 Tryd.underlying23 hi hz0 hz1 hz2 rfl (by decide) _ _ _ rfl (hrow1.alloc _) ⟨w1.heap.size, 0, none⟩ 1 1 [.int .i64 mx] rfl rfl ?c1 ?c2 ?c3 ?c4 ?c5 ?_)
      case c1 =>
        intro j u hj
        match j, hj with
        | 0, hj => simp at hj; subst hj; simp [Addr.add]
      case c2 => intro u hu; simp at hu; subst hu; rfl
      case c3 => unfold maxLen; omega
      case c4 => omega
      case c5 => simp; omega
      intro v2 w2 hown' hgrow _ _
      obtain ⟨g', cap', rfl⟩ := ownsRow_succ hown'
      have hb2 : Below w3.heap.size w3 w1 := hb.trans (hb1.mono hsz)
      obtain ⟨hx1, hx2, hr2, hk2, hbb⟩ := hv1.appended (n₀ := w3.heap.size) (tmp := .cells #[.int .i64 mx] 3) (by decide) hrow1 hb2.size (Nat.le_of_eq HZ3.out) hown' ⟨hgrow.os, hgrow.tape, hgrow.output, hgrow.size, hgrow.block⟩
      have hc1 := hx1.cell
      have hf1 := hx1.frozen
      have HVv := Lib.hid (Ints.snoc (l := trivAt l x y pre) rfl hr2)
      rw [← HX.out] at HVv
      have KO := Lib.hid ((KeepsOthers.of_grownBy (grown_of_below hb1 none) (fun _ _ e _ => by cases e)).trans hk2)
      have hB3 := (hb1.mono hsz).trans hbb
      clear hown' hgrow hr2 hrow1 hx1 hv1 hb1 hk2 d0 d1
      go_wp2
      exact ⟨KO.out, hB3, ⟨⟨_, hx2, HVv.out, trivial⟩, hb.trans hB3⟩⟩
  case done =>
    rintro D W hD ⟨⟨v', hv', hrow, _⟩, hb⟩ hK
    have k4 := hv'.cell
    have hV : Ints W w3.heap.size v' (trivL l (x, y)) := by
      have : Ints W w3.heap.size v' (trivAt l x y (List.range ns.length)) := hrow
      rw [HN.out]
      exact this
    have hB4 : Below w.heap.size w W := hA0.trans (hb.mono hs3)
    have r0 := (hb.cell (p := ⟨w.heap.size + 1, 0, none⟩) (show w.heap.size + 1 < _ by have := HZ3.out; omega)).trans HR0.out
    have r1 := (hb.cell (p := ⟨w.heap.size + 1, 1, none⟩) (show w.heap.size + 1 < _ by have := HZ3.out; omega)).trans HR1.out
    have f0 := (hb.frozen (p := ⟨w.heap.size + 1, 0, none⟩) (show w.heap.size + 1 < _ by have := HZ3.out; omega)).trans (HRF.out 0)
    have f1 := (hb.frozen (p := ⟨w.heap.size + 1, 1, none⟩) (show w.heap.size + 1 < _ by have := HZ3.out; omega)).trans (HRF.out 1)
    have hDR : D ≠ w.heap.size + 1 := by have := HZ3.out; have := hA.size; omega
    obtain ⟨a9, c9, hv9, _⟩ := (hV.reads (show (trivL l (x, y)).length ≤ 1152921504606846976 by rw [trivL_len, ← hl, rays_len]; omega)).len
    subst hv9
    generalize hT : trivL l (x, y) = T at *
    have hK2 : ((W.setCell ⟨w.heap.size + 1, 0, none⟩ (.pointer (some ⟨g, 0, none⟩))).setCell ⟨w.heap.size + 1, 1, none⟩ (.slice a9 T.length c9)).heap[D]? = some (.deferred (some [])) :=
      ((Below.heap_setCell _ ⟨w.heap.size + 1, 1, none⟩ _ D hDR).trans (Below.heap_setCell W ⟨w.heap.size + 1, 0, none⟩ _ D hDR)).trans hK
    have HV2 := Lib.hid (show Ints (((W.setCell ⟨w.heap.size + 1, 0, none⟩ (.pointer (some ⟨g, 0, none⟩))).setCell ⟨w.heap.size + 1, 1, none⟩ (.slice a9 T.length c9)).putObj D (.deferred none)) w3.heap.size (.slice a9 T.length c9) T from ownsRow_putObj ((hV.setLow (by have := HZ3.out; omega) _).setLow (by have := HZ3.out; omega) _) (.deferred none) hK2 rfl)
    have hB2 : Below w.heap.size w (((W.setCell ⟨w.heap.size + 1, 0, none⟩ (.pointer (some ⟨g, 0, none⟩))).setCell ⟨w.heap.size + 1, 1, none⟩ (.slice a9 T.length c9)).putObj D (.deferred none)) := ((hB4.setCell (p := ⟨w.heap.size + 1, 0, none⟩) (by show w.heap.size ≤ w.heap.size + 1; omega) _).setCell (p := ⟨w.heap.size + 1, 1, none⟩) (by show w.heap.size ≤ w.heap.size + 1; omega) _).grown (grownBy_putObj' _ D (.deferred none)) (by have := hB4.size; simpa using this) (fun k e => by cases e; have := HZ3.out; have := hA.size; omega)
    have q0 : (((W.setCell ⟨w.heap.size + 1, 0, none⟩ (.pointer (some ⟨g, 0, none⟩))).setCell ⟨w.heap.size + 1, 1, none⟩ (.slice a9 T.length c9)).putObj D (.deferred none)).cell? ⟨w.heap.size + 1, 0, none⟩ = some (.pointer (some ⟨g, 0, none⟩)) := (cell_of_block (World.putObj_heap_other (fun e => hDR e.symm))).trans (by first | (go_cell; done) | (go_simp; done) | (simp; done))
    have q1 : (((W.setCell ⟨w.heap.size + 1, 0, none⟩ (.pointer (some ⟨g, 0, none⟩))).setCell ⟨w.heap.size + 1, 1, none⟩ (.slice a9 T.length c9)).putObj D (.deferred none)).cell? ⟨w.heap.size + 1, 1, none⟩ = some (.slice a9 T.length c9) := (cell_of_block (World.putObj_heap_other (fun e => hDR e.symm))).trans (by first | (go_cell; done) | (go_simp; done) | (simp; done))
    have HK2 := Lib.hid hK2
    have HQ0 := Lib.hid q0
    have HQ1 := Lib.hid q1
    clear hK hK2 hV hrow q0 q1
    gi_wp2
    refine ⟨by simp, .inl ⟨_, _, rfl, run_takeDeferred HK2.out, ?_⟩⟩
    have q0 := HQ0.out
    have q1 := HQ1.out
    refine ⟨.agg #[.pointer (some ⟨g, 0, none⟩), .slice a9 T.length c9], ?_, _, rfl, HV2.out.lower hs3, hB2⟩
    simp [results, Tryd.f64, go_sem, q0, q1]
  case stop =>
    rintro D c pre W _ _ h _
    exact h.elim
theorem trivial_any (base g : Nat) (ns : List Node) (x y : Int) (w : World) (hF : FanAt w base g ns) (hm : ns.length ≤ 1000) (hv : allVec (rays ns)) (hxy : (-400000 ≤ x ∧ x ≤ 400000) ∧ -400000 ≤ y ∧ y ≤ 400000) :
    Calls Tryd.prog 64 #[.pointer (some ⟨g, 0, none⟩), .agg #[.int .i64 (x), .int .i64 (y)]] w (GivesDiv w g (trivL (rays ns) (x, y))) :=
  callsIn_wide.1 (trivial_in 3 (by omega) base g ns x y w hF hm hv hxy)
end Go.Proofs.YtcieihbknfeddabDoor
