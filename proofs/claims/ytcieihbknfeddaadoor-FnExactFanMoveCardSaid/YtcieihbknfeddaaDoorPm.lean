/- Moved fans: the program. -/
import Derived.Test.YtcieihbknfeddaaDoorMr
import Derived.Test.YtcieihbknfeddaaDoorB9
import Derived.Test.YtcieihbknfeddaaDoorJ3
import Derived.Test.YtcieihbknfeddaaDoorB2
namespace Go.Proofs.YtcieihbknfeddaaDoor
open Go.RowKit Go.Shelf

attribute [local go_sem] Oper.semAt_some

def mvB (l : List V2) (e f g h : Int) : Bool := fanB l && (matB e f g h && ofB (movedZ l e f g h))
set_option maxRecDepth 100000 in
set_option maxHeartbeats 16000000 in
theorem fanMove_in (n : Nat) (hn : 3 ≤ n) (v : Value) (l : List V2) (e f g h : Int) (w : World) (hl : ReadsVecs w v l) (hg : EtOk w) (hf : fanB l = true) (hM : matB e f g h = true) :
    CallsIn Fence.wide n Tryd.prog 58 #[v, .agg #[.int .i64 (e), .int .i64 (f), .int .i64 (g), .int .i64 (h)]] w (GivesVecsOk w (gV (ofB (movedZ l e f g h)) (sortL (movedZ l e f g h))) (ofB (movedZ l e f g h))) := by
  have h1 : 1 ≤ n := by omega
  have hd : 1 ≤ n - 1 - 1 := by omega
  obtain ⟨⟨he1, he2, he3, he4⟩, _⟩ := mat_in hM
  have HV := Lib.hid (fan_vec hf)
  have HO := Lib.hid (fun w' (hb : Below w.heap.size w w') => fanOf_any v l w' (hl.below hb) (hg.below hb))
  have HS := Lib.hid (fun (ns : List Node) hn => fan_small (l := l) (ns := ns) hf hn)
  have HC := Lib.hid (fun w' => matCheck_in e f g h w' hM)
  have HMv := Lib.hid (fun x y w' (hx : vecB x y = true) => move_any e f g h x y w' he1 he2 he3 he4 (vecB_true hx).1 (vecB_true hx).2)
  have HFo := Lib.hid (fun v' b w' hV hg' (hm : (movedZ l e f g h).length ≤ 1048576) => fanOfL_any v' (movedZ l e f g h) b w' hV hm hg')
  have HG := Lib.hid hg
  have HLen := Lib.hid (fan_len hf).2
  rw [hf] at HO
  clear hl hg hf hM he1 he2 he3 he4
  refine callsIn_of_wp_marks Tryd.func58 rfl trivial ?_ rfl
  simp only [Tryd.ntmps58, List.size_toArray, List.length_cons, List.length_nil, Nat.reduceAdd, Nat.reduceSub, Array.replicate_succ, Array.replicate_zero, List.push_toArray, List.append_toArray, List.nil_append, List.cons_append]
  gi_wp2_with fail
  refine ⟨trivial, ?_⟩
  refine CallsIn.mono (callsIn_wide.2 (HO.out _ (by go_grown))) ?_
  rintro e1 w1 ⟨⟨_, gb, ns, rfl, hF, hnl⟩ | ⟨h, _⟩, hb1⟩
  case inr => cases h
  have hB : Below w.heap.size w w1 := belowTo (by go_grown) hb1
  have c0 : w1.cell? ⟨w.heap.size, 0, none⟩ = some (.int .i64 e) := (hb1.cell (p := ⟨w.heap.size, 0, none⟩) (by simp)).trans (by simp)
  have c1 : w1.cell? ⟨w.heap.size, 1, none⟩ = some (.int .i64 f) := (hb1.cell (p := ⟨w.heap.size, 1, none⟩) (by simp)).trans (by simp)
  have c2 : w1.cell? ⟨w.heap.size, 2, none⟩ = some (.int .i64 g) := (hb1.cell (p := ⟨w.heap.size, 2, none⟩) (by simp)).trans (by simp)
  have c3 : w1.cell? ⟨w.heap.size, 3, none⟩ = some (.int .i64 h) := (hb1.cell (p := ⟨w.heap.size, 3, none⟩) (by simp)).trans (by simp)
  have s0 : w.heap.size < w1.heap.size := Nat.lt_of_lt_of_le (by simp) hb1.size
  obtain ⟨hs, hlen⟩ := HS.out ns hnl
  have HF := Lib.hid hF
  have HN := Lib.hid hnl
  clear hb1 hF hnl HO HS
  gi_wp2_with fail
  refine ⟨trivial, ?_⟩
  refine CallsIn.mono (callsIn_wide.2 (HC.out _)) ?_
  rintro e2 w2 ⟨rfl, hb2⟩
  replace hB := belowTo hB hb2
  replace HF := Lib.hid (HF.out.below hb2)
  replace c0 := (hb2.cell (p := ⟨w.heap.size, 0, none⟩) s0).trans c0
  replace c1 := (hb2.cell (p := ⟨w.heap.size, 1, none⟩) s0).trans c1
  replace c2 := (hb2.cell (p := ⟨w.heap.size, 2, none⟩) s0).trans c2
  replace c3 := (hb2.cell (p := ⟨w.heap.size, 3, none⟩) s0).trans c3
  replace s0 := Nat.lt_of_lt_of_le s0 hb2.size
  clear hb2
  gi_wp2_with fail
  refine ⟨trivial, ?_⟩
  refine CallsIn.mono (callsIn_wide.2 (none_nil _)) ?_
  rintro e3 w3 ⟨rfl, hb3⟩
  replace hB := belowTo hB hb3
  replace HF := Lib.hid (HF.out.below hb3)
  replace c0 := (hb3.cell (p := ⟨w.heap.size, 0, none⟩) s0).trans c0
  replace c1 := (hb3.cell (p := ⟨w.heap.size, 1, none⟩) s0).trans c1
  replace c2 := (hb3.cell (p := ⟨w.heap.size, 2, none⟩) s0).trans c2
  replace c3 := (hb3.cell (p := ⟨w.heap.size, 3, none⟩) s0).trans c3
  replace s0 := Nat.lt_of_lt_of_le s0 hb3.size
  clear hb3
  gi_wp2_with fail
  refine ⟨trivial, ?_⟩
  refine CallsIn.mono (links_in _ gb _) ?_
  rintro e w4 ⟨rfl, rfl⟩
  have hA : Below w3.heap.size w3 ((w3.alloc (.cells #[.slice none 0 0] 39)).alloc (.cells #[.pointer (some ⟨gb, 0, none⟩)] 92)) := by go_grown
  have bB := (Boxed.new w3 39 (.slice none 0 0)).alloc (.cells #[.pointer (some ⟨gb, 0, none⟩)] 92)
  have bF := Boxed.new (w3.alloc (.cells #[.slice none 0 0] 39)) 92 (.pointer (some ⟨gb, 0, none⟩))
  have hz5 : ((w3.alloc (.cells #[.slice none 0 0] 39)).alloc (.cells #[.pointer (some ⟨gb, 0, none⟩)] 92)).heap.size = w3.heap.size + 1 + 1 := by simp
  simp only [World.size_alloc] at bF
  have hF3 := HF.out
  have hR := hF3.ring
  have hp := hR.pos
  have hF5 := hF3.below hA
  gi_wp2_with fail
  generalize ((w3.alloc (.cells #[.slice none 0 0] 39)).alloc (.cells #[.pointer (some ⟨gb, 0, none⟩)] 92)) = W5 at *
  obtain ⟨i0, hi, hz0, hz1, hz2⟩ := info_parts infoVec
  have hlow : ∀ p ∈ ns, p.1 < w3.heap.size := fun p hp => hR.mem_lt hp
  have HBw := Lib.hid hB
  have hs3 := hB.size
  clear hB HF hF3
  refine wpIn_links (by omega) rfl bF.cell hA.size hF5 hlow hs rfl
    (VecsI w3 w3.heap.size (movedL l e f g h)) (fun _ _ _ => False) (vecsI_own _ _ _ (by omega))
    (fun _ _ _ _ _ h _ _ => h) ⟨⟨_, bB, World.ownsRow_nil _ _ _ _, trivial⟩, hA⟩ ?a₁ ?assign ?body ?done ?stop
  case assign =>
    intro l' x W K hK
    gi_wp2
    exact hK
  case body =>
    rintro l' pre x W ⟨⟨v', hv', hrow, _⟩, hb⟩ hlen'
    have hL := (hR.below hb).link x
    have e1 : cyc l x = (cyc ns x).2 := by rw [← HN.out, rays_cyc hp]
    have hvx := HV.out x
    rw [e1] at hvx
    have HX : Hid (movedL l e f g h (pre ++ [x]) = movedL l e f g h pre ++ [(moveX e f (cyc ns x).2.1 (cyc ns x).2.2, moveX g h (cyc ns x).2.1 (cyc ns x).2.2)]) := by rw [← e1]; exact movedL_snoc l e f g h pre x
    have HM2 := Lib.hid (fun w' => HMv.out (cyc ns x).2.1 (cyc ns x).2.2 w' hvx)
    have d0 := (hb.cell (p := ⟨w.heap.size, 0, none⟩) s0).trans c0
    have d1 := (hb.cell (p := ⟨w.heap.size, 1, none⟩) s0).trans c1
    have d2 := (hb.cell (p := ⟨w.heap.size, 2, none⟩) s0).trans c2
    have d3 := (hb.cell (p := ⟨w.heap.size, 3, none⟩) s0).trans c3
    have k0 := hL.c0
    have k1 := hL.c1
    have kb := hv'.cell
    have kf := hv'.frozen
    have kl := hv'.lt
    have hsz := hb.size
    have HRo := Lib.hid hrow
    have hpl : (movedL l e f g h pre).length ≤ 1000 := by rw [movedL_len]; omega
    generalize hmx : moveX e f (cyc ns x).2.1 (cyc ns x).2.2 = mx at HX HM2
    generalize hmy : moveX g h (cyc ns x).2.1 (cyc ns x).2.2 = my at HX HM2
    generalize hpt : (cyc ns x).1 = q at k0 k1
    generalize (cyc ns x).2 = z at k0 k1 HM2
    obtain ⟨zx, zy⟩ := z
    dsimp only at k0 k1 HM2
    clear hrow hvx e1 hmx hmy c0 c1 c2 c3 HMv HV hL
    gi_wp2
    try rw [hpt]
    refine region_round (by kernel_rfl) (noDefer_of (by kernel_rfl)) (by rintro ⟨_, _, h⟩; exact False.elim h) ?_
    refine wpAny_take (i := 2) (v := ?_) rfl (by kernel_rfl) (by kernel_rfl) (by kernel_rfl) (fun _ _ _ h => h) (Or.inl ⟨by rfl, ?_⟩) ?_
    rotate_left
    focus (intro w0; go_simp; try with_reducible rfl)
    refine wpAny_take (i := 3) (v := ?_) rfl (by kernel_rfl) (by kernel_rfl) (by kernel_rfl) (fun _ _ _ h => h) (Or.inl ⟨by rfl, ?_⟩) ?_
    rotate_left
    focus (intro w0; go_simp; try with_reducible rfl)
    refine wpAny_take (i := 4) (v := ?_) rfl (by kernel_rfl) (by kernel_rfl) (by kernel_rfl) (fun _ _ _ h => h) (Or.inl ⟨by rfl, ?_⟩) ?_
    rotate_left
    focus (intro w0; go_simp; try with_reducible rfl)
    refine wpAny_ready (rs := [0, 1, 5]) (by kernel_rfl) (by simp) (AllReady.cons rfl (fun K hK => ?_) (AllReady.cons rfl (fun K hK => ?_) (AllReady.cons rfl (fun K hK => ?_) (AllReady.nil))))
    focus
      go_simp
      refine hK _ _ ?_
      clear hK K
      refine wpAny_ready (rs := [1, 5]) (by kernel_rfl) (by simp) (AllReady.cons rfl (fun K hK => ?_) (AllReady.cons rfl (fun K hK => ?_) (AllReady.nil)))
      focus
        go_simp
        refine hK _ _ ?_
        clear hK K
        refine wpAny_ready (rs := [5]) (by kernel_rfl) (by simp) (AllReady.cons rfl (fun K hK => ?_) (AllReady.nil))
        go_simp
        refine hK _ _ ?_
        clear hK K
        refine wpAny_ready (rs := [6]) (by kernel_rfl) (by simp) (AllReady.cons rfl (fun K hK => ?_) (AllReady.nil))
        go_simp
        (refine Calls.mono (HM2.out _) ?_; rintro e w1 ⟨rfl, hb1⟩; replace hb1 := undrew hb1; have b0 := (hb1.cell (p := ⟨w3.heap.size, 0, none⟩) kl).trans kb; have bl := Nat.lt_of_lt_of_le kl hb1.size)
        refine hK _ _ ?_
        clear hK K
        refine wpAny_ready (rs := [7]) (by kernel_rfl) (by simp) (AllReady.cons rfl (fun K hK => ?_) (AllReady.nil))
        go_simp
        refine hK _ _ ?_
        clear hK K
        refine wpAny_seq 8 rfl (by kernel_rfl) ?_
        simp only [List.drop_succ_cons, List.drop_zero]
      rotate_left 1
      focus
        go_simp
        refine hK _ _ ?_
        clear hK K
        refine wpAny_ready (rs := [1]) (by kernel_rfl) (by simp) (AllReady.cons rfl (fun K hK => ?_) (AllReady.nil))
        go_simp
        refine hK _ _ ?_
        clear hK K
        refine wpAny_ready (rs := [6]) (by kernel_rfl) (by simp) (AllReady.cons rfl (fun K hK => ?_) (AllReady.nil))
        go_simp
        (refine Calls.mono (HM2.out _) ?_; rintro e w1 ⟨rfl, hb1⟩; replace hb1 := undrew hb1; have b0 := (hb1.cell (p := ⟨w3.heap.size, 0, none⟩) kl).trans kb; have bl := Nat.lt_of_lt_of_le kl hb1.size)
        refine hK _ _ ?_
        clear hK K
        refine wpAny_ready (rs := [7]) (by kernel_rfl) (by simp) (AllReady.cons rfl (fun K hK => ?_) (AllReady.nil))
        go_simp
        refine hK _ _ ?_
        clear hK K
        refine wpAny_seq 8 rfl (by kernel_rfl) ?_
        simp only [List.drop_succ_cons, List.drop_zero]
    rotate_left 2
    focus
      go_simp
      refine hK _ _ ?_
      clear hK K
      refine wpAny_ready (rs := [0, 5]) (by kernel_rfl) (by simp) (AllReady.cons rfl (fun K hK => ?_) (AllReady.cons rfl (fun K hK => ?_) (AllReady.nil)))
      focus
        go_simp
        refine hK _ _ ?_
        clear hK K
        refine wpAny_ready (rs := [5]) (by kernel_rfl) (by simp) (AllReady.cons rfl (fun K hK => ?_) (AllReady.nil))
        go_simp
        refine hK _ _ ?_
        clear hK K
        refine wpAny_ready (rs := [6]) (by kernel_rfl) (by simp) (AllReady.cons rfl (fun K hK => ?_) (AllReady.nil))
        go_simp
        (refine Calls.mono (HM2.out _) ?_; rintro e w1 ⟨rfl, hb1⟩; replace hb1 := undrew hb1; have b0 := (hb1.cell (p := ⟨w3.heap.size, 0, none⟩) kl).trans kb; have bl := Nat.lt_of_lt_of_le kl hb1.size)
        refine hK _ _ ?_
        clear hK K
        refine wpAny_ready (rs := [7]) (by kernel_rfl) (by simp) (AllReady.cons rfl (fun K hK => ?_) (AllReady.nil))
        go_simp
        refine hK _ _ ?_
        clear hK K
        refine wpAny_seq 8 rfl (by kernel_rfl) ?_
        simp only [List.drop_succ_cons, List.drop_zero]
      rotate_left 1
      focus
        go_simp
        refine hK _ _ ?_
        clear hK K
        refine wpAny_ready (rs := [0, 6]) (by kernel_rfl) (by simp) (AllReady.cons rfl (fun K hK => ?_) (AllReady.cons rfl (fun K hK => ?_) (AllReady.nil)))
        focus
          go_simp
          refine hK _ _ ?_
          clear hK K
          refine wpAny_ready (rs := [6]) (by kernel_rfl) (by simp) (AllReady.cons rfl (fun K hK => ?_) (AllReady.nil))
          go_simp
          (refine Calls.mono (HM2.out _) ?_; rintro e w1 ⟨rfl, hb1⟩; replace hb1 := undrew hb1; have b0 := (hb1.cell (p := ⟨w3.heap.size, 0, none⟩) kl).trans kb; have bl := Nat.lt_of_lt_of_le kl hb1.size)
          refine hK _ _ ?_
          clear hK K
          refine wpAny_ready (rs := [7]) (by kernel_rfl) (by simp) (AllReady.cons rfl (fun K hK => ?_) (AllReady.nil))
          go_simp
          refine hK _ _ ?_
          clear hK K
          refine wpAny_seq 8 rfl (by kernel_rfl) ?_
          simp only [List.drop_succ_cons, List.drop_zero]
        rotate_left 1
        focus
          go_simp
          (refine Calls.mono (HM2.out _) ?_; rintro e w1 ⟨rfl, hb1⟩; replace hb1 := undrew hb1; have b0 := (hb1.cell (p := ⟨w3.heap.size, 0, none⟩) kl).trans kb; have bl := Nat.lt_of_lt_of_le kl hb1.size)
          refine hK _ _ ?_
          clear hK K
          refine wpAny_ready (rs := [0, 7]) (by kernel_rfl) (by simp) (AllReady.cons rfl (fun K hK => ?_) (AllReady.cons rfl (fun K hK => ?_) (AllReady.nil)))
          focus
            go_simp
            refine hK _ _ ?_
            clear hK K
            refine wpAny_ready (rs := [7]) (by kernel_rfl) (by simp) (AllReady.cons rfl (fun K hK => ?_) (AllReady.nil))
            go_simp
            refine hK _ _ ?_
            clear hK K
            refine wpAny_seq 8 rfl (by kernel_rfl) ?_
            simp only [List.drop_succ_cons, List.drop_zero]
          rotate_left 1
          focus
            go_simp
            refine hK _ _ ?_
            clear hK K
            refine wpAny_ready (rs := [0]) (by kernel_rfl) (by simp) (AllReady.cons rfl (fun K hK => ?_) (AllReady.nil))
            go_simp
            refine hK _ _ ?_
            clear hK K
            refine wpAny_seq 8 rfl (by kernel_rfl) ?_
            simp only [List.drop_succ_cons, List.drop_zero]
    rotate_left 4
    focus
      go_simp
      refine hK _ _ ?_
      clear hK K
      refine wpAny_ready (rs := [0, 1]) (by kernel_rfl) (by simp) (AllReady.cons rfl (fun K hK => ?_) (AllReady.cons rfl (fun K hK => ?_) (AllReady.nil)))
      focus
        go_simp
        refine hK _ _ ?_
        clear hK K
        refine wpAny_ready (rs := [1]) (by kernel_rfl) (by simp) (AllReady.cons rfl (fun K hK => ?_) (AllReady.nil))
        go_simp
        refine hK _ _ ?_
        clear hK K
        refine wpAny_ready (rs := [6]) (by kernel_rfl) (by simp) (AllReady.cons rfl (fun K hK => ?_) (AllReady.nil))
        go_simp
        (refine Calls.mono (HM2.out _) ?_; rintro e w1 ⟨rfl, hb1⟩; replace hb1 := undrew hb1; have b0 := (hb1.cell (p := ⟨w3.heap.size, 0, none⟩) kl).trans kb; have bl := Nat.lt_of_lt_of_le kl hb1.size)
        refine hK _ _ ?_
        clear hK K
        refine wpAny_ready (rs := [7]) (by kernel_rfl) (by simp) (AllReady.cons rfl (fun K hK => ?_) (AllReady.nil))
        go_simp
        refine hK _ _ ?_
        clear hK K
        refine wpAny_seq 8 rfl (by kernel_rfl) ?_
        simp only [List.drop_succ_cons, List.drop_zero]
      rotate_left 1
      focus
        go_simp
        refine hK _ _ ?_
        clear hK K
        refine wpAny_ready (rs := [0, 6]) (by kernel_rfl) (by simp) (AllReady.cons rfl (fun K hK => ?_) (AllReady.cons rfl (fun K hK => ?_) (AllReady.nil)))
        focus
          go_simp
          refine hK _ _ ?_
          clear hK K
          refine wpAny_ready (rs := [6]) (by kernel_rfl) (by simp) (AllReady.cons rfl (fun K hK => ?_) (AllReady.nil))
          go_simp
          (refine Calls.mono (HM2.out _) ?_; rintro e w1 ⟨rfl, hb1⟩; replace hb1 := undrew hb1; have b0 := (hb1.cell (p := ⟨w3.heap.size, 0, none⟩) kl).trans kb; have bl := Nat.lt_of_lt_of_le kl hb1.size)
          refine hK _ _ ?_
          clear hK K
          refine wpAny_ready (rs := [7]) (by kernel_rfl) (by simp) (AllReady.cons rfl (fun K hK => ?_) (AllReady.nil))
          go_simp
          refine hK _ _ ?_
          clear hK K
          refine wpAny_seq 8 rfl (by kernel_rfl) ?_
          simp only [List.drop_succ_cons, List.drop_zero]
        rotate_left 1
        focus
          go_simp
          (refine Calls.mono (HM2.out _) ?_; rintro e w1 ⟨rfl, hb1⟩; replace hb1 := undrew hb1; have b0 := (hb1.cell (p := ⟨w3.heap.size, 0, none⟩) kl).trans kb; have bl := Nat.lt_of_lt_of_le kl hb1.size)
          refine hK _ _ ?_
          clear hK K
          refine wpAny_ready (rs := [0, 7]) (by kernel_rfl) (by simp) (AllReady.cons rfl (fun K hK => ?_) (AllReady.cons rfl (fun K hK => ?_) (AllReady.nil)))
          focus
            go_simp
            refine hK _ _ ?_
            clear hK K
            refine wpAny_ready (rs := [7]) (by kernel_rfl) (by simp) (AllReady.cons rfl (fun K hK => ?_) (AllReady.nil))
            go_simp
            refine hK _ _ ?_
            clear hK K
            refine wpAny_seq 8 rfl (by kernel_rfl) ?_
            simp only [List.drop_succ_cons, List.drop_zero]
          rotate_left 1
          focus
            go_simp
            refine hK _ _ ?_
            clear hK K
            refine wpAny_ready (rs := [0]) (by kernel_rfl) (by simp) (AllReady.cons rfl (fun K hK => ?_) (AllReady.nil))
            go_simp
            refine hK _ _ ?_
            clear hK K
            refine wpAny_seq 8 rfl (by kernel_rfl) ?_
            simp only [List.drop_succ_cons, List.drop_zero]
    all_goals
      have hv1 : Boxed w1 w3.heap.size 39 v' := (hb1.block _ kl).trans hv'
      have hrow1 : w1.ownsRow w3.heap.size 26 2 v' (movedL l e f g h pre).length (intsV (flat (movedL l e f g h pre))) := Vecs.below HRo.out hb1
      have hs1 := hb1.size
      go_wp2_with (at_builtin; refine wpList_append_own_at _ rfl _ _ 39 rfl w3.heap.size 26 i0 (.agg #[.int .i64 (0), .int .i64 (0)]) 2 16 Tryd.underlying39 hi hz0 hz1 hz2 rfl (by decide) _ _ _ rfl (hrow1.alloc _) ⟨w1.heap.size, 0, none⟩ 1 1 [.int .i64 mx, .int .i64 my] rfl rfl ?c1 ?c2 ?c3 ?c4 ?c5 ?_)
      case c1 =>
        intro j u hj
        match j, hj with
        | 0, hj => simp at hj; subst hj; simp [Addr.add]
        | 1, hj => simp at hj; subst hj; simp [Addr.add]
      case c2 => intro u hu; simp at hu; rcases hu with rfl | rfl <;> rfl
      case c3 => unfold maxLen; omega
      case c4 => omega
      case c5 => simp; omega
      intro v2 w2 hown' hgrow _ _
      obtain ⟨g', cap', rfl⟩ := ownsRow_succ hown'
      have hb2 : Below w3.heap.size w3 w1 := hb.trans (hb1.mono hsz)
      obtain ⟨hx1, hx2, hr2, hk2, hbb⟩ := hv1.appended (n₀ := w3.heap.size) (tmp := .cells #[.int .i64 mx, .int .i64 my] 26) (by decide) hrow1 hb2.size (Nat.le_refl _) hown' ⟨hgrow.os, hgrow.tape, hgrow.output, hgrow.size, hgrow.block⟩
      have hc1 := hx1.cell
      have hf1 := hx1.frozen
      have HVv := Lib.hid (Vecs.snoc (l := movedL l e f g h pre) rfl hr2)
      rw [← HX.out] at HVv
      have KO := Lib.hid ((KeepsOthers.of_grownBy (grown_of_below hb1 none) (fun _ _ e _ => by cases e)).trans hk2)
      have hB3 := (hb1.mono hsz).trans hbb
      clear hown' hgrow hr2 hrow1 hx1 hv1 hb1 hk2 d0 d1 d2 d3
      go_wp2
      exact ⟨KO.out, hB3, ⟨⟨_, hx2, HVv.out, trivial⟩, hb.trans hB3⟩⟩
  case done =>
    rintro D W hD ⟨⟨v', hv', hrow, _⟩, hb⟩ hK
    have k4 := hv'.cell
    have e1 : ns.length = l.length := hlen
    have hV : Vecs W w3.heap.size v' (movedZ l e f g h) := by
      have : Vecs W w3.heap.size v' (movedL l e f g h (List.range ns.length)) := hrow
      rw [e1] at this
      exact this
    have hml : (movedZ l e f g h).length ≤ 1048576 := by
      have h20 := HLen.out
      unfold movedZ
      rw [movedL_len, List.length_range]
      omega
    have hB4 : Below w.heap.size w W := HBw.out.trans (hb.mono hs3)
    have hDlt := (Array.getElem?_eq_some_iff.1 hK).1
    have HC4 := Lib.hid (HFo.out v' w3.heap.size W hV (HG.out.below hB4) hml)
    have HK := Lib.hid hK
    clear hV hrow hK hml HFo
    generalize ofB (movedZ l e f g h) = B at *
    generalize gV B (sortL (movedZ l e f g h)) = R at *
    gi_wp2_with fail
    refine ⟨trivial, ?_⟩
    refine CallsIn.mono (callsIn_wide.2 HC4.out) ?_
    rintro e5 w5 ⟨v5, rfl, hV5, hb5⟩
    have hK5 : w5.heap[D]? = some (.deferred (some [])) := (hb5.block D hDlt).trans HK.out
    have hB5 := belowTo hB4 hb5
    have HV5 := Lib.hid (Vecs.putObj (hV5.lower hB4.size) (.deferred none) hK5 rfl)
    have hB6 : Below w.heap.size w (w5.putObj D (.deferred none)) := hB5.grown (grownBy_putObj' w5 D (.deferred none)) hB5.size (fun k e => by cases e; omega)
    have HK5 := Lib.hid hK5
    clear hV5 hb5 hK5 hB5 HC4
    gi_wp2
    refine ⟨by simp, .inl ⟨_, _, rfl, run_takeDeferred HK5.out, ?_⟩⟩
    refine ⟨.tuple #[v5, .bool B], ?_, _, rfl, HV5.out, hB6⟩
    simp [results, Tryd.f58, go_sem]
  case stop =>
    rintro D c pre W _ _ h _
    exact h.elim
set_option maxHeartbeats 4000000 in
theorem fanMove_any (v : Value) (l : List V2) (e f g h : Int) (w : World) (hl : ReadsVecs w v l) (hg : EtOk w) :
    Calls Tryd.prog 58 #[v, .agg #[.int .i64 (e), .int .i64 (f), .int .i64 (g), .int .i64 (h)]] w (GivesVecsOk w (gV (mvB l e f g h) (sortL (movedZ l e f g h))) (mvB l e f g h)) := by
  have HO := Lib.hid (fun w' (hb : Below w.heap.size w w') => fanOf_any v l w' (hl.below hb) (hg.below hb))
  cases hf : fanB l
  · have e0 : mvB l e f g h = false := by simp [mvB, hf]
    rw [e0]
    rw [hf] at HO
    clear hf
    go_enter Tryd.func58, Tryd.ntmps58
    go_wp2_with fail
    refine Calls.mono (HO.out _ (by go_grown)) ?_
    rintro e1 w1 ⟨⟨h, _⟩ | ⟨_, rfl⟩, hb1⟩
    · cases h
    · have hB : Below w.heap.size w w1 := belowTo (by go_grown) hb1
      clear hb1
      go_wp2
      go_returns
      exact ⟨_, rfl, Vecs.nil _ _, hB⟩
  · cases hM : matB e f g h
    · have e0 : mvB l e f g h = false := by simp [mvB, hM]
      rw [e0]
      rw [hf] at HO
      have HC := Lib.hid (fun w' => matCheck_out e f g h w' hM)
      have HG := Lib.hid hg
      clear hf hM hg
      go_enter Tryd.func58, Tryd.ntmps58
      go_wp2_with fail
      refine Calls.mono (HO.out _ (by go_grown)) ?_
      rintro e1 w1 ⟨⟨_, gb, ns, rfl, hF, hnl⟩ | ⟨h, _⟩, hb1⟩
      · have hB : Below w.heap.size w w1 := belowTo (by go_grown) hb1
        have c0 : w1.cell? ⟨w.heap.size, 0, none⟩ = some (.int .i64 e) := (hb1.cell (p := ⟨w.heap.size, 0, none⟩) (by simp)).trans (by simp)
        have c1 : w1.cell? ⟨w.heap.size, 1, none⟩ = some (.int .i64 f) := (hb1.cell (p := ⟨w.heap.size, 1, none⟩) (by simp)).trans (by simp)
        have c2 : w1.cell? ⟨w.heap.size, 2, none⟩ = some (.int .i64 g) := (hb1.cell (p := ⟨w.heap.size, 2, none⟩) (by simp)).trans (by simp)
        have c3 : w1.cell? ⟨w.heap.size, 3, none⟩ = some (.int .i64 h) := (hb1.cell (p := ⟨w.heap.size, 3, none⟩) (by simp)).trans (by simp)
        clear hb1 hF hnl
        go_wp2_with fail
        refine Calls.mono (HC.out _) ?_
        rintro e2 w2 ⟨rfl, hb2⟩
        replace hB := belowTo hB hb2
        have HN := Lib.hid (none_hit ⟨#[109, 97, 116, 114, 105, 120]⟩ w2 (HG.out.below hB))
        clear hb2 c0 c1 c2 c3
        go_wp2_with fail
        refine Calls.mono HN.out ?_
        rintro e3 w3 ⟨rfl, hb3⟩
        replace hB := belowTo hB hb3
        clear hb3
        go_wp2
        go_returns
        exact ⟨_, rfl, Vecs.nil _ _, hB⟩
      · cases h
    · have e0 : mvB l e f g h = ofB (movedZ l e f g h) := by simp [mvB, hf, hM]
      rw [e0]
      exact callsIn_wide.1 (fanMove_in 3 (by omega) v l e f g h w hl hg hf hM)
end Go.Proofs.YtcieihbknfeddaaDoor
