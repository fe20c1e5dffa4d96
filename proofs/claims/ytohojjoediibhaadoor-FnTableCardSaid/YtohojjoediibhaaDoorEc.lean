/- Surfaces by their numbers: sums of numbers, rank, square, ample: the program. -/
import Derived.Test.YtohojjoediibhaaDoorBm
import Derived.Test.YtohojjoediibhaaDoorB9
import Derived.Test.YtohojjoediibhaaDoorBe
import Derived.Test.YtohojjoediibhaaDoorQk
import Derived.Test.YtohojjoediibhaaDoorQx
import Derived.Test.YtohojjoediibhaaDoorQf
namespace Go.Proofs.YtohojjoediibhaaDoor
open Go.RowKit Go.Shelf

attribute [local go_sem] Oper.semAt_some

set_option maxHeartbeats 4000000 in
theorem surfaceRank_any (v : Value) (l : List V2) (w : World) (hl : ReadsVecs w v l) (hg : EtOk w) :
    Calls Tryd.prog 65 #[v] w fun e w' => e = .returned (.tuple #[.int .i64 (gate (smoothB l) ((l.length : Int) - 2)), .bool (smoothB l)]) ∧ Below w.heap.size w w' := by
  have HO := Lib.hid (smoothFanOf_any v l w hl hg)
  have HL : Hid (smoothB l = true → 3 ≤ l.length ∧ l.length ≤ 20) := fun h => smooth_len h
  clear hl hg
  cases hs : smoothB l
  · rw [hs] at HO
    clear hs HL
    go_enter Tryd.func65, Tryd.ntmps65
    go_wp2_with fail
    refine Calls.mono HO.out ?_
    rintro e w1 ⟨⟨h, _⟩ | ⟨_, rfl⟩, hb1⟩
    · cases h
    go_wp2
    go_returns
    exact ⟨rfl, hb1⟩
  · rw [hs] at HO
    obtain ⟨h1, h2⟩ := HL.out hs
    clear hs HL
    rw [gate_true]
    obtain ⟨n, hnn⟩ : ∃ n, n = l.length := ⟨_, rfl⟩
    have HN := Lib.hid hnn
    rw [← hnn] at h1 h2 ⊢
    clear hnn
    have q1 : IntKind.i64.wrap ((n : Int) - 2) = (n : Int) - 2 := by rw [IntKind.wrap_i64]; omega
    go_enter Tryd.func65, Tryd.ntmps65
    go_wp2_with fail
    refine Calls.mono HO.out ?_
    rintro e w1 ⟨⟨_, g, ns, rfl, hF, hn⟩ | ⟨h, _⟩, hb1⟩
    case inr => cases h
    have hnl : ns.length = l.length := by rw [← hn, rays_len]
    have c1 := hF.head.c1
    rw [hnl, ← HN.out] at c1
    clear hF hn hnl
    go_wp2
    go_returns
    exact ⟨rfl, hb1⟩

/-! the sum of 3 and the number -/
def sum3P (l : List V2) (pre : List Nat) : Int := pre.foldl (fun s i => s + (3 + numZ l i)) 0
theorem sum3P_snoc (l : List V2) (pre : List Nat) (x : Nat) : sum3P l (pre ++ [x]) = sum3P l pre + (3 + numZ l x) := by
  unfold sum3P
  rw [List.foldl_append]
  rfl
theorem sum3P_range (l : List V2) (n : Nat) : sum3P l (List.range n) = sum3 l n := by
  induction n with
  | zero => rfl
  | succ n ih => rw [List.range_succ, sum3P_snoc, ih, sum3_succ]
theorem sum3P_fold {l : List V2} (hv : allVec l) (pre : List Nat) : ∀ s : Int, s - 2000003 * (pre.length : Int) ≤ pre.foldl (fun s i => s + (3 + numZ l i)) s ∧ pre.foldl (fun s i => s + (3 + numZ l i)) s ≤ s + 2000003 * (pre.length : Int) := by
  induction pre with
  | nil => intro s; simp
  | cons x pre ih =>
    intro s
    have h := ih (s + (3 + numZ l x))
    have b := num_bdE hv x
    simp only [List.foldl_cons, List.length_cons, Int.natCast_add, Int.natCast_one]
    omega
theorem sum3P_bd {l : List V2} (hv : allVec l) (pre : List Nat) (h : pre.length ≤ 1000) : -2000003000 ≤ sum3P l pre ∧ sum3P l pre ≤ 2000003000 := by
  have := sum3P_fold hv pre 0
  unfold sum3P
  omega
def Sum3I (w0 : World) (l : List V2) (pre : List Nat) (W : World) : Prop := Boxed W w0.heap.size 3 (.int .i64 (sum3P l pre)) ∧ Below w0.heap.size w0 W
theorem sum3I_own (w0 : World) (l : List V2) {k : Nat} (h : w0.heap.size ≤ k) : OwnFrom k (Sum3I w0 l) :=
  OwnFrom.and (Own.from (boxed_own _ _ (fun pre : List Nat => .int .i64 (sum3P l pre))) _) (ownFrom_below (Nat.le_refl _) h)
set_option maxHeartbeats 8000000 in
theorem numbersSum_in (n : Nat) (hn : 3 ≤ n) (v : Value) (l : List V2) (w : World) (hl : ReadsVecs w v l) (hg : EtOk w) (hs : smoothB l = true) :
    CallsIn Fence.wide n Tryd.prog 58 #[v] w fun e w' => e = .returned (.tuple #[.int .i64 (sum3 l l.length), .bool true]) ∧ Below w.heap.size w w' := by
  have h1 : 1 ≤ n := by omega
  have hd : 1 ≤ n - 1 - 1 := by omega
  have HO := Lib.hid (smoothFanOf_any v l w hl hg)
  have HV := Lib.hid (smooth_all hs).1
  have HS := Lib.hid (fun (ns : List Node) hn => fan_small (l := l) (ns := ns) (smooth_in hs).1 hn)
  rw [hs] at HO
  clear hl hg hs
  refine callsIn_of_wp_marks Tryd.func58 rfl trivial ?_ rfl
  simp only [Tryd.ntmps58, List.size_toArray, List.length_cons, List.length_nil, Nat.reduceAdd, Nat.reduceSub, Array.replicate_succ, Array.replicate_zero, List.push_toArray, List.append_toArray, List.nil_append, List.cons_append]
  gi_wp2_with fail
  refine ⟨trivial, ?_⟩
  refine CallsIn.mono (callsIn_wide.2 HO.out) ?_
  rintro e1 w1 ⟨⟨_, gb, ns, rfl, hF, hnl⟩ | ⟨h, _⟩, hb1⟩
  case inr => cases h
  obtain ⟨hs, hlen⟩ := HS.out ns hnl
  have HF := Lib.hid hF
  have HN := Lib.hid hnl
  have HB1 := Lib.hid hb1
  have hw1 := hb1.size
  clear hb1 hF hnl HO HS
  gi_wp2_with fail
  refine ⟨trivial, ?_⟩
  refine CallsIn.mono (links_in _ gb _) ?_
  rintro e w4 ⟨rfl, rfl⟩
  have hA : Below w1.heap.size w1 ((w1.alloc (.cells #[.int .i64 0] 3)).alloc (.cells #[.pointer (some ⟨gb, 0, none⟩)] 65)) := by go_grown
  have bB := (Boxed.new w1 3 (.int .i64 0)).alloc (.cells #[.pointer (some ⟨gb, 0, none⟩)] 65)
  have bF := Boxed.new (w1.alloc (.cells #[.int .i64 0] 3)) 65 (.pointer (some ⟨gb, 0, none⟩))
  have hz5 : ((w1.alloc (.cells #[.int .i64 0] 3)).alloc (.cells #[.pointer (some ⟨gb, 0, none⟩)] 65)).heap.size = w1.heap.size + 1 + 1 := by simp
  simp only [World.size_alloc] at bF
  have hF3 := HF.out
  have hR := hF3.ring
  have hp := hR.pos
  have hF5 := hF3.below hA
  gi_wp2_with fail
  generalize ((w1.alloc (.cells #[.int .i64 0] 3)).alloc (.cells #[.pointer (some ⟨gb, 0, none⟩)] 65)) = W5 at *
  have hlow : ∀ p ∈ ns, p.1 < w1.heap.size := fun p hp => hR.mem_lt hp
  clear HF hF3
  refine wpIn_links (by omega) rfl bF.cell hA.size hF5 hlow hs rfl (Sum3I w1 l) (fun _ _ _ => False) (sum3I_own w1 _ (by omega))
    (fun _ _ _ _ _ h _ _ => h) ⟨bB, hA⟩ ?a₁ ?assign ?body ?done ?stop
  case assign =>
    intro l' x W K hK
    gi_wp2
    exact hK
  case body =>
    rintro l' pre x W ⟨hv', hb⟩ hlen'
    have hRW : Ring W.drew ns := ⟨hR.pos, hR.two, fun i => ((hR.below hb).link i)⟩
    have HNu := Lib.hid (number_any ns x W.drew hRW (by rw [HN.out]; exact HV.out))
    rw [HN.out] at HNu
    have kb := hv'.cell
    have kf := hv'.frozen
    have kl := hv'.lt
    have hsz := hb.size
    have HX := Lib.hid (sum3P_snoc l pre x)
    have b1 := sum3P_bd HV.out pre (by omega)
    have b2 := num_bdE HV.out x
    generalize numZ l x = z at *
    generalize sum3P l pre = s at *
    have q1 : IntKind.i64.wrap (3 + z) = 3 + z := by rw [IntKind.wrap_i64]; omega
    have q2 : IntKind.i64.wrap (s + (3 + z)) = s + (3 + z) := by rw [IntKind.wrap_i64]; omega
    gi_wp2
    refine region_round (by kernel_rfl) (noDefer_of (by kernel_rfl)) (by rintro ⟨_, _, h⟩; exact False.elim h) ?_
    refine wpAny_take (i := 1) (v := ?_) rfl (by kernel_rfl) (by kernel_rfl) (by kernel_rfl) (fun _ _ _ h => h) (Or.inl ⟨by rfl, ?_⟩) ?_
    rotate_left
    focus (intro w0; go_simp; try with_reducible rfl)
    refine wpAny_ready (rs := [0, 2]) (by kernel_rfl) (by simp) (AllReady.cons rfl (fun K hK => ?_) (AllReady.cons rfl (fun K hK => ?_) (AllReady.nil)))
    focus
      go_simp
      refine hK _ _ ?_
      clear hK K
      refine wpAny_ready (rs := [2]) (by kernel_rfl) (by simp) (AllReady.cons rfl (fun K hK => ?_) (AllReady.nil))
      go_simp
      (refine Calls.mono HNu.out ?_; rintro e w1' ⟨rfl, hb1⟩; replace hb1 := undrew hb1; have b0 := (hb1.cell (p := ⟨w1.heap.size, 0, none⟩) kl).trans kb; have b0f := (hb1.frozen (p := ⟨w1.heap.size, 0, none⟩) kl).trans kf; have bl := Nat.lt_of_lt_of_le kl hb1.size)
      refine hK _ _ ?_
      clear hK K
      refine wpAny_take (i := 3) (v := ?_) rfl (by kernel_rfl) (by kernel_rfl) (by kernel_rfl) (fun _ _ _ h => h) (Or.inl ⟨by rfl, ?_⟩) ?_
      rotate_left
      focus (intro w0; go_simp; try with_reducible rfl)
      refine wpAny_take (i := 4) (v := ?_) rfl (by kernel_rfl) (by kernel_rfl) (by kernel_rfl) (fun _ _ _ h => h) (Or.inl ⟨by rfl, ?_⟩) ?_
      rotate_left
      focus (intro w0; go_simp; try with_reducible rfl)
      refine wpAny_seq 5 rfl (by kernel_rfl) ?_
      simp only [List.drop_succ_cons, List.drop_zero]
    rotate_left 1
    focus
      go_simp
      (refine Calls.mono HNu.out ?_; rintro e w1' ⟨rfl, hb1⟩; replace hb1 := undrew hb1; have b0 := (hb1.cell (p := ⟨w1.heap.size, 0, none⟩) kl).trans kb; have b0f := (hb1.frozen (p := ⟨w1.heap.size, 0, none⟩) kl).trans kf; have bl := Nat.lt_of_lt_of_le kl hb1.size)
      refine hK _ _ ?_
      clear hK K
      refine wpAny_take (i := 3) (v := ?_) rfl (by kernel_rfl) (by kernel_rfl) (by kernel_rfl) (fun _ _ _ h => h) (Or.inl ⟨by rfl, ?_⟩) ?_
      rotate_left
      focus (intro w0; go_simp; try with_reducible rfl)
      refine wpAny_ready (rs := [0]) (by kernel_rfl) (by simp) (AllReady.cons rfl (fun K hK => ?_) (AllReady.nil))
      go_simp
      refine hK _ _ ?_
      clear hK K
      refine wpAny_take (i := 4) (v := ?_) rfl (by kernel_rfl) (by kernel_rfl) (by kernel_rfl) (fun _ _ _ h => h) (Or.inl ⟨by rfl, ?_⟩) ?_
      rotate_left
      focus (intro w0; go_simp; try with_reducible rfl)
      refine wpAny_seq 5 rfl (by kernel_rfl) ?_
      simp only [List.drop_succ_cons, List.drop_zero]
    all_goals
      have hv1 : Boxed w1' w1.heap.size 3 (.int .i64 s) := (hb1.block _ kl).trans hv'
      have KO := Lib.hid (KeepsOthers.of_grownBy (grown_of_below hb1 none) (fun _ _ e _ => by cases e))
      have hv2 := Lib.hid (hv1.set (.int .i64 (s + (3 + z))))
      have hW2 := hb.trans (hb1.mono hsz)
      have hbW := hb1.mono (B' := w1.heap.size) hsz
      rw [← HX.out] at hv2
      clear hv1 hb1
      go_wp2
      rw [HX.out] at hv2
      exact ⟨KO.out.trans (KeepsOthers.setCell _ _ _), hbW.setCell (p := ⟨w1.heap.size, 0, none⟩) (Nat.le_refl _) _, by rw [HX.out]; exact hv2.out, hW2.setCell (p := ⟨w1.heap.size, 0, none⟩) (Nat.le_refl _) _⟩
  case done =>
    rintro D W hD ⟨hv', hb⟩ hK
    have k4 := hv'.cell
    rw [hlen, sum3P_range] at k4
    have hB4 : Below w.heap.size w W := HB1.out.trans (hb.mono hw1)
    have hB6 : Below w.heap.size w (W.putObj D (.deferred none)) := hB4.grown (grownBy_putObj' W D (.deferred none)) hB4.size (fun k e => by cases e; omega)
    gi_wp2
    refine ⟨by simp, .inl ⟨_, _, rfl, run_takeDeferred hK, ?_⟩⟩
    refine ⟨.tuple #[.int .i64 (sum3 l l.length), .bool true], ?_, rfl, hB6⟩
    simp [results, Tryd.f58, go_sem]
  case stop =>
    rintro D c pre W _ _ h _
    exact h.elim
set_option maxHeartbeats 4000000 in
theorem numbersSum_any (v : Value) (l : List V2) (w : World) (hl : ReadsVecs w v l) (hg : EtOk w) :
    Calls Tryd.prog 58 #[v] w fun e w' => e = .returned (.tuple #[.int .i64 (gate (smoothB l) (sum3 l l.length)), .bool (smoothB l)]) ∧ Below w.heap.size w w' := by
  have HO := Lib.hid (smoothFanOf_any v l w hl hg)
  cases hs : smoothB l
  · rw [hs] at HO
    clear hs hl hg
    go_enter Tryd.func58, Tryd.ntmps58
    go_wp2_with fail
    refine Calls.mono HO.out ?_
    rintro e w1 ⟨⟨h, _⟩ | ⟨_, rfl⟩, hb1⟩
    · cases h
    go_wp2
    go_returns
    exact ⟨rfl, hb1⟩
  · rw [gate_true]
    exact callsIn_wide.1 (numbersSum_in 3 (by omega) v l w hl hg hs)

/-! the square of the canonical divisor -/
theorem can_len (n : Nat) : (canL n).length = n := by simp [canL]
set_option maxHeartbeats 16000000 in
theorem surfaceSquare_any (v : Value) (l : List V2) (w : World) (hl : ReadsVecs w v l) (hg : EtOk w) :
    Calls Tryd.prog 67 #[v] w fun e w' => e = .returned (.tuple #[.int .i64 (gate (smoothB l) (prodZ l (canL l.length) (canL l.length))), .bool (smoothB l)]) ∧ Below w.heap.size w w' := by
  have HO := Lib.hid (smoothFanOf_any v l w hl hg)
  have HL : Hid (smoothB l = true → 3 ≤ l.length ∧ l.length ≤ 20) := fun h => smooth_len h
  have HSm := Lib.hid (fun h => smooth_all (l := l) h)
  clear hl hg
  cases hs : smoothB l
  · rw [hs] at HO
    clear hs HL HSm
    go_enter Tryd.func67, Tryd.ntmps67
    go_wp2_with fail
    refine Calls.mono HO.out ?_
    rintro e w1 ⟨⟨h, _⟩ | ⟨_, rfl⟩, hb1⟩
    · cases h
    go_wp2
    go_returns
    exact ⟨rfl, hb1⟩
  · rw [hs] at HO
    obtain ⟨h1, h2⟩ := HL.out hs
    have HS := Lib.hid (HSm.out hs)
    clear hs HL HSm
    rw [gate_true]
    go_enter Tryd.func67, Tryd.ntmps67
    go_wp2_with fail
    refine Calls.mono HO.out ?_
    rintro e w1 ⟨⟨_, g, ns, rfl, hF, hn⟩ | ⟨h, _⟩, hb1⟩
    case inr => cases h
    have hnl : ns.length = l.length := by rw [← hn, rays_len]
    have c1 := hF.head.c1
    rw [hnl] at c1
    have HC := Lib.hid (fun w' (hb : Below w1.heap.size w1 w') => canonical_any g l.length w' ((hb.cell (p := ⟨g, 1, none⟩) hF.head.lt).trans c1) (by omega) (by omega))
    have HD := Lib.hid (fun u w' (hb : Below w1.heap.size w1 w') (hu : ReadsInts w' u (canL l.length)) => by
      have := degree_any w.heap.size g ns u (canL l.length) w' (hF.below hb) (by omega) (by rw [hn]; exact HS.out.1) hu
      rw [hn] at this
      exact this)
    have HP := Lib.hid (fun B1 B2 gp u w' (hu : ReadsInts w' u (canL l.length)) (hX : DegBox w' B1 B2 l (canL l.length)) => by
      have := product_degree B1 B2 gp u (canL l.length) (degZ l (canL l.length)) w' hu (by rw [can_len]; omega) (bnd_mono (can_bnd _) (by omega)) (fun i => by have := deg_bnd HS.out (bnd_mono (can_bnd l.length) (by omega)) i; omega)
        (fun i hi w2 hb2 => degree1_any B1 B2 l (canL l.length) i w2 (hX.below hb2) (by rw [can_len] at hi; exact hi) (can_len _) HS.out (bnd_mono (can_bnd _) (by omega)) (by omega))
      rw [can_len] at this
      exact this)
    have HK : Hid ((canL l.length).length ≤ 1152921504606846976) := by show _ ≤ _; rw [can_len]; omega
    have hs1 := hb1.size
    clear hF hn hnl c1 HS
    go_wp2_with fail
    refine Calls.mono (HC.out _ (by go_grown)) ?_
    rintro e w2 ⟨v2, rfl, hI, hb2⟩
    have hB2 : Below w1.heap.size w1 w2 := belowTo (by go_grown) hb2
    have hR := hI.reads HK.out
    obtain ⟨a, c, hv, _⟩ := hR.len
    subst hv
    have HR := Lib.hid hR
    have HLn := Lib.hid (can_len l.length)
    rw [HLn.out]
    clear hI hb2 HC hR
    go_wp2
    have hA : Below w2.heap.size w2 (w2.alloc (.cells #[.pointer (some ⟨g, 0, none⟩), .slice a l.length c] 67)) := by go_grown
    have x0 : (w2.alloc (.cells #[.pointer (some ⟨g, 0, none⟩), .slice a l.length c] 67)).cell? ⟨w2.heap.size, 0, none⟩ = some (.pointer (some ⟨g, 0, none⟩)) := by first | (go_cell; done) | (go_simp; done) | (simp; done)
    have x1 : (w2.alloc (.cells #[.pointer (some ⟨g, 0, none⟩), .slice a l.length c] 67)).cell? ⟨w2.heap.size, 1, none⟩ = some (.slice a l.length c) := by first | (go_cell; done) | (go_simp; done) | (simp; done)
    rw [HLn.out] at HR
    generalize w2.alloc (.cells #[.pointer (some ⟨g, 0, none⟩), .slice a l.length c] 67) = W2 at *
    have HR2 := Lib.hid (fun w' (h : Below W2.heap.size W2 w') => HR.out.below (belowTo hA h))
    have hB3 := belowTo hB2 hA
    have hBw := belowTo hb1 hB3
    have HD2 := Lib.hid (fun w' (h : Below W2.heap.size W2 w') => HD.out _ w' (belowTo hB3 h) (HR2.out w' h))
    have HP2 := Lib.hid (fun B1 B2 gp w' (h : Below W2.heap.size W2 w') hX => HP.out B1 B2 gp _ w' (HR2.out w' h) hX)
    have s0 := cell_lt x0
    have hbw : Below W2.heap.size W2 W2 := Below.refl _ _
    clear HR HD HP HR2 hB2 hA
    refine wp_region_any (by kernel_rfl) ?_
    try (change wpAny _ _ _ _ _ _ _ (World.drew _))
    refine wpAny_ready (rs := [0, 1]) (by kernel_rfl) (by simp) (AllReady.cons rfl (fun K hK => ?_) (AllReady.cons rfl (fun K hK => ?_) (AllReady.nil)))
    focus
      go_simp
      refine hK _ _ ?_
      clear hK K
      refine wpAny_ready (rs := [1]) (by kernel_rfl) (by simp) (AllReady.cons rfl (fun K hK => ?_) (AllReady.nil))
      go_simp
      refine hK _ _ ?_
      clear hK K
      refine wpAny_ready (rs := [2]) (by kernel_rfl) (by simp) (AllReady.cons rfl (fun K hK => ?_) (AllReady.nil))
      go_simp
      (refine Calls.mono (HD2.out _ (by go_grown)) ?_; rintro e w3 ⟨B1, B2, rfl, hX, hbX⟩; replace hbX := undrew hbX; replace x0 := (hbX.cell (p := ⟨w2.heap.size, 0, none⟩) s0).trans x0; replace x1 := (hbX.cell (p := ⟨w2.heap.size, 1, none⟩) s0).trans x1; replace hbw := belowTo hbw hbX; clear hbX)
      refine hK _ _ ?_
      clear hK K
      refine wpAny_ready (rs := [3]) (by kernel_rfl) (by simp) (AllReady.cons rfl (fun K hK => ?_) (AllReady.nil))
      go_simp
      (refine Calls.mono (HP2.out _ _ _ _ hbw hX) ?_; rintro e w4 ⟨rfl, hb4⟩; replace hbw := belowTo hbw hb4; clear hb4)
      refine hK _ _ ?_
      clear hK K
      refine wpAny_seq 4 rfl (by kernel_rfl) ?_
      simp only [List.drop_succ_cons, List.drop_zero]
    rotate_left 1
    focus
      go_simp
      refine hK _ _ ?_
      clear hK K
      refine wpAny_ready (rs := [0, 2]) (by kernel_rfl) (by simp) (AllReady.cons rfl (fun K hK => ?_) (AllReady.cons rfl (fun K hK => ?_) (AllReady.nil)))
      focus
        go_simp
        refine hK _ _ ?_
        clear hK K
        refine wpAny_ready (rs := [2]) (by kernel_rfl) (by simp) (AllReady.cons rfl (fun K hK => ?_) (AllReady.nil))
        go_simp
        (refine Calls.mono (HD2.out _ (by go_grown)) ?_; rintro e w3 ⟨B1, B2, rfl, hX, hbX⟩; replace hbX := undrew hbX; replace x0 := (hbX.cell (p := ⟨w2.heap.size, 0, none⟩) s0).trans x0; replace x1 := (hbX.cell (p := ⟨w2.heap.size, 1, none⟩) s0).trans x1; replace hbw := belowTo hbw hbX; clear hbX)
        refine hK _ _ ?_
        clear hK K
        refine wpAny_ready (rs := [3]) (by kernel_rfl) (by simp) (AllReady.cons rfl (fun K hK => ?_) (AllReady.nil))
        go_simp
        (refine Calls.mono (HP2.out _ _ _ _ hbw hX) ?_; rintro e w4 ⟨rfl, hb4⟩; replace hbw := belowTo hbw hb4; clear hb4)
        refine hK _ _ ?_
        clear hK K
        refine wpAny_seq 4 rfl (by kernel_rfl) ?_
        simp only [List.drop_succ_cons, List.drop_zero]
      rotate_left 1
      focus
        go_simp
        (refine Calls.mono (HD2.out _ (by go_grown)) ?_; rintro e w3 ⟨B1, B2, rfl, hX, hbX⟩; replace hbX := undrew hbX; replace x0 := (hbX.cell (p := ⟨w2.heap.size, 0, none⟩) s0).trans x0; replace x1 := (hbX.cell (p := ⟨w2.heap.size, 1, none⟩) s0).trans x1; replace hbw := belowTo hbw hbX; clear hbX)
        refine hK _ _ ?_
        clear hK K
        refine wpAny_ready (rs := [0]) (by kernel_rfl) (by simp) (AllReady.cons rfl (fun K hK => ?_) (AllReady.nil))
        go_simp
        refine hK _ _ ?_
        clear hK K
        refine wpAny_ready (rs := [3]) (by kernel_rfl) (by simp) (AllReady.cons rfl (fun K hK => ?_) (AllReady.nil))
        go_simp
        (refine Calls.mono (HP2.out _ _ _ _ hbw hX) ?_; rintro e w4 ⟨rfl, hb4⟩; replace hbw := belowTo hbw hb4; clear hb4)
        refine hK _ _ ?_
        clear hK K
        refine wpAny_seq 4 rfl (by kernel_rfl) ?_
        simp only [List.drop_succ_cons, List.drop_zero]
    all_goals
      have hB5 := belowTo hBw hbw
      clear x0 x1
      go_wp2
      go_returns
      exact ⟨rfl, hB5⟩

/-! ample -/
theorem ones_bnd (n : Nat) : bnd 101 (timesL (canL n) (-1)) := by
  rw [can_times]
  intro j
  by_cases hj : j < n
  · rw [ones_gz hj]; omega
  · rw [gz_out (by simp; omega)]; omega
set_option maxHeartbeats 16000000 in
theorem surfaceAmple_any (v : Value) (l : List V2) (w : World) (hl : ReadsVecs w v l) (hg : EtOk w) :
    Calls Tryd.prog 75 #[v] w fun e w' => e = .returned (.bool (amp8 l)) ∧ Below w.heap.size w w' := by
  have HO := Lib.hid (smoothFanOf_any v l w hl hg)
  have HL : Hid (smoothB l = true → 3 ≤ l.length ∧ l.length ≤ 20) := fun h => smooth_len h
  have HSm := Lib.hid (fun h => smooth_all (l := l) h)
  unfold amp8
  rw [← amp_degs]
  clear hl hg
  cases hs : smoothB l
  · rw [hs] at HO
    clear hs HL HSm
    rw [Bool.false_and]
    go_enter Tryd.func75, Tryd.ntmps75
    go_wp2_with fail
    refine Calls.mono HO.out ?_
    rintro e w1 ⟨⟨h, _⟩ | ⟨_, rfl⟩, hb1⟩
    · cases h
    go_wp2
    go_returns
    exact ⟨rfl, hb1⟩
  · rw [hs] at HO
    obtain ⟨h1, h2⟩ := HL.out hs
    have HS := Lib.hid (HSm.out hs)
    clear hs HL HSm
    rw [Bool.true_and]
    obtain ⟨K, hK⟩ : ∃ K, K = ampL (degsZ l (timesL (canL l.length) (-1))) := ⟨_, rfl⟩
    have HKK := Lib.hid hK
    rw [← hK]
    clear hK
    go_enter Tryd.func75, Tryd.ntmps75
    go_wp2_with fail
    refine Calls.mono HO.out ?_
    rintro e w1 ⟨⟨_, g, ns, rfl, hF, hn⟩ | ⟨h, _⟩, hb1⟩
    case inr => cases h
    have hnl : ns.length = l.length := by rw [← hn, rays_len]
    have c1 := hF.head.c1
    rw [hnl] at c1
    have HC := Lib.hid (fun w' (hb : Below w1.heap.size w1 w') => canonical_any g l.length w' ((hb.cell (p := ⟨g, 1, none⟩) hF.head.lt).trans c1) (by omega) (by omega))
    have HT := Lib.hid (fun u w' (hu : ReadsInts w' u (canL l.length)) => divTimes_any g u (canL l.length) (-1) w' hu (by rw [can_len]; omega) (bnd_mono (can_bnd _) (by omega)) (by omega))
    have HM := Lib.hid (fun u w' (hb : Below w1.heap.size w1 w') (hu : ReadsInts w' u (timesL (canL l.length) (-1))) => by
      have := isAmple_any w.heap.size g ns u (timesL (canL l.length) (-1)) w' (hF.below hb) (by omega) (by rw [hn]; exact HS.out) hu (by rw [timesL_len, can_len, hnl]) (ones_bnd _)
      rw [hn, ← HKK.out] at this
      exact this)
    have HK : Hid ((canL l.length).length ≤ 1152921504606846976) := by show _ ≤ _; rw [can_len]; omega
    have HK2 : Hid ((timesL (canL l.length) (-1)).length ≤ 1152921504606846976) := by show _ ≤ _; rw [timesL_len, can_len]; omega
    clear hF hn hnl c1 HS
    go_wp2_with fail
    refine Calls.mono (HC.out _ (Below.refl _ _)) ?_
    rintro e w2 ⟨v2, rfl, hI, hb2⟩
    have HR := Lib.hid (hI.reads HK.out)
    have hlt := hb2.size
    clear hI
    go_wp2_with fail
    refine Calls.mono (HT.out _ _ HR.out) ?_
    rintro e w3 ⟨v3, rfl, hI3, hb3⟩
    have HR3 := Lib.hid (hI3.reads HK2.out)
    have hb' := belowTo hb2 hb3
    clear hI3 HR hb2 hb3
    go_wp2_with fail
    refine Calls.mono (HM.out _ _ hb' HR3.out) ?_
    rintro e w4 ⟨rfl, hb4⟩
    have hB := belowTo hb1 (belowTo hb' hb4)
    clear hb4 hb'
    go_wp2
    go_returns
    exact ⟨rfl, hB⟩
end Go.Proofs.YtohojjoediibhaaDoor
