/- slices.Compact at vectors: the walk. -/
import Derived.Test.YtdlofnkimikaiaaDoorSp
namespace Go.Proofs.YtdlofnkimikaiaaDoor
open Go.RowKit

theorem cyc_snoc_low {o : List V2} {x : V2} {j : Nat} (h : j < o.length) : cyc (o ++ [x]) j = cyc o j := by
  rw [cyc_lt (by simp; omega), cyc_lt h, List.getElem?_append_left h]
theorem cyc_snoc_top {o : List V2} {x : V2} {j : Nat} (h : j = o.length) : cyc (o ++ [x]) j = x := by
  subst h
  rw [cyc_lt (by simp), List.getElem?_append_right (Nat.le_refl _)]
  simp
/-- what holds in the second loop -/
structure KeptS (l : List V2) (g m kk : Nat) (o : List V2) (p : V2) (c : Nat → V2) (W : World) : Prop where
  comp : Comp l m o p
  len : kk = o.length + 1
  row : RowC W g c l.length
  low : ∀ j, j < kk → c j = cyc (o ++ [p]) j
  high : ∀ j, m - 1 ≤ j → j < l.length → c j = cyc l j
theorem KeptS.next {l : List V2} {g m kk : Nat} {o : List V2} {p : V2} {c : Nat → V2} {W : World} (h : KeptS l g m kk o p c W) (hm : m < l.length) (e : cyc l m = cyc l (m - 1)) : KeptS l g (m + 1) kk o p c W.drew :=
  ⟨h.comp.skip hm e, h.len, h.row, h.low, fun j h1 h2 => h.high j (by omega) h2⟩
theorem KeptS.store {l : List V2} {g m kk : Nat} {o : List V2} {p : V2} {c : Nat → V2} {W : World} (h : KeptS l g m kk o p c W) (hm : m < l.length) (hk : kk ≤ m - 1) (hp : AllP l) (hs : Sorted l) (e : cyc l m ≠ cyc l (m - 1)) :
    KeptS l g (m + 1) (kk + 1) (o ++ [p]) (cyc l m) (fun j => if j = kk then cyc l m else c j) ((W.drew.setCell ⟨g, kk * 2, none⟩ (.int .i64 (cyc l m).1)).setCell ⟨g, kk * 2 + 1, none⟩ (.int .i64 (cyc l m).2)) := by
  have hl := h.len
  have hp1 := h.comp.pos
  refine ⟨h.comp.keep hm hp hs e, by simp; omega, RowC.put (W := W.drew) h.row (by omega) _, fun j hj => ?_, fun j h1 h2 => ?_⟩
  · by_cases e2 : j = kk
    · rw [if_pos e2, cyc_snoc_top (by simp; omega)]
    · rw [if_neg e2, cyc_snoc_low (by simp; omega)]
      exact h.low j (by omega)
  · have e2 : ¬ j = kk := by omega
    rw [if_neg e2]
    exact h.high j (by omega) h2
set_option maxHeartbeats 8000000 in
theorem compact_any (g cap : Nat) (l : List V2) (base : Nat) (w : World) (hR : RowC w g (cyc l) l.length) (hg : g < w.heap.size) (hb : base ≤ g) (h0 : 0 < l.length) (hm : l.length ≤ 1048576) (hc : l.length ≤ cap) (hp : AllP l) (hs : Sorted l) :
    Calls Tryd.prog 112 #[.slice (some ⟨g, 0, none⟩) l.length cap] w fun e w' => (∃ v, e = .returned v ∧ ReadsVecs w' v (sortL l)) ∧ Below base w w' := by
  have HRow := Lib.hid hR
  have HOne := Lib.hid (Comp.one h0)
  have HD := Lib.hid (fun o p m (e : m = l.length) (h : Comp l m o p) => Comp.done (l := l) (o := o) (p := p) (by rw [← e]; exact h) hp)
  have HPS := Lib.hid (And.intro hp hs)
  have HT := Lib.hid (fun k (hk : k < l.length) => take_cyc hk)
  obtain ⟨n, hn⟩ : ∃ n, n = l.length := ⟨_, rfl⟩
  have HN := Lib.hid hn
  rw [← hn] at h0 hm hc
  rw [← hn]
  have hgd := guardV
  clear hR hp hs hn
  by_cases h2 : n < 2
  · have h1 : n = 1 := by omega
    have HF : Hid (ReadsVecs w (.slice (some ⟨g, 0, none⟩) n cap) (sortL l)) := by
      have e := HD.out _ _ 1 (by have := HN.out; omega) HOne.out
      have e2 : (sortL l).length = 1 := by rw [← e]; simp
      have := RowC.reads (o := sortL l) (cap := cap) HRow.out hg (by rw [e2]; have := HN.out; omega) (by have := HN.out; omega) (by have := HN.out; omega) (fun j hj => by
        rw [e2] at hj
        obtain rfl : j = 0 := by omega
        rw [← e]
        rfl)
      rw [e2] at this
      rw [h1]
      exact this
    have i1 : (n : Int) < 2 := by omega
    clear h1
    go_enter Tryd.func112, Tryd.ntmps112
    go_wp2
    go_returns
    exact ⟨⟨_, rfl, HF.out⟩, Below.refl _ _⟩
  · have i1 : ¬ (n : Int) < 2 := by omega
    go_enter Tryd.func112, Tryd.ntmps112
    go_wp2
    go_loopw [3] (fun s3 wr => ∃ (k : Nat) (o : List V2) (p : V2), s3 = .int .i64 k ∧ 1 ≤ k ∧ k ≤ n ∧ Hid (Comp l k o p ∧ o ++ [p] = l.take k ∧ RowC wr g (cyc l) l.length) ∧ Below base w wr) (fun s3 _ => n - (intOf s3).toNat)
    case atStart => exact ⟨1, [], _, rfl, Nat.le_refl _, by omega, ⟨HOne.out, by rw [HT.out 0 (by have := HN.out; omega)]; rfl, HRow.out⟩, Below.refl _ _⟩
    case round =>
      obtain ⟨k, o, p, rfl, hk1, hk, hO, hB⟩ := hrel
      have j1 : (0 : Int) ≤ (k : Int) := by omega
      have gl := Nat.lt_of_lt_of_le hg hB.size
      by_cases hlt : k < n
      · have j2 : (k : Int) < (n : Int) := by omega
        have j3 : (0 : Int) ≤ (k : Int) - 1 := by omega
        have j4 : (k : Int) - 1 < (n : Int) := by omega
        have j5 : ((k : Int) - 1).toNat = k - 1 := by omega
        have j6 : IntKind.i64.wrap ((k : Int) - 1) = (k : Int) - 1 := by rw [IntKind.wrap_i64]; omega
        have j7 : k - 1 < n := by omega
        have j8 : (1 : Int) ≤ (k : Int) := by omega
        have hkl : k < l.length := by have := HN.out; omega
        obtain ⟨⟨c1, c2⟩, _⟩ := hO.out.2.2 k hkl
        obtain ⟨⟨p1, p2⟩, _⟩ := hO.out.2.2 (k - 1) (by omega)
        by_cases e : cyc l k = cyc l (k - 1)
        · have HC : Hid (Comp l (k + 1) o p ∧ k = o.length + 1 ∧ RowC wr g (cyc l) l.length ∧ ∀ j, j < k → cyc l j = cyc (o ++ [p]) j) := by
            obtain ⟨h1, h2', h3⟩ := hO.out
            refine ⟨h1.skip hkl e, ?_, h3, fun j hj => ?_⟩
            · have := congrArg List.length h2'
              simp at this
              omega
            · rw [h2', cyc_lt (by omega), cyc_lt (by simp; omega), List.getElem?_take, if_pos hj]
          rw [e] at c1 c2
          generalize cyc l (k - 1) = z at c1 c2 p1 p2
          clear e hO hkl
          obtain ⟨x, y⟩ := z
          dsimp only at c1 c2 p1 p2
          have qe : ∀ w', (binOp .eql 27 (.agg #[.int .i64 (x), .int .i64 (y)]) (.agg #[.int .i64 (x), .int .i64 (y)])).run Tryd.prog w' = .ok (.bool true) w' := fun w' => by rw [run_eqV]; simp
          go_wp2
          refine wp_region_any (by kernel_rfl) ?_
          try (change wpAny _ _ _ _ _ _ _ (World.drew _))
          refine wpAny_take (i := 0) (v := ?_) rfl (by kernel_rfl) (by kernel_rfl) (by kernel_rfl) (fun _ _ _ h => h) (Or.inl ⟨by rfl, ?_⟩) ?_
          rotate_left
          focus (intro w0; go_simp; try with_reducible rfl)
          refine wpAny_take (i := 1) (v := ?_) rfl (by kernel_rfl) (by kernel_rfl) (by kernel_rfl) (fun _ _ _ h => h) (Or.inl ⟨by rfl, ?_⟩) ?_
          rotate_left
          focus (intro w0; go_simp; try with_reducible rfl)
          refine wpAny_take (i := 2) (v := ?_) rfl (by kernel_rfl) (by kernel_rfl) (by kernel_rfl) (fun _ _ _ h => h) (Or.inl ⟨by rfl, ?_⟩) ?_
          rotate_left
          focus (intro w0; go_simp; try with_reducible rfl)
          refine wpAny_take (i := 4) (v := ?_) rfl (by kernel_rfl) (by kernel_rfl) (by kernel_rfl) (fun _ _ _ h => h) (Or.inl ⟨by rfl, ?_⟩) ?_
          rotate_left
          focus (intro w0; go_simp; try with_reducible rfl)
          refine wpAny_take (i := 5) (v := ?_) rfl (by kernel_rfl) (by kernel_rfl) (by kernel_rfl) (fun _ _ _ h => h) (Or.inl ⟨by rfl, ?_⟩) ?_
          rotate_left
          focus (intro w0; go_simp; try with_reducible rfl)
          refine wpAny_take (i := 6) (v := ?_) rfl (by kernel_rfl) (by kernel_rfl) (by kernel_rfl) (fun _ _ _ h => h) (Or.inl ⟨by rfl, ?_⟩) ?_
          rotate_left
          focus (intro w0; go_simp; try with_reducible rfl)
          refine wpAny_take (i := 7) (v := ?_) rfl (by kernel_rfl) (by kernel_rfl) (by kernel_rfl) (fun _ _ _ h => h) (Or.inl ⟨by rfl, ?_⟩) ?_
          rotate_left
          focus (intro w0; go_simp; try with_reducible rfl)
          refine wpAny_ready (rs := [3, 8]) (by kernel_rfl) (by simp) (AllReady.cons rfl (fun K hK => ?_) (AllReady.cons rfl (fun K hK => ?_) (AllReady.nil)))
          focus
            go_simp
            refine hK _ _ ?_
            clear hK K
            refine wpAny_ready (rs := [8]) (by kernel_rfl) (by simp) (AllReady.cons rfl (fun K hK => ?_) (AllReady.nil))
            go_simp
            refine hK _ _ ?_
            clear hK K
            refine wpAny_seq 9 rfl (by kernel_rfl) ?_
            simp only [List.drop_succ_cons, List.drop_zero]
          rotate_left 1
          focus
            go_simp
            refine hK _ _ ?_
            clear hK K
            refine wpAny_ready (rs := [3]) (by kernel_rfl) (by simp) (AllReady.cons rfl (fun K hK => ?_) (AllReady.nil))
            go_simp
            refine hK _ _ ?_
            clear hK K
            refine wpAny_seq 9 rfl (by kernel_rfl) ?_
            simp only [List.drop_succ_cons, List.drop_zero]
          all_goals go_wp2
          all_goals
            have hk2 : 1 ≤ k := hk1
            clear c1 c2 p1 p2 qe
            have HK0 : Hid (KeptS l g (k + 1) k o p (cyc l) wr.drew) := ⟨HC.out.1, HC.out.2.1, HC.out.2.2.1, HC.out.2.2.2, fun j _ _ => rfl⟩
            clear HC
            go_loopw [3, 5] (fun s3 s5 wr => ∃ (kk k2 : Nat) (o : List V2) (p : V2) (c : Nat → V2), s3 = .int .i64 kk ∧ s5 = .int .i64 k2 ∧ 1 ≤ k2 ∧ k + k2 ≤ n ∧ 1 ≤ kk ∧ kk ≤ k + k2 - 1 ∧ Hid (KeptS l g (k + k2) kk o p c wr) ∧ Below base w wr) (fun _ s5 _ => n - k - (intOf s5).toNat)
            case atStart => exact ⟨k, 1, o, p, _, rfl, rfl, Nat.le_refl _, by omega, hk1, by omega, HK0, hB.drew⟩
            case round =>
              clear HK0 hB gl
              obtain ⟨kk, k2, o, p, c, rfl, rfl, h1, hle, hkk1, hkk, hK, hB⟩ := hrel
              have gl := Nat.lt_of_lt_of_le hg hB.size
              have t1 : (0 : Int) ≤ (k2 : Int) := by omega
              have t2 : (0 : Int) ≤ (kk : Int) := by omega
              by_cases hlt2 : k + k2 < n
              · have hml : k + k2 < l.length := by have := HN.out; omega
                have t3 : (k2 : Int) < ((n - k : Nat) : Int) := by omega
                have t4 : (1 : Int) ≤ (k2 : Int) := by omega
                have t5 : (k2 : Int) - 1 < ((n - k : Nat) : Int) := by omega
                have t6 : ((k2 : Int) - 1).toNat = k2 - 1 := by omega
                have t7 : IntKind.i64.wrap ((k2 : Int) - 1) = (k2 : Int) - 1 := by rw [IntKind.wrap_i64]; omega
                have t8 : (0 : Int) ≤ (k2 : Int) - 1 := by omega
                have t9 : (kk : Int) < (n : Int) := by omega
                have t10 : k2 < n - k := by omega
                have t11 : k2 - 1 < n - k := by omega
                obtain ⟨⟨c1, c2⟩, _⟩ := hK.out.row (k + k2) hml
                obtain ⟨⟨p1, p2⟩, _⟩ := hK.out.row (k + k2 - 1) (by omega)
                obtain ⟨⟨d1, d2⟩, f1, f2⟩ := hK.out.row kk (by omega)
                rw [hK.out.high _ (by omega) hml, show (k + k2) * 2 = k * 2 + k2 * 2 by omega] at c1 c2
                rw [hK.out.high _ (Nat.le_refl _) (by omega), show (k + k2 - 1) * 2 = k * 2 + (k2 - 1) * 2 by omega] at p1 p2
                generalize (c kk).1 = old1 at d1
                generalize (c kk).2 = old2 at d2
                by_cases e : cyc l (k + k2) = cyc l (k + k2 - 1)
                · have HK2 := Lib.hid (hK.out.next hml e)
                  have hBd : Below base w wr.drew := hB.drew
                  rw [e] at c1 c2
                  generalize cyc l (k + k2 - 1) = z at c1 c2 p1 p2
                  clear e hK hml
                  obtain ⟨x, y⟩ := z
                  dsimp only at c1 c2 p1 p2
                  have qe : ∀ w', (binOp .neq 27 (.agg #[.int .i64 (x), .int .i64 (y)]) (.agg #[.int .i64 (x), .int .i64 (y)])).run Tryd.prog w' = .ok (.bool false) w' := fun w' => by rw [run_neV]; simp
                  go_wp2
                  refine wp_region_any (by kernel_rfl) ?_
                  try (change wpAny _ _ _ _ _ _ _ (World.drew _))
                  refine wpAny_take (i := 0) (v := ?_) rfl (by kernel_rfl) (by kernel_rfl) (by kernel_rfl) (fun _ _ _ h => h) (Or.inl ⟨by rfl, ?_⟩) ?_
                  rotate_left
                  focus (intro w0; go_simp; try with_reducible rfl)
                  refine wpAny_take (i := 1) (v := ?_) rfl (by kernel_rfl) (by kernel_rfl) (by kernel_rfl) (fun _ _ _ h => h) (Or.inl ⟨by rfl, ?_⟩) ?_
                  rotate_left
                  focus (intro w0; go_simp; try with_reducible rfl)
                  refine wpAny_take (i := 2) (v := ?_) rfl (by kernel_rfl) (by kernel_rfl) (by kernel_rfl) (fun _ _ _ h => h) (Or.inl ⟨by rfl, ?_⟩) ?_
                  rotate_left
                  focus (intro w0; go_simp; try with_reducible rfl)
                  refine wpAny_take (i := 4) (v := ?_) rfl (by kernel_rfl) (by kernel_rfl) (by kernel_rfl) (fun _ _ _ h => h) (Or.inl ⟨by rfl, ?_⟩) ?_
                  rotate_left
                  focus (intro w0; go_simp; try with_reducible rfl)
                  refine wpAny_take (i := 5) (v := ?_) rfl (by kernel_rfl) (by kernel_rfl) (by kernel_rfl) (fun _ _ _ h => h) (Or.inl ⟨by rfl, ?_⟩) ?_
                  rotate_left
                  focus (intro w0; go_simp; try with_reducible rfl)
                  refine wpAny_take (i := 6) (v := ?_) rfl (by kernel_rfl) (by kernel_rfl) (by kernel_rfl) (fun _ _ _ h => h) (Or.inl ⟨by rfl, ?_⟩) ?_
                  rotate_left
                  focus (intro w0; go_simp; try with_reducible rfl)
                  refine wpAny_take (i := 7) (v := ?_) rfl (by kernel_rfl) (by kernel_rfl) (by kernel_rfl) (fun _ _ _ h => h) (Or.inl ⟨by rfl, ?_⟩) ?_
                  rotate_left
                  focus (intro w0; go_simp; try with_reducible rfl)
                  refine wpAny_ready (rs := [3, 8]) (by kernel_rfl) (by simp) (AllReady.cons rfl (fun K hK => ?_) (AllReady.cons rfl (fun K hK => ?_) (AllReady.nil)))
                  focus
                    go_simp
                    refine hK _ _ ?_
                    clear hK K
                    refine wpAny_ready (rs := [8]) (by kernel_rfl) (by simp) (AllReady.cons rfl (fun K hK => ?_) (AllReady.nil))
                    go_simp
                    refine hK _ _ ?_
                    clear hK K
                    refine wpAny_seq 9 rfl (by kernel_rfl) ?_
                    simp only [List.drop_succ_cons, List.drop_zero]
                  rotate_left 1
                  focus
                    go_simp
                    refine hK _ _ ?_
                    clear hK K
                    refine wpAny_ready (rs := [3]) (by kernel_rfl) (by simp) (AllReady.cons rfl (fun K hK => ?_) (AllReady.nil))
                    go_simp
                    refine hK _ _ ?_
                    clear hK K
                    refine wpAny_seq 9 rfl (by kernel_rfl) ?_
                    simp only [List.drop_succ_cons, List.drop_zero]
                  all_goals go_wp2
                  all_goals go_roundw
                  all_goals first
                    | (case rel => exact ⟨kk, k2 + 1, o, p, c, rfl, by go_num, by omega, by omega, hkk1, by omega, HK2, hBd⟩)
                    | skip
                  all_goals (simp [intOf]; omega)
                · have HK2 := Lib.hid (hK.out.store hml hkk HPS.out.1 HPS.out.2 e)
                  have hB2 : Below base w ((wr.drew.setCell ⟨g, kk * 2, none⟩ (.int .i64 (cyc l (k + k2)).1)).setCell ⟨g, kk * 2 + 1, none⟩ (.int .i64 (cyc l (k + k2)).2)) := (hB.drew.setCell (p := ⟨g, kk * 2, none⟩) hb _).setCell (p := ⟨g, kk * 2 + 1, none⟩) hb _
                  generalize cyc l (k + k2 - 1) = z' at e p1 p2
                  generalize cyc l (k + k2) = z at e c1 c2 HK2 hB2
                  clear hK hml
                  have qe : ∀ w', (binOp .neq 27 (.agg #[.int .i64 (z.1), .int .i64 (z.2)]) (.agg #[.int .i64 (z'.1), .int .i64 (z'.2)])).run Tryd.prog w' = .ok (.bool true) w' := fun w' => by
                    rw [run_neV]
                    have : (decide (z.1 = z'.1) && decide (z.2 = z'.2)) = false := by
                      apply Bool.eq_false_iff.2
                      intro h
                      rw [Bool.and_eq_true] at h
                      exact e (Prod.ext (of_decide_eq_true h.1) (of_decide_eq_true h.2))
                    rw [this]
                    rfl
                  clear e
                  obtain ⟨x, y⟩ := z
                  obtain ⟨x', y'⟩ := z'
                  dsimp only at c1 c2 p1 p2 qe HK2 hB2
                  go_wp2
                  refine wp_region_any (by kernel_rfl) ?_
                  try (change wpAny _ _ _ _ _ _ _ (World.drew _))
                  refine wpAny_take (i := 0) (v := ?_) rfl (by kernel_rfl) (by kernel_rfl) (by kernel_rfl) (fun _ _ _ h => h) (Or.inl ⟨by rfl, ?_⟩) ?_
                  rotate_left
                  focus (intro w0; go_simp; try with_reducible rfl)
                  refine wpAny_take (i := 1) (v := ?_) rfl (by kernel_rfl) (by kernel_rfl) (by kernel_rfl) (fun _ _ _ h => h) (Or.inl ⟨by rfl, ?_⟩) ?_
                  rotate_left
                  focus (intro w0; go_simp; try with_reducible rfl)
                  refine wpAny_take (i := 2) (v := ?_) rfl (by kernel_rfl) (by kernel_rfl) (by kernel_rfl) (fun _ _ _ h => h) (Or.inl ⟨by rfl, ?_⟩) ?_
                  rotate_left
                  focus (intro w0; go_simp; try with_reducible rfl)
                  refine wpAny_take (i := 4) (v := ?_) rfl (by kernel_rfl) (by kernel_rfl) (by kernel_rfl) (fun _ _ _ h => h) (Or.inl ⟨by rfl, ?_⟩) ?_
                  rotate_left
                  focus (intro w0; go_simp; try with_reducible rfl)
                  refine wpAny_take (i := 5) (v := ?_) rfl (by kernel_rfl) (by kernel_rfl) (by kernel_rfl) (fun _ _ _ h => h) (Or.inl ⟨by rfl, ?_⟩) ?_
                  rotate_left
                  focus (intro w0; go_simp; try with_reducible rfl)
                  refine wpAny_take (i := 6) (v := ?_) rfl (by kernel_rfl) (by kernel_rfl) (by kernel_rfl) (fun _ _ _ h => h) (Or.inl ⟨by rfl, ?_⟩) ?_
                  rotate_left
                  focus (intro w0; go_simp; try with_reducible rfl)
                  refine wpAny_take (i := 7) (v := ?_) rfl (by kernel_rfl) (by kernel_rfl) (by kernel_rfl) (fun _ _ _ h => h) (Or.inl ⟨by rfl, ?_⟩) ?_
                  rotate_left
                  focus (intro w0; go_simp; try with_reducible rfl)
                  refine wpAny_ready (rs := [3, 8]) (by kernel_rfl) (by simp) (AllReady.cons rfl (fun K hK => ?_) (AllReady.cons rfl (fun K hK => ?_) (AllReady.nil)))
                  focus
                    go_simp
                    refine hK _ _ ?_
                    clear hK K
                    refine wpAny_ready (rs := [8]) (by kernel_rfl) (by simp) (AllReady.cons rfl (fun K hK => ?_) (AllReady.nil))
                    go_simp
                    refine hK _ _ ?_
                    clear hK K
                    refine wpAny_seq 9 rfl (by kernel_rfl) ?_
                    simp only [List.drop_succ_cons, List.drop_zero]
                  rotate_left 1
                  focus
                    go_simp
                    refine hK _ _ ?_
                    clear hK K
                    refine wpAny_ready (rs := [3]) (by kernel_rfl) (by simp) (AllReady.cons rfl (fun K hK => ?_) (AllReady.nil))
                    go_simp
                    refine hK _ _ ?_
                    clear hK K
                    refine wpAny_seq 9 rfl (by kernel_rfl) ?_
                    simp only [List.drop_succ_cons, List.drop_zero]
                  all_goals go_wp2
                  all_goals go_roundw
                  all_goals first
                    | (case rel => exact ⟨kk + 1, k2 + 1, _, _, _, by go_num, by go_num, by omega, by omega, by omega, by omega, HK2, hB2⟩)
                    | skip
                  all_goals (simp [intOf]; omega)
              · have hend : k + k2 = n := by omega
                have t3 : ¬ (k2 : Int) < ((n - k : Nat) : Int) := by omega
                have t9 : (kk : Int) ≤ (n : Int) := by omega
                have t10 : kk ≤ n := by omega
                have t11 : n ≤ cap := hc
                obtain ⟨zs, hzl, hcl⟩ := run_clearV wr g (kk * 2) (n - kk) (cap - kk) (by omega) (fun j hj => by
                  obtain ⟨⟨q1, q2⟩, _⟩ := hK.out.row (kk + j / 2) (by have := HN.out; omega)
                  rcases Nat.mod_two_eq_zero_or_one j with h | h
                  · rw [show kk * 2 + j = (kk + j / 2) * 2 by omega, q1]; rfl
                  · rw [show kk * 2 + j = (kk + j / 2) * 2 + 1 by omega, q2]; rfl) (fun j hj => by
                  obtain ⟨_, q1, q2⟩ := hK.out.row (kk + j / 2) (by have := HN.out; omega)
                  rcases Nat.mod_two_eq_zero_or_one j with h | h
                  · rw [show kk * 2 + j = (kk + j / 2) * 2 by omega]; exact q1
                  · rw [show kk * 2 + j = (kk + j / 2) * 2 + 1 by omega]; exact q2)
                have hB2 : Below base w (wr.setCells g (kk * 2) zs) := hB.trans (below_setCells base g hb zs _ wr)
                have HF : Hid (ReadsVecs (wr.setCells g (kk * 2) zs) (.slice (some ⟨g, 0, none⟩) kk cap) (sortL l)) := by
                  have e2 := HD.out o p (k + k2) (by have := HN.out; omega) hK.out.comp
                  have e3 : (o ++ [p]).length = kk := by rw [hK.out.len]; simp
                  have hrow : RowC (wr.setCells g (kk * 2) zs) g (cyc (o ++ [p])) kk := fun j hj => by
                    obtain ⟨⟨q1, q2⟩, q3, q4⟩ := hK.out.row j (by have := HN.out; omega)
                    rw [hK.out.low j hj] at q1 q2
                    refine ⟨⟨?_, ?_⟩, ?_, ?_⟩
                    · rw [World.cell?_setCells_out g zs _ _ _ (fun _ _ => .inl (by dsimp only; omega))]; exact q1
                    · rw [World.cell?_setCells_out g zs _ _ _ (fun _ _ => .inl (by dsimp only; omega))]; exact q2
                    · rw [World.frozen?_setCells]; exact q3
                    · rw [World.frozen?_setCells]; exact q4
                  have := RowC.reads (o := o ++ [p]) (cap := cap) hrow (Nat.lt_of_lt_of_le gl (below_setCells base g hb zs _ wr).size) (by rw [e3]; exact Nat.le_refl _) (by omega) (by omega) (fun _ _ => rfl)
                  rw [e3] at this
                  rw [← e2]
                  exact this
                clear hK hzl
                go_wp2
                go_returns
                exact ⟨⟨_, rfl, HF.out⟩, hB2⟩
        · have HC : Hid (Comp l (k + 1) (o ++ [p]) (cyc l k) ∧ (o ++ [p]) ++ [cyc l k] = l.take (k + 1) ∧ RowC wr.drew g (cyc l) l.length) := by
            obtain ⟨h1, h2', h3⟩ := hO.out
            exact ⟨h1.keep hkl HPS.out.1 HPS.out.2 e, by rw [HT.out k hkl, h2'], h3⟩
          have hBd : Below base w wr.drew := hB.drew
          generalize cyc l (k - 1) = z' at e p1 p2
          generalize cyc l k = z at e c1 c2 HC
          clear hO hkl
          have qe : ∀ w', (binOp .eql 27 (.agg #[.int .i64 (z.1), .int .i64 (z.2)]) (.agg #[.int .i64 (z'.1), .int .i64 (z'.2)])).run Tryd.prog w' = .ok (.bool false) w' := fun w' => by
            rw [run_eqV]
            have : (decide (z.1 = z'.1) && decide (z.2 = z'.2)) = false := by
              apply Bool.eq_false_iff.2
              intro h
              rw [Bool.and_eq_true] at h
              exact e (Prod.ext (of_decide_eq_true h.1) (of_decide_eq_true h.2))
            rw [this]
          clear e
          have HZ := HC
          clear HC
          obtain ⟨x', y'⟩ := z'
          generalize hx : z.1 = x at c1 qe
          generalize hy : z.2 = y at c2 qe
          clear hx hy
          dsimp only at p1 p2 qe
          go_wp2
          refine wp_region_any (by kernel_rfl) ?_
          try (change wpAny _ _ _ _ _ _ _ (World.drew _))
          refine wpAny_take (i := 0) (v := ?_) rfl (by kernel_rfl) (by kernel_rfl) (by kernel_rfl) (fun _ _ _ h => h) (Or.inl ⟨by rfl, ?_⟩) ?_
          rotate_left
          focus (intro w0; go_simp; try with_reducible rfl)
          refine wpAny_take (i := 1) (v := ?_) rfl (by kernel_rfl) (by kernel_rfl) (by kernel_rfl) (fun _ _ _ h => h) (Or.inl ⟨by rfl, ?_⟩) ?_
          rotate_left
          focus (intro w0; go_simp; try with_reducible rfl)
          refine wpAny_take (i := 2) (v := ?_) rfl (by kernel_rfl) (by kernel_rfl) (by kernel_rfl) (fun _ _ _ h => h) (Or.inl ⟨by rfl, ?_⟩) ?_
          rotate_left
          focus (intro w0; go_simp; try with_reducible rfl)
          refine wpAny_take (i := 4) (v := ?_) rfl (by kernel_rfl) (by kernel_rfl) (by kernel_rfl) (fun _ _ _ h => h) (Or.inl ⟨by rfl, ?_⟩) ?_
          rotate_left
          focus (intro w0; go_simp; try with_reducible rfl)
          refine wpAny_take (i := 5) (v := ?_) rfl (by kernel_rfl) (by kernel_rfl) (by kernel_rfl) (fun _ _ _ h => h) (Or.inl ⟨by rfl, ?_⟩) ?_
          rotate_left
          focus (intro w0; go_simp; try with_reducible rfl)
          refine wpAny_take (i := 6) (v := ?_) rfl (by kernel_rfl) (by kernel_rfl) (by kernel_rfl) (fun _ _ _ h => h) (Or.inl ⟨by rfl, ?_⟩) ?_
          rotate_left
          focus (intro w0; go_simp; try with_reducible rfl)
          refine wpAny_take (i := 7) (v := ?_) rfl (by kernel_rfl) (by kernel_rfl) (by kernel_rfl) (fun _ _ _ h => h) (Or.inl ⟨by rfl, ?_⟩) ?_
          rotate_left
          focus (intro w0; go_simp; try with_reducible rfl)
          refine wpAny_ready (rs := [3, 8]) (by kernel_rfl) (by simp) (AllReady.cons rfl (fun K hK => ?_) (AllReady.cons rfl (fun K hK => ?_) (AllReady.nil)))
          focus
            go_simp
            refine hK _ _ ?_
            clear hK K
            refine wpAny_ready (rs := [8]) (by kernel_rfl) (by simp) (AllReady.cons rfl (fun K hK => ?_) (AllReady.nil))
            go_simp
            refine hK _ _ ?_
            clear hK K
            refine wpAny_seq 9 rfl (by kernel_rfl) ?_
            simp only [List.drop_succ_cons, List.drop_zero]
          rotate_left 1
          focus
            go_simp
            refine hK _ _ ?_
            clear hK K
            refine wpAny_ready (rs := [3]) (by kernel_rfl) (by simp) (AllReady.cons rfl (fun K hK => ?_) (AllReady.nil))
            go_simp
            refine hK _ _ ?_
            clear hK K
            refine wpAny_seq 9 rfl (by kernel_rfl) ?_
            simp only [List.drop_succ_cons, List.drop_zero]
          all_goals go_wp2
          all_goals go_roundw
          all_goals first
            | (case rel => exact ⟨k + 1, _, _, by go_num, by omega, by omega, HZ, hBd⟩)
            | skip
          all_goals (simp [intOf]; omega)
      · obtain rfl : k = n := by omega
        have i2 : ¬ (k : Int) < (k : Int) := by omega
        have HF : Hid (ReadsVecs wr (.slice (some ⟨g, 0, none⟩) k cap) (sortL l)) := by
          obtain ⟨h1, h2', h3⟩ := hO.out
          have e := HD.out _ _ k HN.out h1
          have e2 : o ++ [p] = l := by rw [h2', List.take_of_length_le (by have := HN.out; omega)]
          rw [← e, e2]
          have := RowC.reads (o := l) (cap := cap) h3 gl (Nat.le_refl _) (by have := HN.out; omega) (by have := HN.out; omega) (fun _ _ => rfl)
          rwa [← HN.out] at this
        clear hO
        go_wp2
        go_returns
        exact ⟨⟨_, rfl, HF.out⟩, hB⟩
end Go.Proofs.YtdlofnkimikaiaaDoor
