/- Divisors: the model's side: products; the divisor of a vector; the canonical one. -/
import Derived.Test.YtmencjdlfeojkaaDoorQn
import Derived.Test.YtmencjdlfeojkaaDoorB2
namespace Go.Proofs.YtmencjdlfeojkaaDoor
open Go.RowKit

theorem gz_degs {l : List V2} {d : List Int} {k : Nat} (h : k < l.length) : gz (degsZ l d) k = degZ l d k := gz_tab _ h
/-! products with vectors that may be great -/
set_option maxHeartbeats 1000000 in
theorem l1ProductBig_any (x1 y1 x2 y2 : Int) (w : World) (h1 : vecB x1 y1 = true) (h2 : (-400000 ≤ x2 ∧ x2 ≤ 400000) ∧ -400000 ≤ y2 ∧ y2 ≤ 400000) :
    Calls Tryd.prog 56 #[.agg #[.int .i64 (x1), .int .i64 (y1)], .agg #[.int .i64 (x2), .int .i64 (y2)]] w fun e w' => e = .returned (.int .i64 (dotZ x1 y1 x2 y2)) ∧ Below w.heap.size w w' := by
  have h3 := dot_big h2 h1
  rw [Int.mul_comm x2, Int.mul_comm y2] at h3
  obtain ⟨⟨_, _⟩, _, _⟩ := h3
  clear h1 h2
  go_enter Tryd.func56, Tryd.ntmps56
  go_wp2
  go_returns
  exact ⟨rfl, by go_grown⟩
theorem triv_snoc (l : List V2) (m : V2) (k : Nat) : (List.range (k + 1)).map (fun i => dotZ m.1 m.2 (cyc l i).1 (cyc l i).2) = (List.range k).map (fun i => dotZ m.1 m.2 (cyc l i).1 (cyc l i).2) ++ [dotZ m.1 m.2 (cyc l k).1 (cyc l k).2] := tab_snoc _ _
set_option maxHeartbeats 16000000 in
theorem l4Of_any (v : Value) (l : List V2) (x y : Int) (w : World) (hv : ReadsVecs w v l) (h0 : 0 < l.length) (hm : l.length ≤ 1000) (ha : allVec l) (hb : (-400000 ≤ x ∧ x ≤ 400000) ∧ -400000 ≤ y ∧ y ≤ 400000) :
    Calls Tryd.prog 64 #[v, .agg #[.int .i64 (x), .int .i64 (y)]] w (GivesInts w (trivL l (x, y))) := by
  obtain ⟨i0, hi, hz0, hz1, hz2⟩ := info_parts infoInt
  obtain ⟨bb, off, c, rfl, hc, _, hbb, hcs⟩ := hv.open h0
  have HC := Lib.hid hcs
  have HMs := Lib.hid (fun k => triv_snoc l (x, y) k)
  have HPr := Lib.hid (fun k w' => l1ProductBig_any (cyc l k).1 (cyc l k).2 x y w' (ha k) hb)
  have HZ : Hid (trivL l (x, y) = (List.range l.length).map (fun i => dotZ (x, y).1 (x, y).2 (cyc l i).1 (cyc l i).2)) := rfl
  have HFl := Lib.hid (fun k => dot_flip (cyc l k).1 (cyc l k).2 x y)
  have hE := Lib.hid (Ints.empty (w.alloc (.cells #[.int .i64 x, .int .i64 y] 36)))
  have hA : Below w.heap.size w (w.alloc (.cells #[.int .i64 x, .int .i64 y] 36)) := by go_grown
  have x0 : (w.alloc (.cells #[.int .i64 x, .int .i64 y] 36)).cell? ⟨w.heap.size, 0, none⟩ = some (.int .i64 x) := by simp
  have x1 : (w.alloc (.cells #[.int .i64 x, .int .i64 y] 36)).cell? ⟨w.heap.size, 1, none⟩ = some (.int .i64 y) := by simp
  have hz : (w.alloc (.cells #[.int .i64 x, .int .i64 y] 36)).heap.size = w.heap.size + 1 := by simp
  have HX0 := Lib.hid x0
  have HX1 := Lib.hid x1
  have HZz := Lib.hid hz
  obtain ⟨n, hn⟩ : ∃ n, n = l.length := ⟨_, rfl⟩
  have HN := Lib.hid hn
  rw [← hn] at HZ HC hm hc h0 ⊢
  clear hn hv hcs ha hb x0 x1 hz
  go_enter Tryd.func64, Tryd.ntmps64
  go_wp2
  generalize (w.alloc (.cells #[.int .i64 x, .int .i64 y] 36)) = W0 at *
  go_loopw [5, 6] (fun s5 s6 wr => ∃ k : Nat, k ≤ n ∧ s6 = .int .i64 k ∧ Hid (Ints wr W0.heap.size s5 ((List.range k).map (fun i => dotZ (x, y).1 (x, y).2 (cyc l i).1 (cyc l i).2))) ∧ Below W0.heap.size W0 wr) (fun _ s6 _ => n - (intOf s6).toNat)
  case atStart => exact ⟨0, Nat.zero_le _, rfl, by first | exact hE | (have h := HZz.out; rw [h] at hE ⊢; exact hE), by go_grown⟩
  case round =>
    obtain ⟨k, hk, rfl, HI, hB⟩ := hrel
    have i1 : (0 : Int) ≤ (k : Int) := by omega
    by_cases hlt : k < n
    · have i2 : (k : Int) < (n : Int) := by omega
      have hBw := hA.trans (hB.mono hA.size)
      obtain ⟨c0, c1⟩ := HC.out wr hBw k hlt
      have y0 := (hB.cell (p := ⟨w.heap.size, 0, none⟩) (show w.heap.size < _ by have := HZz.out; omega)).trans HX0.out
      have y1 := (hB.cell (p := ⟨w.heap.size, 1, none⟩) (show w.heap.size < _ by have := HZz.out; omega)).trans HX1.out
      have l0 : w.heap.size < wr.heap.size := cell_lt y0
      have l1 := cell_lt c0
      have HP := Lib.hid (HPr.out k)
      have HF := Lib.hid (HFl.out k)
      have HMk := Lib.hid (HMs.out k)
      have hkl : ((List.range k).map (fun i => dotZ (x, y).1 (x, y).2 (cyc l i).1 (cyc l i).2)).length = k := by simp
      have hown := HI.out
      unfold Ints at hown
      rw [hkl] at hown
      have HL2 := Lib.hid hkl
      have hbs := hB.size
      have HHown := Lib.hid hown
      clear hkl HI HC HPr HFl HMs hBw hown
      rw [HF.out] at HP
      have e1 : dotZ (x, y).1 (x, y).2 (cyc l k).1 (cyc l k).2 = dotZ x y (cyc l k).1 (cyc l k).2 := rfl
      rw [e1] at HMk
      clear e1 HF
      generalize dotZ x y (cyc l k).1 (cyc l k).2 = z at HP HMk
      generalize (cyc l k) = p at c0 c1 HP
      obtain ⟨px, py⟩ := p
      dsimp only at c0 c1 HP
      go_wp2
      refine wp_region_any (by kernel_rfl) ?_
      try (change wpAny _ _ _ _ _ _ _ (World.drew _))
      refine wpAny_take (i := 0) (v := ?_) rfl (by kernel_rfl) (by kernel_rfl) (by kernel_rfl) (fun _ _ _ h => h) (Or.inl ⟨by rfl, ?_⟩) ?_
      rotate_left
      focus (intro w0; go_simp; try with_reducible rfl)
      refine wpAny_take (i := 1) (v := ?_) rfl (by kernel_rfl) (by kernel_rfl) (by kernel_rfl) (fun _ _ _ h => h) (Or.inl ⟨by rfl, ?_⟩) ?_
      rotate_left
      focus (intro w0; go_simp; try with_reducible rfl)
      refine wpAny_take (i := 2) (v := ?_) rfl (by kernel_rfl) (by kernel_rfl) (by kernel_rfl) (fun _ _ _ h => h) (Or.inl ⟨by rfl, ?_⟩) ?_
      rotate_left
      focus (intro w0; go_simp; try with_reducible rfl)
      refine wpAny_take (i := 3) (v := ?_) rfl (by kernel_rfl) (by kernel_rfl) (by kernel_rfl) (fun _ _ _ h => h) (Or.inl ⟨by rfl, ?_⟩) ?_
      rotate_left
      focus (intro w0; go_simp; try with_reducible rfl)
      refine wpAny_ready (rs := [4, 5]) (by kernel_rfl) (by simp) (AllReady.cons rfl (fun K hK => ?_) (AllReady.cons rfl (fun K hK => ?_) (AllReady.nil)))
      focus
        go_simp
        refine hK _ _ ?_
        clear hK K
        refine wpAny_ready (rs := [5]) (by kernel_rfl) (by simp) (AllReady.cons rfl (fun K hK => ?_) (AllReady.nil))
        go_simp
        refine hK _ _ ?_
        clear hK K
        refine wpAny_ready (rs := [6]) (by kernel_rfl) (by simp) (AllReady.cons rfl (fun K hK => ?_) (AllReady.nil))
        go_simp
        (refine Calls.mono (HP.out _) ?_; rintro e w2 ⟨rfl, hb2⟩; replace hb2 := undrew hb2)
        refine hK _ _ ?_
        clear hK K
        refine wpAny_seq 7 rfl (by kernel_rfl) ?_
        simp only [List.drop_succ_cons, List.drop_zero]
      rotate_left 1
      focus
        go_simp
        refine hK _ _ ?_
        clear hK K
        refine wpAny_ready (rs := [4]) (by kernel_rfl) (by simp) (AllReady.cons rfl (fun K hK => ?_) (AllReady.nil))
        go_simp
        refine hK _ _ ?_
        clear hK K
        refine wpAny_ready (rs := [6]) (by kernel_rfl) (by simp) (AllReady.cons rfl (fun K hK => ?_) (AllReady.nil))
        go_simp
        (refine Calls.mono (HP.out _) ?_; rintro e w2 ⟨rfl, hb2⟩; replace hb2 := undrew hb2)
        refine hK _ _ ?_
        clear hK K
        refine wpAny_seq 7 rfl (by kernel_rfl) ?_
        simp only [List.drop_succ_cons, List.drop_zero]
      all_goals
        have hB1 := belowTo hB hb2
        have hown : w2.ownsRow W0.heap.size 3 1 _ _ _ := HHown.out.kept (row := none) (grown_of_below hb2 none) (by first | exact .inl rfl | (generalize Value.ownBlock _ = ob; cases ob <;> simp))
        have hbs2 := hB1.size
        clear hb2
        go_wp2_with (at_builtin; refine wpList_append_own_at _ rfl _ _ 23 rfl W0.heap.size 3 i0 (.int .i64 0) 1 8 Tryd.underlying23 hi hz0 hz1 hz2 rfl (by decide) _ _ _ rfl (hown.alloc _) ⟨w2.heap.size, 0, none⟩ 1 1 [.int .i64 z] rfl rfl ?c1 ?c2 ?c3 ?c4 ?c5 ?_)
        case c1 =>
          intro j u hj
          match j, hj with
          | 0, hj => simp at hj; subst hj; simp [Addr.add]
        case c2 => intro u hu; simp at hu; subst hu; rfl
        case c3 => unfold maxLen; omega
        case c4 => omega
        case c5 => simp; omega
        intro v' w3 hown' hgrow _ _
        have hB2 : Below W0.heap.size W0 w3 := (hB1.alloc hbs2 _).grown hgrow (by simp; omega) (fun k hk => (hown.lt k hk).1)
        have HV := Lib.hid (Ints.snoc (l := (List.range k).map (fun i => dotZ (x, y).1 (x, y).2 (cyc l i).1 (cyc l i).2)) HL2.out.symm hown')
        rw [← HMk.out] at HV
        clear hown' hgrow hown
        go_wp2
        go_roundw
        case rel => exact ⟨k + 1, by omega, by go_num, HV, hB2⟩
        case measure => simp [intOf]; omega
    · obtain rfl : k = n := by omega
      have i2 : ¬ (k : Int) < (k : Int) := by omega
      have hBw := hA.trans (hB.mono hA.size)
      have has := hA.size
      go_wp2
      go_returns
      exact ⟨_, rfl, by rw [HZ.out]; exact HI.out.lower has, hBw⟩
theorem can_snoc (k : Nat) : canL (k + 1) = canL k ++ [-1] := by
  unfold canL
  rw [List.replicate_succ']
end Go.Proofs.YtmencjdlfeojkaaDoor
