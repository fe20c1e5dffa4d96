/- Fans, the model's side: smooth ones; cones. -/
import Derived.Test.YtfgkpnpgemakdaaDoorHa
namespace Go.Proofs.YtfgkpnpgemakdaaDoor
open Go.RowKit

theorem smNot {l : List V2} {i : Nat} (hi : i < l.length) (h : smB l i = false) : allS l = false := by
  unfold allS
  rw [List.all_eq_false]
  exact ⟨i, List.mem_range.2 hi, by rw [h]; decide⟩
set_option maxHeartbeats 4000000 in
theorem l3Cone_any (v : Value) (l : List V2) (k : Nat) (w : World) (hl : ReadsVecs w v l) (hk : k < l.length) :
    Calls Tryd.prog 30 #[v, .int .i64 k] w fun e w' => e = .returned (.agg #[.int .i64 ((cyc l k).1), .int .i64 ((cyc l k).2), .int .i64 ((cyc l (k + 1)).1), .int .i64 ((cyc l (k + 1)).2)]) ∧ Below w.heap.size w w' := by
  obtain ⟨bb, off, c, rfl, hc, hm, hbb, hcs⟩ := hl.open (by omega)
  obtain ⟨c1, c2⟩ := hcs w (Below.refl _ _) k hk
  have hjn : (k + 1) % l.length < l.length := Nat.mod_lt _ (by omega)
  obtain ⟨d1, d2⟩ := hcs w (Below.refl _ _) _ hjn
  rw [cyc_mod] at d1 d2
  have HX := Lib.hid (fun w' => l3Next_any (some ⟨bb, off, none⟩) l.length c k w' hk (by omega))
  have i1 : (0 : Int) ≤ (k : Int) := by omega
  have i2 : (k : Int) < (l.length : Int) := by omega
  have i3 : (0 : Int) ≤ (((k + 1) % l.length : Nat) : Int) := by omega
  have i4 : (((k + 1) % l.length : Nat) : Int) < (l.length : Int) := by omega
  generalize (k + 1) % l.length = m at *
  generalize l.length = n at *
  generalize cyc l (k + 1) = z at *
  obtain ⟨x2, y2⟩ := z
  generalize cyc l k = z1 at *
  obtain ⟨x1, y1⟩ := z1
  dsimp only at c1 c2 d1 d2 ⊢
  clear hcs hl
  go_enter Tryd.func30, Tryd.ntmps30
  go_wp2
  refine wp_region_any (by kernel_rfl) ?_
  try (change wpAny _ _ _ _ _ _ _ (World.drew _))
  refine wpAny_take (i := 0) (v := ?_) rfl (by kernel_rfl) (by kernel_rfl) (by kernel_rfl) (fun _ _ _ h => h) (Or.inl ⟨by rfl, ?_⟩) ?_
  rotate_left
  focus (intro w0; go_simp; try with_reducible rfl)
  refine wpAny_take (i := 1) (v := ?_) rfl (by kernel_rfl) (by kernel_rfl) (by kernel_rfl) (fun _ _ _ h => h) (Or.inl ⟨by rfl, ?_⟩) ?_
  rotate_left
  focus (intro w0; go_simp; try with_reducible rfl)
  refine wpAny_take (i := 2) (v := ?_) rfl (by kernel_rfl) (by kernel_rfl) (by kernel_rfl) (fun _ _ _ h => h) (Or.inl ⟨by rfl, ?_⟩) ?_
  rotate_left
  focus (intro w0; go_simp; try with_reducible rfl)
  refine wpAny_take (i := 4) (v := ?_) rfl (by kernel_rfl) (by kernel_rfl) (by kernel_rfl) (fun _ _ _ h => h) (Or.inl ⟨by rfl, ?_⟩) ?_
  rotate_left
  focus (intro w0; go_simp; try with_reducible rfl)
  refine wpAny_take (i := 5) (v := ?_) rfl (by kernel_rfl) (by kernel_rfl) (by kernel_rfl) (fun _ _ _ h => h) (Or.inl ⟨by rfl, ?_⟩) ?_
  rotate_left
  focus (intro w0; go_simp; try with_reducible rfl)
  refine wpAny_take (i := 6) (v := ?_) rfl (by kernel_rfl) (by kernel_rfl) (by kernel_rfl) (fun _ _ _ h => h) (Or.inl ⟨by rfl, ?_⟩) ?_
  rotate_left
  focus (intro w0; go_simp; try with_reducible rfl)
  refine wpAny_ready (rs := [3, 7]) (by kernel_rfl) (by simp) (AllReady.cons rfl (fun K hK => ?_) (AllReady.cons rfl (fun K hK => ?_) (AllReady.nil)))
  focus
    go_simp
    refine hK _ _ ?_
    clear hK K
    refine wpAny_ready (rs := [7]) (by kernel_rfl) (by simp) (AllReady.cons rfl (fun K hK => ?_) (AllReady.nil))
    go_simp
    (refine Calls.mono (HX.out _) ?_; rintro e w1 ⟨rfl, rfl⟩)
    refine hK _ _ ?_
    clear hK K
    refine wpAny_take (i := 8) (v := ?_) rfl (by kernel_rfl) (by kernel_rfl) (by kernel_rfl) (fun _ _ _ h => h) (Or.inl ⟨by rfl, ?_⟩) ?_
    rotate_left
    focus (intro w0; go_simp; try with_reducible rfl)
    refine wpAny_ready (rs := [9]) (by kernel_rfl) (by simp) (AllReady.cons rfl (fun K hK => ?_) (AllReady.nil))
    go_simp
    refine hK _ _ ?_
    clear hK K
    refine wpAny_seq 10 rfl (by kernel_rfl) ?_
    simp only [List.drop_succ_cons, List.drop_zero]
  rotate_left 1
  focus
    go_simp
    (refine Calls.mono (HX.out _) ?_; rintro e w1 ⟨rfl, rfl⟩)
    refine hK _ _ ?_
    clear hK K
    refine wpAny_take (i := 8) (v := ?_) rfl (by kernel_rfl) (by kernel_rfl) (by kernel_rfl) (fun _ _ _ h => h) (Or.inl ⟨by rfl, ?_⟩) ?_
    rotate_left
    focus (intro w0; go_simp; try with_reducible rfl)
    refine wpAny_ready (rs := [3, 9]) (by kernel_rfl) (by simp) (AllReady.cons rfl (fun K hK => ?_) (AllReady.cons rfl (fun K hK => ?_) (AllReady.nil)))
    focus
      go_simp
      refine hK _ _ ?_
      clear hK K
      refine wpAny_ready (rs := [9]) (by kernel_rfl) (by simp) (AllReady.cons rfl (fun K hK => ?_) (AllReady.nil))
      go_simp
      refine hK _ _ ?_
      clear hK K
      refine wpAny_seq 10 rfl (by kernel_rfl) ?_
      simp only [List.drop_succ_cons, List.drop_zero]
    rotate_left 1
    focus
      go_simp
      refine hK _ _ ?_
      clear hK K
      refine wpAny_ready (rs := [3]) (by kernel_rfl) (by simp) (AllReady.cons rfl (fun K hK => ?_) (AllReady.nil))
      go_simp
      refine hK _ _ ?_
      clear hK K
      refine wpAny_seq 10 rfl (by kernel_rfl) ?_
      simp only [List.drop_succ_cons, List.drop_zero]
  all_goals go_wp2
  all_goals refine bodyPost_ret (by simp [results, Tryd.results30, go_sem, *]; try rfl) rfl ?_
  all_goals exact ⟨rfl, by go_grown⟩
end Go.Proofs.YtfgkpnpgemakdaaDoor
