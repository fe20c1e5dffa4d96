/- FnFan: the walk. -/
import Derived.Test.YtdlofnkimikaiaaDoorUl
import Derived.Test.YtdlofnkimikaiaaDoorOa
import Derived.Test.YtdlofnkimikaiaaDoorSm
import Derived.Test.YtdlofnkimikaiaaDoorBa
import Derived.Test.YtdlofnkimikaiaaDoorB9
import Derived.Test.YtdlofnkimikaiaaDoorRg
import Derived.Test.YtdlofnkimikaiaaDoorKb
namespace Go.Proofs.YtdlofnkimikaiaaDoor
open Go.RowKit

set_option maxRecDepth 100000 in
set_option maxHeartbeats 16000000 in
theorem fnFan_any (a : Option Addr) (len cap : Nat) (w : World) (h : Bytes w a len cap) (hg : EtOk w) :
    Calls Tryd.prog 3 #[.slice a len cap] w fun e w' => e = .returned (.bool true) ∧ Below w.heap.size w w' := by
  by_cases hlen : len ≤ 1048576
  case neg =>
    have j1 : (1048576 : Int) < (len : Int) := by omega
    clear h hg
    go_enter Tryd.func3, Tryd.ntmps3
    go_wp2
    go_returns
    exact ⟨rfl, by go_grown⟩
  case pos =>
  have j1 : (len : Int) ≤ 1048576 := by omega
  have HO := Lib.hid (drawFanIn_any w a len cap h)
  clear h
  go_enter Tryd.func3, Tryd.ntmps3
  go_wp2_with fail
  refine Calls.mono HO.out ?_
  rintro e w1 ⟨v, l, rfl, hV, h2, h20, hb1⟩
  have HG := Lib.hid (hg.below hb1)
  have Hf := Lib.hid hV
  have HB : Hid (Below w.heap.size w w1) := hb1
  clear hb1 HO hg hV
  cases hk : fanB l
  · have C1 : Hid (∀ (w' : World) (v0 : Value), ReadsVecs w' v0 (l) → EtOk w' → Calls Tryd.prog 14 #[v0] w' (fun e w'' => e = .returned (.bool (false)) ∧ Below w'.heap.size w' w'')) := fun w' v0 h0 hg' => by
      have h := fanIn_any v0 l w' h0 hg'
      rw [hk] at h
      exact h
    have C2 : Hid (∀ (w' : World) (v0 : Value), ReadsVecs w' v0 (l) → EtOk w' → Calls Tryd.prog 15 #[v0] w' (fun e w'' => e = .returned (.bool (false)) ∧ Below w'.heap.size w' w'')) := fun w' v0 h0 hg' => by
      have h := specFanIn_any v0 l w' h0
      rw [hk] at h
      exact h
    clear hk
    go_wp2_with fail
    refine Calls.mono (C1.out _ _ (Hf.out.below (by go_grown)) (HG.out.below (by go_grown))) ?_
    rintro e w2 ⟨rfl, hb2⟩
    have hB2 := belowTo (a := w1) (by go_grown) hb2
    replace Hf := Lib.hid (Hf.out.below hB2)
    replace HG := Lib.hid (HG.out.below hB2)
    replace HB := Lib.hid (belowTo HB.out hB2)
    clear hb2 hB2
    go_wp2_with fail
    refine Calls.mono (C2.out _ _ (Hf.out.below (by go_grown)) (HG.out.below (by go_grown))) ?_
    rintro e w3 ⟨rfl, hb3⟩
    have hB3 := belowTo (a := w2) (by go_grown) hb3
    replace Hf := Lib.hid (Hf.out.below hB3)
    replace HG := Lib.hid (HG.out.below hB3)
    replace HB := Lib.hid (belowTo HB.out hB3)
    clear hb3 hB3
    go_wp2
    go_returns
    exact ⟨rfl, HB.out⟩
  · have C1 : Hid (∀ (w' : World) (v0 : Value), ReadsVecs w' v0 (l) → EtOk w' → Calls Tryd.prog 14 #[v0] w' (fun e w'' => e = .returned (.bool (true)) ∧ Below w'.heap.size w' w'')) := fun w' v0 h0 hg' => by
      have h := fanIn_any v0 l w' h0 hg'
      rw [hk] at h
      exact h
    have C2 : Hid (∀ (w' : World) (v0 : Value), ReadsVecs w' v0 (l) → EtOk w' → Calls Tryd.prog 15 #[v0] w' (fun e w'' => e = .returned (.bool (true)) ∧ Below w'.heap.size w' w'')) := fun w' v0 h0 hg' => by
      have h := specFanIn_any v0 l w' h0
      rw [hk] at h
      exact h
    have q0 := tidy_rot (k := 1) hk (by omega)
    have q1 := fan_rot (l := l) (K := 1) (by omega)
    rw [hk] at q1
    have C3 : Hid (∀ (w' : World) (v0 : Value), ReadsVecs w' v0 (l) → EtOk w' → Calls Tryd.prog 16 #[v0] w' (GivesVecsOk w' (tidyL l) (true))) := fun w' v0 h0 hg' => by
      have h := fanTidy_any v0 (l) w' h0 hg'
      rw [hk] at h
      exact h
    have C4 : Hid (∀ (w' : World) (v0 : Value), ReadsVecs w' v0 (rot 1 l) → EtOk w' → Calls Tryd.prog 16 #[v0] w' (GivesVecsOk w' (tidyL l) (true))) := fun w' v0 h0 hg' => by
      have h := fanTidy_any v0 (rot 1 l) w' h0 hg'
      rw [q1, q0] at h
      exact h
    have C5 : Hid (∀ (w' : World) (v0 : Value), ReadsVecs w' v0 (rot 1 l) → EtOk w' → Calls Tryd.prog 14 #[v0] w' (fun e w'' => e = .returned (.bool (true)) ∧ Below w'.heap.size w' w'')) := fun w' v0 h0 hg' => by
      have h := fanIn_any v0 (rot 1 l) w' h0 hg'
      rw [q1] at h
      exact h
    have HLt : Hid ((tidyL l).length ≤ 1000) := by show _ ≤ _; rw [tidyL_len]; omega
    generalize tidyL l = t at *
    clear hk q0 q1
    obtain ⟨i0, hi, hz0, hz1, hz2⟩ := info_parts infoVec
    have HL := Lib.hid h20
    obtain ⟨N, hN⟩ : ∃ N, l.length = N + 1 := ⟨l.length - 1, by omega⟩
    have HT1 : Hid (1 + N ≤ l.length) := by show _ ≤ _; omega
    have HR : Hid ((([] ++ (l.drop 1).take N) ++ [cyc l 0]) = rot 1 l) := by
      have e1 : (l.drop 1).take N = l.drop 1 := List.take_of_length_le (by simp; omega)
      have e2 : l.take 1 = [cyc l 0] := by
        cases l with
        | nil => simp at hN
        | cons a t => rfl
      show _ = l.drop 1 ++ l.take 1
      rw [e1, e2]; rfl
    have HRl : Hid ((rot 1 l).length ≤ 1000) := by show _ ≤ _; rw [rot_len]; omega
    go_wp2_with fail
    refine Calls.mono (C1.out _ _ (Hf.out.below (by go_grown)) (HG.out.below (by go_grown))) ?_
    rintro e w2 ⟨rfl, hb2⟩
    have hB2 := belowTo (a := w1) (by go_grown) hb2
    replace Hf := Lib.hid (Hf.out.below hB2)
    replace HG := Lib.hid (HG.out.below hB2)
    replace HB := Lib.hid (belowTo HB.out hB2)
    clear hb2 hB2
    go_wp2_with fail
    refine Calls.mono (C2.out _ _ (Hf.out.below (by go_grown)) (HG.out.below (by go_grown))) ?_
    rintro e w3 ⟨rfl, hb3⟩
    have hB3 := belowTo (a := w2) (by go_grown) hb3
    replace Hf := Lib.hid (Hf.out.below hB3)
    replace HG := Lib.hid (HG.out.below hB3)
    replace HB := Lib.hid (belowTo HB.out hB3)
    clear hb3 hB3
    obtain ⟨fb, fo, fc, rfl, hfc, -, hfb, hfs⟩ := Hf.out.open (by omega)
    have HCl := Lib.hid hfs
    obtain ⟨c0, c1⟩ := hfs w3 (Below.refl _ _) 0 (by omega)
    rw [Nat.zero_mul, Nat.add_zero] at c0 c1
    clear hfs
    generalize cyc l 0 = P at *
    obtain ⟨X, Y⟩ := P
    dsimp only at c0 c1
    have HfL := Lib.hid hN
    have hrb := hfb
    have s1 : (1 : Int) ≤ (l.length : Int) := by omega
    have s2 : l.length - 1 = N := by omega
    have s3 : ¬ fc = 1 := by omega
    have s4 : (0 : Int) < (l.length : Int) := by omega
    have s5 : 0 < l.length := by omega
    have s6 : (l.length : Int) ≤ (fc : Int) := by omega
    have s7 : ¬ 1 = fc := by omega
    have hN20 : N ≤ 20 := by omega
    clear hN
    have HO1 : Hid (Vecs (w3.drew.alloc (.cells #[] 27)) w3.heap.size (.slice (some ⟨w3.heap.size, 0, none⟩) 0 0) []) := Vecs.empty w3.drew
    have HB1 : Hid (Below w3.heap.size w3 (w3.drew.alloc (.cells #[] 27))) := (by go_grown : Below _ _ _)
    have HO2 : Hid (Vecs ((w3.drew.alloc (.cells #[] 27)).alloc (.cells #[.int .i64 X, .int .i64 Y] 27)) w3.heap.size (.slice (some ⟨w3.heap.size, 0, none⟩) 0 0) []) := HO1.out.below (by go_grown)
    have HB2 : Hid (Below w3.heap.size w3 ((w3.drew.alloc (.cells #[] 27)).alloc (.cells #[.int .i64 X, .int .i64 Y] 27))) := (by go_grown : Below _ _ _)
    have hO3 := (Vecs.empty (w3.drew.alloc (.cells #[.int .i64 X, .int .i64 Y] 27))).lower (base' := w3.heap.size) (by simp)
    simp only [World.size_alloc, World.size_drew] at hO3
    have HO3 : Hid (Vecs ((w3.drew.alloc (.cells #[.int .i64 X, .int .i64 Y] 27)).alloc (.cells #[] 27)) w3.heap.size (.slice (some ⟨w3.heap.size + 1, 0, none⟩) 0 0) []) := hO3
    have HB3 : Hid (Below w3.heap.size w3 ((w3.drew.alloc (.cells #[.int .i64 X, .int .i64 Y] 27)).alloc (.cells #[] 27))) := (by go_grown : Below _ _ _)
    clear hO3
    have KE0 : Hid (((w3.drew.alloc (.cells #[] 27)).alloc (.cells #[.int .i64 X, .int .i64 Y] 27)).cell? ⟨w3.heap.size + 1, 0, none⟩ = some (.int .i64 X)) := by show ((w3.drew.alloc (.cells #[] 27)).alloc (.cells #[.int .i64 X, .int .i64 Y] 27)).cell? ⟨w3.heap.size + 1, 0, none⟩ = some (.int .i64 X); rw [World.cell?_alloc_at _ _ _ _ (by simp only [World.size_alloc, World.size_drew])]; rfl
    have KE1 : Hid (((w3.drew.alloc (.cells #[] 27)).alloc (.cells #[.int .i64 X, .int .i64 Y] 27)).cell? ⟨w3.heap.size + 1, 1, none⟩ = some (.int .i64 Y)) := by show ((w3.drew.alloc (.cells #[] 27)).alloc (.cells #[.int .i64 X, .int .i64 Y] 27)).cell? ⟨w3.heap.size + 1, 1, none⟩ = some (.int .i64 Y); rw [World.cell?_alloc_at _ _ _ _ (by simp only [World.size_alloc, World.size_drew])]; rfl
    have KR0 : Hid (((w3.drew.alloc (.cells #[.int .i64 X, .int .i64 Y] 27)).alloc (.cells #[] 27)).cell? ⟨w3.heap.size, 0, none⟩ = some (.int .i64 X)) := by show ((w3.drew.alloc (.cells #[.int .i64 X, .int .i64 Y] 27)).alloc (.cells #[] 27)).cell? ⟨w3.heap.size, 0, none⟩ = some (.int .i64 X); rw [World.cell?_alloc_lt _ _ ⟨_, _, none⟩ (by simp only [World.size_alloc, World.size_drew]; omega), World.cell?_alloc_at _ _ _ _ (by simp only [World.size_drew])]; rfl
    have KR1 : Hid (((w3.drew.alloc (.cells #[.int .i64 X, .int .i64 Y] 27)).alloc (.cells #[] 27)).cell? ⟨w3.heap.size, 1, none⟩ = some (.int .i64 Y)) := by show ((w3.drew.alloc (.cells #[.int .i64 X, .int .i64 Y] 27)).alloc (.cells #[] 27)).cell? ⟨w3.heap.size, 1, none⟩ = some (.int .i64 Y); rw [World.cell?_alloc_lt _ _ ⟨_, _, none⟩ (by simp only [World.size_alloc, World.size_drew]; omega), World.cell?_alloc_at _ _ _ _ (by simp only [World.size_drew])]; rfl
    go_wp2
    refine wp_region_any (by kernel_rfl) ?_
    try (change wpAny _ _ _ _ _ _ _ (World.drew _))
    refine wpAny_take (i := 1) (v := ?_) rfl (by kernel_rfl) (by kernel_rfl) (by kernel_rfl) (fun _ _ _ h => h) (Or.inl ⟨by rfl, ?_⟩) ?_
    rotate_left
    focus (intro w0; go_simp; try with_reducible rfl)
    refine wpAny_take (i := 2) (v := ?_) rfl (by kernel_rfl) (by kernel_rfl) (by kernel_rfl) (fun _ _ _ h => h) (Or.inl ⟨by rfl, ?_⟩) ?_
    rotate_left
    focus (intro w0; go_simp; try with_reducible rfl)
    refine wpAny_take (i := 4) (v := ?_) rfl (by kernel_rfl) (by kernel_rfl) (by kernel_rfl) (fun _ _ _ h => h) (Or.inl ⟨by rfl, ?_⟩) ?_
    rotate_left
    focus (intro w0; go_simp; try with_reducible rfl)
    refine wpAny_take (i := 5) (v := ?_) rfl (by kernel_rfl) (by kernel_rfl) (by kernel_rfl) (fun _ _ _ h => h) (Or.inl ⟨by rfl, ?_⟩) ?_
    rotate_left
    focus (intro w0; go_simp; try with_reducible rfl)
    refine wpAny_ready (rs := [0, 6]) (by kernel_rfl) (by simp) (AllReady.cons rfl (fun K hK => ?_) (AllReady.cons rfl (fun K hK => ?_) (AllReady.nil)))
    focus
      go_simp
      refine hK _ _ ?_
      clear hK K
      refine wpAny_ready (rs := [3, 6]) (by kernel_rfl) (by simp) (AllReady.cons rfl (fun K hK => ?_) (AllReady.cons rfl (fun K hK => ?_) (AllReady.nil)))
      focus
        (refine step_list (by rintro ⟨_, _, h⟩; cases h.1) (by kernel_rfl) ?_; first | (refine wpList_append_own_at _ rfl _ _ 23 rfl w3.heap.size 27 i0 (.agg #[.int .i64 (0), .int .i64 (0)]) 2 16 Tryd.underlying23 hi hz0 hz1 hz2 rfl (by decide) (.slice (some ⟨w3.heap.size, 0, none⟩) 0 0) _ _ rfl HO1.out _ _ _ _ rfl (piece_len HT1.out) (piece_cells (HCl.out _ HB1.out) HT1.out) (piece_one _) (by unfold maxLen; simp; omega) (by simp; omega) HB1.out.size ?_; intro v2 wa2 hown2 hgrowa2 _ _; have HBA := Lib.hid (HB1.out.grown hgrowa2 HB1.out.size (fun q hq => (World.ownsRow.lt HO1.out q hq).1)); have HO := Lib.hid (Vecs.join (l := []) hown2 (by have := HfL.out; simp <;> omega)); have b0 := (HBA.out.cell (p := ⟨fb, fo, none⟩) hrb).trans c0; have b1 := (HBA.out.cell (p := ⟨fb, fo + 1, none⟩) hrb).trans c1; have bl := Nat.lt_of_lt_of_le hrb HBA.out.size; clear hown2 hgrowa2) | (refine wpList_append_own_at _ rfl _ _ 23 rfl w3.heap.size 27 i0 (.agg #[.int .i64 (0), .int .i64 (0)]) 2 16 Tryd.underlying23 hi hz0 hz1 hz2 rfl (by decide) (.slice (some ⟨w3.heap.size + 1, 0, none⟩) 0 0) _ _ rfl HO3.out _ _ _ _ rfl (piece_len HT1.out) (piece_cells (HCl.out _ HB3.out) HT1.out) (piece_one _) (by unfold maxLen; simp; omega) (by simp; omega) HB3.out.size ?_; intro v2 wa2 hown2 hgrowa2 _ _; have HBA := Lib.hid (HB3.out.grown hgrowa2 HB3.out.size (fun q hq => (World.ownsRow.lt HO3.out q hq).1)); have HO := Lib.hid (Vecs.join (l := []) hown2 (by have := HfL.out; simp <;> omega)); have rr : wa2.heap[w3.heap.size]? = ((w3.drew.alloc (.cells #[.int .i64 X, .int .i64 Y] 27)).alloc (.cells #[] 27)).heap[w3.heap.size]? := hgrowa2.block _ (by simp <;> omega) (by simp [Value.ownBlock]); have RR0 : Hid (wa2.cell? ⟨w3.heap.size, 0, none⟩ = some (.int .i64 X)) := (cell_same rr 0).trans KR0.out; have RR1 : Hid (wa2.cell? ⟨w3.heap.size, 1, none⟩ = some (.int .i64 Y)) := (cell_same rr 1).trans KR1.out; clear rr; clear hown2 hgrowa2) | (refine wpList_append_own_at _ rfl _ _ 23 rfl w3.heap.size 27 i0 (.agg #[.int .i64 (0), .int .i64 (0)]) 2 16 Tryd.underlying23 hi hz0 hz1 hz2 rfl (by decide) (.slice (some ⟨w3.heap.size, 0, none⟩) 0 0) _ _ rfl HO2.out _ _ _ _ rfl (piece_len HT1.out) (piece_cells (HCl.out _ HB2.out) HT1.out) (piece_one _) (by unfold maxLen; simp; omega) (by simp; omega) HB2.out.size ?_; intro v2 wa2 hown2 hgrowa2 _ _; have HBA := Lib.hid (HB2.out.grown hgrowa2 HB2.out.size (fun q hq => (World.ownsRow.lt HO2.out q hq).1)); have HO := Lib.hid (Vecs.join (l := []) hown2 (by have := HfL.out; simp <;> omega)); have rr : wa2.heap[w3.heap.size + 1]? = ((w3.drew.alloc (.cells #[] 27)).alloc (.cells #[.int .i64 X, .int .i64 Y] 27)).heap[w3.heap.size + 1]? := hgrowa2.block _ (by simp <;> omega) (by simp [Value.ownBlock]); have RR0 : Hid (wa2.cell? ⟨w3.heap.size + 1, 0, none⟩ = some (.int .i64 X)) := (cell_same rr 0).trans KE0.out; have RR1 : Hid (wa2.cell? ⟨w3.heap.size + 1, 1, none⟩ = some (.int .i64 Y)) := (cell_same rr 1).trans KE1.out; clear rr; clear hown2 hgrowa2))
        refine hK _ _ ?_
        clear hK K
        refine wpAny_ready (rs := [6]) (by kernel_rfl) (by simp) (AllReady.cons rfl (fun K hK => ?_) (AllReady.nil))
        go_simp
        refine hK _ _ ?_
        clear hK K
        refine wpAny_ready (rs := [7]) (by kernel_rfl) (by simp) (AllReady.cons rfl (fun K hK => ?_) (AllReady.nil))
        go_simp
        refine hK _ _ ?_
        clear hK K
        refine wpAny_ready (rs := [8]) (by kernel_rfl) (by simp) (AllReady.cons rfl (fun K hK => ?_) (AllReady.nil))
        (refine step_list (by rintro ⟨_, _, h⟩; cases h.1) (by kernel_rfl) ?_; first | (refine wpList_append_own_at _ rfl _ _ 23 rfl w3.heap.size 27 i0 (.agg #[.int .i64 (0), .int .i64 (0)]) 2 16 Tryd.underlying23 hi hz0 hz1 hz2 rfl (by decide) _ _ _ rfl HO.out _ 1 1 [.int .i64 X, .int .i64 Y] rfl rfl (two_cells RR0.out RR1.out) (two_one _ _) (by unfold maxLen; simp; omega) (by simp; omega) HBA.out.size ?_; intro v3 wa3 hown3 hgrowa3 _ _; have HBC := Lib.hid (HBA.out.grown hgrowa3 HBA.out.size (fun q hq => (World.ownsRow.lt HO.out q hq).1)); have HOC := Lib.hid (Vecs.snoc (l := [] ++ (l.drop 1).take N) rfl hown3); clear hown3 hgrowa3) | (refine wpList_append_own_at _ rfl _ _ 23 rfl w3.heap.size 27 i0 (.agg #[.int .i64 (0), .int .i64 (0)]) 2 16 Tryd.underlying23 hi hz0 hz1 hz2 rfl (by decide) _ _ _ rfl (HO.out.below (by go_grown)) _ 1 1 [.int .i64 X, .int .i64 Y] rfl rfl (two_cells (by simp) (by simp)) (two_one _ _) (by unfold maxLen; simp; omega) (by simp; omega) (HBA.out.alloc HBA.out.size _).size ?_; intro v3 wa3 hown3 hgrowa3 _ _; have HBC := Lib.hid ((HBA.out.alloc HBA.out.size _).grown hgrowa3 (HBA.out.alloc HBA.out.size _).size (fun q hq => (World.ownsRow.lt HO.out q hq).1)); have HOC := Lib.hid (Vecs.snoc (l := [] ++ (l.drop 1).take N) rfl hown3); clear hown3 hgrowa3))
        refine hK _ _ ?_
        clear hK K
        refine wpAny_seq 9 rfl (by kernel_rfl) ?_
        simp only [List.drop_succ_cons, List.drop_zero]
      rotate_left 1
      focus
        go_simp
        refine hK _ _ ?_
        clear hK K
        refine wpAny_ready (rs := [3, 7]) (by kernel_rfl) (by simp) (AllReady.cons rfl (fun K hK => ?_) (AllReady.cons rfl (fun K hK => ?_) (AllReady.nil)))
        focus
          (refine step_list (by rintro ⟨_, _, h⟩; cases h.1) (by kernel_rfl) ?_; first | (refine wpList_append_own_at _ rfl _ _ 23 rfl w3.heap.size 27 i0 (.agg #[.int .i64 (0), .int .i64 (0)]) 2 16 Tryd.underlying23 hi hz0 hz1 hz2 rfl (by decide) (.slice (some ⟨w3.heap.size, 0, none⟩) 0 0) _ _ rfl HO1.out _ _ _ _ rfl (piece_len HT1.out) (piece_cells (HCl.out _ HB1.out) HT1.out) (piece_one _) (by unfold maxLen; simp; omega) (by simp; omega) HB1.out.size ?_; intro v2 wa2 hown2 hgrowa2 _ _; have HBA := Lib.hid (HB1.out.grown hgrowa2 HB1.out.size (fun q hq => (World.ownsRow.lt HO1.out q hq).1)); have HO := Lib.hid (Vecs.join (l := []) hown2 (by have := HfL.out; simp <;> omega)); have b0 := (HBA.out.cell (p := ⟨fb, fo, none⟩) hrb).trans c0; have b1 := (HBA.out.cell (p := ⟨fb, fo + 1, none⟩) hrb).trans c1; have bl := Nat.lt_of_lt_of_le hrb HBA.out.size; clear hown2 hgrowa2) | (refine wpList_append_own_at _ rfl _ _ 23 rfl w3.heap.size 27 i0 (.agg #[.int .i64 (0), .int .i64 (0)]) 2 16 Tryd.underlying23 hi hz0 hz1 hz2 rfl (by decide) (.slice (some ⟨w3.heap.size + 1, 0, none⟩) 0 0) _ _ rfl HO3.out _ _ _ _ rfl (piece_len HT1.out) (piece_cells (HCl.out _ HB3.out) HT1.out) (piece_one _) (by unfold maxLen; simp; omega) (by simp; omega) HB3.out.size ?_; intro v2 wa2 hown2 hgrowa2 _ _; have HBA := Lib.hid (HB3.out.grown hgrowa2 HB3.out.size (fun q hq => (World.ownsRow.lt HO3.out q hq).1)); have HO := Lib.hid (Vecs.join (l := []) hown2 (by have := HfL.out; simp <;> omega)); have rr : wa2.heap[w3.heap.size]? = ((w3.drew.alloc (.cells #[.int .i64 X, .int .i64 Y] 27)).alloc (.cells #[] 27)).heap[w3.heap.size]? := hgrowa2.block _ (by simp <;> omega) (by simp [Value.ownBlock]); have RR0 : Hid (wa2.cell? ⟨w3.heap.size, 0, none⟩ = some (.int .i64 X)) := (cell_same rr 0).trans KR0.out; have RR1 : Hid (wa2.cell? ⟨w3.heap.size, 1, none⟩ = some (.int .i64 Y)) := (cell_same rr 1).trans KR1.out; clear rr; clear hown2 hgrowa2) | (refine wpList_append_own_at _ rfl _ _ 23 rfl w3.heap.size 27 i0 (.agg #[.int .i64 (0), .int .i64 (0)]) 2 16 Tryd.underlying23 hi hz0 hz1 hz2 rfl (by decide) (.slice (some ⟨w3.heap.size, 0, none⟩) 0 0) _ _ rfl HO2.out _ _ _ _ rfl (piece_len HT1.out) (piece_cells (HCl.out _ HB2.out) HT1.out) (piece_one _) (by unfold maxLen; simp; omega) (by simp; omega) HB2.out.size ?_; intro v2 wa2 hown2 hgrowa2 _ _; have HBA := Lib.hid (HB2.out.grown hgrowa2 HB2.out.size (fun q hq => (World.ownsRow.lt HO2.out q hq).1)); have HO := Lib.hid (Vecs.join (l := []) hown2 (by have := HfL.out; simp <;> omega)); have rr : wa2.heap[w3.heap.size + 1]? = ((w3.drew.alloc (.cells #[] 27)).alloc (.cells #[.int .i64 X, .int .i64 Y] 27)).heap[w3.heap.size + 1]? := hgrowa2.block _ (by simp <;> omega) (by simp [Value.ownBlock]); have RR0 : Hid (wa2.cell? ⟨w3.heap.size + 1, 0, none⟩ = some (.int .i64 X)) := (cell_same rr 0).trans KE0.out; have RR1 : Hid (wa2.cell? ⟨w3.heap.size + 1, 1, none⟩ = some (.int .i64 Y)) := (cell_same rr 1).trans KE1.out; clear rr; clear hown2 hgrowa2))
          refine hK _ _ ?_
          clear hK K
          refine wpAny_ready (rs := [7]) (by kernel_rfl) (by simp) (AllReady.cons rfl (fun K hK => ?_) (AllReady.nil))
          go_simp
          refine hK _ _ ?_
          clear hK K
          refine wpAny_ready (rs := [8]) (by kernel_rfl) (by simp) (AllReady.cons rfl (fun K hK => ?_) (AllReady.nil))
          (refine step_list (by rintro ⟨_, _, h⟩; cases h.1) (by kernel_rfl) ?_; first | (refine wpList_append_own_at _ rfl _ _ 23 rfl w3.heap.size 27 i0 (.agg #[.int .i64 (0), .int .i64 (0)]) 2 16 Tryd.underlying23 hi hz0 hz1 hz2 rfl (by decide) _ _ _ rfl HO.out _ 1 1 [.int .i64 X, .int .i64 Y] rfl rfl (two_cells RR0.out RR1.out) (two_one _ _) (by unfold maxLen; simp; omega) (by simp; omega) HBA.out.size ?_; intro v3 wa3 hown3 hgrowa3 _ _; have HBC := Lib.hid (HBA.out.grown hgrowa3 HBA.out.size (fun q hq => (World.ownsRow.lt HO.out q hq).1)); have HOC := Lib.hid (Vecs.snoc (l := [] ++ (l.drop 1).take N) rfl hown3); clear hown3 hgrowa3) | (refine wpList_append_own_at _ rfl _ _ 23 rfl w3.heap.size 27 i0 (.agg #[.int .i64 (0), .int .i64 (0)]) 2 16 Tryd.underlying23 hi hz0 hz1 hz2 rfl (by decide) _ _ _ rfl (HO.out.below (by go_grown)) _ 1 1 [.int .i64 X, .int .i64 Y] rfl rfl (two_cells (by simp) (by simp)) (two_one _ _) (by unfold maxLen; simp; omega) (by simp; omega) (HBA.out.alloc HBA.out.size _).size ?_; intro v3 wa3 hown3 hgrowa3 _ _; have HBC := Lib.hid ((HBA.out.alloc HBA.out.size _).grown hgrowa3 (HBA.out.alloc HBA.out.size _).size (fun q hq => (World.ownsRow.lt HO.out q hq).1)); have HOC := Lib.hid (Vecs.snoc (l := [] ++ (l.drop 1).take N) rfl hown3); clear hown3 hgrowa3))
          refine hK _ _ ?_
          clear hK K
          refine wpAny_seq 9 rfl (by kernel_rfl) ?_
          simp only [List.drop_succ_cons, List.drop_zero]
        rotate_left 1
        focus
          go_simp
          refine hK _ _ ?_
          clear hK K
          refine wpAny_ready (rs := [3]) (by kernel_rfl) (by simp) (AllReady.cons rfl (fun K hK => ?_) (AllReady.nil))
          (refine step_list (by rintro ⟨_, _, h⟩; cases h.1) (by kernel_rfl) ?_; first | (refine wpList_append_own_at _ rfl _ _ 23 rfl w3.heap.size 27 i0 (.agg #[.int .i64 (0), .int .i64 (0)]) 2 16 Tryd.underlying23 hi hz0 hz1 hz2 rfl (by decide) (.slice (some ⟨w3.heap.size, 0, none⟩) 0 0) _ _ rfl HO1.out _ _ _ _ rfl (piece_len HT1.out) (piece_cells (HCl.out _ HB1.out) HT1.out) (piece_one _) (by unfold maxLen; simp; omega) (by simp; omega) HB1.out.size ?_; intro v2 wa2 hown2 hgrowa2 _ _; have HBA := Lib.hid (HB1.out.grown hgrowa2 HB1.out.size (fun q hq => (World.ownsRow.lt HO1.out q hq).1)); have HO := Lib.hid (Vecs.join (l := []) hown2 (by have := HfL.out; simp <;> omega)); have b0 := (HBA.out.cell (p := ⟨fb, fo, none⟩) hrb).trans c0; have b1 := (HBA.out.cell (p := ⟨fb, fo + 1, none⟩) hrb).trans c1; have bl := Nat.lt_of_lt_of_le hrb HBA.out.size; clear hown2 hgrowa2) | (refine wpList_append_own_at _ rfl _ _ 23 rfl w3.heap.size 27 i0 (.agg #[.int .i64 (0), .int .i64 (0)]) 2 16 Tryd.underlying23 hi hz0 hz1 hz2 rfl (by decide) (.slice (some ⟨w3.heap.size + 1, 0, none⟩) 0 0) _ _ rfl HO3.out _ _ _ _ rfl (piece_len HT1.out) (piece_cells (HCl.out _ HB3.out) HT1.out) (piece_one _) (by unfold maxLen; simp; omega) (by simp; omega) HB3.out.size ?_; intro v2 wa2 hown2 hgrowa2 _ _; have HBA := Lib.hid (HB3.out.grown hgrowa2 HB3.out.size (fun q hq => (World.ownsRow.lt HO3.out q hq).1)); have HO := Lib.hid (Vecs.join (l := []) hown2 (by have := HfL.out; simp <;> omega)); have rr : wa2.heap[w3.heap.size]? = ((w3.drew.alloc (.cells #[.int .i64 X, .int .i64 Y] 27)).alloc (.cells #[] 27)).heap[w3.heap.size]? := hgrowa2.block _ (by simp <;> omega) (by simp [Value.ownBlock]); have RR0 : Hid (wa2.cell? ⟨w3.heap.size, 0, none⟩ = some (.int .i64 X)) := (cell_same rr 0).trans KR0.out; have RR1 : Hid (wa2.cell? ⟨w3.heap.size, 1, none⟩ = some (.int .i64 Y)) := (cell_same rr 1).trans KR1.out; clear rr; clear hown2 hgrowa2) | (refine wpList_append_own_at _ rfl _ _ 23 rfl w3.heap.size 27 i0 (.agg #[.int .i64 (0), .int .i64 (0)]) 2 16 Tryd.underlying23 hi hz0 hz1 hz2 rfl (by decide) (.slice (some ⟨w3.heap.size, 0, none⟩) 0 0) _ _ rfl HO2.out _ _ _ _ rfl (piece_len HT1.out) (piece_cells (HCl.out _ HB2.out) HT1.out) (piece_one _) (by unfold maxLen; simp; omega) (by simp; omega) HB2.out.size ?_; intro v2 wa2 hown2 hgrowa2 _ _; have HBA := Lib.hid (HB2.out.grown hgrowa2 HB2.out.size (fun q hq => (World.ownsRow.lt HO2.out q hq).1)); have HO := Lib.hid (Vecs.join (l := []) hown2 (by have := HfL.out; simp <;> omega)); have rr : wa2.heap[w3.heap.size + 1]? = ((w3.drew.alloc (.cells #[] 27)).alloc (.cells #[.int .i64 X, .int .i64 Y] 27)).heap[w3.heap.size + 1]? := hgrowa2.block _ (by simp <;> omega) (by simp [Value.ownBlock]); have RR0 : Hid (wa2.cell? ⟨w3.heap.size + 1, 0, none⟩ = some (.int .i64 X)) := (cell_same rr 0).trans KE0.out; have RR1 : Hid (wa2.cell? ⟨w3.heap.size + 1, 1, none⟩ = some (.int .i64 Y)) := (cell_same rr 1).trans KE1.out; clear rr; clear hown2 hgrowa2))
          refine hK _ _ ?_
          clear hK K
          refine wpAny_ready (rs := [8]) (by kernel_rfl) (by simp) (AllReady.cons rfl (fun K hK => ?_) (AllReady.nil))
          (refine step_list (by rintro ⟨_, _, h⟩; cases h.1) (by kernel_rfl) ?_; first | (refine wpList_append_own_at _ rfl _ _ 23 rfl w3.heap.size 27 i0 (.agg #[.int .i64 (0), .int .i64 (0)]) 2 16 Tryd.underlying23 hi hz0 hz1 hz2 rfl (by decide) _ _ _ rfl HO.out _ 1 1 [.int .i64 X, .int .i64 Y] rfl rfl (two_cells RR0.out RR1.out) (two_one _ _) (by unfold maxLen; simp; omega) (by simp; omega) HBA.out.size ?_; intro v3 wa3 hown3 hgrowa3 _ _; have HBC := Lib.hid (HBA.out.grown hgrowa3 HBA.out.size (fun q hq => (World.ownsRow.lt HO.out q hq).1)); have HOC := Lib.hid (Vecs.snoc (l := [] ++ (l.drop 1).take N) rfl hown3); clear hown3 hgrowa3) | (refine wpList_append_own_at _ rfl _ _ 23 rfl w3.heap.size 27 i0 (.agg #[.int .i64 (0), .int .i64 (0)]) 2 16 Tryd.underlying23 hi hz0 hz1 hz2 rfl (by decide) _ _ _ rfl (HO.out.below (by go_grown)) _ 1 1 [.int .i64 X, .int .i64 Y] rfl rfl (two_cells (by simp) (by simp)) (two_one _ _) (by unfold maxLen; simp; omega) (by simp; omega) (HBA.out.alloc HBA.out.size _).size ?_; intro v3 wa3 hown3 hgrowa3 _ _; have HBC := Lib.hid ((HBA.out.alloc HBA.out.size _).grown hgrowa3 (HBA.out.alloc HBA.out.size _).size (fun q hq => (World.ownsRow.lt HO.out q hq).1)); have HOC := Lib.hid (Vecs.snoc (l := [] ++ (l.drop 1).take N) rfl hown3); clear hown3 hgrowa3))
          refine hK _ _ ?_
          clear hK K
          refine wpAny_seq 9 rfl (by kernel_rfl) ?_
          simp only [List.drop_succ_cons, List.drop_zero]
    rotate_left 3
    focus
      go_simp
      refine hK _ _ ?_
      clear hK K
      refine wpAny_ready (rs := [0, 7]) (by kernel_rfl) (by simp) (AllReady.cons rfl (fun K hK => ?_) (AllReady.cons rfl (fun K hK => ?_) (AllReady.nil)))
      focus
        go_simp
        refine hK _ _ ?_
        clear hK K
        refine wpAny_ready (rs := [3, 7]) (by kernel_rfl) (by simp) (AllReady.cons rfl (fun K hK => ?_) (AllReady.cons rfl (fun K hK => ?_) (AllReady.nil)))
        focus
          (refine step_list (by rintro ⟨_, _, h⟩; cases h.1) (by kernel_rfl) ?_; first | (refine wpList_append_own_at _ rfl _ _ 23 rfl w3.heap.size 27 i0 (.agg #[.int .i64 (0), .int .i64 (0)]) 2 16 Tryd.underlying23 hi hz0 hz1 hz2 rfl (by decide) (.slice (some ⟨w3.heap.size, 0, none⟩) 0 0) _ _ rfl HO1.out _ _ _ _ rfl (piece_len HT1.out) (piece_cells (HCl.out _ HB1.out) HT1.out) (piece_one _) (by unfold maxLen; simp; omega) (by simp; omega) HB1.out.size ?_; intro v2 wa2 hown2 hgrowa2 _ _; have HBA := Lib.hid (HB1.out.grown hgrowa2 HB1.out.size (fun q hq => (World.ownsRow.lt HO1.out q hq).1)); have HO := Lib.hid (Vecs.join (l := []) hown2 (by have := HfL.out; simp <;> omega)); have b0 := (HBA.out.cell (p := ⟨fb, fo, none⟩) hrb).trans c0; have b1 := (HBA.out.cell (p := ⟨fb, fo + 1, none⟩) hrb).trans c1; have bl := Nat.lt_of_lt_of_le hrb HBA.out.size; clear hown2 hgrowa2) | (refine wpList_append_own_at _ rfl _ _ 23 rfl w3.heap.size 27 i0 (.agg #[.int .i64 (0), .int .i64 (0)]) 2 16 Tryd.underlying23 hi hz0 hz1 hz2 rfl (by decide) (.slice (some ⟨w3.heap.size + 1, 0, none⟩) 0 0) _ _ rfl HO3.out _ _ _ _ rfl (piece_len HT1.out) (piece_cells (HCl.out _ HB3.out) HT1.out) (piece_one _) (by unfold maxLen; simp; omega) (by simp; omega) HB3.out.size ?_; intro v2 wa2 hown2 hgrowa2 _ _; have HBA := Lib.hid (HB3.out.grown hgrowa2 HB3.out.size (fun q hq => (World.ownsRow.lt HO3.out q hq).1)); have HO := Lib.hid (Vecs.join (l := []) hown2 (by have := HfL.out; simp <;> omega)); have rr : wa2.heap[w3.heap.size]? = ((w3.drew.alloc (.cells #[.int .i64 X, .int .i64 Y] 27)).alloc (.cells #[] 27)).heap[w3.heap.size]? := hgrowa2.block _ (by simp <;> omega) (by simp [Value.ownBlock]); have RR0 : Hid (wa2.cell? ⟨w3.heap.size, 0, none⟩ = some (.int .i64 X)) := (cell_same rr 0).trans KR0.out; have RR1 : Hid (wa2.cell? ⟨w3.heap.size, 1, none⟩ = some (.int .i64 Y)) := (cell_same rr 1).trans KR1.out; clear rr; clear hown2 hgrowa2) | (refine wpList_append_own_at _ rfl _ _ 23 rfl w3.heap.size 27 i0 (.agg #[.int .i64 (0), .int .i64 (0)]) 2 16 Tryd.underlying23 hi hz0 hz1 hz2 rfl (by decide) (.slice (some ⟨w3.heap.size, 0, none⟩) 0 0) _ _ rfl HO2.out _ _ _ _ rfl (piece_len HT1.out) (piece_cells (HCl.out _ HB2.out) HT1.out) (piece_one _) (by unfold maxLen; simp; omega) (by simp; omega) HB2.out.size ?_; intro v2 wa2 hown2 hgrowa2 _ _; have HBA := Lib.hid (HB2.out.grown hgrowa2 HB2.out.size (fun q hq => (World.ownsRow.lt HO2.out q hq).1)); have HO := Lib.hid (Vecs.join (l := []) hown2 (by have := HfL.out; simp <;> omega)); have rr : wa2.heap[w3.heap.size + 1]? = ((w3.drew.alloc (.cells #[] 27)).alloc (.cells #[.int .i64 X, .int .i64 Y] 27)).heap[w3.heap.size + 1]? := hgrowa2.block _ (by simp <;> omega) (by simp [Value.ownBlock]); have RR0 : Hid (wa2.cell? ⟨w3.heap.size + 1, 0, none⟩ = some (.int .i64 X)) := (cell_same rr 0).trans KE0.out; have RR1 : Hid (wa2.cell? ⟨w3.heap.size + 1, 1, none⟩ = some (.int .i64 Y)) := (cell_same rr 1).trans KE1.out; clear rr; clear hown2 hgrowa2))
          refine hK _ _ ?_
          clear hK K
          refine wpAny_ready (rs := [7]) (by kernel_rfl) (by simp) (AllReady.cons rfl (fun K hK => ?_) (AllReady.nil))
          go_simp
          refine hK _ _ ?_
          clear hK K
          refine wpAny_ready (rs := [8]) (by kernel_rfl) (by simp) (AllReady.cons rfl (fun K hK => ?_) (AllReady.nil))
          (refine step_list (by rintro ⟨_, _, h⟩; cases h.1) (by kernel_rfl) ?_; first | (refine wpList_append_own_at _ rfl _ _ 23 rfl w3.heap.size 27 i0 (.agg #[.int .i64 (0), .int .i64 (0)]) 2 16 Tryd.underlying23 hi hz0 hz1 hz2 rfl (by decide) _ _ _ rfl HO.out _ 1 1 [.int .i64 X, .int .i64 Y] rfl rfl (two_cells RR0.out RR1.out) (two_one _ _) (by unfold maxLen; simp; omega) (by simp; omega) HBA.out.size ?_; intro v3 wa3 hown3 hgrowa3 _ _; have HBC := Lib.hid (HBA.out.grown hgrowa3 HBA.out.size (fun q hq => (World.ownsRow.lt HO.out q hq).1)); have HOC := Lib.hid (Vecs.snoc (l := [] ++ (l.drop 1).take N) rfl hown3); clear hown3 hgrowa3) | (refine wpList_append_own_at _ rfl _ _ 23 rfl w3.heap.size 27 i0 (.agg #[.int .i64 (0), .int .i64 (0)]) 2 16 Tryd.underlying23 hi hz0 hz1 hz2 rfl (by decide) _ _ _ rfl (HO.out.below (by go_grown)) _ 1 1 [.int .i64 X, .int .i64 Y] rfl rfl (two_cells (by simp) (by simp)) (two_one _ _) (by unfold maxLen; simp; omega) (by simp; omega) (HBA.out.alloc HBA.out.size _).size ?_; intro v3 wa3 hown3 hgrowa3 _ _; have HBC := Lib.hid ((HBA.out.alloc HBA.out.size _).grown hgrowa3 (HBA.out.alloc HBA.out.size _).size (fun q hq => (World.ownsRow.lt HO.out q hq).1)); have HOC := Lib.hid (Vecs.snoc (l := [] ++ (l.drop 1).take N) rfl hown3); clear hown3 hgrowa3))
          refine hK _ _ ?_
          clear hK K
          refine wpAny_seq 9 rfl (by kernel_rfl) ?_
          simp only [List.drop_succ_cons, List.drop_zero]
        rotate_left 1
        focus
          go_simp
          refine hK _ _ ?_
          clear hK K
          refine wpAny_ready (rs := [3]) (by kernel_rfl) (by simp) (AllReady.cons rfl (fun K hK => ?_) (AllReady.nil))
          (refine step_list (by rintro ⟨_, _, h⟩; cases h.1) (by kernel_rfl) ?_; first | (refine wpList_append_own_at _ rfl _ _ 23 rfl w3.heap.size 27 i0 (.agg #[.int .i64 (0), .int .i64 (0)]) 2 16 Tryd.underlying23 hi hz0 hz1 hz2 rfl (by decide) (.slice (some ⟨w3.heap.size, 0, none⟩) 0 0) _ _ rfl HO1.out _ _ _ _ rfl (piece_len HT1.out) (piece_cells (HCl.out _ HB1.out) HT1.out) (piece_one _) (by unfold maxLen; simp; omega) (by simp; omega) HB1.out.size ?_; intro v2 wa2 hown2 hgrowa2 _ _; have HBA := Lib.hid (HB1.out.grown hgrowa2 HB1.out.size (fun q hq => (World.ownsRow.lt HO1.out q hq).1)); have HO := Lib.hid (Vecs.join (l := []) hown2 (by have := HfL.out; simp <;> omega)); have b0 := (HBA.out.cell (p := ⟨fb, fo, none⟩) hrb).trans c0; have b1 := (HBA.out.cell (p := ⟨fb, fo + 1, none⟩) hrb).trans c1; have bl := Nat.lt_of_lt_of_le hrb HBA.out.size; clear hown2 hgrowa2) | (refine wpList_append_own_at _ rfl _ _ 23 rfl w3.heap.size 27 i0 (.agg #[.int .i64 (0), .int .i64 (0)]) 2 16 Tryd.underlying23 hi hz0 hz1 hz2 rfl (by decide) (.slice (some ⟨w3.heap.size + 1, 0, none⟩) 0 0) _ _ rfl HO3.out _ _ _ _ rfl (piece_len HT1.out) (piece_cells (HCl.out _ HB3.out) HT1.out) (piece_one _) (by unfold maxLen; simp; omega) (by simp; omega) HB3.out.size ?_; intro v2 wa2 hown2 hgrowa2 _ _; have HBA := Lib.hid (HB3.out.grown hgrowa2 HB3.out.size (fun q hq => (World.ownsRow.lt HO3.out q hq).1)); have HO := Lib.hid (Vecs.join (l := []) hown2 (by have := HfL.out; simp <;> omega)); have rr : wa2.heap[w3.heap.size]? = ((w3.drew.alloc (.cells #[.int .i64 X, .int .i64 Y] 27)).alloc (.cells #[] 27)).heap[w3.heap.size]? := hgrowa2.block _ (by simp <;> omega) (by simp [Value.ownBlock]); have RR0 : Hid (wa2.cell? ⟨w3.heap.size, 0, none⟩ = some (.int .i64 X)) := (cell_same rr 0).trans KR0.out; have RR1 : Hid (wa2.cell? ⟨w3.heap.size, 1, none⟩ = some (.int .i64 Y)) := (cell_same rr 1).trans KR1.out; clear rr; clear hown2 hgrowa2) | (refine wpList_append_own_at _ rfl _ _ 23 rfl w3.heap.size 27 i0 (.agg #[.int .i64 (0), .int .i64 (0)]) 2 16 Tryd.underlying23 hi hz0 hz1 hz2 rfl (by decide) (.slice (some ⟨w3.heap.size, 0, none⟩) 0 0) _ _ rfl HO2.out _ _ _ _ rfl (piece_len HT1.out) (piece_cells (HCl.out _ HB2.out) HT1.out) (piece_one _) (by unfold maxLen; simp; omega) (by simp; omega) HB2.out.size ?_; intro v2 wa2 hown2 hgrowa2 _ _; have HBA := Lib.hid (HB2.out.grown hgrowa2 HB2.out.size (fun q hq => (World.ownsRow.lt HO2.out q hq).1)); have HO := Lib.hid (Vecs.join (l := []) hown2 (by have := HfL.out; simp <;> omega)); have rr : wa2.heap[w3.heap.size + 1]? = ((w3.drew.alloc (.cells #[] 27)).alloc (.cells #[.int .i64 X, .int .i64 Y] 27)).heap[w3.heap.size + 1]? := hgrowa2.block _ (by simp <;> omega) (by simp [Value.ownBlock]); have RR0 : Hid (wa2.cell? ⟨w3.heap.size + 1, 0, none⟩ = some (.int .i64 X)) := (cell_same rr 0).trans KE0.out; have RR1 : Hid (wa2.cell? ⟨w3.heap.size + 1, 1, none⟩ = some (.int .i64 Y)) := (cell_same rr 1).trans KE1.out; clear rr; clear hown2 hgrowa2))
          refine hK _ _ ?_
          clear hK K
          refine wpAny_ready (rs := [8]) (by kernel_rfl) (by simp) (AllReady.cons rfl (fun K hK => ?_) (AllReady.nil))
          (refine step_list (by rintro ⟨_, _, h⟩; cases h.1) (by kernel_rfl) ?_; first | (refine wpList_append_own_at _ rfl _ _ 23 rfl w3.heap.size 27 i0 (.agg #[.int .i64 (0), .int .i64 (0)]) 2 16 Tryd.underlying23 hi hz0 hz1 hz2 rfl (by decide) _ _ _ rfl HO.out _ 1 1 [.int .i64 X, .int .i64 Y] rfl rfl (two_cells RR0.out RR1.out) (two_one _ _) (by unfold maxLen; simp; omega) (by simp; omega) HBA.out.size ?_; intro v3 wa3 hown3 hgrowa3 _ _; have HBC := Lib.hid (HBA.out.grown hgrowa3 HBA.out.size (fun q hq => (World.ownsRow.lt HO.out q hq).1)); have HOC := Lib.hid (Vecs.snoc (l := [] ++ (l.drop 1).take N) rfl hown3); clear hown3 hgrowa3) | (refine wpList_append_own_at _ rfl _ _ 23 rfl w3.heap.size 27 i0 (.agg #[.int .i64 (0), .int .i64 (0)]) 2 16 Tryd.underlying23 hi hz0 hz1 hz2 rfl (by decide) _ _ _ rfl (HO.out.below (by go_grown)) _ 1 1 [.int .i64 X, .int .i64 Y] rfl rfl (two_cells (by simp) (by simp)) (two_one _ _) (by unfold maxLen; simp; omega) (by simp; omega) (HBA.out.alloc HBA.out.size _).size ?_; intro v3 wa3 hown3 hgrowa3 _ _; have HBC := Lib.hid ((HBA.out.alloc HBA.out.size _).grown hgrowa3 (HBA.out.alloc HBA.out.size _).size (fun q hq => (World.ownsRow.lt HO.out q hq).1)); have HOC := Lib.hid (Vecs.snoc (l := [] ++ (l.drop 1).take N) rfl hown3); clear hown3 hgrowa3))
          refine hK _ _ ?_
          clear hK K
          refine wpAny_seq 9 rfl (by kernel_rfl) ?_
          simp only [List.drop_succ_cons, List.drop_zero]
      rotate_left 2
      focus
        go_simp
        refine hK _ _ ?_
        clear hK K
        refine wpAny_ready (rs := [0]) (by kernel_rfl) (by simp) (AllReady.cons rfl (fun K hK => ?_) (AllReady.nil))
        go_simp
        refine hK _ _ ?_
        clear hK K
        refine wpAny_ready (rs := [3]) (by kernel_rfl) (by simp) (AllReady.cons rfl (fun K hK => ?_) (AllReady.nil))
        (refine step_list (by rintro ⟨_, _, h⟩; cases h.1) (by kernel_rfl) ?_; first | (refine wpList_append_own_at _ rfl _ _ 23 rfl w3.heap.size 27 i0 (.agg #[.int .i64 (0), .int .i64 (0)]) 2 16 Tryd.underlying23 hi hz0 hz1 hz2 rfl (by decide) (.slice (some ⟨w3.heap.size, 0, none⟩) 0 0) _ _ rfl HO1.out _ _ _ _ rfl (piece_len HT1.out) (piece_cells (HCl.out _ HB1.out) HT1.out) (piece_one _) (by unfold maxLen; simp; omega) (by simp; omega) HB1.out.size ?_; intro v2 wa2 hown2 hgrowa2 _ _; have HBA := Lib.hid (HB1.out.grown hgrowa2 HB1.out.size (fun q hq => (World.ownsRow.lt HO1.out q hq).1)); have HO := Lib.hid (Vecs.join (l := []) hown2 (by have := HfL.out; simp <;> omega)); have b0 := (HBA.out.cell (p := ⟨fb, fo, none⟩) hrb).trans c0; have b1 := (HBA.out.cell (p := ⟨fb, fo + 1, none⟩) hrb).trans c1; have bl := Nat.lt_of_lt_of_le hrb HBA.out.size; clear hown2 hgrowa2) | (refine wpList_append_own_at _ rfl _ _ 23 rfl w3.heap.size 27 i0 (.agg #[.int .i64 (0), .int .i64 (0)]) 2 16 Tryd.underlying23 hi hz0 hz1 hz2 rfl (by decide) (.slice (some ⟨w3.heap.size + 1, 0, none⟩) 0 0) _ _ rfl HO3.out _ _ _ _ rfl (piece_len HT1.out) (piece_cells (HCl.out _ HB3.out) HT1.out) (piece_one _) (by unfold maxLen; simp; omega) (by simp; omega) HB3.out.size ?_; intro v2 wa2 hown2 hgrowa2 _ _; have HBA := Lib.hid (HB3.out.grown hgrowa2 HB3.out.size (fun q hq => (World.ownsRow.lt HO3.out q hq).1)); have HO := Lib.hid (Vecs.join (l := []) hown2 (by have := HfL.out; simp <;> omega)); have rr : wa2.heap[w3.heap.size]? = ((w3.drew.alloc (.cells #[.int .i64 X, .int .i64 Y] 27)).alloc (.cells #[] 27)).heap[w3.heap.size]? := hgrowa2.block _ (by simp <;> omega) (by simp [Value.ownBlock]); have RR0 : Hid (wa2.cell? ⟨w3.heap.size, 0, none⟩ = some (.int .i64 X)) := (cell_same rr 0).trans KR0.out; have RR1 : Hid (wa2.cell? ⟨w3.heap.size, 1, none⟩ = some (.int .i64 Y)) := (cell_same rr 1).trans KR1.out; clear rr; clear hown2 hgrowa2) | (refine wpList_append_own_at _ rfl _ _ 23 rfl w3.heap.size 27 i0 (.agg #[.int .i64 (0), .int .i64 (0)]) 2 16 Tryd.underlying23 hi hz0 hz1 hz2 rfl (by decide) (.slice (some ⟨w3.heap.size, 0, none⟩) 0 0) _ _ rfl HO2.out _ _ _ _ rfl (piece_len HT1.out) (piece_cells (HCl.out _ HB2.out) HT1.out) (piece_one _) (by unfold maxLen; simp; omega) (by simp; omega) HB2.out.size ?_; intro v2 wa2 hown2 hgrowa2 _ _; have HBA := Lib.hid (HB2.out.grown hgrowa2 HB2.out.size (fun q hq => (World.ownsRow.lt HO2.out q hq).1)); have HO := Lib.hid (Vecs.join (l := []) hown2 (by have := HfL.out; simp <;> omega)); have rr : wa2.heap[w3.heap.size + 1]? = ((w3.drew.alloc (.cells #[] 27)).alloc (.cells #[.int .i64 X, .int .i64 Y] 27)).heap[w3.heap.size + 1]? := hgrowa2.block _ (by simp <;> omega) (by simp [Value.ownBlock]); have RR0 : Hid (wa2.cell? ⟨w3.heap.size + 1, 0, none⟩ = some (.int .i64 X)) := (cell_same rr 0).trans KE0.out; have RR1 : Hid (wa2.cell? ⟨w3.heap.size + 1, 1, none⟩ = some (.int .i64 Y)) := (cell_same rr 1).trans KE1.out; clear rr; clear hown2 hgrowa2))
        refine hK _ _ ?_
        clear hK K
        refine wpAny_ready (rs := [8]) (by kernel_rfl) (by simp) (AllReady.cons rfl (fun K hK => ?_) (AllReady.nil))
        (refine step_list (by rintro ⟨_, _, h⟩; cases h.1) (by kernel_rfl) ?_; first | (refine wpList_append_own_at _ rfl _ _ 23 rfl w3.heap.size 27 i0 (.agg #[.int .i64 (0), .int .i64 (0)]) 2 16 Tryd.underlying23 hi hz0 hz1 hz2 rfl (by decide) _ _ _ rfl HO.out _ 1 1 [.int .i64 X, .int .i64 Y] rfl rfl (two_cells RR0.out RR1.out) (two_one _ _) (by unfold maxLen; simp; omega) (by simp; omega) HBA.out.size ?_; intro v3 wa3 hown3 hgrowa3 _ _; have HBC := Lib.hid (HBA.out.grown hgrowa3 HBA.out.size (fun q hq => (World.ownsRow.lt HO.out q hq).1)); have HOC := Lib.hid (Vecs.snoc (l := [] ++ (l.drop 1).take N) rfl hown3); clear hown3 hgrowa3) | (refine wpList_append_own_at _ rfl _ _ 23 rfl w3.heap.size 27 i0 (.agg #[.int .i64 (0), .int .i64 (0)]) 2 16 Tryd.underlying23 hi hz0 hz1 hz2 rfl (by decide) _ _ _ rfl (HO.out.below (by go_grown)) _ 1 1 [.int .i64 X, .int .i64 Y] rfl rfl (two_cells (by simp) (by simp)) (two_one _ _) (by unfold maxLen; simp; omega) (by simp; omega) (HBA.out.alloc HBA.out.size _).size ?_; intro v3 wa3 hown3 hgrowa3 _ _; have HBC := Lib.hid ((HBA.out.alloc HBA.out.size _).grown hgrowa3 (HBA.out.alloc HBA.out.size _).size (fun q hq => (World.ownsRow.lt HO.out q hq).1)); have HOC := Lib.hid (Vecs.snoc (l := [] ++ (l.drop 1).take N) rfl hown3); clear hown3 hgrowa3))
        refine hK _ _ ?_
        clear hK K
        refine wpAny_seq 9 rfl (by kernel_rfl) ?_
        simp only [List.drop_succ_cons, List.drop_zero]
    all_goals
      obtain ⟨w4, hw4⟩ : ∃ w4, w4 = wa3 := ⟨_, rfl⟩
      subst hw4
      rw [HR.out] at HOC
      have hB4 := HBC.out
      replace Hf := Lib.hid (Hf.out.below hB4)
      replace HG := Lib.hid (HG.out.below hB4)
      replace HB := Lib.hid (belowTo HB.out hB4)
      have Ho := Lib.hid (HOC.out.reads (by have := HRl.out; omega))
      clear hB4 HOC HBC HO HBA HO1 HO2 HO3 HB1 HB2 HB3 KE0 KE1 KR0 KR1 HR
      go_wp2_with fail
      refine Calls.mono (C3.out _ _ (Hf.out.below (by go_grown)) (HG.out.below (by go_grown))) ?_
      rintro e w5 ⟨v5, rfl, hI5, hb5⟩
      have hB5 := belowTo (a := w4) (by go_grown) hb5
      replace Hf := Lib.hid (Hf.out.below hB5)
      replace Ho := Lib.hid (Ho.out.below hB5)
      replace HG := Lib.hid (HG.out.below hB5)
      replace HB := Lib.hid (belowTo HB.out hB5)
      clear hb5 hB5
      have Hx := Lib.hid (Vecs.reads hI5 (by have := HLt.out; omega))
      clear hI5
      go_wp2_with fail
      refine Calls.mono (C4.out _ _ (Ho.out.below (by go_grown)) (HG.out.below (by go_grown))) ?_
      rintro e w6 ⟨v6, rfl, hI6, hb6⟩
      have hB6 := belowTo (a := w5) (by go_grown) hb6
      replace Hf := Lib.hid (Hf.out.below hB6)
      replace Ho := Lib.hid (Ho.out.below hB6)
      replace Hx := Lib.hid (Hx.out.below hB6)
      replace HG := Lib.hid (HG.out.below hB6)
      replace HB := Lib.hid (belowTo HB.out hB6)
      clear hb6 hB6
      have Hy := Lib.hid (Vecs.reads hI6 (by have := HLt.out; omega))
      clear hI6
      go_wp2_with fail
      refine Calls.mono (sameVecs_eq _ _ _ _ (Hx.out.below (by go_grown)) (Hy.out.below (by go_grown))) ?_
      rintro e w7 ⟨rfl, hb7⟩
      have hB7 := belowTo (a := w6) (by go_grown) hb7
      replace Hf := Lib.hid (Hf.out.below hB7)
      replace Ho := Lib.hid (Ho.out.below hB7)
      replace Hx := Lib.hid (Hx.out.below hB7)
      replace Hy := Lib.hid (Hy.out.below hB7)
      replace HG := Lib.hid (HG.out.below hB7)
      replace HB := Lib.hid (belowTo HB.out hB7)
      clear hb7 hB7
      go_wp2_with fail
      refine Calls.mono (C5.out _ _ (Ho.out.below (by go_grown)) (HG.out.below (by go_grown))) ?_
      rintro e w8 ⟨rfl, hb8⟩
      have hB8 := belowTo (a := w7) (by go_grown) hb8
      replace Hf := Lib.hid (Hf.out.below hB8)
      replace Ho := Lib.hid (Ho.out.below hB8)
      replace Hx := Lib.hid (Hx.out.below hB8)
      replace Hy := Lib.hid (Hy.out.below hB8)
      replace HG := Lib.hid (HG.out.below hB8)
      replace HB := Lib.hid (belowTo HB.out hB8)
      clear hb8 hB8
      go_wp2
      go_returns
      exact ⟨rfl, HB.out⟩
end Go.Proofs.YtdlofnkimikaiaaDoor
