/- FnPolygonHas: the walk. -/
import Derived.Test.YtgaeibibeekclaaDoorK9
import Derived.Test.YtgaeibibeekclaaDoorK6
import Derived.Test.YtgaeibibeekclaaDoorK0
import Derived.Test.YtgaeibibeekclaaDoorJ2
import Derived.Test.YtgaeibibeekclaaDoorBa
import Derived.Test.YtgaeibibeekclaaDoorB9
import Derived.Test.YtgaeibibeekclaaDoorRg
import Derived.Test.YtgaeibibeekclaaDoorKb
import Derived.Test.YtgaeibibeekclaaDoorK1
import Derived.Test.YtgaeibibeekclaaDoorK4
import Derived.Test.YtgaeibibeekclaaDoorYj
namespace Go.Proofs.YtgaeibibeekclaaDoor
open Go.RowKit

set_option maxRecDepth 100000 in
set_option maxHeartbeats 16000000 in
theorem fnPolygonHas_any (a : Option Addr) (len cap : Nat) (w : World) (h : Bytes w a len cap) (hg : EtOk w) :
    Calls Tryd.prog 7 #[.slice a len cap] w fun e w' => e = .returned (.bool true) ∧ Below w.heap.size w w' := by
  by_cases hlen : len ≤ 1048576
  case neg =>
    have j1 : (1048576 : Int) < (len : Int) := by omega
    clear h hg
    go_enter Tryd.func7, Tryd.ntmps7
    go_wp2
    go_returns
    exact ⟨rfl, by go_grown⟩
  case pos =>
  have j1 : (len : Int) ≤ 1048576 := by omega
  have HO := Lib.hid (drawPolygonHas_any w a len cap h)
  clear h
  go_enter Tryd.func7, Tryd.ntmps7
  go_wp2_with fail
  refine Calls.mono HO.out ?_
  rintro e w1 ⟨v, l, x, y, rfl, hV, h2, h20, hb1⟩
  have HG := Lib.hid (hg.below hb1)
  have Hf := Lib.hid hV
  have HB : Hid (Below w.heap.size w w1) := hb1
  clear hb1 HO hg hV
  cases hk : (polyB l && (vecB x y && hasPB l (x, y)))
  · have C1 : Hid (∀ (w' : World) (v0 : Value), ReadsVecs w' v0 (l) → EtOk w' → Calls Tryd.prog 13 #[v0, .agg #[.int .i64 (x), .int .i64 (y)]] w' (fun e w'' => e = .returned (.bool (false)) ∧ Below w'.heap.size w' w'')) := fun w' v0 h0 hg' => by
      have h := polygonHas_any v0 l x y w' h0 hg'
      rw [hk] at h
      exact h
    have C2 : Hid (∀ (w' : World) (v0 : Value), ReadsVecs w' v0 (l) → EtOk w' → Calls Tryd.prog 26 #[v0, .agg #[.int .i64 (x), .int .i64 (y)]] w' (fun e w'' => e = .returned (.bool (false)) ∧ Below w'.heap.size w' w'')) := fun w' v0 h0 hg' => by
      have h := specPolygonHas_any v0 l x y w' h0
      rw [hk] at h
      exact h
    clear hk
    go_wp2_with fail
    refine Calls.mono (C1.out _ _ (Hf.out.below (by go_grown)) (HG.out.below (by go_grown))) ?_
    rintro e w2 ⟨rfl, hb2⟩
    have hB2 := belowTo (a := w1) (by go_grown) hb2
    replace Hf := Lib.hid (Hf.out.below hB2)
    have Hm : Hid (BoxAt w2 w1.heap.size [.int .i64 x, .int .i64 y]) := Lib.hid (BoxAt.below (BoxAt.made2 _ (.int .i64 x) (.int .i64 y) _) hb2)
    obtain ⟨mm0, mm1⟩ := Hm.out.two
    have ltm := Hm.out.1
    have nem := Nat.ne_of_lt ltm
    replace HG := Lib.hid (HG.out.below hB2)
    replace HB := Lib.hid (belowTo HB.out hB2)
    clear hb2 hB2
    go_wp2_with fail
    refine Calls.mono (C2.out _ _ (Hf.out.below (by go_grown)) (HG.out.below (by go_grown))) ?_
    rintro e w3 ⟨rfl, hb3⟩
    have hB3 := belowTo (a := w2) (by go_grown) hb3
    replace Hf := Lib.hid (Hf.out.below hB3)
    clear mm0 mm1 ltm nem
    replace Hm := Lib.hid (Hm.out.below hB3)
    obtain ⟨mm0, mm1⟩ := Hm.out.two
    have ltm := Hm.out.1
    have nem := Nat.ne_of_lt ltm
    replace HG := Lib.hid (HG.out.below hB3)
    replace HB := Lib.hid (belowTo HB.out hB3)
    clear hb3 hB3
    go_wp2
    go_returns
    exact ⟨rfl, HB.out⟩
  · have C1 : Hid (∀ (w' : World) (v0 : Value), ReadsVecs w' v0 (l) → EtOk w' → Calls Tryd.prog 13 #[v0, .agg #[.int .i64 (x), .int .i64 (y)]] w' (fun e w'' => e = .returned (.bool (true)) ∧ Below w'.heap.size w' w'')) := fun w' v0 h0 hg' => by
      have h := polygonHas_any v0 l x y w' h0 hg'
      rw [hk] at h
      exact h
    have C2 : Hid (∀ (w' : World) (v0 : Value), ReadsVecs w' v0 (l) → EtOk w' → Calls Tryd.prog 26 #[v0, .agg #[.int .i64 (x), .int .i64 (y)]] w' (fun e w'' => e = .returned (.bool (true)) ∧ Below w'.heap.size w' w'')) := fun w' v0 h0 hg' => by
      have h := specPolygonHas_any v0 l x y w' h0
      rw [hk] at h
      exact h
    rw [Bool.and_eq_true, Bool.and_eq_true] at hk
    obtain ⟨hk, -, ha⟩ := hk
    obtain ⟨q1, q2⟩ := pr_add hk ha
    have C3 : Hid (∀ (w' : World) (v0 : Value), ReadsVecs w' v0 (l ++ [(x, y)]) → EtOk w' → Calls Tryd.prog 21 #[v0] w' (GivesVecsR w' (tidyP l) (true))) := fun w' v0 h0 hg' => by
      have h := polygonOf_any v0 (l ++ [(x, y)]) w' h0 hg'
      rw [q1, q2] at h
      exact h
    have C4 : Hid (∀ (w' : World) (v0 : Value), ReadsVecs w' v0 (l) → EtOk w' → Calls Tryd.prog 22 #[v0] w' (GivesVecsR w' (tidyP l) (true))) := fun w' v0 h0 hg' => by
      have h := polygonTidy_any v0 (l) w' h0 hg'
      rw [hk] at h
      exact h
    have HL : Hid ((tidyP l).length ≤ 1000) := by show _ ≤ _; rw [tidyP_len]; omega
    generalize tidyP l = t at *
    clear hk ha q1 q2
    obtain ⟨i0, hi, hz0, hz1, hz2⟩ := info_parts infoVec
    have HfL := Lib.hid h20
    have HT1 : Hid (0 + l.length ≤ l.length) := by show _ ≤ _; omega
    have HR : Hid ((([] ++ (l.drop 0).take l.length) ++ [(x, y)]) = l ++ [(x, y)]) := by show _ = _; simp
    have HRl : Hid ((l ++ [(x, y)]).length ≤ 1000) := by show _ ≤ _; simp; omega
    go_wp2_with fail
    refine Calls.mono (C1.out _ _ (Hf.out.below (by go_grown)) (HG.out.below (by go_grown))) ?_
    rintro e w2 ⟨rfl, hb2⟩
    have hB2 := belowTo (a := w1) (by go_grown) hb2
    replace Hf := Lib.hid (Hf.out.below hB2)
    have Hm : Hid (BoxAt w2 w1.heap.size [.int .i64 x, .int .i64 y]) := Lib.hid (BoxAt.below (BoxAt.made2 _ (.int .i64 x) (.int .i64 y) _) hb2)
    obtain ⟨mm0, mm1⟩ := Hm.out.two
    have ltm := Hm.out.1
    have nem := Nat.ne_of_lt ltm
    replace HG := Lib.hid (HG.out.below hB2)
    replace HB := Lib.hid (belowTo HB.out hB2)
    clear hb2 hB2
    go_wp2_with fail
    refine Calls.mono (C2.out _ _ (Hf.out.below (by go_grown)) (HG.out.below (by go_grown))) ?_
    rintro e w3 ⟨rfl, hb3⟩
    have hB3 := belowTo (a := w2) (by go_grown) hb3
    replace Hf := Lib.hid (Hf.out.below hB3)
    clear mm0 mm1 ltm nem
    replace Hm := Lib.hid (Hm.out.below hB3)
    obtain ⟨mm0, mm1⟩ := Hm.out.two
    have ltm := Hm.out.1
    have nem := Nat.ne_of_lt ltm
    replace HG := Lib.hid (HG.out.below hB3)
    replace HB := Lib.hid (belowTo HB.out hB3)
    clear hb3 hB3
    obtain ⟨fb, fo, fc, rfl, hfc, -, hfb, hfs⟩ := Hf.out.open (by omega)
    have HCl := Lib.hid hfs
    clear hfs
    have c0 := mm0
    have c1 := mm1
    have hrb := ltm
    clear mm0 mm1 ltm Hm
    have s1 : (1 : Int) ≤ (l.length : Int) := by omega
    have s4 : (0 : Int) < (l.length : Int) := by omega
    have s5 : 0 < l.length := by omega
    have HO1 : Hid (Vecs (w3.drew.alloc (.cells #[] 31)) w3.heap.size (.slice (some ⟨w3.heap.size, 0, none⟩) 0 0) []) := Vecs.empty w3.drew
    have HB1 : Hid (Below w3.heap.size w3 (w3.drew.alloc (.cells #[] 31))) := (by go_grown : Below _ _ _)
    have HO2 : Hid (Vecs ((w3.drew.alloc (.cells #[] 31)).alloc (.cells #[.int .i64 x, .int .i64 y] 31)) w3.heap.size (.slice (some ⟨w3.heap.size, 0, none⟩) 0 0) []) := HO1.out.below (by go_grown)
    have HB2 : Hid (Below w3.heap.size w3 ((w3.drew.alloc (.cells #[] 31)).alloc (.cells #[.int .i64 x, .int .i64 y] 31))) := (by go_grown : Below _ _ _)
    have hO3 := (Vecs.empty (w3.drew.alloc (.cells #[.int .i64 x, .int .i64 y] 31))).lower (base' := w3.heap.size) (by simp)
    simp only [World.size_alloc, World.size_drew] at hO3
    have HO3 : Hid (Vecs ((w3.drew.alloc (.cells #[.int .i64 x, .int .i64 y] 31)).alloc (.cells #[] 31)) w3.heap.size (.slice (some ⟨w3.heap.size + 1, 0, none⟩) 0 0) []) := hO3
    have HB3 : Hid (Below w3.heap.size w3 ((w3.drew.alloc (.cells #[.int .i64 x, .int .i64 y] 31)).alloc (.cells #[] 31))) := (by go_grown : Below _ _ _)
    clear hO3
    have KE0 : Hid (((w3.drew.alloc (.cells #[] 31)).alloc (.cells #[.int .i64 x, .int .i64 y] 31)).cell? ⟨w3.heap.size + 1, 0, none⟩ = some (.int .i64 x)) := by show ((w3.drew.alloc (.cells #[] 31)).alloc (.cells #[.int .i64 x, .int .i64 y] 31)).cell? ⟨w3.heap.size + 1, 0, none⟩ = some (.int .i64 x); rw [World.cell?_alloc_at _ _ _ _ (by simp only [World.size_alloc, World.size_drew])]; rfl
    have KE1 : Hid (((w3.drew.alloc (.cells #[] 31)).alloc (.cells #[.int .i64 x, .int .i64 y] 31)).cell? ⟨w3.heap.size + 1, 1, none⟩ = some (.int .i64 y)) := by show ((w3.drew.alloc (.cells #[] 31)).alloc (.cells #[.int .i64 x, .int .i64 y] 31)).cell? ⟨w3.heap.size + 1, 1, none⟩ = some (.int .i64 y); rw [World.cell?_alloc_at _ _ _ _ (by simp only [World.size_alloc, World.size_drew])]; rfl
    have KR0 : Hid (((w3.drew.alloc (.cells #[.int .i64 x, .int .i64 y] 31)).alloc (.cells #[] 31)).cell? ⟨w3.heap.size, 0, none⟩ = some (.int .i64 x)) := by show ((w3.drew.alloc (.cells #[.int .i64 x, .int .i64 y] 31)).alloc (.cells #[] 31)).cell? ⟨w3.heap.size, 0, none⟩ = some (.int .i64 x); rw [World.cell?_alloc_lt _ _ ⟨_, _, none⟩ (by simp only [World.size_alloc, World.size_drew]; omega), World.cell?_alloc_at _ _ _ _ (by simp only [World.size_drew])]; rfl
    have KR1 : Hid (((w3.drew.alloc (.cells #[.int .i64 x, .int .i64 y] 31)).alloc (.cells #[] 31)).cell? ⟨w3.heap.size, 1, none⟩ = some (.int .i64 y)) := by show ((w3.drew.alloc (.cells #[.int .i64 x, .int .i64 y] 31)).alloc (.cells #[] 31)).cell? ⟨w3.heap.size, 1, none⟩ = some (.int .i64 y); rw [World.cell?_alloc_lt _ _ ⟨_, _, none⟩ (by simp only [World.size_alloc, World.size_drew]; omega), World.cell?_alloc_at _ _ _ _ (by simp only [World.size_drew])]; rfl
    go_wp2
    refine wp_region_any (by kernel_rfl) ?_
    try (change wpAny _ _ _ _ _ _ _ (World.drew _))
    refine wpAny_take (i := 1) (v := ?_) rfl (by kernel_rfl) (by kernel_rfl) (by kernel_rfl) (fun _ _ _ h => h) (Or.inl ⟨by rfl, ?_⟩) ?_
    rotate_left
    focus (intro w0; go_simp; try with_reducible rfl)
    refine wpAny_ready (rs := [0, 3]) (by kernel_rfl) (by simp) (AllReady.cons rfl (fun K hK => ?_) (AllReady.cons rfl (fun K hK => ?_) (AllReady.nil)))
    focus
      go_simp
      refine hK _ _ ?_
      clear hK K
      refine wpAny_ready (rs := [2, 3]) (by kernel_rfl) (by simp) (AllReady.cons rfl (fun K hK => ?_) (AllReady.cons rfl (fun K hK => ?_) (AllReady.nil)))
      focus
        (refine step_list (by rintro ⟨_, _, h⟩; cases h.1) (by kernel_rfl) ?_; first | (refine wpList_append_own_at _ rfl _ _ 23 rfl w3.heap.size 31 i0 (.agg #[.int .i64 (0), .int .i64 (0)]) 2 16 Tryd.underlying23 hi hz0 hz1 hz2 rfl (by decide) (.slice (some ⟨w3.heap.size, 0, none⟩) 0 0) _ _ rfl HO1.out _ _ _ _ rfl (piece_len HT1.out) (piece_cells (HCl.out _ HB1.out) HT1.out) (piece_one _) (by unfold maxLen; simp; omega) (by simp; omega) HB1.out.size ?_; intro v2 wa2 hown2 hgrowa2 _ _; have HBA := Lib.hid (HB1.out.grown hgrowa2 HB1.out.size (fun q hq => (World.ownsRow.lt HO1.out q hq).1)); have HO := Lib.hid (Vecs.join (l := []) hown2 (by have := HfL.out; simp <;> omega)); have b0 := (HBA.out.cell (p := ⟨w1.heap.size, 0, none⟩) hrb).trans c0; have b1 := (HBA.out.cell (p := ⟨w1.heap.size, 1, none⟩) hrb).trans c1; have bl := Nat.lt_of_lt_of_le hrb HBA.out.size; clear hown2 hgrowa2) | (refine wpList_append_own_at _ rfl _ _ 23 rfl w3.heap.size 31 i0 (.agg #[.int .i64 (0), .int .i64 (0)]) 2 16 Tryd.underlying23 hi hz0 hz1 hz2 rfl (by decide) (.slice (some ⟨w3.heap.size + 1, 0, none⟩) 0 0) _ _ rfl HO3.out _ _ _ _ rfl (piece_len HT1.out) (piece_cells (HCl.out _ HB3.out) HT1.out) (piece_one _) (by unfold maxLen; simp; omega) (by simp; omega) HB3.out.size ?_; intro v2 wa2 hown2 hgrowa2 _ _; have HBA := Lib.hid (HB3.out.grown hgrowa2 HB3.out.size (fun q hq => (World.ownsRow.lt HO3.out q hq).1)); have HO := Lib.hid (Vecs.join (l := []) hown2 (by have := HfL.out; simp <;> omega)); have rr : wa2.heap[w3.heap.size]? = ((w3.drew.alloc (.cells #[.int .i64 x, .int .i64 y] 31)).alloc (.cells #[] 31)).heap[w3.heap.size]? := hgrowa2.block _ (by simp <;> omega) (by simp [Value.ownBlock]); have RR0 : Hid (wa2.cell? ⟨w3.heap.size, 0, none⟩ = some (.int .i64 x)) := (cell_same rr 0).trans KR0.out; have RR1 : Hid (wa2.cell? ⟨w3.heap.size, 1, none⟩ = some (.int .i64 y)) := (cell_same rr 1).trans KR1.out; clear rr; clear hown2 hgrowa2) | (refine wpList_append_own_at _ rfl _ _ 23 rfl w3.heap.size 31 i0 (.agg #[.int .i64 (0), .int .i64 (0)]) 2 16 Tryd.underlying23 hi hz0 hz1 hz2 rfl (by decide) (.slice (some ⟨w3.heap.size, 0, none⟩) 0 0) _ _ rfl HO2.out _ _ _ _ rfl (piece_len HT1.out) (piece_cells (HCl.out _ HB2.out) HT1.out) (piece_one _) (by unfold maxLen; simp; omega) (by simp; omega) HB2.out.size ?_; intro v2 wa2 hown2 hgrowa2 _ _; have HBA := Lib.hid (HB2.out.grown hgrowa2 HB2.out.size (fun q hq => (World.ownsRow.lt HO2.out q hq).1)); have HO := Lib.hid (Vecs.join (l := []) hown2 (by have := HfL.out; simp <;> omega)); have rr : wa2.heap[w3.heap.size + 1]? = ((w3.drew.alloc (.cells #[] 31)).alloc (.cells #[.int .i64 x, .int .i64 y] 31)).heap[w3.heap.size + 1]? := hgrowa2.block _ (by simp <;> omega) (by simp [Value.ownBlock]); have RR0 : Hid (wa2.cell? ⟨w3.heap.size + 1, 0, none⟩ = some (.int .i64 x)) := (cell_same rr 0).trans KE0.out; have RR1 : Hid (wa2.cell? ⟨w3.heap.size + 1, 1, none⟩ = some (.int .i64 y)) := (cell_same rr 1).trans KE1.out; clear rr; clear hown2 hgrowa2))
        refine hK _ _ ?_
        clear hK K
        refine wpAny_ready (rs := [3]) (by kernel_rfl) (by simp) (AllReady.cons rfl (fun K hK => ?_) (AllReady.nil))
        go_simp
        refine hK _ _ ?_
        clear hK K
        refine wpAny_ready (rs := [4]) (by kernel_rfl) (by simp) (AllReady.cons rfl (fun K hK => ?_) (AllReady.nil))
        go_simp
        refine hK _ _ ?_
        clear hK K
        refine wpAny_ready (rs := [5]) (by kernel_rfl) (by simp) (AllReady.cons rfl (fun K hK => ?_) (AllReady.nil))
        (refine step_list (by rintro ⟨_, _, h⟩; cases h.1) (by kernel_rfl) ?_; first | (refine wpList_append_own_at _ rfl _ _ 23 rfl w3.heap.size 31 i0 (.agg #[.int .i64 (0), .int .i64 (0)]) 2 16 Tryd.underlying23 hi hz0 hz1 hz2 rfl (by decide) _ _ _ rfl HO.out _ 1 1 [.int .i64 x, .int .i64 y] rfl rfl (two_cells RR0.out RR1.out) (two_one _ _) (by unfold maxLen; simp; omega) (by simp; omega) HBA.out.size ?_; intro v3 wa3 hown3 hgrowa3 _ _; have HBC := Lib.hid (HBA.out.grown hgrowa3 HBA.out.size (fun q hq => (World.ownsRow.lt HO.out q hq).1)); have HOC := Lib.hid (Vecs.snoc (l := [] ++ (l.drop 0).take l.length) rfl hown3); clear hown3 hgrowa3) | (refine wpList_append_own_at _ rfl _ _ 23 rfl w3.heap.size 31 i0 (.agg #[.int .i64 (0), .int .i64 (0)]) 2 16 Tryd.underlying23 hi hz0 hz1 hz2 rfl (by decide) _ _ _ rfl (HO.out.below (by go_grown)) _ 1 1 [.int .i64 x, .int .i64 y] rfl rfl (two_cells (by simp) (by simp)) (two_one _ _) (by unfold maxLen; simp; omega) (by simp; omega) (HBA.out.alloc HBA.out.size _).size ?_; intro v3 wa3 hown3 hgrowa3 _ _; have HBC := Lib.hid ((HBA.out.alloc HBA.out.size _).grown hgrowa3 (HBA.out.alloc HBA.out.size _).size (fun q hq => (World.ownsRow.lt HO.out q hq).1)); have HOC := Lib.hid (Vecs.snoc (l := [] ++ (l.drop 0).take l.length) rfl hown3); clear hown3 hgrowa3))
        refine hK _ _ ?_
        clear hK K
        refine wpAny_ready (rs := [6]) (by kernel_rfl) (by simp) (AllReady.cons rfl (fun K hK => ?_) (AllReady.nil))
        go_simp
        (refine Calls.mono (C3.out _ _ (by rw [← HR.out]; exact HOC.out.reads (by rw [HR.out]; have := HRl.out; omega)) (HG.out.below HBC.out)) ?_; rintro e w4 ⟨v4, rfl, hI4, hb4⟩; have HBD := Lib.hid (belowTo HBC.out hb4); have Hx := Lib.hid (VecsR.reads hI4 (by have := HL.out; omega)); clear hI4 hb4)
        refine hK _ _ ?_
        clear hK K
        refine wpAny_take (i := 7) (v := ?_) rfl (by kernel_rfl) (by kernel_rfl) (by kernel_rfl) (fun _ _ _ h => h) (Or.inl ⟨by rfl, ?_⟩) ?_
        rotate_left
        focus (intro w0; go_simp; try with_reducible rfl)
        refine wpAny_take (i := 8) (v := ?_) rfl (by kernel_rfl) (by kernel_rfl) (by kernel_rfl) (fun _ _ _ h => h) (Or.inl ⟨by rfl, ?_⟩) ?_
        rotate_left
        focus (intro w0; go_simp; try with_reducible rfl)
        refine wpAny_take (i := 10) (v := ?_) rfl (by kernel_rfl) (by kernel_rfl) (by kernel_rfl) (fun _ _ _ h => h) (Or.inl ⟨by rfl, ?_⟩) ?_
        rotate_left
        focus (intro w0; go_simp; try with_reducible rfl)
        refine wpAny_take (i := 9) (v := ?_) rfl (by kernel_rfl) (by kernel_rfl) (by kernel_rfl) (fun _ _ _ h => h) (Or.inl ⟨by rfl, ?_⟩) ?_
        rotate_left
        focus (intro w0; go_simp; try with_reducible rfl)
        refine wpAny_take (i := 11) (v := ?_) rfl (by kernel_rfl) (by kernel_rfl) (by kernel_rfl) (fun _ _ _ h => h) (Or.inl ⟨by rfl, ?_⟩) ?_
        rotate_left
        focus (intro w0; go_simp; try with_reducible rfl)
        refine wpAny_seq 12 rfl (by kernel_rfl) ?_
        simp only [List.drop_succ_cons, List.drop_zero]
      rotate_left 1
      focus
        go_simp
        refine hK _ _ ?_
        clear hK K
        refine wpAny_ready (rs := [2, 4]) (by kernel_rfl) (by simp) (AllReady.cons rfl (fun K hK => ?_) (AllReady.cons rfl (fun K hK => ?_) (AllReady.nil)))
        focus
          (refine step_list (by rintro ⟨_, _, h⟩; cases h.1) (by kernel_rfl) ?_; first | (refine wpList_append_own_at _ rfl _ _ 23 rfl w3.heap.size 31 i0 (.agg #[.int .i64 (0), .int .i64 (0)]) 2 16 Tryd.underlying23 hi hz0 hz1 hz2 rfl (by decide) (.slice (some ⟨w3.heap.size, 0, none⟩) 0 0) _ _ rfl HO1.out _ _ _ _ rfl (piece_len HT1.out) (piece_cells (HCl.out _ HB1.out) HT1.out) (piece_one _) (by unfold maxLen; simp; omega) (by simp; omega) HB1.out.size ?_; intro v2 wa2 hown2 hgrowa2 _ _; have HBA := Lib.hid (HB1.out.grown hgrowa2 HB1.out.size (fun q hq => (World.ownsRow.lt HO1.out q hq).1)); have HO := Lib.hid (Vecs.join (l := []) hown2 (by have := HfL.out; simp <;> omega)); have b0 := (HBA.out.cell (p := ⟨w1.heap.size, 0, none⟩) hrb).trans c0; have b1 := (HBA.out.cell (p := ⟨w1.heap.size, 1, none⟩) hrb).trans c1; have bl := Nat.lt_of_lt_of_le hrb HBA.out.size; clear hown2 hgrowa2) | (refine wpList_append_own_at _ rfl _ _ 23 rfl w3.heap.size 31 i0 (.agg #[.int .i64 (0), .int .i64 (0)]) 2 16 Tryd.underlying23 hi hz0 hz1 hz2 rfl (by decide) (.slice (some ⟨w3.heap.size + 1, 0, none⟩) 0 0) _ _ rfl HO3.out _ _ _ _ rfl (piece_len HT1.out) (piece_cells (HCl.out _ HB3.out) HT1.out) (piece_one _) (by unfold maxLen; simp; omega) (by simp; omega) HB3.out.size ?_; intro v2 wa2 hown2 hgrowa2 _ _; have HBA := Lib.hid (HB3.out.grown hgrowa2 HB3.out.size (fun q hq => (World.ownsRow.lt HO3.out q hq).1)); have HO := Lib.hid (Vecs.join (l := []) hown2 (by have := HfL.out; simp <;> omega)); have rr : wa2.heap[w3.heap.size]? = ((w3.drew.alloc (.cells #[.int .i64 x, .int .i64 y] 31)).alloc (.cells #[] 31)).heap[w3.heap.size]? := hgrowa2.block _ (by simp <;> omega) (by simp [Value.ownBlock]); have RR0 : Hid (wa2.cell? ⟨w3.heap.size, 0, none⟩ = some (.int .i64 x)) := (cell_same rr 0).trans KR0.out; have RR1 : Hid (wa2.cell? ⟨w3.heap.size, 1, none⟩ = some (.int .i64 y)) := (cell_same rr 1).trans KR1.out; clear rr; clear hown2 hgrowa2) | (refine wpList_append_own_at _ rfl _ _ 23 rfl w3.heap.size 31 i0 (.agg #[.int .i64 (0), .int .i64 (0)]) 2 16 Tryd.underlying23 hi hz0 hz1 hz2 rfl (by decide) (.slice (some ⟨w3.heap.size, 0, none⟩) 0 0) _ _ rfl HO2.out _ _ _ _ rfl (piece_len HT1.out) (piece_cells (HCl.out _ HB2.out) HT1.out) (piece_one _) (by unfold maxLen; simp; omega) (by simp; omega) HB2.out.size ?_; intro v2 wa2 hown2 hgrowa2 _ _; have HBA := Lib.hid (HB2.out.grown hgrowa2 HB2.out.size (fun q hq => (World.ownsRow.lt HO2.out q hq).1)); have HO := Lib.hid (Vecs.join (l := []) hown2 (by have := HfL.out; simp <;> omega)); have rr : wa2.heap[w3.heap.size + 1]? = ((w3.drew.alloc (.cells #[] 31)).alloc (.cells #[.int .i64 x, .int .i64 y] 31)).heap[w3.heap.size + 1]? := hgrowa2.block _ (by simp <;> omega) (by simp [Value.ownBlock]); have RR0 : Hid (wa2.cell? ⟨w3.heap.size + 1, 0, none⟩ = some (.int .i64 x)) := (cell_same rr 0).trans KE0.out; have RR1 : Hid (wa2.cell? ⟨w3.heap.size + 1, 1, none⟩ = some (.int .i64 y)) := (cell_same rr 1).trans KE1.out; clear rr; clear hown2 hgrowa2))
          refine hK _ _ ?_
          clear hK K
          refine wpAny_ready (rs := [4]) (by kernel_rfl) (by simp) (AllReady.cons rfl (fun K hK => ?_) (AllReady.nil))
          go_simp
          refine hK _ _ ?_
          clear hK K
          refine wpAny_ready (rs := [5]) (by kernel_rfl) (by simp) (AllReady.cons rfl (fun K hK => ?_) (AllReady.nil))
          (refine step_list (by rintro ⟨_, _, h⟩; cases h.1) (by kernel_rfl) ?_; first | (refine wpList_append_own_at _ rfl _ _ 23 rfl w3.heap.size 31 i0 (.agg #[.int .i64 (0), .int .i64 (0)]) 2 16 Tryd.underlying23 hi hz0 hz1 hz2 rfl (by decide) _ _ _ rfl HO.out _ 1 1 [.int .i64 x, .int .i64 y] rfl rfl (two_cells RR0.out RR1.out) (two_one _ _) (by unfold maxLen; simp; omega) (by simp; omega) HBA.out.size ?_; intro v3 wa3 hown3 hgrowa3 _ _; have HBC := Lib.hid (HBA.out.grown hgrowa3 HBA.out.size (fun q hq => (World.ownsRow.lt HO.out q hq).1)); have HOC := Lib.hid (Vecs.snoc (l := [] ++ (l.drop 0).take l.length) rfl hown3); clear hown3 hgrowa3) | (refine wpList_append_own_at _ rfl _ _ 23 rfl w3.heap.size 31 i0 (.agg #[.int .i64 (0), .int .i64 (0)]) 2 16 Tryd.underlying23 hi hz0 hz1 hz2 rfl (by decide) _ _ _ rfl (HO.out.below (by go_grown)) _ 1 1 [.int .i64 x, .int .i64 y] rfl rfl (two_cells (by simp) (by simp)) (two_one _ _) (by unfold maxLen; simp; omega) (by simp; omega) (HBA.out.alloc HBA.out.size _).size ?_; intro v3 wa3 hown3 hgrowa3 _ _; have HBC := Lib.hid ((HBA.out.alloc HBA.out.size _).grown hgrowa3 (HBA.out.alloc HBA.out.size _).size (fun q hq => (World.ownsRow.lt HO.out q hq).1)); have HOC := Lib.hid (Vecs.snoc (l := [] ++ (l.drop 0).take l.length) rfl hown3); clear hown3 hgrowa3))
          refine hK _ _ ?_
          clear hK K
          refine wpAny_ready (rs := [6]) (by kernel_rfl) (by simp) (AllReady.cons rfl (fun K hK => ?_) (AllReady.nil))
          go_simp
          (refine Calls.mono (C3.out _ _ (by rw [← HR.out]; exact HOC.out.reads (by rw [HR.out]; have := HRl.out; omega)) (HG.out.below HBC.out)) ?_; rintro e w4 ⟨v4, rfl, hI4, hb4⟩; have HBD := Lib.hid (belowTo HBC.out hb4); have Hx := Lib.hid (VecsR.reads hI4 (by have := HL.out; omega)); clear hI4 hb4)
          refine hK _ _ ?_
          clear hK K
          refine wpAny_take (i := 7) (v := ?_) rfl (by kernel_rfl) (by kernel_rfl) (by kernel_rfl) (fun _ _ _ h => h) (Or.inl ⟨by rfl, ?_⟩) ?_
          rotate_left
          focus (intro w0; go_simp; try with_reducible rfl)
          refine wpAny_take (i := 8) (v := ?_) rfl (by kernel_rfl) (by kernel_rfl) (by kernel_rfl) (fun _ _ _ h => h) (Or.inl ⟨by rfl, ?_⟩) ?_
          rotate_left
          focus (intro w0; go_simp; try with_reducible rfl)
          refine wpAny_take (i := 10) (v := ?_) rfl (by kernel_rfl) (by kernel_rfl) (by kernel_rfl) (fun _ _ _ h => h) (Or.inl ⟨by rfl, ?_⟩) ?_
          rotate_left
          focus (intro w0; go_simp; try with_reducible rfl)
          refine wpAny_take (i := 9) (v := ?_) rfl (by kernel_rfl) (by kernel_rfl) (by kernel_rfl) (fun _ _ _ h => h) (Or.inl ⟨by rfl, ?_⟩) ?_
          rotate_left
          focus (intro w0; go_simp; try with_reducible rfl)
          refine wpAny_take (i := 11) (v := ?_) rfl (by kernel_rfl) (by kernel_rfl) (by kernel_rfl) (fun _ _ _ h => h) (Or.inl ⟨by rfl, ?_⟩) ?_
          rotate_left
          focus (intro w0; go_simp; try with_reducible rfl)
          refine wpAny_seq 12 rfl (by kernel_rfl) ?_
          simp only [List.drop_succ_cons, List.drop_zero]
        rotate_left 1
        focus
          go_simp
          refine hK _ _ ?_
          clear hK K
          refine wpAny_ready (rs := [2]) (by kernel_rfl) (by simp) (AllReady.cons rfl (fun K hK => ?_) (AllReady.nil))
          (refine step_list (by rintro ⟨_, _, h⟩; cases h.1) (by kernel_rfl) ?_; first | (refine wpList_append_own_at _ rfl _ _ 23 rfl w3.heap.size 31 i0 (.agg #[.int .i64 (0), .int .i64 (0)]) 2 16 Tryd.underlying23 hi hz0 hz1 hz2 rfl (by decide) (.slice (some ⟨w3.heap.size, 0, none⟩) 0 0) _ _ rfl HO1.out _ _ _ _ rfl (piece_len HT1.out) (piece_cells (HCl.out _ HB1.out) HT1.out) (piece_one _) (by unfold maxLen; simp; omega) (by simp; omega) HB1.out.size ?_; intro v2 wa2 hown2 hgrowa2 _ _; have HBA := Lib.hid (HB1.out.grown hgrowa2 HB1.out.size (fun q hq => (World.ownsRow.lt HO1.out q hq).1)); have HO := Lib.hid (Vecs.join (l := []) hown2 (by have := HfL.out; simp <;> omega)); have b0 := (HBA.out.cell (p := ⟨w1.heap.size, 0, none⟩) hrb).trans c0; have b1 := (HBA.out.cell (p := ⟨w1.heap.size, 1, none⟩) hrb).trans c1; have bl := Nat.lt_of_lt_of_le hrb HBA.out.size; clear hown2 hgrowa2) | (refine wpList_append_own_at _ rfl _ _ 23 rfl w3.heap.size 31 i0 (.agg #[.int .i64 (0), .int .i64 (0)]) 2 16 Tryd.underlying23 hi hz0 hz1 hz2 rfl (by decide) (.slice (some ⟨w3.heap.size + 1, 0, none⟩) 0 0) _ _ rfl HO3.out _ _ _ _ rfl (piece_len HT1.out) (piece_cells (HCl.out _ HB3.out) HT1.out) (piece_one _) (by unfold maxLen; simp; omega) (by simp; omega) HB3.out.size ?_; intro v2 wa2 hown2 hgrowa2 _ _; have HBA := Lib.hid (HB3.out.grown hgrowa2 HB3.out.size (fun q hq => (World.ownsRow.lt HO3.out q hq).1)); have HO := Lib.hid (Vecs.join (l := []) hown2 (by have := HfL.out; simp <;> omega)); have rr : wa2.heap[w3.heap.size]? = ((w3.drew.alloc (.cells #[.int .i64 x, .int .i64 y] 31)).alloc (.cells #[] 31)).heap[w3.heap.size]? := hgrowa2.block _ (by simp <;> omega) (by simp [Value.ownBlock]); have RR0 : Hid (wa2.cell? ⟨w3.heap.size, 0, none⟩ = some (.int .i64 x)) := (cell_same rr 0).trans KR0.out; have RR1 : Hid (wa2.cell? ⟨w3.heap.size, 1, none⟩ = some (.int .i64 y)) := (cell_same rr 1).trans KR1.out; clear rr; clear hown2 hgrowa2) | (refine wpList_append_own_at _ rfl _ _ 23 rfl w3.heap.size 31 i0 (.agg #[.int .i64 (0), .int .i64 (0)]) 2 16 Tryd.underlying23 hi hz0 hz1 hz2 rfl (by decide) (.slice (some ⟨w3.heap.size, 0, none⟩) 0 0) _ _ rfl HO2.out _ _ _ _ rfl (piece_len HT1.out) (piece_cells (HCl.out _ HB2.out) HT1.out) (piece_one _) (by unfold maxLen; simp; omega) (by simp; omega) HB2.out.size ?_; intro v2 wa2 hown2 hgrowa2 _ _; have HBA := Lib.hid (HB2.out.grown hgrowa2 HB2.out.size (fun q hq => (World.ownsRow.lt HO2.out q hq).1)); have HO := Lib.hid (Vecs.join (l := []) hown2 (by have := HfL.out; simp <;> omega)); have rr : wa2.heap[w3.heap.size + 1]? = ((w3.drew.alloc (.cells #[] 31)).alloc (.cells #[.int .i64 x, .int .i64 y] 31)).heap[w3.heap.size + 1]? := hgrowa2.block _ (by simp <;> omega) (by simp [Value.ownBlock]); have RR0 : Hid (wa2.cell? ⟨w3.heap.size + 1, 0, none⟩ = some (.int .i64 x)) := (cell_same rr 0).trans KE0.out; have RR1 : Hid (wa2.cell? ⟨w3.heap.size + 1, 1, none⟩ = some (.int .i64 y)) := (cell_same rr 1).trans KE1.out; clear rr; clear hown2 hgrowa2))
          refine hK _ _ ?_
          clear hK K
          refine wpAny_ready (rs := [5]) (by kernel_rfl) (by simp) (AllReady.cons rfl (fun K hK => ?_) (AllReady.nil))
          (refine step_list (by rintro ⟨_, _, h⟩; cases h.1) (by kernel_rfl) ?_; first | (refine wpList_append_own_at _ rfl _ _ 23 rfl w3.heap.size 31 i0 (.agg #[.int .i64 (0), .int .i64 (0)]) 2 16 Tryd.underlying23 hi hz0 hz1 hz2 rfl (by decide) _ _ _ rfl HO.out _ 1 1 [.int .i64 x, .int .i64 y] rfl rfl (two_cells RR0.out RR1.out) (two_one _ _) (by unfold maxLen; simp; omega) (by simp; omega) HBA.out.size ?_; intro v3 wa3 hown3 hgrowa3 _ _; have HBC := Lib.hid (HBA.out.grown hgrowa3 HBA.out.size (fun q hq => (World.ownsRow.lt HO.out q hq).1)); have HOC := Lib.hid (Vecs.snoc (l := [] ++ (l.drop 0).take l.length) rfl hown3); clear hown3 hgrowa3) | (refine wpList_append_own_at _ rfl _ _ 23 rfl w3.heap.size 31 i0 (.agg #[.int .i64 (0), .int .i64 (0)]) 2 16 Tryd.underlying23 hi hz0 hz1 hz2 rfl (by decide) _ _ _ rfl (HO.out.below (by go_grown)) _ 1 1 [.int .i64 x, .int .i64 y] rfl rfl (two_cells (by simp) (by simp)) (two_one _ _) (by unfold maxLen; simp; omega) (by simp; omega) (HBA.out.alloc HBA.out.size _).size ?_; intro v3 wa3 hown3 hgrowa3 _ _; have HBC := Lib.hid ((HBA.out.alloc HBA.out.size _).grown hgrowa3 (HBA.out.alloc HBA.out.size _).size (fun q hq => (World.ownsRow.lt HO.out q hq).1)); have HOC := Lib.hid (Vecs.snoc (l := [] ++ (l.drop 0).take l.length) rfl hown3); clear hown3 hgrowa3))
          refine hK _ _ ?_
          clear hK K
          refine wpAny_ready (rs := [6]) (by kernel_rfl) (by simp) (AllReady.cons rfl (fun K hK => ?_) (AllReady.nil))
          go_simp
          (refine Calls.mono (C3.out _ _ (by rw [← HR.out]; exact HOC.out.reads (by rw [HR.out]; have := HRl.out; omega)) (HG.out.below HBC.out)) ?_; rintro e w4 ⟨v4, rfl, hI4, hb4⟩; have HBD := Lib.hid (belowTo HBC.out hb4); have Hx := Lib.hid (VecsR.reads hI4 (by have := HL.out; omega)); clear hI4 hb4)
          refine hK _ _ ?_
          clear hK K
          refine wpAny_take (i := 7) (v := ?_) rfl (by kernel_rfl) (by kernel_rfl) (by kernel_rfl) (fun _ _ _ h => h) (Or.inl ⟨by rfl, ?_⟩) ?_
          rotate_left
          focus (intro w0; go_simp; try with_reducible rfl)
          refine wpAny_take (i := 8) (v := ?_) rfl (by kernel_rfl) (by kernel_rfl) (by kernel_rfl) (fun _ _ _ h => h) (Or.inl ⟨by rfl, ?_⟩) ?_
          rotate_left
          focus (intro w0; go_simp; try with_reducible rfl)
          refine wpAny_take (i := 10) (v := ?_) rfl (by kernel_rfl) (by kernel_rfl) (by kernel_rfl) (fun _ _ _ h => h) (Or.inl ⟨by rfl, ?_⟩) ?_
          rotate_left
          focus (intro w0; go_simp; try with_reducible rfl)
          refine wpAny_take (i := 9) (v := ?_) rfl (by kernel_rfl) (by kernel_rfl) (by kernel_rfl) (fun _ _ _ h => h) (Or.inl ⟨by rfl, ?_⟩) ?_
          rotate_left
          focus (intro w0; go_simp; try with_reducible rfl)
          refine wpAny_take (i := 11) (v := ?_) rfl (by kernel_rfl) (by kernel_rfl) (by kernel_rfl) (fun _ _ _ h => h) (Or.inl ⟨by rfl, ?_⟩) ?_
          rotate_left
          focus (intro w0; go_simp; try with_reducible rfl)
          refine wpAny_seq 12 rfl (by kernel_rfl) ?_
          simp only [List.drop_succ_cons, List.drop_zero]
    rotate_left 3
    focus
      go_simp
      refine hK _ _ ?_
      clear hK K
      refine wpAny_ready (rs := [0, 4]) (by kernel_rfl) (by simp) (AllReady.cons rfl (fun K hK => ?_) (AllReady.cons rfl (fun K hK => ?_) (AllReady.nil)))
      focus
        go_simp
        refine hK _ _ ?_
        clear hK K
        refine wpAny_ready (rs := [2, 4]) (by kernel_rfl) (by simp) (AllReady.cons rfl (fun K hK => ?_) (AllReady.cons rfl (fun K hK => ?_) (AllReady.nil)))
        focus
          (refine step_list (by rintro ⟨_, _, h⟩; cases h.1) (by kernel_rfl) ?_; first | (refine wpList_append_own_at _ rfl _ _ 23 rfl w3.heap.size 31 i0 (.agg #[.int .i64 (0), .int .i64 (0)]) 2 16 Tryd.underlying23 hi hz0 hz1 hz2 rfl (by decide) (.slice (some ⟨w3.heap.size, 0, none⟩) 0 0) _ _ rfl HO1.out _ _ _ _ rfl (piece_len HT1.out) (piece_cells (HCl.out _ HB1.out) HT1.out) (piece_one _) (by unfold maxLen; simp; omega) (by simp; omega) HB1.out.size ?_; intro v2 wa2 hown2 hgrowa2 _ _; have HBA := Lib.hid (HB1.out.grown hgrowa2 HB1.out.size (fun q hq => (World.ownsRow.lt HO1.out q hq).1)); have HO := Lib.hid (Vecs.join (l := []) hown2 (by have := HfL.out; simp <;> omega)); have b0 := (HBA.out.cell (p := ⟨w1.heap.size, 0, none⟩) hrb).trans c0; have b1 := (HBA.out.cell (p := ⟨w1.heap.size, 1, none⟩) hrb).trans c1; have bl := Nat.lt_of_lt_of_le hrb HBA.out.size; clear hown2 hgrowa2) | (refine wpList_append_own_at _ rfl _ _ 23 rfl w3.heap.size 31 i0 (.agg #[.int .i64 (0), .int .i64 (0)]) 2 16 Tryd.underlying23 hi hz0 hz1 hz2 rfl (by decide) (.slice (some ⟨w3.heap.size + 1, 0, none⟩) 0 0) _ _ rfl HO3.out _ _ _ _ rfl (piece_len HT1.out) (piece_cells (HCl.out _ HB3.out) HT1.out) (piece_one _) (by unfold maxLen; simp; omega) (by simp; omega) HB3.out.size ?_; intro v2 wa2 hown2 hgrowa2 _ _; have HBA := Lib.hid (HB3.out.grown hgrowa2 HB3.out.size (fun q hq => (World.ownsRow.lt HO3.out q hq).1)); have HO := Lib.hid (Vecs.join (l := []) hown2 (by have := HfL.out; simp <;> omega)); have rr : wa2.heap[w3.heap.size]? = ((w3.drew.alloc (.cells #[.int .i64 x, .int .i64 y] 31)).alloc (.cells #[] 31)).heap[w3.heap.size]? := hgrowa2.block _ (by simp <;> omega) (by simp [Value.ownBlock]); have RR0 : Hid (wa2.cell? ⟨w3.heap.size, 0, none⟩ = some (.int .i64 x)) := (cell_same rr 0).trans KR0.out; have RR1 : Hid (wa2.cell? ⟨w3.heap.size, 1, none⟩ = some (.int .i64 y)) := (cell_same rr 1).trans KR1.out; clear rr; clear hown2 hgrowa2) | (refine wpList_append_own_at _ rfl _ _ 23 rfl w3.heap.size 31 i0 (.agg #[.int .i64 (0), .int .i64 (0)]) 2 16 Tryd.underlying23 hi hz0 hz1 hz2 rfl (by decide) (.slice (some ⟨w3.heap.size, 0, none⟩) 0 0) _ _ rfl HO2.out _ _ _ _ rfl (piece_len HT1.out) (piece_cells (HCl.out _ HB2.out) HT1.out) (piece_one _) (by unfold maxLen; simp; omega) (by simp; omega) HB2.out.size ?_; intro v2 wa2 hown2 hgrowa2 _ _; have HBA := Lib.hid (HB2.out.grown hgrowa2 HB2.out.size (fun q hq => (World.ownsRow.lt HO2.out q hq).1)); have HO := Lib.hid (Vecs.join (l := []) hown2 (by have := HfL.out; simp <;> omega)); have rr : wa2.heap[w3.heap.size + 1]? = ((w3.drew.alloc (.cells #[] 31)).alloc (.cells #[.int .i64 x, .int .i64 y] 31)).heap[w3.heap.size + 1]? := hgrowa2.block _ (by simp <;> omega) (by simp [Value.ownBlock]); have RR0 : Hid (wa2.cell? ⟨w3.heap.size + 1, 0, none⟩ = some (.int .i64 x)) := (cell_same rr 0).trans KE0.out; have RR1 : Hid (wa2.cell? ⟨w3.heap.size + 1, 1, none⟩ = some (.int .i64 y)) := (cell_same rr 1).trans KE1.out; clear rr; clear hown2 hgrowa2))
          refine hK _ _ ?_
          clear hK K
          refine wpAny_ready (rs := [4]) (by kernel_rfl) (by simp) (AllReady.cons rfl (fun K hK => ?_) (AllReady.nil))
          go_simp
          refine hK _ _ ?_
          clear hK K
          refine wpAny_ready (rs := [5]) (by kernel_rfl) (by simp) (AllReady.cons rfl (fun K hK => ?_) (AllReady.nil))
          (refine step_list (by rintro ⟨_, _, h⟩; cases h.1) (by kernel_rfl) ?_; first | (refine wpList_append_own_at _ rfl _ _ 23 rfl w3.heap.size 31 i0 (.agg #[.int .i64 (0), .int .i64 (0)]) 2 16 Tryd.underlying23 hi hz0 hz1 hz2 rfl (by decide) _ _ _ rfl HO.out _ 1 1 [.int .i64 x, .int .i64 y] rfl rfl (two_cells RR0.out RR1.out) (two_one _ _) (by unfold maxLen; simp; omega) (by simp; omega) HBA.out.size ?_; intro v3 wa3 hown3 hgrowa3 _ _; have HBC := Lib.hid (HBA.out.grown hgrowa3 HBA.out.size (fun q hq => (World.ownsRow.lt HO.out q hq).1)); have HOC := Lib.hid (Vecs.snoc (l := [] ++ (l.drop 0).take l.length) rfl hown3); clear hown3 hgrowa3) | (refine wpList_append_own_at _ rfl _ _ 23 rfl w3.heap.size 31 i0 (.agg #[.int .i64 (0), .int .i64 (0)]) 2 16 Tryd.underlying23 hi hz0 hz1 hz2 rfl (by decide) _ _ _ rfl (HO.out.below (by go_grown)) _ 1 1 [.int .i64 x, .int .i64 y] rfl rfl (two_cells (by simp) (by simp)) (two_one _ _) (by unfold maxLen; simp; omega) (by simp; omega) (HBA.out.alloc HBA.out.size _).size ?_; intro v3 wa3 hown3 hgrowa3 _ _; have HBC := Lib.hid ((HBA.out.alloc HBA.out.size _).grown hgrowa3 (HBA.out.alloc HBA.out.size _).size (fun q hq => (World.ownsRow.lt HO.out q hq).1)); have HOC := Lib.hid (Vecs.snoc (l := [] ++ (l.drop 0).take l.length) rfl hown3); clear hown3 hgrowa3))
          refine hK _ _ ?_
          clear hK K
          refine wpAny_ready (rs := [6]) (by kernel_rfl) (by simp) (AllReady.cons rfl (fun K hK => ?_) (AllReady.nil))
          go_simp
          (refine Calls.mono (C3.out _ _ (by rw [← HR.out]; exact HOC.out.reads (by rw [HR.out]; have := HRl.out; omega)) (HG.out.below HBC.out)) ?_; rintro e w4 ⟨v4, rfl, hI4, hb4⟩; have HBD := Lib.hid (belowTo HBC.out hb4); have Hx := Lib.hid (VecsR.reads hI4 (by have := HL.out; omega)); clear hI4 hb4)
          refine hK _ _ ?_
          clear hK K
          refine wpAny_take (i := 7) (v := ?_) rfl (by kernel_rfl) (by kernel_rfl) (by kernel_rfl) (fun _ _ _ h => h) (Or.inl ⟨by rfl, ?_⟩) ?_
          rotate_left
          focus (intro w0; go_simp; try with_reducible rfl)
          refine wpAny_take (i := 8) (v := ?_) rfl (by kernel_rfl) (by kernel_rfl) (by kernel_rfl) (fun _ _ _ h => h) (Or.inl ⟨by rfl, ?_⟩) ?_
          rotate_left
          focus (intro w0; go_simp; try with_reducible rfl)
          refine wpAny_take (i := 10) (v := ?_) rfl (by kernel_rfl) (by kernel_rfl) (by kernel_rfl) (fun _ _ _ h => h) (Or.inl ⟨by rfl, ?_⟩) ?_
          rotate_left
          focus (intro w0; go_simp; try with_reducible rfl)
          refine wpAny_take (i := 9) (v := ?_) rfl (by kernel_rfl) (by kernel_rfl) (by kernel_rfl) (fun _ _ _ h => h) (Or.inl ⟨by rfl, ?_⟩) ?_
          rotate_left
          focus (intro w0; go_simp; try with_reducible rfl)
          refine wpAny_take (i := 11) (v := ?_) rfl (by kernel_rfl) (by kernel_rfl) (by kernel_rfl) (fun _ _ _ h => h) (Or.inl ⟨by rfl, ?_⟩) ?_
          rotate_left
          focus (intro w0; go_simp; try with_reducible rfl)
          refine wpAny_seq 12 rfl (by kernel_rfl) ?_
          simp only [List.drop_succ_cons, List.drop_zero]
        rotate_left 1
        focus
          go_simp
          refine hK _ _ ?_
          clear hK K
          refine wpAny_ready (rs := [2]) (by kernel_rfl) (by simp) (AllReady.cons rfl (fun K hK => ?_) (AllReady.nil))
          (refine step_list (by rintro ⟨_, _, h⟩; cases h.1) (by kernel_rfl) ?_; first | (refine wpList_append_own_at _ rfl _ _ 23 rfl w3.heap.size 31 i0 (.agg #[.int .i64 (0), .int .i64 (0)]) 2 16 Tryd.underlying23 hi hz0 hz1 hz2 rfl (by decide) (.slice (some ⟨w3.heap.size, 0, none⟩) 0 0) _ _ rfl HO1.out _ _ _ _ rfl (piece_len HT1.out) (piece_cells (HCl.out _ HB1.out) HT1.out) (piece_one _) (by unfold maxLen; simp; omega) (by simp; omega) HB1.out.size ?_; intro v2 wa2 hown2 hgrowa2 _ _; have HBA := Lib.hid (HB1.out.grown hgrowa2 HB1.out.size (fun q hq => (World.ownsRow.lt HO1.out q hq).1)); have HO := Lib.hid (Vecs.join (l := []) hown2 (by have := HfL.out; simp <;> omega)); have b0 := (HBA.out.cell (p := ⟨w1.heap.size, 0, none⟩) hrb).trans c0; have b1 := (HBA.out.cell (p := ⟨w1.heap.size, 1, none⟩) hrb).trans c1; have bl := Nat.lt_of_lt_of_le hrb HBA.out.size; clear hown2 hgrowa2) | (refine wpList_append_own_at _ rfl _ _ 23 rfl w3.heap.size 31 i0 (.agg #[.int .i64 (0), .int .i64 (0)]) 2 16 Tryd.underlying23 hi hz0 hz1 hz2 rfl (by decide) (.slice (some ⟨w3.heap.size + 1, 0, none⟩) 0 0) _ _ rfl HO3.out _ _ _ _ rfl (piece_len HT1.out) (piece_cells (HCl.out _ HB3.out) HT1.out) (piece_one _) (by unfold maxLen; simp; omega) (by simp; omega) HB3.out.size ?_; intro v2 wa2 hown2 hgrowa2 _ _; have HBA := Lib.hid (HB3.out.grown hgrowa2 HB3.out.size (fun q hq => (World.ownsRow.lt HO3.out q hq).1)); have HO := Lib.hid (Vecs.join (l := []) hown2 (by have := HfL.out; simp <;> omega)); have rr : wa2.heap[w3.heap.size]? = ((w3.drew.alloc (.cells #[.int .i64 x, .int .i64 y] 31)).alloc (.cells #[] 31)).heap[w3.heap.size]? := hgrowa2.block _ (by simp <;> omega) (by simp [Value.ownBlock]); have RR0 : Hid (wa2.cell? ⟨w3.heap.size, 0, none⟩ = some (.int .i64 x)) := (cell_same rr 0).trans KR0.out; have RR1 : Hid (wa2.cell? ⟨w3.heap.size, 1, none⟩ = some (.int .i64 y)) := (cell_same rr 1).trans KR1.out; clear rr; clear hown2 hgrowa2) | (refine wpList_append_own_at _ rfl _ _ 23 rfl w3.heap.size 31 i0 (.agg #[.int .i64 (0), .int .i64 (0)]) 2 16 Tryd.underlying23 hi hz0 hz1 hz2 rfl (by decide) (.slice (some ⟨w3.heap.size, 0, none⟩) 0 0) _ _ rfl HO2.out _ _ _ _ rfl (piece_len HT1.out) (piece_cells (HCl.out _ HB2.out) HT1.out) (piece_one _) (by unfold maxLen; simp; omega) (by simp; omega) HB2.out.size ?_; intro v2 wa2 hown2 hgrowa2 _ _; have HBA := Lib.hid (HB2.out.grown hgrowa2 HB2.out.size (fun q hq => (World.ownsRow.lt HO2.out q hq).1)); have HO := Lib.hid (Vecs.join (l := []) hown2 (by have := HfL.out; simp <;> omega)); have rr : wa2.heap[w3.heap.size + 1]? = ((w3.drew.alloc (.cells #[] 31)).alloc (.cells #[.int .i64 x, .int .i64 y] 31)).heap[w3.heap.size + 1]? := hgrowa2.block _ (by simp <;> omega) (by simp [Value.ownBlock]); have RR0 : Hid (wa2.cell? ⟨w3.heap.size + 1, 0, none⟩ = some (.int .i64 x)) := (cell_same rr 0).trans KE0.out; have RR1 : Hid (wa2.cell? ⟨w3.heap.size + 1, 1, none⟩ = some (.int .i64 y)) := (cell_same rr 1).trans KE1.out; clear rr; clear hown2 hgrowa2))
          refine hK _ _ ?_
          clear hK K
          refine wpAny_ready (rs := [5]) (by kernel_rfl) (by simp) (AllReady.cons rfl (fun K hK => ?_) (AllReady.nil))
          (refine step_list (by rintro ⟨_, _, h⟩; cases h.1) (by kernel_rfl) ?_; first | (refine wpList_append_own_at _ rfl _ _ 23 rfl w3.heap.size 31 i0 (.agg #[.int .i64 (0), .int .i64 (0)]) 2 16 Tryd.underlying23 hi hz0 hz1 hz2 rfl (by decide) _ _ _ rfl HO.out _ 1 1 [.int .i64 x, .int .i64 y] rfl rfl (two_cells RR0.out RR1.out) (two_one _ _) (by unfold maxLen; simp; omega) (by simp; omega) HBA.out.size ?_; intro v3 wa3 hown3 hgrowa3 _ _; have HBC := Lib.hid (HBA.out.grown hgrowa3 HBA.out.size (fun q hq => (World.ownsRow.lt HO.out q hq).1)); have HOC := Lib.hid (Vecs.snoc (l := [] ++ (l.drop 0).take l.length) rfl hown3); clear hown3 hgrowa3) | (refine wpList_append_own_at _ rfl _ _ 23 rfl w3.heap.size 31 i0 (.agg #[.int .i64 (0), .int .i64 (0)]) 2 16 Tryd.underlying23 hi hz0 hz1 hz2 rfl (by decide) _ _ _ rfl (HO.out.below (by go_grown)) _ 1 1 [.int .i64 x, .int .i64 y] rfl rfl (two_cells (by simp) (by simp)) (two_one _ _) (by unfold maxLen; simp; omega) (by simp; omega) (HBA.out.alloc HBA.out.size _).size ?_; intro v3 wa3 hown3 hgrowa3 _ _; have HBC := Lib.hid ((HBA.out.alloc HBA.out.size _).grown hgrowa3 (HBA.out.alloc HBA.out.size _).size (fun q hq => (World.ownsRow.lt HO.out q hq).1)); have HOC := Lib.hid (Vecs.snoc (l := [] ++ (l.drop 0).take l.length) rfl hown3); clear hown3 hgrowa3))
          refine hK _ _ ?_
          clear hK K
          refine wpAny_ready (rs := [6]) (by kernel_rfl) (by simp) (AllReady.cons rfl (fun K hK => ?_) (AllReady.nil))
          go_simp
          (refine Calls.mono (C3.out _ _ (by rw [← HR.out]; exact HOC.out.reads (by rw [HR.out]; have := HRl.out; omega)) (HG.out.below HBC.out)) ?_; rintro e w4 ⟨v4, rfl, hI4, hb4⟩; have HBD := Lib.hid (belowTo HBC.out hb4); have Hx := Lib.hid (VecsR.reads hI4 (by have := HL.out; omega)); clear hI4 hb4)
          refine hK _ _ ?_
          clear hK K
          refine wpAny_take (i := 7) (v := ?_) rfl (by kernel_rfl) (by kernel_rfl) (by kernel_rfl) (fun _ _ _ h => h) (Or.inl ⟨by rfl, ?_⟩) ?_
          rotate_left
          focus (intro w0; go_simp; try with_reducible rfl)
          refine wpAny_take (i := 8) (v := ?_) rfl (by kernel_rfl) (by kernel_rfl) (by kernel_rfl) (fun _ _ _ h => h) (Or.inl ⟨by rfl, ?_⟩) ?_
          rotate_left
          focus (intro w0; go_simp; try with_reducible rfl)
          refine wpAny_take (i := 10) (v := ?_) rfl (by kernel_rfl) (by kernel_rfl) (by kernel_rfl) (fun _ _ _ h => h) (Or.inl ⟨by rfl, ?_⟩) ?_
          rotate_left
          focus (intro w0; go_simp; try with_reducible rfl)
          refine wpAny_take (i := 9) (v := ?_) rfl (by kernel_rfl) (by kernel_rfl) (by kernel_rfl) (fun _ _ _ h => h) (Or.inl ⟨by rfl, ?_⟩) ?_
          rotate_left
          focus (intro w0; go_simp; try with_reducible rfl)
          refine wpAny_take (i := 11) (v := ?_) rfl (by kernel_rfl) (by kernel_rfl) (by kernel_rfl) (fun _ _ _ h => h) (Or.inl ⟨by rfl, ?_⟩) ?_
          rotate_left
          focus (intro w0; go_simp; try with_reducible rfl)
          refine wpAny_seq 12 rfl (by kernel_rfl) ?_
          simp only [List.drop_succ_cons, List.drop_zero]
      rotate_left 2
      focus
        go_simp
        refine hK _ _ ?_
        clear hK K
        refine wpAny_ready (rs := [0]) (by kernel_rfl) (by simp) (AllReady.cons rfl (fun K hK => ?_) (AllReady.nil))
        go_simp
        refine hK _ _ ?_
        clear hK K
        refine wpAny_ready (rs := [2]) (by kernel_rfl) (by simp) (AllReady.cons rfl (fun K hK => ?_) (AllReady.nil))
        (refine step_list (by rintro ⟨_, _, h⟩; cases h.1) (by kernel_rfl) ?_; first | (refine wpList_append_own_at _ rfl _ _ 23 rfl w3.heap.size 31 i0 (.agg #[.int .i64 (0), .int .i64 (0)]) 2 16 Tryd.underlying23 hi hz0 hz1 hz2 rfl (by decide) (.slice (some ⟨w3.heap.size, 0, none⟩) 0 0) _ _ rfl HO1.out _ _ _ _ rfl (piece_len HT1.out) (piece_cells (HCl.out _ HB1.out) HT1.out) (piece_one _) (by unfold maxLen; simp; omega) (by simp; omega) HB1.out.size ?_; intro v2 wa2 hown2 hgrowa2 _ _; have HBA := Lib.hid (HB1.out.grown hgrowa2 HB1.out.size (fun q hq => (World.ownsRow.lt HO1.out q hq).1)); have HO := Lib.hid (Vecs.join (l := []) hown2 (by have := HfL.out; simp <;> omega)); have b0 := (HBA.out.cell (p := ⟨w1.heap.size, 0, none⟩) hrb).trans c0; have b1 := (HBA.out.cell (p := ⟨w1.heap.size, 1, none⟩) hrb).trans c1; have bl := Nat.lt_of_lt_of_le hrb HBA.out.size; clear hown2 hgrowa2) | (refine wpList_append_own_at _ rfl _ _ 23 rfl w3.heap.size 31 i0 (.agg #[.int .i64 (0), .int .i64 (0)]) 2 16 Tryd.underlying23 hi hz0 hz1 hz2 rfl (by decide) (.slice (some ⟨w3.heap.size + 1, 0, none⟩) 0 0) _ _ rfl HO3.out _ _ _ _ rfl (piece_len HT1.out) (piece_cells (HCl.out _ HB3.out) HT1.out) (piece_one _) (by unfold maxLen; simp; omega) (by simp; omega) HB3.out.size ?_; intro v2 wa2 hown2 hgrowa2 _ _; have HBA := Lib.hid (HB3.out.grown hgrowa2 HB3.out.size (fun q hq => (World.ownsRow.lt HO3.out q hq).1)); have HO := Lib.hid (Vecs.join (l := []) hown2 (by have := HfL.out; simp <;> omega)); have rr : wa2.heap[w3.heap.size]? = ((w3.drew.alloc (.cells #[.int .i64 x, .int .i64 y] 31)).alloc (.cells #[] 31)).heap[w3.heap.size]? := hgrowa2.block _ (by simp <;> omega) (by simp [Value.ownBlock]); have RR0 : Hid (wa2.cell? ⟨w3.heap.size, 0, none⟩ = some (.int .i64 x)) := (cell_same rr 0).trans KR0.out; have RR1 : Hid (wa2.cell? ⟨w3.heap.size, 1, none⟩ = some (.int .i64 y)) := (cell_same rr 1).trans KR1.out; clear rr; clear hown2 hgrowa2) | (refine wpList_append_own_at _ rfl _ _ 23 rfl w3.heap.size 31 i0 (.agg #[.int .i64 (0), .int .i64 (0)]) 2 16 Tryd.underlying23 hi hz0 hz1 hz2 rfl (by decide) (.slice (some ⟨w3.heap.size, 0, none⟩) 0 0) _ _ rfl HO2.out _ _ _ _ rfl (piece_len HT1.out) (piece_cells (HCl.out _ HB2.out) HT1.out) (piece_one _) (by unfold maxLen; simp; omega) (by simp; omega) HB2.out.size ?_; intro v2 wa2 hown2 hgrowa2 _ _; have HBA := Lib.hid (HB2.out.grown hgrowa2 HB2.out.size (fun q hq => (World.ownsRow.lt HO2.out q hq).1)); have HO := Lib.hid (Vecs.join (l := []) hown2 (by have := HfL.out; simp <;> omega)); have rr : wa2.heap[w3.heap.size + 1]? = ((w3.drew.alloc (.cells #[] 31)).alloc (.cells #[.int .i64 x, .int .i64 y] 31)).heap[w3.heap.size + 1]? := hgrowa2.block _ (by simp <;> omega) (by simp [Value.ownBlock]); have RR0 : Hid (wa2.cell? ⟨w3.heap.size + 1, 0, none⟩ = some (.int .i64 x)) := (cell_same rr 0).trans KE0.out; have RR1 : Hid (wa2.cell? ⟨w3.heap.size + 1, 1, none⟩ = some (.int .i64 y)) := (cell_same rr 1).trans KE1.out; clear rr; clear hown2 hgrowa2))
        refine hK _ _ ?_
        clear hK K
        refine wpAny_ready (rs := [5]) (by kernel_rfl) (by simp) (AllReady.cons rfl (fun K hK => ?_) (AllReady.nil))
        (refine step_list (by rintro ⟨_, _, h⟩; cases h.1) (by kernel_rfl) ?_; first | (refine wpList_append_own_at _ rfl _ _ 23 rfl w3.heap.size 31 i0 (.agg #[.int .i64 (0), .int .i64 (0)]) 2 16 Tryd.underlying23 hi hz0 hz1 hz2 rfl (by decide) _ _ _ rfl HO.out _ 1 1 [.int .i64 x, .int .i64 y] rfl rfl (two_cells RR0.out RR1.out) (two_one _ _) (by unfold maxLen; simp; omega) (by simp; omega) HBA.out.size ?_; intro v3 wa3 hown3 hgrowa3 _ _; have HBC := Lib.hid (HBA.out.grown hgrowa3 HBA.out.size (fun q hq => (World.ownsRow.lt HO.out q hq).1)); have HOC := Lib.hid (Vecs.snoc (l := [] ++ (l.drop 0).take l.length) rfl hown3); clear hown3 hgrowa3) | (refine wpList_append_own_at _ rfl _ _ 23 rfl w3.heap.size 31 i0 (.agg #[.int .i64 (0), .int .i64 (0)]) 2 16 Tryd.underlying23 hi hz0 hz1 hz2 rfl (by decide) _ _ _ rfl (HO.out.below (by go_grown)) _ 1 1 [.int .i64 x, .int .i64 y] rfl rfl (two_cells (by simp) (by simp)) (two_one _ _) (by unfold maxLen; simp; omega) (by simp; omega) (HBA.out.alloc HBA.out.size _).size ?_; intro v3 wa3 hown3 hgrowa3 _ _; have HBC := Lib.hid ((HBA.out.alloc HBA.out.size _).grown hgrowa3 (HBA.out.alloc HBA.out.size _).size (fun q hq => (World.ownsRow.lt HO.out q hq).1)); have HOC := Lib.hid (Vecs.snoc (l := [] ++ (l.drop 0).take l.length) rfl hown3); clear hown3 hgrowa3))
        refine hK _ _ ?_
        clear hK K
        refine wpAny_ready (rs := [6]) (by kernel_rfl) (by simp) (AllReady.cons rfl (fun K hK => ?_) (AllReady.nil))
        go_simp
        (refine Calls.mono (C3.out _ _ (by rw [← HR.out]; exact HOC.out.reads (by rw [HR.out]; have := HRl.out; omega)) (HG.out.below HBC.out)) ?_; rintro e w4 ⟨v4, rfl, hI4, hb4⟩; have HBD := Lib.hid (belowTo HBC.out hb4); have Hx := Lib.hid (VecsR.reads hI4 (by have := HL.out; omega)); clear hI4 hb4)
        refine hK _ _ ?_
        clear hK K
        refine wpAny_take (i := 7) (v := ?_) rfl (by kernel_rfl) (by kernel_rfl) (by kernel_rfl) (fun _ _ _ h => h) (Or.inl ⟨by rfl, ?_⟩) ?_
        rotate_left
        focus (intro w0; go_simp; try with_reducible rfl)
        refine wpAny_take (i := 8) (v := ?_) rfl (by kernel_rfl) (by kernel_rfl) (by kernel_rfl) (fun _ _ _ h => h) (Or.inl ⟨by rfl, ?_⟩) ?_
        rotate_left
        focus (intro w0; go_simp; try with_reducible rfl)
        refine wpAny_take (i := 10) (v := ?_) rfl (by kernel_rfl) (by kernel_rfl) (by kernel_rfl) (fun _ _ _ h => h) (Or.inl ⟨by rfl, ?_⟩) ?_
        rotate_left
        focus (intro w0; go_simp; try with_reducible rfl)
        refine wpAny_take (i := 9) (v := ?_) rfl (by kernel_rfl) (by kernel_rfl) (by kernel_rfl) (fun _ _ _ h => h) (Or.inl ⟨by rfl, ?_⟩) ?_
        rotate_left
        focus (intro w0; go_simp; try with_reducible rfl)
        refine wpAny_take (i := 11) (v := ?_) rfl (by kernel_rfl) (by kernel_rfl) (by kernel_rfl) (fun _ _ _ h => h) (Or.inl ⟨by rfl, ?_⟩) ?_
        rotate_left
        focus (intro w0; go_simp; try with_reducible rfl)
        refine wpAny_seq 12 rfl (by kernel_rfl) ?_
        simp only [List.drop_succ_cons, List.drop_zero]
    all_goals
      have hB4 := HBD.out
      replace Hf := Lib.hid (Hf.out.below hB4)
      replace HG := Lib.hid (HG.out.below hB4)
      replace HB := Lib.hid (belowTo HB.out hB4)
      clear hB4 HOC HBC HBD HO HBA HO1 HO2 HO3 HB1 HB2 HB3 KE0 KE1 KR0 KR1 HR C3
      go_wp2_with fail
      refine Calls.mono (C4.out _ _ (Hf.out.below (by go_grown)) (HG.out.below (by go_grown))) ?_
      rintro e w5 ⟨v5, rfl, hI5, hb5⟩
      have hB5 := belowTo (a := w4) (by go_grown) hb5
      replace Hf := Lib.hid (Hf.out.below hB5)
      replace Hx := Lib.hid (Hx.out.below hB5)
      replace HG := Lib.hid (HG.out.below hB5)
      replace HB := Lib.hid (belowTo HB.out hB5)
      clear hb5 hB5
      have Hy := Lib.hid (VecsR.reads hI5 (by have := HL.out; omega))
      clear hI5
      go_wp2_with fail
      refine Calls.mono (sameVecs_eq _ _ _ _ (Hx.out.below (by go_grown)) (Hy.out.below (by go_grown))) ?_
      rintro e w6 ⟨rfl, hb6⟩
      have hB6 := belowTo (a := w5) (by go_grown) hb6
      replace Hf := Lib.hid (Hf.out.below hB6)
      replace Hx := Lib.hid (Hx.out.below hB6)
      replace Hy := Lib.hid (Hy.out.below hB6)
      replace HG := Lib.hid (HG.out.below hB6)
      replace HB := Lib.hid (belowTo HB.out hB6)
      clear hb6 hB6
      go_wp2
      go_returns
      exact ⟨rfl, HB.out⟩
end Go.Proofs.YtgaeibibeekclaaDoor
