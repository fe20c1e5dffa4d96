import Derived.Test.YtdlofnkimikaiaaGreatDoorBa
import Derived.Test.YtdlofnkimikaiaaGreatDoorB9
import Derived.Test.YtdlofnkimikaiaaGreatDoorBf
import Derived.Test.YtdlofnkimikaiaaGreatDoorBb
/- Fans, the model's side: FanCone, FanWhere. -/
namespace Go.Proofs.YtdlofnkimikaiaaGreatDoor
open Go.RowKit

theorem idx_is (l : List V2) (i : Int) : (decide (0 ≤ i) && decide (i ≤ (l.length : Int) - 1)) = idxB l i := by
  unfold idxB
  congr 1
  exact decide_eq_decide.2 (by omega)
end Go.Proofs.YtdlofnkimikaiaaGreatDoor

/- Fans, the model's side: a list without one of its vectors; FanDown. -/
namespace Go.Proofs.YtdlofnkimikaiaaGreatDoor
open Go.RowKit

set_option maxHeartbeats 8000000 in
theorem l3Without_any (v : Value) (l : List V2) (k : Nat) (w : World) (hl : ReadsVecs w v l) (hk : k < l.length) (hm : l.length ≤ 1000) :
    Calls Tryz.prog 43 #[v, .int .i64 k] w (GivesVecs w (downL l k)) := by
  obtain ⟨i0, hi, hz0, hz1, hz2⟩ := info_parts infoVec
  obtain ⟨bb, off, c, rfl, hc, hmm, hbb, hcs⟩ := hl.open (by omega)
  have HCl := Lib.hid hcs
  have HOw : Hid (Vecs (w.drew.alloc (.cells #[] 60)) w.heap.size (.slice (some ⟨w.heap.size, 0, none⟩) 0 0) []) := Vecs.empty w.drew
  have hBd : Below w.heap.size w (w.drew.alloc (.cells #[] 60)) := by go_grown
  have HBd := Lib.hid hBd
  have hbd : w.heap.size ≤ (w.drew.alloc (.cells #[] 60)).heap.size := hBd.size
  have HBz := Lib.hid hbd
  clear hBd hbd
  have q1 : IntKind.i64.wrap ((k : Int) + 1) = (k : Int) + 1 := by rw [IntKind.wrap_i64]; omega
  have q2 : ((k : Int) + 1).toNat = k + 1 := by omega
  have q3 : (0 : Int) ≤ (k : Int) + 1 := by omega
  have i1 : (0 : Int) ≤ (k : Int) := by omega
  have i3 : k ≤ c := by omega
  have i4 : ¬ c = 0 := by omega
  have HT1 : Hid (0 + k ≤ l.length) := by show 0 + k ≤ l.length; omega
  have HT2 : Hid (k + 1 + (l.length - (k + 1)) ≤ l.length) := by show k + 1 + (l.length - (k + 1)) ≤ l.length; omega
  have HR : Hid (([] ++ (l.drop 0).take k) ++ (l.drop (k + 1)).take (l.length - (k + 1)) = downL l k) := by
    unfold downL
    rw [List.take_of_length_le (l := l.drop (k + 1)) (by simp)]
    rfl
  obtain ⟨n, hn⟩ : ∃ n, n = l.length := ⟨_, rfl⟩
  have HL := Lib.hid hn
  rw [← hn] at hc hmm hk hm HT2 HR ⊢
  have HT2' : Hid (k + 1 + (n - (k + 1)) ≤ l.length) := by have := HL.out; show k + 1 + (n - (k + 1)) ≤ l.length; omega
  clear HT2
  have HT2 := HT2'
  clear HT2'
  clear hn hcs hl
  by_cases hck : c = k + 1
  case pos =>
    have hnk : n = k + 1 := by omega
    subst hck
    subst hnk
    have HR2 : Hid (([] ++ (l.drop 0).take k) ++ [] = downL l k) := by
      have := HR.out
      rw [Nat.sub_self, List.take_zero] at this
      exact this
    clear HR HT2
    have i6 : (k : Int) ≤ (k : Int) + 1 := by omega
    go_enter Tryz.func43, Tryz.ntmps43
    go_wp2
    refine wp_region_any (by kernel_rfl) ?_
    try (change wpAny _ _ _ _ _ _ _ (World.drew _))
    refine wpAny_take (i := 1) (v := ?_) rfl (by kernel_rfl) (by kernel_rfl) (by kernel_rfl) (fun _ _ _ h => h) (Or.inl ⟨by rfl, ?_⟩) ?_
    rotate_left
    focus (intro w0; go_simp; try with_reducible rfl)
    refine wpAny_take (i := 2) (v := ?_) rfl (by kernel_rfl) (by kernel_rfl) (by kernel_rfl) (fun _ _ _ h => h) (Or.inl ⟨by rfl, ?_⟩) ?_
    rotate_left
    focus (intro w0; go_simp; try with_reducible rfl)
    refine wpAny_take (i := 3) (v := ?_) rfl (by kernel_rfl) (by kernel_rfl) (by kernel_rfl) (fun _ _ _ h => h) (Or.inl ⟨by rfl, ?_⟩) ?_
    rotate_left
    focus (intro w0; go_simp; try with_reducible rfl)
    refine wpAny_take (i := 5) (v := ?_) rfl (by kernel_rfl) (by kernel_rfl) (by kernel_rfl) (fun _ _ _ h => h) (Or.inl ⟨by rfl, ?_⟩) ?_
    rotate_left
    focus (intro w0; go_simp; try with_reducible rfl)
    refine wpAny_take (i := 6) (v := ?_) rfl (by kernel_rfl) (by kernel_rfl) (by kernel_rfl) (fun _ _ _ h => h) (Or.inl ⟨by rfl, ?_⟩) ?_
    rotate_left
    focus (intro w0; go_simp; try with_reducible rfl)
    refine wpAny_take (i := 7) (v := ?_) rfl (by kernel_rfl) (by kernel_rfl) (by kernel_rfl) (fun _ _ _ h => h) (Or.inl ⟨by rfl, ?_⟩) ?_
    rotate_left
    focus (intro w0; go_simp; try with_reducible rfl)
    refine wpAny_take (i := 8) (v := ?_) rfl (by kernel_rfl) (by kernel_rfl) (by kernel_rfl) (fun _ _ _ h => h) (Or.inl ⟨by rfl, ?_⟩) ?_
    rotate_left
    focus (intro w0; go_simp; try with_reducible rfl)
    refine wpAny_ready (rs := [0]) (by kernel_rfl) (by simp) (AllReady.cons rfl (fun K hK => ?_) (AllReady.nil))
    go_simp
    refine hK _ _ ?_
    clear hK K
    refine wpAny_ready (rs := [4]) (by kernel_rfl) (by simp) (AllReady.cons rfl (fun K hK => ?_) (AllReady.nil))
    (refine step_list (by rintro ⟨_, _, h⟩; obtain ⟨_, hv, _⟩ := h; cases hv) (by kernel_rfl) ?_; refine wpList_append_own_at _ rfl _ _ 23 rfl w.heap.size 60 i0 (.agg #[.int .i64 (0), .int .i64 (0)]) 2 16 Tryz.underlying23 hi hz0 hz1 hz2 rfl (by decide) _ _ _ rfl HOw.out _ _ _ _ rfl (piece_len HT1.out) (piece_cells (HCl.out _ HBd.out) HT1.out) (piece_one _) (by unfold maxLen; simp; omega) (by simp; omega) HBz.out ?_; intro v2 w2 hown2 hgrow2 _ _; have HB2 := Lib.hid (HBd.out.grown hgrow2 HBz.out (fun q hq => (World.ownsRow.lt HOw.out q hq).1)); have HO2 := Lib.hid (Vecs.join (l := []) hown2 (by have := HL.out; simp <;> omega)); clear hown2 hgrow2)
    refine hK _ _ ?_
    clear hK K
    refine wpAny_ready (rs := [9]) (by kernel_rfl) (by simp) (AllReady.cons rfl (fun K hK => ?_) (AllReady.nil))
    (refine step_list (by rintro ⟨_, _, h⟩; obtain ⟨_, hv, _⟩ := h; cases hv) (by kernel_rfl) ?_; refine wpList_append_own_at _ rfl _ _ 23 rfl w.heap.size 60 i0 (.agg #[.int .i64 (0), .int .i64 (0)]) 2 16 Tryz.underlying23 hi hz0 hz1 hz2 rfl (by decide) _ _ _ rfl HO2.out _ 0 _ [] rfl rfl (fun j u hj => by simp at hj) (fun u hu => by simp at hu) (by unfold maxLen; simp; omega) (by simp; omega) HB2.out.size ?_; intro v3 w3 hown3 hgrow3 _ _; have HB3 := Lib.hid (HB2.out.grown hgrow3 HB2.out.size (fun q hq => (World.ownsRow.lt HO2.out q hq).1)); have HO3 := Lib.hid (Vecs.join (m := []) hown3 (by have := HL.out; simp <;> omega)); clear hown3 hgrow3)
    refine hK _ _ ?_
    clear hK K
    refine wpAny_seq 10 rfl (by kernel_rfl) ?_
    simp only [List.drop_succ_cons, List.drop_zero]
    all_goals go_wp2
    all_goals go_returns
    all_goals exact ⟨_, rfl, by rw [← HR2.out]; exact HO3.out, HB3.out⟩
  case neg =>
    have j1 : k + 1 ≤ n := by omega
    have i5 : (k : Int) + 1 ≤ (n : Int) := by omega
    have j2 : ¬ (k + 1) * 2 = 0 := by omega
    have j3 : k + 1 ≤ c := by omega
    go_enter Tryz.func43, Tryz.ntmps43
    go_wp2
    refine wp_region_any (by kernel_rfl) ?_
    try (change wpAny _ _ _ _ _ _ _ (World.drew _))
    refine wpAny_take (i := 1) (v := ?_) rfl (by kernel_rfl) (by kernel_rfl) (by kernel_rfl) (fun _ _ _ h => h) (Or.inl ⟨by rfl, ?_⟩) ?_
    rotate_left
    focus (intro w0; go_simp; try with_reducible rfl)
    refine wpAny_take (i := 2) (v := ?_) rfl (by kernel_rfl) (by kernel_rfl) (by kernel_rfl) (fun _ _ _ h => h) (Or.inl ⟨by rfl, ?_⟩) ?_
    rotate_left
    focus (intro w0; go_simp; try with_reducible rfl)
    refine wpAny_take (i := 3) (v := ?_) rfl (by kernel_rfl) (by kernel_rfl) (by kernel_rfl) (fun _ _ _ h => h) (Or.inl ⟨by rfl, ?_⟩) ?_
    rotate_left
    focus (intro w0; go_simp; try with_reducible rfl)
    refine wpAny_take (i := 5) (v := ?_) rfl (by kernel_rfl) (by kernel_rfl) (by kernel_rfl) (fun _ _ _ h => h) (Or.inl ⟨by rfl, ?_⟩) ?_
    rotate_left
    focus (intro w0; go_simp; try with_reducible rfl)
    refine wpAny_take (i := 6) (v := ?_) rfl (by kernel_rfl) (by kernel_rfl) (by kernel_rfl) (fun _ _ _ h => h) (Or.inl ⟨by rfl, ?_⟩) ?_
    rotate_left
    focus (intro w0; go_simp; try with_reducible rfl)
    refine wpAny_take (i := 7) (v := ?_) rfl (by kernel_rfl) (by kernel_rfl) (by kernel_rfl) (fun _ _ _ h => h) (Or.inl ⟨by rfl, ?_⟩) ?_
    rotate_left
    focus (intro w0; go_simp; try with_reducible rfl)
    refine wpAny_take (i := 8) (v := ?_) rfl (by kernel_rfl) (by kernel_rfl) (by kernel_rfl) (fun _ _ _ h => h) (Or.inl ⟨by rfl, ?_⟩) ?_
    rotate_left
    focus (intro w0; go_simp; try with_reducible rfl)
    refine wpAny_ready (rs := [0]) (by kernel_rfl) (by simp) (AllReady.cons rfl (fun K hK => ?_) (AllReady.nil))
    go_simp
    refine hK _ _ ?_
    clear hK K
    refine wpAny_ready (rs := [4]) (by kernel_rfl) (by simp) (AllReady.cons rfl (fun K hK => ?_) (AllReady.nil))
    (refine step_list (by rintro ⟨_, _, h⟩; obtain ⟨_, hv, _⟩ := h; cases hv) (by kernel_rfl) ?_; refine wpList_append_own_at _ rfl _ _ 23 rfl w.heap.size 60 i0 (.agg #[.int .i64 (0), .int .i64 (0)]) 2 16 Tryz.underlying23 hi hz0 hz1 hz2 rfl (by decide) _ _ _ rfl HOw.out _ _ _ _ rfl (piece_len HT1.out) (piece_cells (HCl.out _ HBd.out) HT1.out) (piece_one _) (by unfold maxLen; simp; omega) (by simp; omega) HBz.out ?_; intro v2 w2 hown2 hgrow2 _ _; have HB2 := Lib.hid (HBd.out.grown hgrow2 HBz.out (fun q hq => (World.ownsRow.lt HOw.out q hq).1)); have HO2 := Lib.hid (Vecs.join (l := []) hown2 (by have := HL.out; simp <;> omega)); clear hown2 hgrow2)
    refine hK _ _ ?_
    clear hK K
    refine wpAny_ready (rs := [9]) (by kernel_rfl) (by simp) (AllReady.cons rfl (fun K hK => ?_) (AllReady.nil))
    (refine step_list (by rintro ⟨_, _, h⟩; obtain ⟨_, hv, _⟩ := h; cases hv) (by kernel_rfl) ?_; refine wpList_append_own_at _ rfl _ _ 23 rfl w.heap.size 60 i0 (.agg #[.int .i64 (0), .int .i64 (0)]) 2 16 Tryz.underlying23 hi hz0 hz1 hz2 rfl (by decide) _ _ _ rfl HO2.out _ _ _ _ rfl (piece_len HT2.out) (piece_cells (HCl.out _ HB2.out) HT2.out) (piece_one _) (by unfold maxLen; simp; omega) (by simp; omega) HB2.out.size ?_; intro v3 w3 hown3 hgrow3 _ _; have HB3 := Lib.hid (HB2.out.grown hgrow3 HB2.out.size (fun q hq => (World.ownsRow.lt HO2.out q hq).1)); have HO3 := Lib.hid (Vecs.join hown3 (by have := HL.out; simp <;> omega)); clear hown3 hgrow3)
    refine hK _ _ ?_
    clear hK K
    refine wpAny_seq 10 rfl (by kernel_rfl) ?_
    simp only [List.drop_succ_cons, List.drop_zero]
    all_goals go_wp2
    all_goals go_returns
    all_goals exact ⟨_, rfl, by rw [← HR.out]; exact HO3.out, HB3.out⟩
end Go.Proofs.YtdlofnkimikaiaaGreatDoor

/- Fans, the model's side: FanLeast. -/
namespace Go.Proofs.YtdlofnkimikaiaaGreatDoor
open Go.RowKit

theorem smooth_nz {l : List V2} (h : Smooth l) (i : Nat) : nzB (cyc l i).1 (cyc l i).2 = true := by
  have hd := h.2 i
  by_cases hx : (cyc l i).1 = 0
  · by_cases hy : (cyc l i).2 = 0
    · exfalso
      simp [detV, detZ, hx, hy] at hd
    · simp [nzB, hy]
  · simp [nzB, hx]
def lenV : Value → Nat
  | .slice _ n _ => n
  | _ => 0
def LeastS (w : World) (l : List V2) (s4 s5 : Value) (wr : World) : Prop :=
  ∃ (L : List V2) (k : Nat), Vecs wr w.heap.size s4 L ∧ s5 = .int .i64 k ∧ Smooth L ∧ 0 < L.length ∧ L.length ≤ 1000 ∧ leastL L = leastL l ∧ k ≤ L.length ∧ (∀ j, j < k → downB L j = false) ∧ Below w.heap.size w wr
theorem all_down {L : List V2} {k : Nat} (h : ∀ j, j < k → downB L j = false) (hk : k = L.length ∨ ¬ 3 < L.length) : ∀ i, i < L.length → downB L i = false := by
  intro i hi
  rcases hk with rfl | hk
  · exact h i hi
  · unfold downB
    rw [show decide (3 < L.length) = false by simpa using hk]
    rfl
set_option maxHeartbeats 8000000 in
theorem specFanLeast_any (v : Value) (l : List V2) (w : World) (hl : ReadsVecs w v l) :
    Calls Tryz.prog 18 #[v] w (GivesVecsOk w (gV (smoothB l) (tidyL (leastL l))) (smoothB l)) := by
  have HF := Lib.hid (specFanSmooth_any v l w hl)
  have hE := Lib.hid (fun w' => Vecs.empty w')
  cases hb : smoothB l
  · rw [hb] at HF
    clear hb hl
    go_enter Tryz.func18, Tryz.ntmps18
    go_wp2_with fail
    refine Calls.mono HF.out ?_
    rintro e w1 ⟨rfl, hb1⟩
    have hs1 := hb1.size
    have HE := Lib.hid ((hE.out w1).lower hs1)
    go_wp2
    go_returns
    exact ⟨_, rfl, HE.out, by go_grown⟩
  · rw [hb] at HF
    have HS := Lib.hid (smooth_all hb)
    have h20 := fan_len (smooth_in hb).1
    obtain ⟨i0, hi, hz0, hz1, hz2⟩ := info_parts infoVec
    obtain ⟨bb, off, c, rfl, hc, hmm, hbb, hcs⟩ := hl.open (by omega)
    have HCl := Lib.hid hcs
    have HT1 : Hid (0 + l.length ≤ l.length) := by show 0 + l.length ≤ l.length; omega
    have h20' := h20.2
    clear hcs hl hb
    go_enter Tryz.func18, Tryz.ntmps18
    go_wp2_with fail
    refine Calls.mono HF.out ?_
    rintro e w1 ⟨rfl, hb1⟩
    have hs1 := hb1.size
    have HOw : Hid (Vecs (w1.alloc (.cells #[] 60)) w.heap.size (.slice (some ⟨w1.heap.size, 0, none⟩) 0 0) []) := (Vecs.empty w1).lower hs1
    have hBd : Below w.heap.size w (w1.alloc (.cells #[] 60)) := by go_grown
    have HBd := Lib.hid hBd
    have hbd : w.heap.size ≤ (w1.alloc (.cells #[] 60)).heap.size := hBd.size
    have HBz := Lib.hid hbd
    clear hBd hbd
    go_wp2_with (at_builtin; refine wpList_append_own_at _ rfl _ _ 23 rfl w.heap.size 60 i0 (.agg #[.int .i64 (0), .int .i64 (0)]) 2 16 Tryz.underlying23 hi hz0 hz1 hz2 rfl (by decide) _ _ _ rfl HOw.out _ _ _ _ rfl (piece_len HT1.out) (piece_cells (HCl.out _ HBd.out) HT1.out) (piece_one _) ?c3 ?c4 HBz.out ?_)
    case c3 => unfold maxLen; simp; omega
    case c4 => simp; omega
    intro v2 w2 hown2 hgrow2 _ _
    have hB2 := HBd.out.grown hgrow2 HBz.out (fun q hq => (World.ownsRow.lt HOw.out q hq).1)
    have hV2' := Vecs.join (l := []) hown2 (by simp)
    have hV2 : Vecs w2 w.heap.size v2 l := by first | exact hV2' | (simpa using hV2')
    clear hV2'
    have HI0 : Hid (LeastS w l v2 (.int .i64 0) w2) := ⟨l, 0, hV2, rfl, HS.out, by omega, by omega, rfl, by omega, fun j hj => by omega, hB2⟩
    clear hown2 hgrow2 hB2 hV2 HOw HBd HBz HCl HT1 HF hb1 hs1 HS
    go_wp2
    go_loopw [4, 5] (fun s4 s5 wr => Hid (LeastS w l s4 s5 wr)) (fun s4 s5 _ => lenV s4 * 2000 + (lenV s4 - (intOf s5).toNat))
    case atStart => exact HI0
    case round =>
      obtain ⟨L, k, hV, he, hS, h0, hm, hle, hk, hno, hB⟩ := hrel.out
      clear hrel HI0
      have hr := hV.reads (by omega)
      obtain ⟨a4, c4, hev, _⟩ := hr
      have HV := Lib.hid hV
      have HNo := Lib.hid hno
      have HLe := Lib.hid hle
      have HS := Lib.hid hS
      have i1 : (0 : Int) ≤ (k : Int) := by omega
      clear hV hno hle hS
      subst hev
      subst he
      by_cases hgo : k < L.length ∧ 3 < L.length
      · obtain ⟨hkl, h3⟩ := hgo
        have HN := Lib.hid (l3Number_any _ L k wr (HV.out.reads (by omega)) hkl hm HS.out)
        have HD : Hid (downB L k = (decide (3 < L.length) && (numZ L k == -1))) := rfl
        have i2 : (k : Int) < (L.length : Int) := by omega
        have i3 : (3 : Int) < (L.length : Int) := by omega
        have j2 : decide (3 < L.length) = true := by simpa using h3
        rw [j2] at HD
        by_cases hz : numZ L k = -1
        · have hz2 : (numZ L k == -1) = true := by simpa using hz
          rw [hz2] at HD
          rw [hz] at HN
          have HDt : Hid (downB L k = true) := HD.out
          have HWo := Lib.hid (fun w' (hb : Below wr.heap.size wr w') => l3Without_any _ L k w' ((HV.out.reads (by omega)).below hb) hkl hm)
          have HSd := Lib.hid (smooth_down HS.out hkl HDt.out)
          have HLd := Lib.hid ((least_step hkl HDt.out HNo.out).symm.trans HLe.out)
          have hdl := downL_len (l := L) hkl
          have HB := Lib.hid hB
          clear HD hz hz2 HV HNo HLe HS HDt
          go_wp2_with fail
          refine Calls.mono HN.out ?_
          rintro e w3 ⟨rfl, hb3⟩
          go_wp2_with fail
          refine Calls.mono (HWo.out _ hb3) ?_
          rintro e w4 ⟨v4, rfl, hV4, hb4⟩
          have hB3 := belowTo HB.out hb3
          have HI4 : Hid (LeastS w l v4 (.int .i64 0) w4) := ⟨downL L k, 0, hV4.lower hB3.size, rfl, HSd.out, by omega, by omega, HLd.out, by omega, fun j hj => by omega, belowTo hB3 hb4⟩
          obtain ⟨a5, c5, hev, _⟩ := hV4.reads (by omega)
          subst hev
          rw [hdl] at HI4
          clear hV4 hB3 hb4 hb3 hB
          go_wp2
          go_roundw
          case rel => exact HI4
          case measure => simp [lenV, intOf]; omega
        · have hz2 : (numZ L k == -1) = false := by simpa using hz
          rw [hz2] at HD
          generalize numZ L k = z at *
          have HI4 : Hid (∀ w4, Below wr.heap.size wr w4 → LeastS w l (.slice a4 L.length c4) (.int .i64 ((k : Int) + 1)) w4) := fun w4 hb4 =>
            ⟨L, k + 1, HV.out.below hb4, by simp, HS.out, h0, hm, HLe.out, by omega, fun j hj => by
              by_cases e : j = k
              · subst e; exact HD.out
              · exact HNo.out j (by omega), belowTo hB hb4⟩
          clear HD HV HNo HLe HS hB
          go_wp2_with fail
          refine Calls.mono HN.out ?_
          rintro e w3 ⟨rfl, hb3⟩
          have HI5 := Lib.hid (HI4.out _ hb3)
          clear hb3 HI4
          go_wp2
          go_roundw
          case rel => exact HI5
          case measure => simp [lenV, intOf]; omega
      · have HE : Hid (leastL L = L) := least_end (all_down HNo.out (by omega))
        have HE2 : Hid (leastL l = L) := HLe.out.symm.trans HE.out
        have HT := Lib.hid (l3Tidy_any _ L wr (HV.out.reads (by omega)) h0 hm HS.out.1 (smooth_nz HS.out))
        have hs := hB.size
        clear HE HNo HLe HS HV
        have fin : ∀ (w5 : World) (v5 : Value), Vecs w5 wr.heap.size v5 (tidyL L) → Below wr.heap.size wr w5 → Vecs w5 w.heap.size v5 (tidyL (leastL l)) ∧ Below w.heap.size w w5 := fun w5 v5 h1 h2 => ⟨by rw [HE2.out]; exact h1.lower hs, belowTo hB h2⟩
        have HFin := Lib.hid fin
        clear fin HE2
        by_cases hkl : k < L.length
        · have h3 : ¬ (3 : Int) < (L.length : Int) := by omega
          have i2 : (k : Int) < (L.length : Int) := by omega
          go_wp2_with fail
          refine Calls.mono HT.out ?_
          rintro e w5 ⟨v5, rfl, hV5, hb5⟩
          have HFF := Lib.hid (HFin.out w5 v5 hV5 hb5)
          clear hV5 hb5
          go_wp2
          go_returns
          exact ⟨_, rfl, HFF.out.1, HFF.out.2⟩
        · have i2 : ¬ (k : Int) < (L.length : Int) := by omega
          go_wp2_with fail
          refine Calls.mono HT.out ?_
          rintro e w5 ⟨v5, rfl, hV5, hb5⟩
          have HFF := Lib.hid (HFin.out w5 v5 hV5 hb5)
          clear hV5 hb5
          go_wp2
          go_returns
          exact ⟨_, rfl, HFF.out.1, HFF.out.2⟩
end Go.Proofs.YtdlofnkimikaiaaGreatDoor
