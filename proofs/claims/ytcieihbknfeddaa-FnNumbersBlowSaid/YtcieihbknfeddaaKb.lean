/- Fans: blown up at a cone: the model's side. -/
import Derived.Test.YtcieihbknfeddaaBb
import Derived.Test.YtcieihbknfeddaaBa
namespace Go.Proofs.Ytcieihbknfeddaa
open Go.RowKit

theorem two_cells {W : World} {b : Nat} {x y : Value} (h0 : W.cell? ⟨b, 0, none⟩ = some x) (h1 : W.cell? ⟨b, 1, none⟩ = some y) : ∀ j u, [x, y][j]? = some u → W.cell? ((⟨b, 0, none⟩ : Addr).add j) = some u := by
  intro j u hj
  match j, hj with
  | 0, hj => simp at hj; subst hj; simpa [Addr.add] using h0
  | 1, hj => simp at hj; subst hj; simpa [Addr.add] using h1
theorem two_one (x y : Int) : ∀ u ∈ [Value.int .i64 x, Value.int .i64 y], u.oneCell' = true := by
  intro u hu
  simp at hu
  rcases hu with rfl | rfl <;> rfl
theorem cell_same {W W' : World} {b : Nat} (h : W'.heap[b]? = W.heap[b]?) (o : Nat) : W'.cell? ⟨b, o, none⟩ = W.cell? ⟨b, o, none⟩ := by
  unfold World.cell?
  simp only [h]
theorem idx_is' (l : List V2) (i : Int) : (decide (0 ≤ i) && decide (i ≤ (l.length : Int) - 1)) = idxB l i := by
  unfold idxB
  congr 1
  exact decide_eq_decide.2 (by omega)
set_option maxHeartbeats 16000000 in
theorem specFanBlow_any (v : Value) (l : List V2) (i : Int) (w : World) (hl : ReadsVecs w v l) :
    Calls Try.prog 23 #[v, .int .i64 i] w (GivesVecsOk w (gV (smoothB l && blowB l i) (blowL l i.toNat (blowP l i.toNat))) (smoothB l && blowB l i)) := by
  have HF := Lib.hid (specFanSmooth_any v l w hl)
  have hE := Lib.hid (fun w' => Vecs.empty w')
  have HI := Lib.hid (fun w' => l6In_any i 0 ((l.length : Int) - 1) w')
  rw [idx_is'] at HI
  have HLen : Hid (smoothB l = true → l.length ≤ 20) := fun h => (fan_len (smooth_in (l := l) h).1).2
  have HSm := Lib.hid (fun h => (smooth_all (l := l) h).1)
  have hop := fun h0 => hl.open h0
  obtain ⟨a, c, rfl, hcap, hmm, _⟩ := hl
  have q1 : IntKind.i64.wrap ((l.length : Int) - 1) = (l.length : Int) - 1 := by rw [IntKind.wrap_i64]; omega
  unfold blowB
  cases hb : smoothB l
  · rw [hb] at HF
    clear hb HI hop
    go_enter Try.func23, Try.ntmps23
    go_wp2_with fail
    refine Calls.mono HF.out ?_
    rintro e w1 ⟨rfl, hb1⟩
    have hs1 := hb1.size
    have HE := Lib.hid ((hE.out w1).lower hs1)
    go_wp2
    go_returns
    exact ⟨_, rfl, HE.out, by go_grown⟩
  · rw [hb] at HF HLen HSm
    clear hb
    cases hi : idxB l i
    · rw [hi] at HI
      clear hi hop
      go_enter Try.func23, Try.ntmps23
      go_wp2_with fail
      refine Calls.mono HF.out ?_
      rintro e w1 ⟨rfl, hb1⟩
      have hs1 := hb1.size
      have HE := Lib.hid ((hE.out w1).lower hs1)
      go_wp2_with fail
      refine Calls.mono (HI.out _) ?_
      rintro e w2 ⟨rfl, rfl⟩
      go_wp2
      go_returns
      exact ⟨_, rfl, HE.out, by go_grown⟩
    · rw [hi] at HI
      obtain ⟨k, rfl, hk⟩ := idx_in hi
      rw [Int.toNat_natCast]
      have h20 := HLen.out (by simp)
      obtain ⟨bb, off, c', hev, _, _, hbb, hcs⟩ := hop (by omega)
      injection hev with ha _ hc'
      subst ha
      have hv := HSm.out (by simp)
      obtain ⟨v1a, v1b⟩ := vecB_true (hv k)
      obtain ⟨v2a, v2b⟩ := vecB_true (hv (k + 1))
      obtain ⟨b1, b2⟩ := szB_true v1a
      obtain ⟨b3, b4⟩ := szB_true v1b
      obtain ⟨b5, b6⟩ := szB_true v2a
      obtain ⟨b7, b8⟩ := szB_true v2b
      have HCl := Lib.hid hcs
      have HX := Lib.hid (fun w' => l3Next_any (some ⟨bb, off, none⟩) l.length c k w' hk (by omega))
      have hjn : (k + 1) % l.length < l.length := Nat.mod_lt _ (by omega)
      have HCa := Lib.hid (fun w' (h : Below w.heap.size w w') => hcs w' h k hk)
      have HCb := Lib.hid (fun w' (h : Below w.heap.size w w') => hcs w' h _ hjn)
      rw [cyc_mod] at HCb
      have i1 : (0 : Int) ≤ (k : Int) := by omega
      have i2 : (k : Int) < (l.length : Int) := by omega
      have i3 : (0 : Int) ≤ (((k + 1) % l.length : Nat) : Int) := by omega
      have i4 : (((k + 1) % l.length : Nat) : Int) < (l.length : Int) := by omega
      have HP : Hid (blowP l k = ((cyc l k).1 + (cyc l (k + 1)).1, (cyc l k).2 + (cyc l (k + 1)).2)) := rfl
      have s1 : IntKind.i64.wrap ((cyc l k).1 + (cyc l (k + 1)).1) = (cyc l k).1 + (cyc l (k + 1)).1 := by rw [IntKind.wrap_i64]; omega
      have s2 : IntKind.i64.wrap ((cyc l k).2 + (cyc l (k + 1)).2) = (cyc l k).2 + (cyc l (k + 1)).2 := by rw [IntKind.wrap_i64]; omega
      clear hi hop hcs hc' HSm HLen hv v1a v1b v2a v2b
      generalize (k + 1) % l.length = m at *
      generalize cyc l (k + 1) = z2 at *
      generalize cyc l k = z1 at *
      obtain ⟨x1, y1⟩ := z1
      obtain ⟨x2, y2⟩ := z2
      dsimp only at HCa HCb s1 s2 HP b1 b2 b3 b4 b5 b6 b7 b8
      rw [HP.out]
      obtain ⟨n, hn⟩ : ∃ n, n = l.length := ⟨_, rfl⟩
      have HL := Lib.hid hn
      rw [← hn] at h20 hk hmm hcap i2 i4 q1 HI HX HF
      rw [← hn]
      clear hn
      go_enter Try.func23, Try.ntmps23
      go_wp2_with fail
      refine Calls.mono HF.out ?_
      rintro e w1 ⟨rfl, hb1⟩
      go_wp2_with fail
      refine Calls.mono (HI.out _) ?_
      rintro e w2 ⟨rfl, rfl⟩
      obtain ⟨d0, d1⟩ := HCb.out w1 hb1
      have hbl := Nat.lt_of_lt_of_le hbb hb1.size
      go_wp2_with fail
      refine Calls.mono (HX.out _) ?_
      rintro e w2 ⟨rfl, rfl⟩
      obtain ⟨f0, f1⟩ := HCa.out w1 hb1
      have hbl1 : bb < w1.heap.size + 1 := by omega
      go_wp2
      go_region
      have hs1 := hb1.size
      have hBW0 : Below w.heap.size w ((w1.alloc (.cells #[.int .i64 x2, .int .i64 y2] 51)).alloc (.cells #[.int .i64 (x1 + x2), .int .i64 (y1 + y2)] 51)).drew := by go_grown
      have c0 : (((w1.alloc (.cells #[.int .i64 x2, .int .i64 y2] 51)).alloc (.cells #[.int .i64 (x1 + x2), .int .i64 (y1 + y2)] 51)).drew).cell? ⟨w1.heap.size + 1, 0, none⟩ = some (.int .i64 (x1 + x2)) := by simp
      have c1 : (((w1.alloc (.cells #[.int .i64 x2, .int .i64 y2] 51)).alloc (.cells #[.int .i64 (x1 + x2), .int .i64 (y1 + y2)] 51)).drew).cell? ⟨w1.heap.size + 1, 1, none⟩ = some (.int .i64 (y1 + y2)) := by simp
      have hrb : w1.heap.size + 1 < (((w1.alloc (.cells #[.int .i64 x2, .int .i64 y2] 51)).alloc (.cells #[.int .i64 (x1 + x2), .int .i64 (y1 + y2)] 51)).drew).heap.size := by simp only [World.size_alloc, World.size_drew]; omega
      clear d0 d1 f0 f1 hbl hbl1 HCa HCb HX HI HF i2 i3 i4 b1 b2 b3 b4 b5 b6 b7 b8 s1 s2 q1
      generalize (((w1.alloc (.cells #[.int .i64 x2, .int .i64 y2] 51)).alloc (.cells #[.int .i64 (x1 + x2), .int .i64 (y1 + y2)] 51)).drew) = W at *
      generalize w1.heap.size + 1 = rb at *
      clear hb1 hs1
      obtain ⟨i0, hi, hz0, hz1, hz2⟩ := info_parts infoVec
      have HBW := Lib.hid hBW0
      have HCl' : Hid (∀ wr, Below W.heap.size W wr → ∀ j, j < l.length → wr.cell? ⟨bb, off + j * 2, none⟩ = some (.int .i64 (cyc l j).1) ∧ wr.cell? ⟨bb, off + j * 2 + 1, none⟩ = some (.int .i64 (cyc l j).2)) := fun wr h => HCl.out wr (belowTo hBW0 h)
      clear HCl hBW0
      have HCl := HCl'
      clear HCl'
      have HO1 : Hid (Vecs (W.drew.alloc (.cells #[] 51)) W.heap.size (.slice (some ⟨W.heap.size, 0, none⟩) 0 0) []) := Vecs.empty W.drew
      have hB1 : Below W.heap.size W (W.drew.alloc (.cells #[] 51)) := by go_grown
      have HB1 := Lib.hid hB1
      have HO2 : Hid (Vecs ((W.drew.alloc (.cells #[] 51)).alloc (.cells #[.int .i64 (x1 + x2), .int .i64 (y1 + y2)] 51)) W.heap.size (.slice (some ⟨W.heap.size, 0, none⟩) 0 0) []) := HO1.out.below (by go_grown)
      have hB2 : Below W.heap.size W ((W.drew.alloc (.cells #[] 51)).alloc (.cells #[.int .i64 (x1 + x2), .int .i64 (y1 + y2)] 51)) := by go_grown
      have HB2 := Lib.hid hB2
      have hO3 := (Vecs.empty (W.drew.alloc (.cells #[.int .i64 (x1 + x2), .int .i64 (y1 + y2)] 51))).lower (base' := W.heap.size) (by simp)
      simp only [World.size_alloc, World.size_drew] at hO3
      have HO3 : Hid (Vecs ((W.drew.alloc (.cells #[.int .i64 (x1 + x2), .int .i64 (y1 + y2)] 51)).alloc (.cells #[] 51)) W.heap.size (.slice (some ⟨W.heap.size + 1, 0, none⟩) 0 0) []) := hO3
      have hB3 : Below W.heap.size W ((W.drew.alloc (.cells #[.int .i64 (x1 + x2), .int .i64 (y1 + y2)] 51)).alloc (.cells #[] 51)) := by go_grown
      have HB3 := Lib.hid hB3
      have KE0 : Hid (((W.drew.alloc (.cells #[] 51)).alloc (.cells #[.int .i64 (x1 + x2), .int .i64 (y1 + y2)] 51)).cell? ⟨W.heap.size + 1, 0, none⟩ = some (.int .i64 (x1 + x2))) := by show ((W.drew.alloc (.cells #[] 51)).alloc (.cells #[.int .i64 (x1 + x2), .int .i64 (y1 + y2)] 51)).cell? ⟨W.heap.size + 1, 0, none⟩ = some (.int .i64 (x1 + x2)); rw [World.cell?_alloc_at _ _ _ _ (by simp only [World.size_alloc, World.size_drew])]; rfl
      have KE1 : Hid (((W.drew.alloc (.cells #[] 51)).alloc (.cells #[.int .i64 (x1 + x2), .int .i64 (y1 + y2)] 51)).cell? ⟨W.heap.size + 1, 1, none⟩ = some (.int .i64 (y1 + y2))) := by show ((W.drew.alloc (.cells #[] 51)).alloc (.cells #[.int .i64 (x1 + x2), .int .i64 (y1 + y2)] 51)).cell? ⟨W.heap.size + 1, 1, none⟩ = some (.int .i64 (y1 + y2)); rw [World.cell?_alloc_at _ _ _ _ (by simp only [World.size_alloc, World.size_drew])]; rfl
      have KR0 : Hid (((W.drew.alloc (.cells #[.int .i64 (x1 + x2), .int .i64 (y1 + y2)] 51)).alloc (.cells #[] 51)).cell? ⟨W.heap.size, 0, none⟩ = some (.int .i64 (x1 + x2))) := by show ((W.drew.alloc (.cells #[.int .i64 (x1 + x2), .int .i64 (y1 + y2)] 51)).alloc (.cells #[] 51)).cell? ⟨W.heap.size, 0, none⟩ = some (.int .i64 (x1 + x2)); rw [World.cell?_alloc_lt _ _ ⟨_, _, none⟩ (by simp only [World.size_alloc, World.size_drew]; omega), World.cell?_alloc_at _ _ _ _ (by simp only [World.size_drew])]; rfl
      have KR1 : Hid (((W.drew.alloc (.cells #[.int .i64 (x1 + x2), .int .i64 (y1 + y2)] 51)).alloc (.cells #[] 51)).cell? ⟨W.heap.size, 1, none⟩ = some (.int .i64 (y1 + y2))) := by show ((W.drew.alloc (.cells #[.int .i64 (x1 + x2), .int .i64 (y1 + y2)] 51)).alloc (.cells #[] 51)).cell? ⟨W.heap.size, 1, none⟩ = some (.int .i64 (y1 + y2)); rw [World.cell?_alloc_lt _ _ ⟨_, _, none⟩ (by simp only [World.size_alloc, World.size_drew]; omega), World.cell?_alloc_at _ _ _ _ (by simp only [World.size_drew])]; rfl
      clear hB1 hB2 hB3 hO3
      have h20l : l.length ≤ 20 := by have := HL.out; omega
      have q1 : IntKind.i64.wrap ((k : Int) + 1) = (k : Int) + 1 := by rw [IntKind.wrap_i64]; omega
      have q2 : ((k : Int) + 1).toNat = k + 1 := by omega
      have q3 : (0 : Int) ≤ (k : Int) + 1 := by omega
      have q4 : (k : Int) + 1 ≤ (c : Int) := by omega
      have q5 : k + 1 ≤ c := by omega
      have q6 : ¬ c = 0 := by omega
      have HT1 : Hid (0 + (k + 1) ≤ l.length) := by have := HL.out; show 0 + (k + 1) ≤ l.length; omega
      have HK0 : Hid (k < l.length) := by have := HL.out; show k < l.length; omega
      have HSI := Lib.hid (fun v' (L : List V2) w' h' => specFanIn_any v' L w' h')
      by_cases hck : c = k + 1
      case pos =>
        have hnk : n = k + 1 := by omega
        subst hck
        subst hnk
        have HR : Hid ((([] ++ (l.drop 0).take (k + 1)) ++ [(x1 + x2, y1 + y2)]) ++ [] = blowL l k (x1 + x2, y1 + y2)) := by
          unfold blowL
          rw [List.drop_of_length_le (i := k + 1) (by have := HL.out; omega)]
          rfl
        have i6 : (k : Int) ≤ (k : Int) + 1 := by omega
        go_wp2
        refine wp_region_any (by kernel_rfl) ?_
        try (change wpAny _ _ _ _ _ _ _ (World.drew _))
        refine wpAny_take (i := 1) (v := ?_) rfl (by kernel_rfl) (by kernel_rfl) (by kernel_rfl) (fun _ _ _ h => h) (Or.inl ⟨by rfl, ?_⟩) ?_
        rotate_left
        focus (intro w0; go_simp; try with_reducible rfl)
        refine wpAny_take (i := 2) (v := ?_) rfl (by kernel_rfl) (by kernel_rfl) (by kernel_rfl) (fun _ _ _ h => h) (Or.inl ⟨by rfl, ?_⟩) ?_
        rotate_left
        focus (intro w0; go_simp; try with_reducible rfl)
        refine wpAny_take (i := 3) (v := ?_) rfl (by kernel_rfl) (by kernel_rfl) (by kernel_rfl) (fun _ _ _ h => h) (Or.inl ⟨by rfl, ?_⟩) ?_
        rotate_left
        focus (intro w0; go_simp; try with_reducible rfl)
        refine wpAny_take (i := 4) (v := ?_) rfl (by kernel_rfl) (by kernel_rfl) (by kernel_rfl) (fun _ _ _ h => h) (Or.inl ⟨by rfl, ?_⟩) ?_
        rotate_left
        focus (intro w0; go_simp; try with_reducible rfl)
        refine wpAny_take (i := 9) (v := ?_) rfl (by kernel_rfl) (by kernel_rfl) (by kernel_rfl) (fun _ _ _ h => h) (Or.inl ⟨by rfl, ?_⟩) ?_
        rotate_left
        focus (intro w0; go_simp; try with_reducible rfl)
        refine wpAny_take (i := 10) (v := ?_) rfl (by kernel_rfl) (by kernel_rfl) (by kernel_rfl) (fun _ _ _ h => h) (Or.inl ⟨by rfl, ?_⟩) ?_
        rotate_left
        focus (intro w0; go_simp; try with_reducible rfl)
        refine wpAny_take (i := 11) (v := ?_) rfl (by kernel_rfl) (by kernel_rfl) (by kernel_rfl) (fun _ _ _ h => h) (Or.inl ⟨by rfl, ?_⟩) ?_
        rotate_left
        focus (intro w0; go_simp; try with_reducible rfl)
        refine wpAny_take (i := 12) (v := ?_) rfl (by kernel_rfl) (by kernel_rfl) (by kernel_rfl) (fun _ _ _ h => h) (Or.inl ⟨by rfl, ?_⟩) ?_
        rotate_left
        focus (intro w0; go_simp; try with_reducible rfl)
        refine wpAny_ready (rs := [0, 6]) (by kernel_rfl) (by simp) (AllReady.cons rfl (fun K hK => ?_) (AllReady.cons rfl (fun K hK => ?_) (AllReady.nil)))
        focus
          go_simp
          refine hK _ _ ?_
          clear hK K
          refine wpAny_ready (rs := [5, 6]) (by kernel_rfl) (by simp) (AllReady.cons rfl (fun K hK => ?_) (AllReady.cons rfl (fun K hK => ?_) (AllReady.nil)))
          focus
            (refine step_list (by rintro ⟨_, _, h⟩; obtain ⟨_, hv, _⟩ := h; cases hv) (by kernel_rfl) ?_; first | (refine wpList_append_own_at _ rfl _ _ 40 rfl W.heap.size 51 i0 (.agg #[.int .i64 (0), .int .i64 (0)]) 2 16 Try.underlying40 hi hz0 hz1 hz2 rfl (by decide) (.slice (some ⟨W.heap.size, 0, none⟩) 0 0) _ _ rfl HO1.out _ _ _ _ rfl (piece_len HT1.out) (piece_cells (HCl.out _ HB1.out) HT1.out) (piece_one _) (by unfold maxLen; simp; omega) (by simp; omega) HB1.out.size ?_; intro v2 w2 hown2 hgrow2 _ _; have HBA := Lib.hid (HB1.out.grown hgrow2 HB1.out.size (fun q hq => (World.ownsRow.lt HO1.out q hq).1)); have HO := Lib.hid (Vecs.join (l := []) hown2 (by have := HL.out; simp <;> omega)); have b0 := (HBA.out.cell (p := ⟨rb, 0, none⟩) hrb).trans c0; have b1 := (HBA.out.cell (p := ⟨rb, 1, none⟩) hrb).trans c1; have bl := Nat.lt_of_lt_of_le hrb HBA.out.size; clear hown2 hgrow2) | (refine wpList_append_own_at _ rfl _ _ 40 rfl W.heap.size 51 i0 (.agg #[.int .i64 (0), .int .i64 (0)]) 2 16 Try.underlying40 hi hz0 hz1 hz2 rfl (by decide) (.slice (some ⟨W.heap.size + 1, 0, none⟩) 0 0) _ _ rfl HO3.out _ _ _ _ rfl (piece_len HT1.out) (piece_cells (HCl.out _ HB3.out) HT1.out) (piece_one _) (by unfold maxLen; simp; omega) (by simp; omega) HB3.out.size ?_; intro v2 w2 hown2 hgrow2 _ _; have HBA := Lib.hid (HB3.out.grown hgrow2 HB3.out.size (fun q hq => (World.ownsRow.lt HO3.out q hq).1)); have HO := Lib.hid (Vecs.join (l := []) hown2 (by have := HL.out; simp <;> omega)); have rr : w2.heap[W.heap.size]? = ((W.drew.alloc (.cells #[.int .i64 (x1 + x2), .int .i64 (y1 + y2)] 51)).alloc (.cells #[] 51)).heap[W.heap.size]? := hgrow2.block _ (by simp <;> omega) (by simp [Value.ownBlock]); have RR0 : Hid (w2.cell? ⟨W.heap.size, 0, none⟩ = some (.int .i64 (x1 + x2))) := (cell_same rr 0).trans KR0.out; have RR1 : Hid (w2.cell? ⟨W.heap.size, 1, none⟩ = some (.int .i64 (y1 + y2))) := (cell_same rr 1).trans KR1.out; clear rr; clear hown2 hgrow2) | (refine wpList_append_own_at _ rfl _ _ 40 rfl W.heap.size 51 i0 (.agg #[.int .i64 (0), .int .i64 (0)]) 2 16 Try.underlying40 hi hz0 hz1 hz2 rfl (by decide) (.slice (some ⟨W.heap.size, 0, none⟩) 0 0) _ _ rfl HO2.out _ _ _ _ rfl (piece_len HT1.out) (piece_cells (HCl.out _ HB2.out) HT1.out) (piece_one _) (by unfold maxLen; simp; omega) (by simp; omega) HB2.out.size ?_; intro v2 w2 hown2 hgrow2 _ _; have HBA := Lib.hid (HB2.out.grown hgrow2 HB2.out.size (fun q hq => (World.ownsRow.lt HO2.out q hq).1)); have HO := Lib.hid (Vecs.join (l := []) hown2 (by have := HL.out; simp <;> omega)); have rr : w2.heap[W.heap.size + 1]? = ((W.drew.alloc (.cells #[] 51)).alloc (.cells #[.int .i64 (x1 + x2), .int .i64 (y1 + y2)] 51)).heap[W.heap.size + 1]? := hgrow2.block _ (by simp <;> omega) (by simp [Value.ownBlock]); have RR0 : Hid (w2.cell? ⟨W.heap.size + 1, 0, none⟩ = some (.int .i64 (x1 + x2))) := (cell_same rr 0).trans KE0.out; have RR1 : Hid (w2.cell? ⟨W.heap.size + 1, 1, none⟩ = some (.int .i64 (y1 + y2))) := (cell_same rr 1).trans KE1.out; clear rr; clear hown2 hgrow2))
            refine hK _ _ ?_
            clear hK K
            refine wpAny_ready (rs := [6]) (by kernel_rfl) (by simp) (AllReady.cons rfl (fun K hK => ?_) (AllReady.nil))
            go_simp
            refine hK _ _ ?_
            clear hK K
            refine wpAny_ready (rs := [7]) (by kernel_rfl) (by simp) (AllReady.cons rfl (fun K hK => ?_) (AllReady.nil))
            go_simp
            refine hK _ _ ?_
            clear hK K
            refine wpAny_ready (rs := [8]) (by kernel_rfl) (by simp) (AllReady.cons rfl (fun K hK => ?_) (AllReady.nil))
            (refine step_list (by rintro ⟨_, _, h⟩; obtain ⟨_, hv, _⟩ := h; cases hv) (by kernel_rfl) ?_; first | (refine wpList_append_own_at _ rfl _ _ 40 rfl W.heap.size 51 i0 (.agg #[.int .i64 (0), .int .i64 (0)]) 2 16 Try.underlying40 hi hz0 hz1 hz2 rfl (by decide) _ _ _ rfl HO.out _ 1 1 [.int .i64 (x1 + x2), .int .i64 (y1 + y2)] rfl rfl (two_cells RR0.out RR1.out) (two_one _ _) (by unfold maxLen; simp; omega) (by simp; omega) HBA.out.size ?_; intro v3 w3 hown3 hgrow3 _ _; have HBC := Lib.hid (HBA.out.grown hgrow3 HBA.out.size (fun q hq => (World.ownsRow.lt HO.out q hq).1)); have HOC := Lib.hid (Vecs.snoc (l := [] ++ (l.drop 0).take (k + 1)) rfl hown3); clear hown3 hgrow3) | (refine wpList_append_own_at _ rfl _ _ 40 rfl W.heap.size 51 i0 (.agg #[.int .i64 (0), .int .i64 (0)]) 2 16 Try.underlying40 hi hz0 hz1 hz2 rfl (by decide) _ _ _ rfl (HO.out.below (by go_grown)) _ 1 1 [.int .i64 (x1 + x2), .int .i64 (y1 + y2)] rfl rfl (two_cells (by simp) (by simp)) (two_one _ _) (by unfold maxLen; simp; omega) (by simp; omega) (HBA.out.alloc HBA.out.size _).size ?_; intro v3 w3 hown3 hgrow3 _ _; have HBC := Lib.hid ((HBA.out.alloc HBA.out.size _).grown hgrow3 (HBA.out.alloc HBA.out.size _).size (fun q hq => (World.ownsRow.lt HO.out q hq).1)); have HOC := Lib.hid (Vecs.snoc (l := [] ++ (l.drop 0).take (k + 1)) rfl hown3); clear hown3 hgrow3))
            refine hK _ _ ?_
            clear hK K
            refine wpAny_ready (rs := [13]) (by kernel_rfl) (by simp) (AllReady.cons rfl (fun K hK => ?_) (AllReady.nil))
            (refine step_list (by rintro ⟨_, _, h⟩; obtain ⟨_, hv, _⟩ := h; cases hv) (by kernel_rfl) ?_; refine wpList_append_own_at _ rfl _ _ 40 rfl W.heap.size 51 i0 (.agg #[.int .i64 (0), .int .i64 (0)]) 2 16 Try.underlying40 hi hz0 hz1 hz2 rfl (by decide) _ _ _ rfl HOC.out _ 0 _ [] rfl rfl (fun j u hj => by simp at hj) (fun u hu => by simp at hu) (by unfold maxLen; simp; omega) (by simp; omega) HBC.out.size ?_; intro v4 w4 hown4 hgrow4 _ _; have HBD := Lib.hid (HBC.out.grown hgrow4 HBC.out.size (fun q hq => (World.ownsRow.lt HOC.out q hq).1)); have HOD := Lib.hid (Vecs.join (m := []) hown4 (by have := HL.out; simp <;> omega)); clear hown4 hgrow4)
            refine hK _ _ ?_
            clear hK K
            refine wpAny_seq 14 rfl (by kernel_rfl) ?_
            simp only [List.drop_succ_cons, List.drop_zero]
          rotate_left 1
          focus
            go_simp
            refine hK _ _ ?_
            clear hK K
            refine wpAny_ready (rs := [5, 7]) (by kernel_rfl) (by simp) (AllReady.cons rfl (fun K hK => ?_) (AllReady.cons rfl (fun K hK => ?_) (AllReady.nil)))
            focus
              (refine step_list (by rintro ⟨_, _, h⟩; obtain ⟨_, hv, _⟩ := h; cases hv) (by kernel_rfl) ?_; first | (refine wpList_append_own_at _ rfl _ _ 40 rfl W.heap.size 51 i0 (.agg #[.int .i64 (0), .int .i64 (0)]) 2 16 Try.underlying40 hi hz0 hz1 hz2 rfl (by decide) (.slice (some ⟨W.heap.size, 0, none⟩) 0 0) _ _ rfl HO1.out _ _ _ _ rfl (piece_len HT1.out) (piece_cells (HCl.out _ HB1.out) HT1.out) (piece_one _) (by unfold maxLen; simp; omega) (by simp; omega) HB1.out.size ?_; intro v2 w2 hown2 hgrow2 _ _; have HBA := Lib.hid (HB1.out.grown hgrow2 HB1.out.size (fun q hq => (World.ownsRow.lt HO1.out q hq).1)); have HO := Lib.hid (Vecs.join (l := []) hown2 (by have := HL.out; simp <;> omega)); have b0 := (HBA.out.cell (p := ⟨rb, 0, none⟩) hrb).trans c0; have b1 := (HBA.out.cell (p := ⟨rb, 1, none⟩) hrb).trans c1; have bl := Nat.lt_of_lt_of_le hrb HBA.out.size; clear hown2 hgrow2) | (refine wpList_append_own_at _ rfl _ _ 40 rfl W.heap.size 51 i0 (.agg #[.int .i64 (0), .int .i64 (0)]) 2 16 Try.underlying40 hi hz0 hz1 hz2 rfl (by decide) (.slice (some ⟨W.heap.size + 1, 0, none⟩) 0 0) _ _ rfl HO3.out _ _ _ _ rfl (piece_len HT1.out) (piece_cells (HCl.out _ HB3.out) HT1.out) (piece_one _) (by unfold maxLen; simp; omega) (by simp; omega) HB3.out.size ?_; intro v2 w2 hown2 hgrow2 _ _; have HBA := Lib.hid (HB3.out.grown hgrow2 HB3.out.size (fun q hq => (World.ownsRow.lt HO3.out q hq).1)); have HO := Lib.hid (Vecs.join (l := []) hown2 (by have := HL.out; simp <;> omega)); have rr : w2.heap[W.heap.size]? = ((W.drew.alloc (.cells #[.int .i64 (x1 + x2), .int .i64 (y1 + y2)] 51)).alloc (.cells #[] 51)).heap[W.heap.size]? := hgrow2.block _ (by simp <;> omega) (by simp [Value.ownBlock]); have RR0 : Hid (w2.cell? ⟨W.heap.size, 0, none⟩ = some (.int .i64 (x1 + x2))) := (cell_same rr 0).trans KR0.out; have RR1 : Hid (w2.cell? ⟨W.heap.size, 1, none⟩ = some (.int .i64 (y1 + y2))) := (cell_same rr 1).trans KR1.out; clear rr; clear hown2 hgrow2) | (refine wpList_append_own_at _ rfl _ _ 40 rfl W.heap.size 51 i0 (.agg #[.int .i64 (0), .int .i64 (0)]) 2 16 Try.underlying40 hi hz0 hz1 hz2 rfl (by decide) (.slice (some ⟨W.heap.size, 0, none⟩) 0 0) _ _ rfl HO2.out _ _ _ _ rfl (piece_len HT1.out) (piece_cells (HCl.out _ HB2.out) HT1.out) (piece_one _) (by unfold maxLen; simp; omega) (by simp; omega) HB2.out.size ?_; intro v2 w2 hown2 hgrow2 _ _; have HBA := Lib.hid (HB2.out.grown hgrow2 HB2.out.size (fun q hq => (World.ownsRow.lt HO2.out q hq).1)); have HO := Lib.hid (Vecs.join (l := []) hown2 (by have := HL.out; simp <;> omega)); have rr : w2.heap[W.heap.size + 1]? = ((W.drew.alloc (.cells #[] 51)).alloc (.cells #[.int .i64 (x1 + x2), .int .i64 (y1 + y2)] 51)).heap[W.heap.size + 1]? := hgrow2.block _ (by simp <;> omega) (by simp [Value.ownBlock]); have RR0 : Hid (w2.cell? ⟨W.heap.size + 1, 0, none⟩ = some (.int .i64 (x1 + x2))) := (cell_same rr 0).trans KE0.out; have RR1 : Hid (w2.cell? ⟨W.heap.size + 1, 1, none⟩ = some (.int .i64 (y1 + y2))) := (cell_same rr 1).trans KE1.out; clear rr; clear hown2 hgrow2))
              refine hK _ _ ?_
              clear hK K
              refine wpAny_ready (rs := [7]) (by kernel_rfl) (by simp) (AllReady.cons rfl (fun K hK => ?_) (AllReady.nil))
              go_simp
              refine hK _ _ ?_
              clear hK K
              refine wpAny_ready (rs := [8]) (by kernel_rfl) (by simp) (AllReady.cons rfl (fun K hK => ?_) (AllReady.nil))
              (refine step_list (by rintro ⟨_, _, h⟩; obtain ⟨_, hv, _⟩ := h; cases hv) (by kernel_rfl) ?_; first | (refine wpList_append_own_at _ rfl _ _ 40 rfl W.heap.size 51 i0 (.agg #[.int .i64 (0), .int .i64 (0)]) 2 16 Try.underlying40 hi hz0 hz1 hz2 rfl (by decide) _ _ _ rfl HO.out _ 1 1 [.int .i64 (x1 + x2), .int .i64 (y1 + y2)] rfl rfl (two_cells RR0.out RR1.out) (two_one _ _) (by unfold maxLen; simp; omega) (by simp; omega) HBA.out.size ?_; intro v3 w3 hown3 hgrow3 _ _; have HBC := Lib.hid (HBA.out.grown hgrow3 HBA.out.size (fun q hq => (World.ownsRow.lt HO.out q hq).1)); have HOC := Lib.hid (Vecs.snoc (l := [] ++ (l.drop 0).take (k + 1)) rfl hown3); clear hown3 hgrow3) | (refine wpList_append_own_at _ rfl _ _ 40 rfl W.heap.size 51 i0 (.agg #[.int .i64 (0), .int .i64 (0)]) 2 16 Try.underlying40 hi hz0 hz1 hz2 rfl (by decide) _ _ _ rfl (HO.out.below (by go_grown)) _ 1 1 [.int .i64 (x1 + x2), .int .i64 (y1 + y2)] rfl rfl (two_cells (by simp) (by simp)) (two_one _ _) (by unfold maxLen; simp; omega) (by simp; omega) (HBA.out.alloc HBA.out.size _).size ?_; intro v3 w3 hown3 hgrow3 _ _; have HBC := Lib.hid ((HBA.out.alloc HBA.out.size _).grown hgrow3 (HBA.out.alloc HBA.out.size _).size (fun q hq => (World.ownsRow.lt HO.out q hq).1)); have HOC := Lib.hid (Vecs.snoc (l := [] ++ (l.drop 0).take (k + 1)) rfl hown3); clear hown3 hgrow3))
              refine hK _ _ ?_
              clear hK K
              refine wpAny_ready (rs := [13]) (by kernel_rfl) (by simp) (AllReady.cons rfl (fun K hK => ?_) (AllReady.nil))
              (refine step_list (by rintro ⟨_, _, h⟩; obtain ⟨_, hv, _⟩ := h; cases hv) (by kernel_rfl) ?_; refine wpList_append_own_at _ rfl _ _ 40 rfl W.heap.size 51 i0 (.agg #[.int .i64 (0), .int .i64 (0)]) 2 16 Try.underlying40 hi hz0 hz1 hz2 rfl (by decide) _ _ _ rfl HOC.out _ 0 _ [] rfl rfl (fun j u hj => by simp at hj) (fun u hu => by simp at hu) (by unfold maxLen; simp; omega) (by simp; omega) HBC.out.size ?_; intro v4 w4 hown4 hgrow4 _ _; have HBD := Lib.hid (HBC.out.grown hgrow4 HBC.out.size (fun q hq => (World.ownsRow.lt HOC.out q hq).1)); have HOD := Lib.hid (Vecs.join (m := []) hown4 (by have := HL.out; simp <;> omega)); clear hown4 hgrow4)
              refine hK _ _ ?_
              clear hK K
              refine wpAny_seq 14 rfl (by kernel_rfl) ?_
              simp only [List.drop_succ_cons, List.drop_zero]
            rotate_left 1
            focus
              go_simp
              refine hK _ _ ?_
              clear hK K
              refine wpAny_ready (rs := [5]) (by kernel_rfl) (by simp) (AllReady.cons rfl (fun K hK => ?_) (AllReady.nil))
              (refine step_list (by rintro ⟨_, _, h⟩; obtain ⟨_, hv, _⟩ := h; cases hv) (by kernel_rfl) ?_; first | (refine wpList_append_own_at _ rfl _ _ 40 rfl W.heap.size 51 i0 (.agg #[.int .i64 (0), .int .i64 (0)]) 2 16 Try.underlying40 hi hz0 hz1 hz2 rfl (by decide) (.slice (some ⟨W.heap.size, 0, none⟩) 0 0) _ _ rfl HO1.out _ _ _ _ rfl (piece_len HT1.out) (piece_cells (HCl.out _ HB1.out) HT1.out) (piece_one _) (by unfold maxLen; simp; omega) (by simp; omega) HB1.out.size ?_; intro v2 w2 hown2 hgrow2 _ _; have HBA := Lib.hid (HB1.out.grown hgrow2 HB1.out.size (fun q hq => (World.ownsRow.lt HO1.out q hq).1)); have HO := Lib.hid (Vecs.join (l := []) hown2 (by have := HL.out; simp <;> omega)); have b0 := (HBA.out.cell (p := ⟨rb, 0, none⟩) hrb).trans c0; have b1 := (HBA.out.cell (p := ⟨rb, 1, none⟩) hrb).trans c1; have bl := Nat.lt_of_lt_of_le hrb HBA.out.size; clear hown2 hgrow2) | (refine wpList_append_own_at _ rfl _ _ 40 rfl W.heap.size 51 i0 (.agg #[.int .i64 (0), .int .i64 (0)]) 2 16 Try.underlying40 hi hz0 hz1 hz2 rfl (by decide) (.slice (some ⟨W.heap.size + 1, 0, none⟩) 0 0) _ _ rfl HO3.out _ _ _ _ rfl (piece_len HT1.out) (piece_cells (HCl.out _ HB3.out) HT1.out) (piece_one _) (by unfold maxLen; simp; omega) (by simp; omega) HB3.out.size ?_; intro v2 w2 hown2 hgrow2 _ _; have HBA := Lib.hid (HB3.out.grown hgrow2 HB3.out.size (fun q hq => (World.ownsRow.lt HO3.out q hq).1)); have HO := Lib.hid (Vecs.join (l := []) hown2 (by have := HL.out; simp <;> omega)); have rr : w2.heap[W.heap.size]? = ((W.drew.alloc (.cells #[.int .i64 (x1 + x2), .int .i64 (y1 + y2)] 51)).alloc (.cells #[] 51)).heap[W.heap.size]? := hgrow2.block _ (by simp <;> omega) (by simp [Value.ownBlock]); have RR0 : Hid (w2.cell? ⟨W.heap.size, 0, none⟩ = some (.int .i64 (x1 + x2))) := (cell_same rr 0).trans KR0.out; have RR1 : Hid (w2.cell? ⟨W.heap.size, 1, none⟩ = some (.int .i64 (y1 + y2))) := (cell_same rr 1).trans KR1.out; clear rr; clear hown2 hgrow2) | (refine wpList_append_own_at _ rfl _ _ 40 rfl W.heap.size 51 i0 (.agg #[.int .i64 (0), .int .i64 (0)]) 2 16 Try.underlying40 hi hz0 hz1 hz2 rfl (by decide) (.slice (some ⟨W.heap.size, 0, none⟩) 0 0) _ _ rfl HO2.out _ _ _ _ rfl (piece_len HT1.out) (piece_cells (HCl.out _ HB2.out) HT1.out) (piece_one _) (by unfold maxLen; simp; omega) (by simp; omega) HB2.out.size ?_; intro v2 w2 hown2 hgrow2 _ _; have HBA := Lib.hid (HB2.out.grown hgrow2 HB2.out.size (fun q hq => (World.ownsRow.lt HO2.out q hq).1)); have HO := Lib.hid (Vecs.join (l := []) hown2 (by have := HL.out; simp <;> omega)); have rr : w2.heap[W.heap.size + 1]? = ((W.drew.alloc (.cells #[] 51)).alloc (.cells #[.int .i64 (x1 + x2), .int .i64 (y1 + y2)] 51)).heap[W.heap.size + 1]? := hgrow2.block _ (by simp <;> omega) (by simp [Value.ownBlock]); have RR0 : Hid (w2.cell? ⟨W.heap.size + 1, 0, none⟩ = some (.int .i64 (x1 + x2))) := (cell_same rr 0).trans KE0.out; have RR1 : Hid (w2.cell? ⟨W.heap.size + 1, 1, none⟩ = some (.int .i64 (y1 + y2))) := (cell_same rr 1).trans KE1.out; clear rr; clear hown2 hgrow2))
              refine hK _ _ ?_
              clear hK K
              refine wpAny_ready (rs := [8]) (by kernel_rfl) (by simp) (AllReady.cons rfl (fun K hK => ?_) (AllReady.nil))
              (refine step_list (by rintro ⟨_, _, h⟩; obtain ⟨_, hv, _⟩ := h; cases hv) (by kernel_rfl) ?_; first | (refine wpList_append_own_at _ rfl _ _ 40 rfl W.heap.size 51 i0 (.agg #[.int .i64 (0), .int .i64 (0)]) 2 16 Try.underlying40 hi hz0 hz1 hz2 rfl (by decide) _ _ _ rfl HO.out _ 1 1 [.int .i64 (x1 + x2), .int .i64 (y1 + y2)] rfl rfl (two_cells RR0.out RR1.out) (two_one _ _) (by unfold maxLen; simp; omega) (by simp; omega) HBA.out.size ?_; intro v3 w3 hown3 hgrow3 _ _; have HBC := Lib.hid (HBA.out.grown hgrow3 HBA.out.size (fun q hq => (World.ownsRow.lt HO.out q hq).1)); have HOC := Lib.hid (Vecs.snoc (l := [] ++ (l.drop 0).take (k + 1)) rfl hown3); clear hown3 hgrow3) | (refine wpList_append_own_at _ rfl _ _ 40 rfl W.heap.size 51 i0 (.agg #[.int .i64 (0), .int .i64 (0)]) 2 16 Try.underlying40 hi hz0 hz1 hz2 rfl (by decide) _ _ _ rfl (HO.out.below (by go_grown)) _ 1 1 [.int .i64 (x1 + x2), .int .i64 (y1 + y2)] rfl rfl (two_cells (by simp) (by simp)) (two_one _ _) (by unfold maxLen; simp; omega) (by simp; omega) (HBA.out.alloc HBA.out.size _).size ?_; intro v3 w3 hown3 hgrow3 _ _; have HBC := Lib.hid ((HBA.out.alloc HBA.out.size _).grown hgrow3 (HBA.out.alloc HBA.out.size _).size (fun q hq => (World.ownsRow.lt HO.out q hq).1)); have HOC := Lib.hid (Vecs.snoc (l := [] ++ (l.drop 0).take (k + 1)) rfl hown3); clear hown3 hgrow3))
              refine hK _ _ ?_
              clear hK K
              refine wpAny_ready (rs := [13]) (by kernel_rfl) (by simp) (AllReady.cons rfl (fun K hK => ?_) (AllReady.nil))
              (refine step_list (by rintro ⟨_, _, h⟩; obtain ⟨_, hv, _⟩ := h; cases hv) (by kernel_rfl) ?_; refine wpList_append_own_at _ rfl _ _ 40 rfl W.heap.size 51 i0 (.agg #[.int .i64 (0), .int .i64 (0)]) 2 16 Try.underlying40 hi hz0 hz1 hz2 rfl (by decide) _ _ _ rfl HOC.out _ 0 _ [] rfl rfl (fun j u hj => by simp at hj) (fun u hu => by simp at hu) (by unfold maxLen; simp; omega) (by simp; omega) HBC.out.size ?_; intro v4 w4 hown4 hgrow4 _ _; have HBD := Lib.hid (HBC.out.grown hgrow4 HBC.out.size (fun q hq => (World.ownsRow.lt HOC.out q hq).1)); have HOD := Lib.hid (Vecs.join (m := []) hown4 (by have := HL.out; simp <;> omega)); clear hown4 hgrow4)
              refine hK _ _ ?_
              clear hK K
              refine wpAny_seq 14 rfl (by kernel_rfl) ?_
              simp only [List.drop_succ_cons, List.drop_zero]
        rotate_left 3
        focus
          go_simp
          refine hK _ _ ?_
          clear hK K
          refine wpAny_ready (rs := [0, 7]) (by kernel_rfl) (by simp) (AllReady.cons rfl (fun K hK => ?_) (AllReady.cons rfl (fun K hK => ?_) (AllReady.nil)))
          focus
            go_simp
            refine hK _ _ ?_
            clear hK K
            refine wpAny_ready (rs := [5, 7]) (by kernel_rfl) (by simp) (AllReady.cons rfl (fun K hK => ?_) (AllReady.cons rfl (fun K hK => ?_) (AllReady.nil)))
            focus
              (refine step_list (by rintro ⟨_, _, h⟩; obtain ⟨_, hv, _⟩ := h; cases hv) (by kernel_rfl) ?_; first | (refine wpList_append_own_at _ rfl _ _ 40 rfl W.heap.size 51 i0 (.agg #[.int .i64 (0), .int .i64 (0)]) 2 16 Try.underlying40 hi hz0 hz1 hz2 rfl (by decide) (.slice (some ⟨W.heap.size, 0, none⟩) 0 0) _ _ rfl HO1.out _ _ _ _ rfl (piece_len HT1.out) (piece_cells (HCl.out _ HB1.out) HT1.out) (piece_one _) (by unfold maxLen; simp; omega) (by simp; omega) HB1.out.size ?_; intro v2 w2 hown2 hgrow2 _ _; have HBA := Lib.hid (HB1.out.grown hgrow2 HB1.out.size (fun q hq => (World.ownsRow.lt HO1.out q hq).1)); have HO := Lib.hid (Vecs.join (l := []) hown2 (by have := HL.out; simp <;> omega)); have b0 := (HBA.out.cell (p := ⟨rb, 0, none⟩) hrb).trans c0; have b1 := (HBA.out.cell (p := ⟨rb, 1, none⟩) hrb).trans c1; have bl := Nat.lt_of_lt_of_le hrb HBA.out.size; clear hown2 hgrow2) | (refine wpList_append_own_at _ rfl _ _ 40 rfl W.heap.size 51 i0 (.agg #[.int .i64 (0), .int .i64 (0)]) 2 16 Try.underlying40 hi hz0 hz1 hz2 rfl (by decide) (.slice (some ⟨W.heap.size + 1, 0, none⟩) 0 0) _ _ rfl HO3.out _ _ _ _ rfl (piece_len HT1.out) (piece_cells (HCl.out _ HB3.out) HT1.out) (piece_one _) (by unfold maxLen; simp; omega) (by simp; omega) HB3.out.size ?_; intro v2 w2 hown2 hgrow2 _ _; have HBA := Lib.hid (HB3.out.grown hgrow2 HB3.out.size (fun q hq => (World.ownsRow.lt HO3.out q hq).1)); have HO := Lib.hid (Vecs.join (l := []) hown2 (by have := HL.out; simp <;> omega)); have rr : w2.heap[W.heap.size]? = ((W.drew.alloc (.cells #[.int .i64 (x1 + x2), .int .i64 (y1 + y2)] 51)).alloc (.cells #[] 51)).heap[W.heap.size]? := hgrow2.block _ (by simp <;> omega) (by simp [Value.ownBlock]); have RR0 : Hid (w2.cell? ⟨W.heap.size, 0, none⟩ = some (.int .i64 (x1 + x2))) := (cell_same rr 0).trans KR0.out; have RR1 : Hid (w2.cell? ⟨W.heap.size, 1, none⟩ = some (.int .i64 (y1 + y2))) := (cell_same rr 1).trans KR1.out; clear rr; clear hown2 hgrow2) | (refine wpList_append_own_at _ rfl _ _ 40 rfl W.heap.size 51 i0 (.agg #[.int .i64 (0), .int .i64 (0)]) 2 16 Try.underlying40 hi hz0 hz1 hz2 rfl (by decide) (.slice (some ⟨W.heap.size, 0, none⟩) 0 0) _ _ rfl HO2.out _ _ _ _ rfl (piece_len HT1.out) (piece_cells (HCl.out _ HB2.out) HT1.out) (piece_one _) (by unfold maxLen; simp; omega) (by simp; omega) HB2.out.size ?_; intro v2 w2 hown2 hgrow2 _ _; have HBA := Lib.hid (HB2.out.grown hgrow2 HB2.out.size (fun q hq => (World.ownsRow.lt HO2.out q hq).1)); have HO := Lib.hid (Vecs.join (l := []) hown2 (by have := HL.out; simp <;> omega)); have rr : w2.heap[W.heap.size + 1]? = ((W.drew.alloc (.cells #[] 51)).alloc (.cells #[.int .i64 (x1 + x2), .int .i64 (y1 + y2)] 51)).heap[W.heap.size + 1]? := hgrow2.block _ (by simp <;> omega) (by simp [Value.ownBlock]); have RR0 : Hid (w2.cell? ⟨W.heap.size + 1, 0, none⟩ = some (.int .i64 (x1 + x2))) := (cell_same rr 0).trans KE0.out; have RR1 : Hid (w2.cell? ⟨W.heap.size + 1, 1, none⟩ = some (.int .i64 (y1 + y2))) := (cell_same rr 1).trans KE1.out; clear rr; clear hown2 hgrow2))
              refine hK _ _ ?_
              clear hK K
              refine wpAny_ready (rs := [7]) (by kernel_rfl) (by simp) (AllReady.cons rfl (fun K hK => ?_) (AllReady.nil))
              go_simp
              refine hK _ _ ?_
              clear hK K
              refine wpAny_ready (rs := [8]) (by kernel_rfl) (by simp) (AllReady.cons rfl (fun K hK => ?_) (AllReady.nil))
              (refine step_list (by rintro ⟨_, _, h⟩; obtain ⟨_, hv, _⟩ := h; cases hv) (by kernel_rfl) ?_; first | (refine wpList_append_own_at _ rfl _ _ 40 rfl W.heap.size 51 i0 (.agg #[.int .i64 (0), .int .i64 (0)]) 2 16 Try.underlying40 hi hz0 hz1 hz2 rfl (by decide) _ _ _ rfl HO.out _ 1 1 [.int .i64 (x1 + x2), .int .i64 (y1 + y2)] rfl rfl (two_cells RR0.out RR1.out) (two_one _ _) (by unfold maxLen; simp; omega) (by simp; omega) HBA.out.size ?_; intro v3 w3 hown3 hgrow3 _ _; have HBC := Lib.hid (HBA.out.grown hgrow3 HBA.out.size (fun q hq => (World.ownsRow.lt HO.out q hq).1)); have HOC := Lib.hid (Vecs.snoc (l := [] ++ (l.drop 0).take (k + 1)) rfl hown3); clear hown3 hgrow3) | (refine wpList_append_own_at _ rfl _ _ 40 rfl W.heap.size 51 i0 (.agg #[.int .i64 (0), .int .i64 (0)]) 2 16 Try.underlying40 hi hz0 hz1 hz2 rfl (by decide) _ _ _ rfl (HO.out.below (by go_grown)) _ 1 1 [.int .i64 (x1 + x2), .int .i64 (y1 + y2)] rfl rfl (two_cells (by simp) (by simp)) (two_one _ _) (by unfold maxLen; simp; omega) (by simp; omega) (HBA.out.alloc HBA.out.size _).size ?_; intro v3 w3 hown3 hgrow3 _ _; have HBC := Lib.hid ((HBA.out.alloc HBA.out.size _).grown hgrow3 (HBA.out.alloc HBA.out.size _).size (fun q hq => (World.ownsRow.lt HO.out q hq).1)); have HOC := Lib.hid (Vecs.snoc (l := [] ++ (l.drop 0).take (k + 1)) rfl hown3); clear hown3 hgrow3))
              refine hK _ _ ?_
              clear hK K
              refine wpAny_ready (rs := [13]) (by kernel_rfl) (by simp) (AllReady.cons rfl (fun K hK => ?_) (AllReady.nil))
              (refine step_list (by rintro ⟨_, _, h⟩; obtain ⟨_, hv, _⟩ := h; cases hv) (by kernel_rfl) ?_; refine wpList_append_own_at _ rfl _ _ 40 rfl W.heap.size 51 i0 (.agg #[.int .i64 (0), .int .i64 (0)]) 2 16 Try.underlying40 hi hz0 hz1 hz2 rfl (by decide) _ _ _ rfl HOC.out _ 0 _ [] rfl rfl (fun j u hj => by simp at hj) (fun u hu => by simp at hu) (by unfold maxLen; simp; omega) (by simp; omega) HBC.out.size ?_; intro v4 w4 hown4 hgrow4 _ _; have HBD := Lib.hid (HBC.out.grown hgrow4 HBC.out.size (fun q hq => (World.ownsRow.lt HOC.out q hq).1)); have HOD := Lib.hid (Vecs.join (m := []) hown4 (by have := HL.out; simp <;> omega)); clear hown4 hgrow4)
              refine hK _ _ ?_
              clear hK K
              refine wpAny_seq 14 rfl (by kernel_rfl) ?_
              simp only [List.drop_succ_cons, List.drop_zero]
            rotate_left 1
            focus
              go_simp
              refine hK _ _ ?_
              clear hK K
              refine wpAny_ready (rs := [5]) (by kernel_rfl) (by simp) (AllReady.cons rfl (fun K hK => ?_) (AllReady.nil))
              (refine step_list (by rintro ⟨_, _, h⟩; obtain ⟨_, hv, _⟩ := h; cases hv) (by kernel_rfl) ?_; first | (refine wpList_append_own_at _ rfl _ _ 40 rfl W.heap.size 51 i0 (.agg #[.int .i64 (0), .int .i64 (0)]) 2 16 Try.underlying40 hi hz0 hz1 hz2 rfl (by decide) (.slice (some ⟨W.heap.size, 0, none⟩) 0 0) _ _ rfl HO1.out _ _ _ _ rfl (piece_len HT1.out) (piece_cells (HCl.out _ HB1.out) HT1.out) (piece_one _) (by unfold maxLen; simp; omega) (by simp; omega) HB1.out.size ?_; intro v2 w2 hown2 hgrow2 _ _; have HBA := Lib.hid (HB1.out.grown hgrow2 HB1.out.size (fun q hq => (World.ownsRow.lt HO1.out q hq).1)); have HO := Lib.hid (Vecs.join (l := []) hown2 (by have := HL.out; simp <;> omega)); have b0 := (HBA.out.cell (p := ⟨rb, 0, none⟩) hrb).trans c0; have b1 := (HBA.out.cell (p := ⟨rb, 1, none⟩) hrb).trans c1; have bl := Nat.lt_of_lt_of_le hrb HBA.out.size; clear hown2 hgrow2) | (refine wpList_append_own_at _ rfl _ _ 40 rfl W.heap.size 51 i0 (.agg #[.int .i64 (0), .int .i64 (0)]) 2 16 Try.underlying40 hi hz0 hz1 hz2 rfl (by decide) (.slice (some ⟨W.heap.size + 1, 0, none⟩) 0 0) _ _ rfl HO3.out _ _ _ _ rfl (piece_len HT1.out) (piece_cells (HCl.out _ HB3.out) HT1.out) (piece_one _) (by unfold maxLen; simp; omega) (by simp; omega) HB3.out.size ?_; intro v2 w2 hown2 hgrow2 _ _; have HBA := Lib.hid (HB3.out.grown hgrow2 HB3.out.size (fun q hq => (World.ownsRow.lt HO3.out q hq).1)); have HO := Lib.hid (Vecs.join (l := []) hown2 (by have := HL.out; simp <;> omega)); have rr : w2.heap[W.heap.size]? = ((W.drew.alloc (.cells #[.int .i64 (x1 + x2), .int .i64 (y1 + y2)] 51)).alloc (.cells #[] 51)).heap[W.heap.size]? := hgrow2.block _ (by simp <;> omega) (by simp [Value.ownBlock]); have RR0 : Hid (w2.cell? ⟨W.heap.size, 0, none⟩ = some (.int .i64 (x1 + x2))) := (cell_same rr 0).trans KR0.out; have RR1 : Hid (w2.cell? ⟨W.heap.size, 1, none⟩ = some (.int .i64 (y1 + y2))) := (cell_same rr 1).trans KR1.out; clear rr; clear hown2 hgrow2) | (refine wpList_append_own_at _ rfl _ _ 40 rfl W.heap.size 51 i0 (.agg #[.int .i64 (0), .int .i64 (0)]) 2 16 Try.underlying40 hi hz0 hz1 hz2 rfl (by decide) (.slice (some ⟨W.heap.size, 0, none⟩) 0 0) _ _ rfl HO2.out _ _ _ _ rfl (piece_len HT1.out) (piece_cells (HCl.out _ HB2.out) HT1.out) (piece_one _) (by unfold maxLen; simp; omega) (by simp; omega) HB2.out.size ?_; intro v2 w2 hown2 hgrow2 _ _; have HBA := Lib.hid (HB2.out.grown hgrow2 HB2.out.size (fun q hq => (World.ownsRow.lt HO2.out q hq).1)); have HO := Lib.hid (Vecs.join (l := []) hown2 (by have := HL.out; simp <;> omega)); have rr : w2.heap[W.heap.size + 1]? = ((W.drew.alloc (.cells #[] 51)).alloc (.cells #[.int .i64 (x1 + x2), .int .i64 (y1 + y2)] 51)).heap[W.heap.size + 1]? := hgrow2.block _ (by simp <;> omega) (by simp [Value.ownBlock]); have RR0 : Hid (w2.cell? ⟨W.heap.size + 1, 0, none⟩ = some (.int .i64 (x1 + x2))) := (cell_same rr 0).trans KE0.out; have RR1 : Hid (w2.cell? ⟨W.heap.size + 1, 1, none⟩ = some (.int .i64 (y1 + y2))) := (cell_same rr 1).trans KE1.out; clear rr; clear hown2 hgrow2))
              refine hK _ _ ?_
              clear hK K
              refine wpAny_ready (rs := [8]) (by kernel_rfl) (by simp) (AllReady.cons rfl (fun K hK => ?_) (AllReady.nil))
              (refine step_list (by rintro ⟨_, _, h⟩; obtain ⟨_, hv, _⟩ := h; cases hv) (by kernel_rfl) ?_; first | (refine wpList_append_own_at _ rfl _ _ 40 rfl W.heap.size 51 i0 (.agg #[.int .i64 (0), .int .i64 (0)]) 2 16 Try.underlying40 hi hz0 hz1 hz2 rfl (by decide) _ _ _ rfl HO.out _ 1 1 [.int .i64 (x1 + x2), .int .i64 (y1 + y2)] rfl rfl (two_cells RR0.out RR1.out) (two_one _ _) (by unfold maxLen; simp; omega) (by simp; omega) HBA.out.size ?_; intro v3 w3 hown3 hgrow3 _ _; have HBC := Lib.hid (HBA.out.grown hgrow3 HBA.out.size (fun q hq => (World.ownsRow.lt HO.out q hq).1)); have HOC := Lib.hid (Vecs.snoc (l := [] ++ (l.drop 0).take (k + 1)) rfl hown3); clear hown3 hgrow3) | (refine wpList_append_own_at _ rfl _ _ 40 rfl W.heap.size 51 i0 (.agg #[.int .i64 (0), .int .i64 (0)]) 2 16 Try.underlying40 hi hz0 hz1 hz2 rfl (by decide) _ _ _ rfl (HO.out.below (by go_grown)) _ 1 1 [.int .i64 (x1 + x2), .int .i64 (y1 + y2)] rfl rfl (two_cells (by simp) (by simp)) (two_one _ _) (by unfold maxLen; simp; omega) (by simp; omega) (HBA.out.alloc HBA.out.size _).size ?_; intro v3 w3 hown3 hgrow3 _ _; have HBC := Lib.hid ((HBA.out.alloc HBA.out.size _).grown hgrow3 (HBA.out.alloc HBA.out.size _).size (fun q hq => (World.ownsRow.lt HO.out q hq).1)); have HOC := Lib.hid (Vecs.snoc (l := [] ++ (l.drop 0).take (k + 1)) rfl hown3); clear hown3 hgrow3))
              refine hK _ _ ?_
              clear hK K
              refine wpAny_ready (rs := [13]) (by kernel_rfl) (by simp) (AllReady.cons rfl (fun K hK => ?_) (AllReady.nil))
              (refine step_list (by rintro ⟨_, _, h⟩; obtain ⟨_, hv, _⟩ := h; cases hv) (by kernel_rfl) ?_; refine wpList_append_own_at _ rfl _ _ 40 rfl W.heap.size 51 i0 (.agg #[.int .i64 (0), .int .i64 (0)]) 2 16 Try.underlying40 hi hz0 hz1 hz2 rfl (by decide) _ _ _ rfl HOC.out _ 0 _ [] rfl rfl (fun j u hj => by simp at hj) (fun u hu => by simp at hu) (by unfold maxLen; simp; omega) (by simp; omega) HBC.out.size ?_; intro v4 w4 hown4 hgrow4 _ _; have HBD := Lib.hid (HBC.out.grown hgrow4 HBC.out.size (fun q hq => (World.ownsRow.lt HOC.out q hq).1)); have HOD := Lib.hid (Vecs.join (m := []) hown4 (by have := HL.out; simp <;> omega)); clear hown4 hgrow4)
              refine hK _ _ ?_
              clear hK K
              refine wpAny_seq 14 rfl (by kernel_rfl) ?_
              simp only [List.drop_succ_cons, List.drop_zero]
          rotate_left 2
          focus
            go_simp
            refine hK _ _ ?_
            clear hK K
            refine wpAny_ready (rs := [0]) (by kernel_rfl) (by simp) (AllReady.cons rfl (fun K hK => ?_) (AllReady.nil))
            go_simp
            refine hK _ _ ?_
            clear hK K
            refine wpAny_ready (rs := [5]) (by kernel_rfl) (by simp) (AllReady.cons rfl (fun K hK => ?_) (AllReady.nil))
            (refine step_list (by rintro ⟨_, _, h⟩; obtain ⟨_, hv, _⟩ := h; cases hv) (by kernel_rfl) ?_; first | (refine wpList_append_own_at _ rfl _ _ 40 rfl W.heap.size 51 i0 (.agg #[.int .i64 (0), .int .i64 (0)]) 2 16 Try.underlying40 hi hz0 hz1 hz2 rfl (by decide) (.slice (some ⟨W.heap.size, 0, none⟩) 0 0) _ _ rfl HO1.out _ _ _ _ rfl (piece_len HT1.out) (piece_cells (HCl.out _ HB1.out) HT1.out) (piece_one _) (by unfold maxLen; simp; omega) (by simp; omega) HB1.out.size ?_; intro v2 w2 hown2 hgrow2 _ _; have HBA := Lib.hid (HB1.out.grown hgrow2 HB1.out.size (fun q hq => (World.ownsRow.lt HO1.out q hq).1)); have HO := Lib.hid (Vecs.join (l := []) hown2 (by have := HL.out; simp <;> omega)); have b0 := (HBA.out.cell (p := ⟨rb, 0, none⟩) hrb).trans c0; have b1 := (HBA.out.cell (p := ⟨rb, 1, none⟩) hrb).trans c1; have bl := Nat.lt_of_lt_of_le hrb HBA.out.size; clear hown2 hgrow2) | (refine wpList_append_own_at _ rfl _ _ 40 rfl W.heap.size 51 i0 (.agg #[.int .i64 (0), .int .i64 (0)]) 2 16 Try.underlying40 hi hz0 hz1 hz2 rfl (by decide) (.slice (some ⟨W.heap.size + 1, 0, none⟩) 0 0) _ _ rfl HO3.out _ _ _ _ rfl (piece_len HT1.out) (piece_cells (HCl.out _ HB3.out) HT1.out) (piece_one _) (by unfold maxLen; simp; omega) (by simp; omega) HB3.out.size ?_; intro v2 w2 hown2 hgrow2 _ _; have HBA := Lib.hid (HB3.out.grown hgrow2 HB3.out.size (fun q hq => (World.ownsRow.lt HO3.out q hq).1)); have HO := Lib.hid (Vecs.join (l := []) hown2 (by have := HL.out; simp <;> omega)); have rr : w2.heap[W.heap.size]? = ((W.drew.alloc (.cells #[.int .i64 (x1 + x2), .int .i64 (y1 + y2)] 51)).alloc (.cells #[] 51)).heap[W.heap.size]? := hgrow2.block _ (by simp <;> omega) (by simp [Value.ownBlock]); have RR0 : Hid (w2.cell? ⟨W.heap.size, 0, none⟩ = some (.int .i64 (x1 + x2))) := (cell_same rr 0).trans KR0.out; have RR1 : Hid (w2.cell? ⟨W.heap.size, 1, none⟩ = some (.int .i64 (y1 + y2))) := (cell_same rr 1).trans KR1.out; clear rr; clear hown2 hgrow2) | (refine wpList_append_own_at _ rfl _ _ 40 rfl W.heap.size 51 i0 (.agg #[.int .i64 (0), .int .i64 (0)]) 2 16 Try.underlying40 hi hz0 hz1 hz2 rfl (by decide) (.slice (some ⟨W.heap.size, 0, none⟩) 0 0) _ _ rfl HO2.out _ _ _ _ rfl (piece_len HT1.out) (piece_cells (HCl.out _ HB2.out) HT1.out) (piece_one _) (by unfold maxLen; simp; omega) (by simp; omega) HB2.out.size ?_; intro v2 w2 hown2 hgrow2 _ _; have HBA := Lib.hid (HB2.out.grown hgrow2 HB2.out.size (fun q hq => (World.ownsRow.lt HO2.out q hq).1)); have HO := Lib.hid (Vecs.join (l := []) hown2 (by have := HL.out; simp <;> omega)); have rr : w2.heap[W.heap.size + 1]? = ((W.drew.alloc (.cells #[] 51)).alloc (.cells #[.int .i64 (x1 + x2), .int .i64 (y1 + y2)] 51)).heap[W.heap.size + 1]? := hgrow2.block _ (by simp <;> omega) (by simp [Value.ownBlock]); have RR0 : Hid (w2.cell? ⟨W.heap.size + 1, 0, none⟩ = some (.int .i64 (x1 + x2))) := (cell_same rr 0).trans KE0.out; have RR1 : Hid (w2.cell? ⟨W.heap.size + 1, 1, none⟩ = some (.int .i64 (y1 + y2))) := (cell_same rr 1).trans KE1.out; clear rr; clear hown2 hgrow2))
            refine hK _ _ ?_
            clear hK K
            refine wpAny_ready (rs := [8]) (by kernel_rfl) (by simp) (AllReady.cons rfl (fun K hK => ?_) (AllReady.nil))
            (refine step_list (by rintro ⟨_, _, h⟩; obtain ⟨_, hv, _⟩ := h; cases hv) (by kernel_rfl) ?_; first | (refine wpList_append_own_at _ rfl _ _ 40 rfl W.heap.size 51 i0 (.agg #[.int .i64 (0), .int .i64 (0)]) 2 16 Try.underlying40 hi hz0 hz1 hz2 rfl (by decide) _ _ _ rfl HO.out _ 1 1 [.int .i64 (x1 + x2), .int .i64 (y1 + y2)] rfl rfl (two_cells RR0.out RR1.out) (two_one _ _) (by unfold maxLen; simp; omega) (by simp; omega) HBA.out.size ?_; intro v3 w3 hown3 hgrow3 _ _; have HBC := Lib.hid (HBA.out.grown hgrow3 HBA.out.size (fun q hq => (World.ownsRow.lt HO.out q hq).1)); have HOC := Lib.hid (Vecs.snoc (l := [] ++ (l.drop 0).take (k + 1)) rfl hown3); clear hown3 hgrow3) | (refine wpList_append_own_at _ rfl _ _ 40 rfl W.heap.size 51 i0 (.agg #[.int .i64 (0), .int .i64 (0)]) 2 16 Try.underlying40 hi hz0 hz1 hz2 rfl (by decide) _ _ _ rfl (HO.out.below (by go_grown)) _ 1 1 [.int .i64 (x1 + x2), .int .i64 (y1 + y2)] rfl rfl (two_cells (by simp) (by simp)) (two_one _ _) (by unfold maxLen; simp; omega) (by simp; omega) (HBA.out.alloc HBA.out.size _).size ?_; intro v3 w3 hown3 hgrow3 _ _; have HBC := Lib.hid ((HBA.out.alloc HBA.out.size _).grown hgrow3 (HBA.out.alloc HBA.out.size _).size (fun q hq => (World.ownsRow.lt HO.out q hq).1)); have HOC := Lib.hid (Vecs.snoc (l := [] ++ (l.drop 0).take (k + 1)) rfl hown3); clear hown3 hgrow3))
            refine hK _ _ ?_
            clear hK K
            refine wpAny_ready (rs := [13]) (by kernel_rfl) (by simp) (AllReady.cons rfl (fun K hK => ?_) (AllReady.nil))
            (refine step_list (by rintro ⟨_, _, h⟩; obtain ⟨_, hv, _⟩ := h; cases hv) (by kernel_rfl) ?_; refine wpList_append_own_at _ rfl _ _ 40 rfl W.heap.size 51 i0 (.agg #[.int .i64 (0), .int .i64 (0)]) 2 16 Try.underlying40 hi hz0 hz1 hz2 rfl (by decide) _ _ _ rfl HOC.out _ 0 _ [] rfl rfl (fun j u hj => by simp at hj) (fun u hu => by simp at hu) (by unfold maxLen; simp; omega) (by simp; omega) HBC.out.size ?_; intro v4 w4 hown4 hgrow4 _ _; have HBD := Lib.hid (HBC.out.grown hgrow4 HBC.out.size (fun q hq => (World.ownsRow.lt HOC.out q hq).1)); have HOD := Lib.hid (Vecs.join (m := []) hown4 (by have := HL.out; simp <;> omega)); clear hown4 hgrow4)
            refine hK _ _ ?_
            clear hK K
            refine wpAny_seq 14 rfl (by kernel_rfl) ?_
            simp only [List.drop_succ_cons, List.drop_zero]
        all_goals go_wp2_with fail
        all_goals
          rw [HR.out] at HOD
          refine Calls.mono (HSI.out _ _ _ (HOD.out.reads (by rw [blowL_len HK0.out]; omega))) ?_
          rintro e w5 ⟨rfl, hb5⟩
          have hB5 := belowTo HBW.out (HBD.out.trans (hb5.mono HBD.out.size))
          have HO5 := Lib.hid ((HOD.out.below hb5).lower (base' := w.heap.size) HBW.out.size)
          have hs5 := hB5.size
          have HE5 := Lib.hid ((hE.out w5).lower hs5)
          clear hb5
          cases hK : fanB (blowL l k (x1 + x2, y1 + y2))
          · have HK := Lib.hid hK
            clear hK
            go_wp2
            go_returns
            first
              | exact ⟨_, rfl, HE5.out, by go_grown⟩
              | (rw [HK.out]; exact ⟨_, rfl, HE5.out, by go_grown⟩)
          · have HK := Lib.hid hK
            clear hK
            go_wp2
            go_returns
            first
              | exact ⟨_, rfl, HO5.out, hB5⟩
              | (rw [HK.out]; exact ⟨_, rfl, HO5.out, hB5⟩)
      case neg =>
        have HT2 : Hid (k + 1 + (n - (k + 1)) ≤ l.length) := by have := HL.out; show k + 1 + (n - (k + 1)) ≤ l.length; omega
        have HR : Hid ((([] ++ (l.drop 0).take (k + 1)) ++ [(x1 + x2, y1 + y2)]) ++ (l.drop (k + 1)).take (n - (k + 1)) = blowL l k (x1 + x2, y1 + y2)) := by
          unfold blowL
          rw [List.take_of_length_le (l := l.drop (k + 1)) (by have := HL.out; simp <;> omega)]
          rfl
        have j1 : k + 1 ≤ n := by omega
        have j2 : ¬ (k + 1) * 2 = 0 := by omega
        have j3 : (k : Int) + 1 ≤ (n : Int) := by omega
        go_wp2
        refine wp_region_any (by kernel_rfl) ?_
        try (change wpAny _ _ _ _ _ _ _ (World.drew _))
        refine wpAny_take (i := 1) (v := ?_) rfl (by kernel_rfl) (by kernel_rfl) (by kernel_rfl) (fun _ _ _ h => h) (Or.inl ⟨by rfl, ?_⟩) ?_
        rotate_left
        focus (intro w0; go_simp; try with_reducible rfl)
        refine wpAny_take (i := 2) (v := ?_) rfl (by kernel_rfl) (by kernel_rfl) (by kernel_rfl) (fun _ _ _ h => h) (Or.inl ⟨by rfl, ?_⟩) ?_
        rotate_left
        focus (intro w0; go_simp; try with_reducible rfl)
        refine wpAny_take (i := 3) (v := ?_) rfl (by kernel_rfl) (by kernel_rfl) (by kernel_rfl) (fun _ _ _ h => h) (Or.inl ⟨by rfl, ?_⟩) ?_
        rotate_left
        focus (intro w0; go_simp; try with_reducible rfl)
        refine wpAny_take (i := 4) (v := ?_) rfl (by kernel_rfl) (by kernel_rfl) (by kernel_rfl) (fun _ _ _ h => h) (Or.inl ⟨by rfl, ?_⟩) ?_
        rotate_left
        focus (intro w0; go_simp; try with_reducible rfl)
        refine wpAny_take (i := 9) (v := ?_) rfl (by kernel_rfl) (by kernel_rfl) (by kernel_rfl) (fun _ _ _ h => h) (Or.inl ⟨by rfl, ?_⟩) ?_
        rotate_left
        focus (intro w0; go_simp; try with_reducible rfl)
        refine wpAny_take (i := 10) (v := ?_) rfl (by kernel_rfl) (by kernel_rfl) (by kernel_rfl) (fun _ _ _ h => h) (Or.inl ⟨by rfl, ?_⟩) ?_
        rotate_left
        focus (intro w0; go_simp; try with_reducible rfl)
        refine wpAny_take (i := 11) (v := ?_) rfl (by kernel_rfl) (by kernel_rfl) (by kernel_rfl) (fun _ _ _ h => h) (Or.inl ⟨by rfl, ?_⟩) ?_
        rotate_left
        focus (intro w0; go_simp; try with_reducible rfl)
        refine wpAny_take (i := 12) (v := ?_) rfl (by kernel_rfl) (by kernel_rfl) (by kernel_rfl) (fun _ _ _ h => h) (Or.inl ⟨by rfl, ?_⟩) ?_
        rotate_left
        focus (intro w0; go_simp; try with_reducible rfl)
        refine wpAny_ready (rs := [0, 6]) (by kernel_rfl) (by simp) (AllReady.cons rfl (fun K hK => ?_) (AllReady.cons rfl (fun K hK => ?_) (AllReady.nil)))
        focus
          go_simp
          refine hK _ _ ?_
          clear hK K
          refine wpAny_ready (rs := [5, 6]) (by kernel_rfl) (by simp) (AllReady.cons rfl (fun K hK => ?_) (AllReady.cons rfl (fun K hK => ?_) (AllReady.nil)))
          focus
            (refine step_list (by rintro ⟨_, _, h⟩; obtain ⟨_, hv, _⟩ := h; cases hv) (by kernel_rfl) ?_; first | (refine wpList_append_own_at _ rfl _ _ 40 rfl W.heap.size 51 i0 (.agg #[.int .i64 (0), .int .i64 (0)]) 2 16 Try.underlying40 hi hz0 hz1 hz2 rfl (by decide) (.slice (some ⟨W.heap.size, 0, none⟩) 0 0) _ _ rfl HO1.out _ _ _ _ rfl (piece_len HT1.out) (piece_cells (HCl.out _ HB1.out) HT1.out) (piece_one _) (by unfold maxLen; simp; omega) (by simp; omega) HB1.out.size ?_; intro v2 w2 hown2 hgrow2 _ _; have HBA := Lib.hid (HB1.out.grown hgrow2 HB1.out.size (fun q hq => (World.ownsRow.lt HO1.out q hq).1)); have HO := Lib.hid (Vecs.join (l := []) hown2 (by have := HL.out; simp <;> omega)); have b0 := (HBA.out.cell (p := ⟨rb, 0, none⟩) hrb).trans c0; have b1 := (HBA.out.cell (p := ⟨rb, 1, none⟩) hrb).trans c1; have bl := Nat.lt_of_lt_of_le hrb HBA.out.size; clear hown2 hgrow2) | (refine wpList_append_own_at _ rfl _ _ 40 rfl W.heap.size 51 i0 (.agg #[.int .i64 (0), .int .i64 (0)]) 2 16 Try.underlying40 hi hz0 hz1 hz2 rfl (by decide) (.slice (some ⟨W.heap.size + 1, 0, none⟩) 0 0) _ _ rfl HO3.out _ _ _ _ rfl (piece_len HT1.out) (piece_cells (HCl.out _ HB3.out) HT1.out) (piece_one _) (by unfold maxLen; simp; omega) (by simp; omega) HB3.out.size ?_; intro v2 w2 hown2 hgrow2 _ _; have HBA := Lib.hid (HB3.out.grown hgrow2 HB3.out.size (fun q hq => (World.ownsRow.lt HO3.out q hq).1)); have HO := Lib.hid (Vecs.join (l := []) hown2 (by have := HL.out; simp <;> omega)); have rr : w2.heap[W.heap.size]? = ((W.drew.alloc (.cells #[.int .i64 (x1 + x2), .int .i64 (y1 + y2)] 51)).alloc (.cells #[] 51)).heap[W.heap.size]? := hgrow2.block _ (by simp <;> omega) (by simp [Value.ownBlock]); have RR0 : Hid (w2.cell? ⟨W.heap.size, 0, none⟩ = some (.int .i64 (x1 + x2))) := (cell_same rr 0).trans KR0.out; have RR1 : Hid (w2.cell? ⟨W.heap.size, 1, none⟩ = some (.int .i64 (y1 + y2))) := (cell_same rr 1).trans KR1.out; clear rr; clear hown2 hgrow2) | (refine wpList_append_own_at _ rfl _ _ 40 rfl W.heap.size 51 i0 (.agg #[.int .i64 (0), .int .i64 (0)]) 2 16 Try.underlying40 hi hz0 hz1 hz2 rfl (by decide) (.slice (some ⟨W.heap.size, 0, none⟩) 0 0) _ _ rfl HO2.out _ _ _ _ rfl (piece_len HT1.out) (piece_cells (HCl.out _ HB2.out) HT1.out) (piece_one _) (by unfold maxLen; simp; omega) (by simp; omega) HB2.out.size ?_; intro v2 w2 hown2 hgrow2 _ _; have HBA := Lib.hid (HB2.out.grown hgrow2 HB2.out.size (fun q hq => (World.ownsRow.lt HO2.out q hq).1)); have HO := Lib.hid (Vecs.join (l := []) hown2 (by have := HL.out; simp <;> omega)); have rr : w2.heap[W.heap.size + 1]? = ((W.drew.alloc (.cells #[] 51)).alloc (.cells #[.int .i64 (x1 + x2), .int .i64 (y1 + y2)] 51)).heap[W.heap.size + 1]? := hgrow2.block _ (by simp <;> omega) (by simp [Value.ownBlock]); have RR0 : Hid (w2.cell? ⟨W.heap.size + 1, 0, none⟩ = some (.int .i64 (x1 + x2))) := (cell_same rr 0).trans KE0.out; have RR1 : Hid (w2.cell? ⟨W.heap.size + 1, 1, none⟩ = some (.int .i64 (y1 + y2))) := (cell_same rr 1).trans KE1.out; clear rr; clear hown2 hgrow2))
            refine hK _ _ ?_
            clear hK K
            refine wpAny_ready (rs := [6]) (by kernel_rfl) (by simp) (AllReady.cons rfl (fun K hK => ?_) (AllReady.nil))
            go_simp
            refine hK _ _ ?_
            clear hK K
            refine wpAny_ready (rs := [7]) (by kernel_rfl) (by simp) (AllReady.cons rfl (fun K hK => ?_) (AllReady.nil))
            go_simp
            refine hK _ _ ?_
            clear hK K
            refine wpAny_ready (rs := [8]) (by kernel_rfl) (by simp) (AllReady.cons rfl (fun K hK => ?_) (AllReady.nil))
            (refine step_list (by rintro ⟨_, _, h⟩; obtain ⟨_, hv, _⟩ := h; cases hv) (by kernel_rfl) ?_; first | (refine wpList_append_own_at _ rfl _ _ 40 rfl W.heap.size 51 i0 (.agg #[.int .i64 (0), .int .i64 (0)]) 2 16 Try.underlying40 hi hz0 hz1 hz2 rfl (by decide) _ _ _ rfl HO.out _ 1 1 [.int .i64 (x1 + x2), .int .i64 (y1 + y2)] rfl rfl (two_cells RR0.out RR1.out) (two_one _ _) (by unfold maxLen; simp; omega) (by simp; omega) HBA.out.size ?_; intro v3 w3 hown3 hgrow3 _ _; have HBC := Lib.hid (HBA.out.grown hgrow3 HBA.out.size (fun q hq => (World.ownsRow.lt HO.out q hq).1)); have HOC := Lib.hid (Vecs.snoc (l := [] ++ (l.drop 0).take (k + 1)) rfl hown3); clear hown3 hgrow3) | (refine wpList_append_own_at _ rfl _ _ 40 rfl W.heap.size 51 i0 (.agg #[.int .i64 (0), .int .i64 (0)]) 2 16 Try.underlying40 hi hz0 hz1 hz2 rfl (by decide) _ _ _ rfl (HO.out.below (by go_grown)) _ 1 1 [.int .i64 (x1 + x2), .int .i64 (y1 + y2)] rfl rfl (two_cells (by simp) (by simp)) (two_one _ _) (by unfold maxLen; simp; omega) (by simp; omega) (HBA.out.alloc HBA.out.size _).size ?_; intro v3 w3 hown3 hgrow3 _ _; have HBC := Lib.hid ((HBA.out.alloc HBA.out.size _).grown hgrow3 (HBA.out.alloc HBA.out.size _).size (fun q hq => (World.ownsRow.lt HO.out q hq).1)); have HOC := Lib.hid (Vecs.snoc (l := [] ++ (l.drop 0).take (k + 1)) rfl hown3); clear hown3 hgrow3))
            refine hK _ _ ?_
            clear hK K
            refine wpAny_ready (rs := [13]) (by kernel_rfl) (by simp) (AllReady.cons rfl (fun K hK => ?_) (AllReady.nil))
            (refine step_list (by rintro ⟨_, _, h⟩; obtain ⟨_, hv, _⟩ := h; cases hv) (by kernel_rfl) ?_; refine wpList_append_own_at _ rfl _ _ 40 rfl W.heap.size 51 i0 (.agg #[.int .i64 (0), .int .i64 (0)]) 2 16 Try.underlying40 hi hz0 hz1 hz2 rfl (by decide) _ _ _ rfl HOC.out _ _ _ _ rfl (piece_len HT2.out) (piece_cells (HCl.out _ HBC.out) HT2.out) (piece_one _) (by unfold maxLen; simp; omega) (by simp; omega) HBC.out.size ?_; intro v4 w4 hown4 hgrow4 _ _; have HBD := Lib.hid (HBC.out.grown hgrow4 HBC.out.size (fun q hq => (World.ownsRow.lt HOC.out q hq).1)); have HOD := Lib.hid (Vecs.join hown4 (by have := HL.out; simp <;> omega)); clear hown4 hgrow4)
            refine hK _ _ ?_
            clear hK K
            refine wpAny_seq 14 rfl (by kernel_rfl) ?_
            simp only [List.drop_succ_cons, List.drop_zero]
          rotate_left 1
          focus
            go_simp
            refine hK _ _ ?_
            clear hK K
            refine wpAny_ready (rs := [5, 7]) (by kernel_rfl) (by simp) (AllReady.cons rfl (fun K hK => ?_) (AllReady.cons rfl (fun K hK => ?_) (AllReady.nil)))
            focus
              (refine step_list (by rintro ⟨_, _, h⟩; obtain ⟨_, hv, _⟩ := h; cases hv) (by kernel_rfl) ?_; first | (refine wpList_append_own_at _ rfl _ _ 40 rfl W.heap.size 51 i0 (.agg #[.int .i64 (0), .int .i64 (0)]) 2 16 Try.underlying40 hi hz0 hz1 hz2 rfl (by decide) (.slice (some ⟨W.heap.size, 0, none⟩) 0 0) _ _ rfl HO1.out _ _ _ _ rfl (piece_len HT1.out) (piece_cells (HCl.out _ HB1.out) HT1.out) (piece_one _) (by unfold maxLen; simp; omega) (by simp; omega) HB1.out.size ?_; intro v2 w2 hown2 hgrow2 _ _; have HBA := Lib.hid (HB1.out.grown hgrow2 HB1.out.size (fun q hq => (World.ownsRow.lt HO1.out q hq).1)); have HO := Lib.hid (Vecs.join (l := []) hown2 (by have := HL.out; simp <;> omega)); have b0 := (HBA.out.cell (p := ⟨rb, 0, none⟩) hrb).trans c0; have b1 := (HBA.out.cell (p := ⟨rb, 1, none⟩) hrb).trans c1; have bl := Nat.lt_of_lt_of_le hrb HBA.out.size; clear hown2 hgrow2) | (refine wpList_append_own_at _ rfl _ _ 40 rfl W.heap.size 51 i0 (.agg #[.int .i64 (0), .int .i64 (0)]) 2 16 Try.underlying40 hi hz0 hz1 hz2 rfl (by decide) (.slice (some ⟨W.heap.size + 1, 0, none⟩) 0 0) _ _ rfl HO3.out _ _ _ _ rfl (piece_len HT1.out) (piece_cells (HCl.out _ HB3.out) HT1.out) (piece_one _) (by unfold maxLen; simp; omega) (by simp; omega) HB3.out.size ?_; intro v2 w2 hown2 hgrow2 _ _; have HBA := Lib.hid (HB3.out.grown hgrow2 HB3.out.size (fun q hq => (World.ownsRow.lt HO3.out q hq).1)); have HO := Lib.hid (Vecs.join (l := []) hown2 (by have := HL.out; simp <;> omega)); have rr : w2.heap[W.heap.size]? = ((W.drew.alloc (.cells #[.int .i64 (x1 + x2), .int .i64 (y1 + y2)] 51)).alloc (.cells #[] 51)).heap[W.heap.size]? := hgrow2.block _ (by simp <;> omega) (by simp [Value.ownBlock]); have RR0 : Hid (w2.cell? ⟨W.heap.size, 0, none⟩ = some (.int .i64 (x1 + x2))) := (cell_same rr 0).trans KR0.out; have RR1 : Hid (w2.cell? ⟨W.heap.size, 1, none⟩ = some (.int .i64 (y1 + y2))) := (cell_same rr 1).trans KR1.out; clear rr; clear hown2 hgrow2) | (refine wpList_append_own_at _ rfl _ _ 40 rfl W.heap.size 51 i0 (.agg #[.int .i64 (0), .int .i64 (0)]) 2 16 Try.underlying40 hi hz0 hz1 hz2 rfl (by decide) (.slice (some ⟨W.heap.size, 0, none⟩) 0 0) _ _ rfl HO2.out _ _ _ _ rfl (piece_len HT1.out) (piece_cells (HCl.out _ HB2.out) HT1.out) (piece_one _) (by unfold maxLen; simp; omega) (by simp; omega) HB2.out.size ?_; intro v2 w2 hown2 hgrow2 _ _; have HBA := Lib.hid (HB2.out.grown hgrow2 HB2.out.size (fun q hq => (World.ownsRow.lt HO2.out q hq).1)); have HO := Lib.hid (Vecs.join (l := []) hown2 (by have := HL.out; simp <;> omega)); have rr : w2.heap[W.heap.size + 1]? = ((W.drew.alloc (.cells #[] 51)).alloc (.cells #[.int .i64 (x1 + x2), .int .i64 (y1 + y2)] 51)).heap[W.heap.size + 1]? := hgrow2.block _ (by simp <;> omega) (by simp [Value.ownBlock]); have RR0 : Hid (w2.cell? ⟨W.heap.size + 1, 0, none⟩ = some (.int .i64 (x1 + x2))) := (cell_same rr 0).trans KE0.out; have RR1 : Hid (w2.cell? ⟨W.heap.size + 1, 1, none⟩ = some (.int .i64 (y1 + y2))) := (cell_same rr 1).trans KE1.out; clear rr; clear hown2 hgrow2))
              refine hK _ _ ?_
              clear hK K
              refine wpAny_ready (rs := [7]) (by kernel_rfl) (by simp) (AllReady.cons rfl (fun K hK => ?_) (AllReady.nil))
              go_simp
              refine hK _ _ ?_
              clear hK K
              refine wpAny_ready (rs := [8]) (by kernel_rfl) (by simp) (AllReady.cons rfl (fun K hK => ?_) (AllReady.nil))
              (refine step_list (by rintro ⟨_, _, h⟩; obtain ⟨_, hv, _⟩ := h; cases hv) (by kernel_rfl) ?_; first | (refine wpList_append_own_at _ rfl _ _ 40 rfl W.heap.size 51 i0 (.agg #[.int .i64 (0), .int .i64 (0)]) 2 16 Try.underlying40 hi hz0 hz1 hz2 rfl (by decide) _ _ _ rfl HO.out _ 1 1 [.int .i64 (x1 + x2), .int .i64 (y1 + y2)] rfl rfl (two_cells RR0.out RR1.out) (two_one _ _) (by unfold maxLen; simp; omega) (by simp; omega) HBA.out.size ?_; intro v3 w3 hown3 hgrow3 _ _; have HBC := Lib.hid (HBA.out.grown hgrow3 HBA.out.size (fun q hq => (World.ownsRow.lt HO.out q hq).1)); have HOC := Lib.hid (Vecs.snoc (l := [] ++ (l.drop 0).take (k + 1)) rfl hown3); clear hown3 hgrow3) | (refine wpList_append_own_at _ rfl _ _ 40 rfl W.heap.size 51 i0 (.agg #[.int .i64 (0), .int .i64 (0)]) 2 16 Try.underlying40 hi hz0 hz1 hz2 rfl (by decide) _ _ _ rfl (HO.out.below (by go_grown)) _ 1 1 [.int .i64 (x1 + x2), .int .i64 (y1 + y2)] rfl rfl (two_cells (by simp) (by simp)) (two_one _ _) (by unfold maxLen; simp; omega) (by simp; omega) (HBA.out.alloc HBA.out.size _).size ?_; intro v3 w3 hown3 hgrow3 _ _; have HBC := Lib.hid ((HBA.out.alloc HBA.out.size _).grown hgrow3 (HBA.out.alloc HBA.out.size _).size (fun q hq => (World.ownsRow.lt HO.out q hq).1)); have HOC := Lib.hid (Vecs.snoc (l := [] ++ (l.drop 0).take (k + 1)) rfl hown3); clear hown3 hgrow3))
              refine hK _ _ ?_
              clear hK K
              refine wpAny_ready (rs := [13]) (by kernel_rfl) (by simp) (AllReady.cons rfl (fun K hK => ?_) (AllReady.nil))
              (refine step_list (by rintro ⟨_, _, h⟩; obtain ⟨_, hv, _⟩ := h; cases hv) (by kernel_rfl) ?_; refine wpList_append_own_at _ rfl _ _ 40 rfl W.heap.size 51 i0 (.agg #[.int .i64 (0), .int .i64 (0)]) 2 16 Try.underlying40 hi hz0 hz1 hz2 rfl (by decide) _ _ _ rfl HOC.out _ _ _ _ rfl (piece_len HT2.out) (piece_cells (HCl.out _ HBC.out) HT2.out) (piece_one _) (by unfold maxLen; simp; omega) (by simp; omega) HBC.out.size ?_; intro v4 w4 hown4 hgrow4 _ _; have HBD := Lib.hid (HBC.out.grown hgrow4 HBC.out.size (fun q hq => (World.ownsRow.lt HOC.out q hq).1)); have HOD := Lib.hid (Vecs.join hown4 (by have := HL.out; simp <;> omega)); clear hown4 hgrow4)
              refine hK _ _ ?_
              clear hK K
              refine wpAny_seq 14 rfl (by kernel_rfl) ?_
              simp only [List.drop_succ_cons, List.drop_zero]
            rotate_left 1
            focus
              go_simp
              refine hK _ _ ?_
              clear hK K
              refine wpAny_ready (rs := [5]) (by kernel_rfl) (by simp) (AllReady.cons rfl (fun K hK => ?_) (AllReady.nil))
              (refine step_list (by rintro ⟨_, _, h⟩; obtain ⟨_, hv, _⟩ := h; cases hv) (by kernel_rfl) ?_; first | (refine wpList_append_own_at _ rfl _ _ 40 rfl W.heap.size 51 i0 (.agg #[.int .i64 (0), .int .i64 (0)]) 2 16 Try.underlying40 hi hz0 hz1 hz2 rfl (by decide) (.slice (some ⟨W.heap.size, 0, none⟩) 0 0) _ _ rfl HO1.out _ _ _ _ rfl (piece_len HT1.out) (piece_cells (HCl.out _ HB1.out) HT1.out) (piece_one _) (by unfold maxLen; simp; omega) (by simp; omega) HB1.out.size ?_; intro v2 w2 hown2 hgrow2 _ _; have HBA := Lib.hid (HB1.out.grown hgrow2 HB1.out.size (fun q hq => (World.ownsRow.lt HO1.out q hq).1)); have HO := Lib.hid (Vecs.join (l := []) hown2 (by have := HL.out; simp <;> omega)); have b0 := (HBA.out.cell (p := ⟨rb, 0, none⟩) hrb).trans c0; have b1 := (HBA.out.cell (p := ⟨rb, 1, none⟩) hrb).trans c1; have bl := Nat.lt_of_lt_of_le hrb HBA.out.size; clear hown2 hgrow2) | (refine wpList_append_own_at _ rfl _ _ 40 rfl W.heap.size 51 i0 (.agg #[.int .i64 (0), .int .i64 (0)]) 2 16 Try.underlying40 hi hz0 hz1 hz2 rfl (by decide) (.slice (some ⟨W.heap.size + 1, 0, none⟩) 0 0) _ _ rfl HO3.out _ _ _ _ rfl (piece_len HT1.out) (piece_cells (HCl.out _ HB3.out) HT1.out) (piece_one _) (by unfold maxLen; simp; omega) (by simp; omega) HB3.out.size ?_; intro v2 w2 hown2 hgrow2 _ _; have HBA := Lib.hid (HB3.out.grown hgrow2 HB3.out.size (fun q hq => (World.ownsRow.lt HO3.out q hq).1)); have HO := Lib.hid (Vecs.join (l := []) hown2 (by have := HL.out; simp <;> omega)); have rr : w2.heap[W.heap.size]? = ((W.drew.alloc (.cells #[.int .i64 (x1 + x2), .int .i64 (y1 + y2)] 51)).alloc (.cells #[] 51)).heap[W.heap.size]? := hgrow2.block _ (by simp <;> omega) (by simp [Value.ownBlock]); have RR0 : Hid (w2.cell? ⟨W.heap.size, 0, none⟩ = some (.int .i64 (x1 + x2))) := (cell_same rr 0).trans KR0.out; have RR1 : Hid (w2.cell? ⟨W.heap.size, 1, none⟩ = some (.int .i64 (y1 + y2))) := (cell_same rr 1).trans KR1.out; clear rr; clear hown2 hgrow2) | (refine wpList_append_own_at _ rfl _ _ 40 rfl W.heap.size 51 i0 (.agg #[.int .i64 (0), .int .i64 (0)]) 2 16 Try.underlying40 hi hz0 hz1 hz2 rfl (by decide) (.slice (some ⟨W.heap.size, 0, none⟩) 0 0) _ _ rfl HO2.out _ _ _ _ rfl (piece_len HT1.out) (piece_cells (HCl.out _ HB2.out) HT1.out) (piece_one _) (by unfold maxLen; simp; omega) (by simp; omega) HB2.out.size ?_; intro v2 w2 hown2 hgrow2 _ _; have HBA := Lib.hid (HB2.out.grown hgrow2 HB2.out.size (fun q hq => (World.ownsRow.lt HO2.out q hq).1)); have HO := Lib.hid (Vecs.join (l := []) hown2 (by have := HL.out; simp <;> omega)); have rr : w2.heap[W.heap.size + 1]? = ((W.drew.alloc (.cells #[] 51)).alloc (.cells #[.int .i64 (x1 + x2), .int .i64 (y1 + y2)] 51)).heap[W.heap.size + 1]? := hgrow2.block _ (by simp <;> omega) (by simp [Value.ownBlock]); have RR0 : Hid (w2.cell? ⟨W.heap.size + 1, 0, none⟩ = some (.int .i64 (x1 + x2))) := (cell_same rr 0).trans KE0.out; have RR1 : Hid (w2.cell? ⟨W.heap.size + 1, 1, none⟩ = some (.int .i64 (y1 + y2))) := (cell_same rr 1).trans KE1.out; clear rr; clear hown2 hgrow2))
              refine hK _ _ ?_
              clear hK K
              refine wpAny_ready (rs := [8]) (by kernel_rfl) (by simp) (AllReady.cons rfl (fun K hK => ?_) (AllReady.nil))
              (refine step_list (by rintro ⟨_, _, h⟩; obtain ⟨_, hv, _⟩ := h; cases hv) (by kernel_rfl) ?_; first | (refine wpList_append_own_at _ rfl _ _ 40 rfl W.heap.size 51 i0 (.agg #[.int .i64 (0), .int .i64 (0)]) 2 16 Try.underlying40 hi hz0 hz1 hz2 rfl (by decide) _ _ _ rfl HO.out _ 1 1 [.int .i64 (x1 + x2), .int .i64 (y1 + y2)] rfl rfl (two_cells RR0.out RR1.out) (two_one _ _) (by unfold maxLen; simp; omega) (by simp; omega) HBA.out.size ?_; intro v3 w3 hown3 hgrow3 _ _; have HBC := Lib.hid (HBA.out.grown hgrow3 HBA.out.size (fun q hq => (World.ownsRow.lt HO.out q hq).1)); have HOC := Lib.hid (Vecs.snoc (l := [] ++ (l.drop 0).take (k + 1)) rfl hown3); clear hown3 hgrow3) | (refine wpList_append_own_at _ rfl _ _ 40 rfl W.heap.size 51 i0 (.agg #[.int .i64 (0), .int .i64 (0)]) 2 16 Try.underlying40 hi hz0 hz1 hz2 rfl (by decide) _ _ _ rfl (HO.out.below (by go_grown)) _ 1 1 [.int .i64 (x1 + x2), .int .i64 (y1 + y2)] rfl rfl (two_cells (by simp) (by simp)) (two_one _ _) (by unfold maxLen; simp; omega) (by simp; omega) (HBA.out.alloc HBA.out.size _).size ?_; intro v3 w3 hown3 hgrow3 _ _; have HBC := Lib.hid ((HBA.out.alloc HBA.out.size _).grown hgrow3 (HBA.out.alloc HBA.out.size _).size (fun q hq => (World.ownsRow.lt HO.out q hq).1)); have HOC := Lib.hid (Vecs.snoc (l := [] ++ (l.drop 0).take (k + 1)) rfl hown3); clear hown3 hgrow3))
              refine hK _ _ ?_
              clear hK K
              refine wpAny_ready (rs := [13]) (by kernel_rfl) (by simp) (AllReady.cons rfl (fun K hK => ?_) (AllReady.nil))
              (refine step_list (by rintro ⟨_, _, h⟩; obtain ⟨_, hv, _⟩ := h; cases hv) (by kernel_rfl) ?_; refine wpList_append_own_at _ rfl _ _ 40 rfl W.heap.size 51 i0 (.agg #[.int .i64 (0), .int .i64 (0)]) 2 16 Try.underlying40 hi hz0 hz1 hz2 rfl (by decide) _ _ _ rfl HOC.out _ _ _ _ rfl (piece_len HT2.out) (piece_cells (HCl.out _ HBC.out) HT2.out) (piece_one _) (by unfold maxLen; simp; omega) (by simp; omega) HBC.out.size ?_; intro v4 w4 hown4 hgrow4 _ _; have HBD := Lib.hid (HBC.out.grown hgrow4 HBC.out.size (fun q hq => (World.ownsRow.lt HOC.out q hq).1)); have HOD := Lib.hid (Vecs.join hown4 (by have := HL.out; simp <;> omega)); clear hown4 hgrow4)
              refine hK _ _ ?_
              clear hK K
              refine wpAny_seq 14 rfl (by kernel_rfl) ?_
              simp only [List.drop_succ_cons, List.drop_zero]
        rotate_left 3
        focus
          go_simp
          refine hK _ _ ?_
          clear hK K
          refine wpAny_ready (rs := [0, 7]) (by kernel_rfl) (by simp) (AllReady.cons rfl (fun K hK => ?_) (AllReady.cons rfl (fun K hK => ?_) (AllReady.nil)))
          focus
            go_simp
            refine hK _ _ ?_
            clear hK K
            refine wpAny_ready (rs := [5, 7]) (by kernel_rfl) (by simp) (AllReady.cons rfl (fun K hK => ?_) (AllReady.cons rfl (fun K hK => ?_) (AllReady.nil)))
            focus
              (refine step_list (by rintro ⟨_, _, h⟩; obtain ⟨_, hv, _⟩ := h; cases hv) (by kernel_rfl) ?_; first | (refine wpList_append_own_at _ rfl _ _ 40 rfl W.heap.size 51 i0 (.agg #[.int .i64 (0), .int .i64 (0)]) 2 16 Try.underlying40 hi hz0 hz1 hz2 rfl (by decide) (.slice (some ⟨W.heap.size, 0, none⟩) 0 0) _ _ rfl HO1.out _ _ _ _ rfl (piece_len HT1.out) (piece_cells (HCl.out _ HB1.out) HT1.out) (piece_one _) (by unfold maxLen; simp; omega) (by simp; omega) HB1.out.size ?_; intro v2 w2 hown2 hgrow2 _ _; have HBA := Lib.hid (HB1.out.grown hgrow2 HB1.out.size (fun q hq => (World.ownsRow.lt HO1.out q hq).1)); have HO := Lib.hid (Vecs.join (l := []) hown2 (by have := HL.out; simp <;> omega)); have b0 := (HBA.out.cell (p := ⟨rb, 0, none⟩) hrb).trans c0; have b1 := (HBA.out.cell (p := ⟨rb, 1, none⟩) hrb).trans c1; have bl := Nat.lt_of_lt_of_le hrb HBA.out.size; clear hown2 hgrow2) | (refine wpList_append_own_at _ rfl _ _ 40 rfl W.heap.size 51 i0 (.agg #[.int .i64 (0), .int .i64 (0)]) 2 16 Try.underlying40 hi hz0 hz1 hz2 rfl (by decide) (.slice (some ⟨W.heap.size + 1, 0, none⟩) 0 0) _ _ rfl HO3.out _ _ _ _ rfl (piece_len HT1.out) (piece_cells (HCl.out _ HB3.out) HT1.out) (piece_one _) (by unfold maxLen; simp; omega) (by simp; omega) HB3.out.size ?_; intro v2 w2 hown2 hgrow2 _ _; have HBA := Lib.hid (HB3.out.grown hgrow2 HB3.out.size (fun q hq => (World.ownsRow.lt HO3.out q hq).1)); have HO := Lib.hid (Vecs.join (l := []) hown2 (by have := HL.out; simp <;> omega)); have rr : w2.heap[W.heap.size]? = ((W.drew.alloc (.cells #[.int .i64 (x1 + x2), .int .i64 (y1 + y2)] 51)).alloc (.cells #[] 51)).heap[W.heap.size]? := hgrow2.block _ (by simp <;> omega) (by simp [Value.ownBlock]); have RR0 : Hid (w2.cell? ⟨W.heap.size, 0, none⟩ = some (.int .i64 (x1 + x2))) := (cell_same rr 0).trans KR0.out; have RR1 : Hid (w2.cell? ⟨W.heap.size, 1, none⟩ = some (.int .i64 (y1 + y2))) := (cell_same rr 1).trans KR1.out; clear rr; clear hown2 hgrow2) | (refine wpList_append_own_at _ rfl _ _ 40 rfl W.heap.size 51 i0 (.agg #[.int .i64 (0), .int .i64 (0)]) 2 16 Try.underlying40 hi hz0 hz1 hz2 rfl (by decide) (.slice (some ⟨W.heap.size, 0, none⟩) 0 0) _ _ rfl HO2.out _ _ _ _ rfl (piece_len HT1.out) (piece_cells (HCl.out _ HB2.out) HT1.out) (piece_one _) (by unfold maxLen; simp; omega) (by simp; omega) HB2.out.size ?_; intro v2 w2 hown2 hgrow2 _ _; have HBA := Lib.hid (HB2.out.grown hgrow2 HB2.out.size (fun q hq => (World.ownsRow.lt HO2.out q hq).1)); have HO := Lib.hid (Vecs.join (l := []) hown2 (by have := HL.out; simp <;> omega)); have rr : w2.heap[W.heap.size + 1]? = ((W.drew.alloc (.cells #[] 51)).alloc (.cells #[.int .i64 (x1 + x2), .int .i64 (y1 + y2)] 51)).heap[W.heap.size + 1]? := hgrow2.block _ (by simp <;> omega) (by simp [Value.ownBlock]); have RR0 : Hid (w2.cell? ⟨W.heap.size + 1, 0, none⟩ = some (.int .i64 (x1 + x2))) := (cell_same rr 0).trans KE0.out; have RR1 : Hid (w2.cell? ⟨W.heap.size + 1, 1, none⟩ = some (.int .i64 (y1 + y2))) := (cell_same rr 1).trans KE1.out; clear rr; clear hown2 hgrow2))
              refine hK _ _ ?_
              clear hK K
              refine wpAny_ready (rs := [7]) (by kernel_rfl) (by simp) (AllReady.cons rfl (fun K hK => ?_) (AllReady.nil))
              go_simp
              refine hK _ _ ?_
              clear hK K
              refine wpAny_ready (rs := [8]) (by kernel_rfl) (by simp) (AllReady.cons rfl (fun K hK => ?_) (AllReady.nil))
              (refine step_list (by rintro ⟨_, _, h⟩; obtain ⟨_, hv, _⟩ := h; cases hv) (by kernel_rfl) ?_; first | (refine wpList_append_own_at _ rfl _ _ 40 rfl W.heap.size 51 i0 (.agg #[.int .i64 (0), .int .i64 (0)]) 2 16 Try.underlying40 hi hz0 hz1 hz2 rfl (by decide) _ _ _ rfl HO.out _ 1 1 [.int .i64 (x1 + x2), .int .i64 (y1 + y2)] rfl rfl (two_cells RR0.out RR1.out) (two_one _ _) (by unfold maxLen; simp; omega) (by simp; omega) HBA.out.size ?_; intro v3 w3 hown3 hgrow3 _ _; have HBC := Lib.hid (HBA.out.grown hgrow3 HBA.out.size (fun q hq => (World.ownsRow.lt HO.out q hq).1)); have HOC := Lib.hid (Vecs.snoc (l := [] ++ (l.drop 0).take (k + 1)) rfl hown3); clear hown3 hgrow3) | (refine wpList_append_own_at _ rfl _ _ 40 rfl W.heap.size 51 i0 (.agg #[.int .i64 (0), .int .i64 (0)]) 2 16 Try.underlying40 hi hz0 hz1 hz2 rfl (by decide) _ _ _ rfl (HO.out.below (by go_grown)) _ 1 1 [.int .i64 (x1 + x2), .int .i64 (y1 + y2)] rfl rfl (two_cells (by simp) (by simp)) (two_one _ _) (by unfold maxLen; simp; omega) (by simp; omega) (HBA.out.alloc HBA.out.size _).size ?_; intro v3 w3 hown3 hgrow3 _ _; have HBC := Lib.hid ((HBA.out.alloc HBA.out.size _).grown hgrow3 (HBA.out.alloc HBA.out.size _).size (fun q hq => (World.ownsRow.lt HO.out q hq).1)); have HOC := Lib.hid (Vecs.snoc (l := [] ++ (l.drop 0).take (k + 1)) rfl hown3); clear hown3 hgrow3))
              refine hK _ _ ?_
              clear hK K
              refine wpAny_ready (rs := [13]) (by kernel_rfl) (by simp) (AllReady.cons rfl (fun K hK => ?_) (AllReady.nil))
              (refine step_list (by rintro ⟨_, _, h⟩; obtain ⟨_, hv, _⟩ := h; cases hv) (by kernel_rfl) ?_; refine wpList_append_own_at _ rfl _ _ 40 rfl W.heap.size 51 i0 (.agg #[.int .i64 (0), .int .i64 (0)]) 2 16 Try.underlying40 hi hz0 hz1 hz2 rfl (by decide) _ _ _ rfl HOC.out _ _ _ _ rfl (piece_len HT2.out) (piece_cells (HCl.out _ HBC.out) HT2.out) (piece_one _) (by unfold maxLen; simp; omega) (by simp; omega) HBC.out.size ?_; intro v4 w4 hown4 hgrow4 _ _; have HBD := Lib.hid (HBC.out.grown hgrow4 HBC.out.size (fun q hq => (World.ownsRow.lt HOC.out q hq).1)); have HOD := Lib.hid (Vecs.join hown4 (by have := HL.out; simp <;> omega)); clear hown4 hgrow4)
              refine hK _ _ ?_
              clear hK K
              refine wpAny_seq 14 rfl (by kernel_rfl) ?_
              simp only [List.drop_succ_cons, List.drop_zero]
            rotate_left 1
            focus
              go_simp
              refine hK _ _ ?_
              clear hK K
              refine wpAny_ready (rs := [5]) (by kernel_rfl) (by simp) (AllReady.cons rfl (fun K hK => ?_) (AllReady.nil))
              (refine step_list (by rintro ⟨_, _, h⟩; obtain ⟨_, hv, _⟩ := h; cases hv) (by kernel_rfl) ?_; first | (refine wpList_append_own_at _ rfl _ _ 40 rfl W.heap.size 51 i0 (.agg #[.int .i64 (0), .int .i64 (0)]) 2 16 Try.underlying40 hi hz0 hz1 hz2 rfl (by decide) (.slice (some ⟨W.heap.size, 0, none⟩) 0 0) _ _ rfl HO1.out _ _ _ _ rfl (piece_len HT1.out) (piece_cells (HCl.out _ HB1.out) HT1.out) (piece_one _) (by unfold maxLen; simp; omega) (by simp; omega) HB1.out.size ?_; intro v2 w2 hown2 hgrow2 _ _; have HBA := Lib.hid (HB1.out.grown hgrow2 HB1.out.size (fun q hq => (World.ownsRow.lt HO1.out q hq).1)); have HO := Lib.hid (Vecs.join (l := []) hown2 (by have := HL.out; simp <;> omega)); have b0 := (HBA.out.cell (p := ⟨rb, 0, none⟩) hrb).trans c0; have b1 := (HBA.out.cell (p := ⟨rb, 1, none⟩) hrb).trans c1; have bl := Nat.lt_of_lt_of_le hrb HBA.out.size; clear hown2 hgrow2) | (refine wpList_append_own_at _ rfl _ _ 40 rfl W.heap.size 51 i0 (.agg #[.int .i64 (0), .int .i64 (0)]) 2 16 Try.underlying40 hi hz0 hz1 hz2 rfl (by decide) (.slice (some ⟨W.heap.size + 1, 0, none⟩) 0 0) _ _ rfl HO3.out _ _ _ _ rfl (piece_len HT1.out) (piece_cells (HCl.out _ HB3.out) HT1.out) (piece_one _) (by unfold maxLen; simp; omega) (by simp; omega) HB3.out.size ?_; intro v2 w2 hown2 hgrow2 _ _; have HBA := Lib.hid (HB3.out.grown hgrow2 HB3.out.size (fun q hq => (World.ownsRow.lt HO3.out q hq).1)); have HO := Lib.hid (Vecs.join (l := []) hown2 (by have := HL.out; simp <;> omega)); have rr : w2.heap[W.heap.size]? = ((W.drew.alloc (.cells #[.int .i64 (x1 + x2), .int .i64 (y1 + y2)] 51)).alloc (.cells #[] 51)).heap[W.heap.size]? := hgrow2.block _ (by simp <;> omega) (by simp [Value.ownBlock]); have RR0 : Hid (w2.cell? ⟨W.heap.size, 0, none⟩ = some (.int .i64 (x1 + x2))) := (cell_same rr 0).trans KR0.out; have RR1 : Hid (w2.cell? ⟨W.heap.size, 1, none⟩ = some (.int .i64 (y1 + y2))) := (cell_same rr 1).trans KR1.out; clear rr; clear hown2 hgrow2) | (refine wpList_append_own_at _ rfl _ _ 40 rfl W.heap.size 51 i0 (.agg #[.int .i64 (0), .int .i64 (0)]) 2 16 Try.underlying40 hi hz0 hz1 hz2 rfl (by decide) (.slice (some ⟨W.heap.size, 0, none⟩) 0 0) _ _ rfl HO2.out _ _ _ _ rfl (piece_len HT1.out) (piece_cells (HCl.out _ HB2.out) HT1.out) (piece_one _) (by unfold maxLen; simp; omega) (by simp; omega) HB2.out.size ?_; intro v2 w2 hown2 hgrow2 _ _; have HBA := Lib.hid (HB2.out.grown hgrow2 HB2.out.size (fun q hq => (World.ownsRow.lt HO2.out q hq).1)); have HO := Lib.hid (Vecs.join (l := []) hown2 (by have := HL.out; simp <;> omega)); have rr : w2.heap[W.heap.size + 1]? = ((W.drew.alloc (.cells #[] 51)).alloc (.cells #[.int .i64 (x1 + x2), .int .i64 (y1 + y2)] 51)).heap[W.heap.size + 1]? := hgrow2.block _ (by simp <;> omega) (by simp [Value.ownBlock]); have RR0 : Hid (w2.cell? ⟨W.heap.size + 1, 0, none⟩ = some (.int .i64 (x1 + x2))) := (cell_same rr 0).trans KE0.out; have RR1 : Hid (w2.cell? ⟨W.heap.size + 1, 1, none⟩ = some (.int .i64 (y1 + y2))) := (cell_same rr 1).trans KE1.out; clear rr; clear hown2 hgrow2))
              refine hK _ _ ?_
              clear hK K
              refine wpAny_ready (rs := [8]) (by kernel_rfl) (by simp) (AllReady.cons rfl (fun K hK => ?_) (AllReady.nil))
              (refine step_list (by rintro ⟨_, _, h⟩; obtain ⟨_, hv, _⟩ := h; cases hv) (by kernel_rfl) ?_; first | (refine wpList_append_own_at _ rfl _ _ 40 rfl W.heap.size 51 i0 (.agg #[.int .i64 (0), .int .i64 (0)]) 2 16 Try.underlying40 hi hz0 hz1 hz2 rfl (by decide) _ _ _ rfl HO.out _ 1 1 [.int .i64 (x1 + x2), .int .i64 (y1 + y2)] rfl rfl (two_cells RR0.out RR1.out) (two_one _ _) (by unfold maxLen; simp; omega) (by simp; omega) HBA.out.size ?_; intro v3 w3 hown3 hgrow3 _ _; have HBC := Lib.hid (HBA.out.grown hgrow3 HBA.out.size (fun q hq => (World.ownsRow.lt HO.out q hq).1)); have HOC := Lib.hid (Vecs.snoc (l := [] ++ (l.drop 0).take (k + 1)) rfl hown3); clear hown3 hgrow3) | (refine wpList_append_own_at _ rfl _ _ 40 rfl W.heap.size 51 i0 (.agg #[.int .i64 (0), .int .i64 (0)]) 2 16 Try.underlying40 hi hz0 hz1 hz2 rfl (by decide) _ _ _ rfl (HO.out.below (by go_grown)) _ 1 1 [.int .i64 (x1 + x2), .int .i64 (y1 + y2)] rfl rfl (two_cells (by simp) (by simp)) (two_one _ _) (by unfold maxLen; simp; omega) (by simp; omega) (HBA.out.alloc HBA.out.size _).size ?_; intro v3 w3 hown3 hgrow3 _ _; have HBC := Lib.hid ((HBA.out.alloc HBA.out.size _).grown hgrow3 (HBA.out.alloc HBA.out.size _).size (fun q hq => (World.ownsRow.lt HO.out q hq).1)); have HOC := Lib.hid (Vecs.snoc (l := [] ++ (l.drop 0).take (k + 1)) rfl hown3); clear hown3 hgrow3))
              refine hK _ _ ?_
              clear hK K
              refine wpAny_ready (rs := [13]) (by kernel_rfl) (by simp) (AllReady.cons rfl (fun K hK => ?_) (AllReady.nil))
              (refine step_list (by rintro ⟨_, _, h⟩; obtain ⟨_, hv, _⟩ := h; cases hv) (by kernel_rfl) ?_; refine wpList_append_own_at _ rfl _ _ 40 rfl W.heap.size 51 i0 (.agg #[.int .i64 (0), .int .i64 (0)]) 2 16 Try.underlying40 hi hz0 hz1 hz2 rfl (by decide) _ _ _ rfl HOC.out _ _ _ _ rfl (piece_len HT2.out) (piece_cells (HCl.out _ HBC.out) HT2.out) (piece_one _) (by unfold maxLen; simp; omega) (by simp; omega) HBC.out.size ?_; intro v4 w4 hown4 hgrow4 _ _; have HBD := Lib.hid (HBC.out.grown hgrow4 HBC.out.size (fun q hq => (World.ownsRow.lt HOC.out q hq).1)); have HOD := Lib.hid (Vecs.join hown4 (by have := HL.out; simp <;> omega)); clear hown4 hgrow4)
              refine hK _ _ ?_
              clear hK K
              refine wpAny_seq 14 rfl (by kernel_rfl) ?_
              simp only [List.drop_succ_cons, List.drop_zero]
          rotate_left 2
          focus
            go_simp
            refine hK _ _ ?_
            clear hK K
            refine wpAny_ready (rs := [0]) (by kernel_rfl) (by simp) (AllReady.cons rfl (fun K hK => ?_) (AllReady.nil))
            go_simp
            refine hK _ _ ?_
            clear hK K
            refine wpAny_ready (rs := [5]) (by kernel_rfl) (by simp) (AllReady.cons rfl (fun K hK => ?_) (AllReady.nil))
            (refine step_list (by rintro ⟨_, _, h⟩; obtain ⟨_, hv, _⟩ := h; cases hv) (by kernel_rfl) ?_; first | (refine wpList_append_own_at _ rfl _ _ 40 rfl W.heap.size 51 i0 (.agg #[.int .i64 (0), .int .i64 (0)]) 2 16 Try.underlying40 hi hz0 hz1 hz2 rfl (by decide) (.slice (some ⟨W.heap.size, 0, none⟩) 0 0) _ _ rfl HO1.out _ _ _ _ rfl (piece_len HT1.out) (piece_cells (HCl.out _ HB1.out) HT1.out) (piece_one _) (by unfold maxLen; simp; omega) (by simp; omega) HB1.out.size ?_; intro v2 w2 hown2 hgrow2 _ _; have HBA := Lib.hid (HB1.out.grown hgrow2 HB1.out.size (fun q hq => (World.ownsRow.lt HO1.out q hq).1)); have HO := Lib.hid (Vecs.join (l := []) hown2 (by have := HL.out; simp <;> omega)); have b0 := (HBA.out.cell (p := ⟨rb, 0, none⟩) hrb).trans c0; have b1 := (HBA.out.cell (p := ⟨rb, 1, none⟩) hrb).trans c1; have bl := Nat.lt_of_lt_of_le hrb HBA.out.size; clear hown2 hgrow2) | (refine wpList_append_own_at _ rfl _ _ 40 rfl W.heap.size 51 i0 (.agg #[.int .i64 (0), .int .i64 (0)]) 2 16 Try.underlying40 hi hz0 hz1 hz2 rfl (by decide) (.slice (some ⟨W.heap.size + 1, 0, none⟩) 0 0) _ _ rfl HO3.out _ _ _ _ rfl (piece_len HT1.out) (piece_cells (HCl.out _ HB3.out) HT1.out) (piece_one _) (by unfold maxLen; simp; omega) (by simp; omega) HB3.out.size ?_; intro v2 w2 hown2 hgrow2 _ _; have HBA := Lib.hid (HB3.out.grown hgrow2 HB3.out.size (fun q hq => (World.ownsRow.lt HO3.out q hq).1)); have HO := Lib.hid (Vecs.join (l := []) hown2 (by have := HL.out; simp <;> omega)); have rr : w2.heap[W.heap.size]? = ((W.drew.alloc (.cells #[.int .i64 (x1 + x2), .int .i64 (y1 + y2)] 51)).alloc (.cells #[] 51)).heap[W.heap.size]? := hgrow2.block _ (by simp <;> omega) (by simp [Value.ownBlock]); have RR0 : Hid (w2.cell? ⟨W.heap.size, 0, none⟩ = some (.int .i64 (x1 + x2))) := (cell_same rr 0).trans KR0.out; have RR1 : Hid (w2.cell? ⟨W.heap.size, 1, none⟩ = some (.int .i64 (y1 + y2))) := (cell_same rr 1).trans KR1.out; clear rr; clear hown2 hgrow2) | (refine wpList_append_own_at _ rfl _ _ 40 rfl W.heap.size 51 i0 (.agg #[.int .i64 (0), .int .i64 (0)]) 2 16 Try.underlying40 hi hz0 hz1 hz2 rfl (by decide) (.slice (some ⟨W.heap.size, 0, none⟩) 0 0) _ _ rfl HO2.out _ _ _ _ rfl (piece_len HT1.out) (piece_cells (HCl.out _ HB2.out) HT1.out) (piece_one _) (by unfold maxLen; simp; omega) (by simp; omega) HB2.out.size ?_; intro v2 w2 hown2 hgrow2 _ _; have HBA := Lib.hid (HB2.out.grown hgrow2 HB2.out.size (fun q hq => (World.ownsRow.lt HO2.out q hq).1)); have HO := Lib.hid (Vecs.join (l := []) hown2 (by have := HL.out; simp <;> omega)); have rr : w2.heap[W.heap.size + 1]? = ((W.drew.alloc (.cells #[] 51)).alloc (.cells #[.int .i64 (x1 + x2), .int .i64 (y1 + y2)] 51)).heap[W.heap.size + 1]? := hgrow2.block _ (by simp <;> omega) (by simp [Value.ownBlock]); have RR0 : Hid (w2.cell? ⟨W.heap.size + 1, 0, none⟩ = some (.int .i64 (x1 + x2))) := (cell_same rr 0).trans KE0.out; have RR1 : Hid (w2.cell? ⟨W.heap.size + 1, 1, none⟩ = some (.int .i64 (y1 + y2))) := (cell_same rr 1).trans KE1.out; clear rr; clear hown2 hgrow2))
            refine hK _ _ ?_
            clear hK K
            refine wpAny_ready (rs := [8]) (by kernel_rfl) (by simp) (AllReady.cons rfl (fun K hK => ?_) (AllReady.nil))
            (refine step_list (by rintro ⟨_, _, h⟩; obtain ⟨_, hv, _⟩ := h; cases hv) (by kernel_rfl) ?_; first | (refine wpList_append_own_at _ rfl _ _ 40 rfl W.heap.size 51 i0 (.agg #[.int .i64 (0), .int .i64 (0)]) 2 16 Try.underlying40 hi hz0 hz1 hz2 rfl (by decide) _ _ _ rfl HO.out _ 1 1 [.int .i64 (x1 + x2), .int .i64 (y1 + y2)] rfl rfl (two_cells RR0.out RR1.out) (two_one _ _) (by unfold maxLen; simp; omega) (by simp; omega) HBA.out.size ?_; intro v3 w3 hown3 hgrow3 _ _; have HBC := Lib.hid (HBA.out.grown hgrow3 HBA.out.size (fun q hq => (World.ownsRow.lt HO.out q hq).1)); have HOC := Lib.hid (Vecs.snoc (l := [] ++ (l.drop 0).take (k + 1)) rfl hown3); clear hown3 hgrow3) | (refine wpList_append_own_at _ rfl _ _ 40 rfl W.heap.size 51 i0 (.agg #[.int .i64 (0), .int .i64 (0)]) 2 16 Try.underlying40 hi hz0 hz1 hz2 rfl (by decide) _ _ _ rfl (HO.out.below (by go_grown)) _ 1 1 [.int .i64 (x1 + x2), .int .i64 (y1 + y2)] rfl rfl (two_cells (by simp) (by simp)) (two_one _ _) (by unfold maxLen; simp; omega) (by simp; omega) (HBA.out.alloc HBA.out.size _).size ?_; intro v3 w3 hown3 hgrow3 _ _; have HBC := Lib.hid ((HBA.out.alloc HBA.out.size _).grown hgrow3 (HBA.out.alloc HBA.out.size _).size (fun q hq => (World.ownsRow.lt HO.out q hq).1)); have HOC := Lib.hid (Vecs.snoc (l := [] ++ (l.drop 0).take (k + 1)) rfl hown3); clear hown3 hgrow3))
            refine hK _ _ ?_
            clear hK K
            refine wpAny_ready (rs := [13]) (by kernel_rfl) (by simp) (AllReady.cons rfl (fun K hK => ?_) (AllReady.nil))
            (refine step_list (by rintro ⟨_, _, h⟩; obtain ⟨_, hv, _⟩ := h; cases hv) (by kernel_rfl) ?_; refine wpList_append_own_at _ rfl _ _ 40 rfl W.heap.size 51 i0 (.agg #[.int .i64 (0), .int .i64 (0)]) 2 16 Try.underlying40 hi hz0 hz1 hz2 rfl (by decide) _ _ _ rfl HOC.out _ _ _ _ rfl (piece_len HT2.out) (piece_cells (HCl.out _ HBC.out) HT2.out) (piece_one _) (by unfold maxLen; simp; omega) (by simp; omega) HBC.out.size ?_; intro v4 w4 hown4 hgrow4 _ _; have HBD := Lib.hid (HBC.out.grown hgrow4 HBC.out.size (fun q hq => (World.ownsRow.lt HOC.out q hq).1)); have HOD := Lib.hid (Vecs.join hown4 (by have := HL.out; simp <;> omega)); clear hown4 hgrow4)
            refine hK _ _ ?_
            clear hK K
            refine wpAny_seq 14 rfl (by kernel_rfl) ?_
            simp only [List.drop_succ_cons, List.drop_zero]
        all_goals go_wp2_with fail
        all_goals
          rw [HR.out] at HOD
          refine Calls.mono (HSI.out _ _ _ (HOD.out.reads (by rw [blowL_len HK0.out]; omega))) ?_
          rintro e w5 ⟨rfl, hb5⟩
          have hB5 := belowTo HBW.out (HBD.out.trans (hb5.mono HBD.out.size))
          have HO5 := Lib.hid ((HOD.out.below hb5).lower (base' := w.heap.size) HBW.out.size)
          have hs5 := hB5.size
          have HE5 := Lib.hid ((hE.out w5).lower hs5)
          clear hb5
          cases hK : fanB (blowL l k (x1 + x2, y1 + y2))
          · have HK := Lib.hid hK
            clear hK
            go_wp2
            go_returns
            first
              | exact ⟨_, rfl, HE5.out, by go_grown⟩
              | (rw [HK.out]; exact ⟨_, rfl, HE5.out, by go_grown⟩)
          · have HK := Lib.hid hK
            clear hK
            go_wp2
            go_returns
            first
              | exact ⟨_, rfl, HO5.out, hB5⟩
              | (rw [HK.out]; exact ⟨_, rfl, HO5.out, hB5⟩)
end Go.Proofs.Ytcieihbknfeddaa
