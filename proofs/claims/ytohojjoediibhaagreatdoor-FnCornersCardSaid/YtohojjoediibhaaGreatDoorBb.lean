import Derived.Test.YtohojjoediibhaaGreatDoorB9
import Derived.Test.YtohojjoediibhaaGreatDoorBa
import Derived.Test.YtohojjoediibhaaGreatDoorB6
import Derived.Test.YtohojjoediibhaaGreatDoorB3
/- Fans: blown up at a cone: the program. -/
namespace Go.Proofs.YtohojjoediibhaaGreatDoor
open Go.RowKit

/-- the sum of a ray and the next one -/
def blowP (l : List V2) (i : Nat) : V2 := ((cyc l i).1 + (cyc l (i + 1)).1, (cyc l i).2 + (cyc l (i + 1)).2)
def blowL {α : Type} (l : List α) (i : Nat) (p : α) : List α := l.take (i + 1) ++ [p] ++ l.drop (i + 1)
theorem blowL_len {α : Type} {l : List α} {i : Nat} {p : α} (h : i < l.length) : (blowL l i p).length = l.length + 1 := by
  simp [blowL]
  omega
theorem rays_blow (ns : List Node) (i q : Nat) (p : V2) : rays (blowL ns i (q, p)) = blowL (rays ns) i p := by simp [rays, blowL, List.map_take, List.map_drop]
theorem rot_blow {ns : List Node} {i : Nat} {p : Node} : rot (ns.length - (i + 1)) (rot (i + 1) ns ++ [p]) = blowL ns i p := by
  unfold rot blowL
  rw [List.append_assoc, ← List.length_drop, List.drop_left, List.take_left]
theorem blow_zero {ns : List Node} {i : Nat} {p : Node} (h : i < ns.length) : cyc (blowL ns i p) 0 = cyc ns 0 := by
  rw [cyc_lt (by rw [blowL_len h]; omega), cyc_lt (by omega)]
  unfold blowL
  rw [List.append_assoc, List.getElem?_append_left (by simp; omega), List.getElem?_take_of_lt (by omega)]
theorem mem_blow {ns : List Node} {i : Nat} {p q : Node} (h : p ∈ blowL ns i q) : p ∈ ns ∨ p = q := by
  unfold blowL at h
  rcases List.mem_append.1 h with h | h
  · rcases List.mem_append.1 h with h | h
    · exact .inl (List.mem_of_mem_take h)
    · exact .inr (List.mem_singleton.1 h)
  · exact .inl (List.mem_of_mem_drop h)
theorem mem_rot {ns : List Node} {k : Nat} {p : Node} (h : p ∈ rot k ns) : p ∈ ns := by
  unfold rot at h
  rcases List.mem_append.1 h with h | h
  · exact List.mem_of_mem_drop h
  · exact List.mem_of_mem_take h
/-- what 'blow' leaves -/
def BlowEnd (base g : Nat) (ns : List Node) (i : Nat) (w : World) (e : Ending) (w' : World) : Prop :=
  CheckEnd (fanB (blowL (rays ns) i (blowP (rays ns) i))) e ∧ (∃ q, FanAt w' base g (blowL ns i (q, blowP (rays ns) i))) ∧ Below base w w'
def blowB (l : List V2) (i : Int) : Bool := idxB l i && fanB (blowL l i.toNat (blowP l i.toNat))
end Go.Proofs.YtohojjoediibhaaGreatDoor

/- Fans: blown up at a cone: the model's side. -/
namespace Go.Proofs.YtohojjoediibhaaGreatDoor
open Go.RowKit

theorem two_cells {W : World} {b : Nat} {x y : Value} (h0 : W.cell? ⟨b, 0, none⟩ = some x) (h1 : W.cell? ⟨b, 1, none⟩ = some y) : ∀ j u, [x, y][j]? = some u → W.cell? ((⟨b, 0, none⟩ : Addr).add j) = some u := by
  intro j u hj
  match j, hj with
  | 0, hj => simp at hj; subst hj; simpa [Addr.add] using h0
  | 1, hj => simp at hj; subst hj; simpa [Addr.add] using h1
theorem two_one (x y : Int) : ∀ u ∈ [Value.int .i64 x, Value.int .i64 y], u.oneCell' = true := by
  intro u hu
  simp at hu
  rcases hu with rfl | rfl <;> rfl
theorem cell_same {W W' : World} {b : Nat} (h : W'.heap[b]? = W.heap[b]?) (o : Nat) : W'.cell? ⟨b, o, none⟩ = W.cell? ⟨b, o, none⟩ := by
  unfold World.cell?
  simp only [h]
theorem idx_is' (l : List V2) (i : Int) : (decide (0 ≤ i) && decide (i ≤ (l.length : Int) - 1)) = idxB l i := by
  unfold idxB
  congr 1
  exact decide_eq_decide.2 (by omega)
set_option maxHeartbeats 16000000 in
theorem specFanBlow_any (v : Value) (l : List V2) (i : Int) (w : World) (hl : ReadsVecs w v l) :
    Calls Tryz.prog 103 #[v, .int .i64 i] w (GivesVecsOk w (gV (smoothB l && blowB l i) (blowL l i.toNat (blowP l i.toNat))) (smoothB l && blowB l i)) := by
  have HF := Lib.hid (specFanSmooth_any v l w hl)
  have hE := Lib.hid (fun w' => Vecs.empty w')
  have HI := Lib.hid (fun w' => l6In_any i 0 ((l.length : Int) - 1) w')
  rw [idx_is'] at HI
  have HLen : Hid (smoothB l = true → l.length ≤ 20) := fun h => (fan_len (smooth_in (l := l) h).1).2
  have HSm := Lib.hid (fun h => (smooth_all (l := l) h).1)
  have hop := fun h0 => hl.open h0
  obtain ⟨a, c, rfl, hcap, hmm, _⟩ := hl
  have q1 : IntKind.i64.wrap ((l.length : Int) - 1) = (l.length : Int) - 1 := by rw [IntKind.wrap_i64]; omega
  unfold blowB
  cases hb : smoothB l
  · rw [hb] at HF
    clear hb HI hop
    go_enter Tryz.func103, Tryz.ntmps103
    go_wp2_with fail
    refine Calls.mono HF.out ?_
    rintro e w1 ⟨rfl, hb1⟩
    have hs1 := hb1.size
    have HE := Lib.hid ((hE.out w1).lower hs1)
    go_wp2
    go_returns
    exact ⟨_, rfl, HE.out, by go_grown⟩
  · rw [hb] at HF HLen HSm
    clear hb
    cases hi : idxB l i
    · rw [hi] at HI
      clear hi hop
      go_enter Tryz.func103, Tryz.ntmps103
      go_wp2_with fail
      refine Calls.mono HF.out ?_
      rintro e w1 ⟨rfl, hb1⟩
      have hs1 := hb1.size
      have HE := Lib.hid ((hE.out w1).lower hs1)
      go_wp2_with fail
      refine Calls.mono (HI.out _) ?_
      rintro e w2 ⟨rfl, rfl⟩
      go_wp2
      go_returns
      exact ⟨_, rfl, HE.out, by go_grown⟩
    · rw [hi] at HI
      obtain ⟨k, rfl, hk⟩ := idx_in hi
      rw [Int.toNat_natCast]
      have h20 := HLen.out (by simp)
      obtain ⟨bb, off, c', hev, _, _, hbb, hcs⟩ := hop (by omega)
      injection hev with ha _ hc'
      subst ha
      have hv := HSm.out (by simp)
      obtain ⟨v1a, v1b⟩ := vecB_true (hv k)
      obtain ⟨v2a, v2b⟩ := vecB_true (hv (k + 1))
      obtain ⟨b1, b2⟩ := szB_true v1a
      obtain ⟨b3, b4⟩ := szB_true v1b
      obtain ⟨b5, b6⟩ := szB_true v2a
      obtain ⟨b7, b8⟩ := szB_true v2b
      have HCl := Lib.hid hcs
      have HX := Lib.hid (fun w' => l3Next_any (some ⟨bb, off, none⟩) l.length c k w' hk (by omega))
      have hjn : (k + 1) % l.length < l.length := Nat.mod_lt _ (by omega)
      have HCa := Lib.hid (fun w' (h : Below w.heap.size w w') => hcs w' h k hk)
      have HCb := Lib.hid (fun w' (h : Below w.heap.size w w') => hcs w' h _ hjn)
      rw [cyc_mod] at HCb
      have i1 : (0 : Int) ≤ (k : Int) := by omega
      have i2 : (k : Int) < (l.length : Int) := by omega
      have i3 : (0 : Int) ≤ (((k + 1) % l.length : Nat) : Int) := by omega
      have i4 : (((k + 1) % l.length : Nat) : Int) < (l.length : Int) := by omega
      have HP : Hid (blowP l k = ((cyc l k).1 + (cyc l (k + 1)).1, (cyc l k).2 + (cyc l (k + 1)).2)) := rfl
      have s1 : IntKind.i64.wrap ((cyc l k).1 + (cyc l (k + 1)).1) = (cyc l k).1 + (cyc l (k + 1)).1 := by rw [IntKind.wrap_i64]; omega
      have s2 : IntKind.i64.wrap ((cyc l k).2 + (cyc l (k + 1)).2) = (cyc l k).2 + (cyc l (k + 1)).2 := by rw [IntKind.wrap_i64]; omega
      clear hi hop hcs hc' HSm HLen hv v1a v1b v2a v2b
      generalize (k + 1) % l.length = m at *
      generalize cyc l (k + 1) = z2 at *
      generalize cyc l k = z1 at *
      obtain ⟨x1, y1⟩ := z1
      obtain ⟨x2, y2⟩ := z2
      dsimp only at HCa HCb s1 s2 HP b1 b2 b3 b4 b5 b6 b7 b8
      rw [HP.out]
      obtain ⟨n, hn⟩ : ∃ n, n = l.length := ⟨_, rfl⟩
      have HL := Lib.hid hn
      rw [← hn] at h20 hk hmm hcap i2 i4 q1 HI HX HF
      rw [← hn]
      clear hn
      go_enter Tryz.func103, Tryz.ntmps103
      go_wp2_with fail
      refine Calls.mono HF.out ?_
      rintro e w1 ⟨rfl, hb1⟩
      go_wp2_with fail
      refine Calls.mono (HI.out _) ?_
      rintro e w2 ⟨rfl, rfl⟩
      obtain ⟨d0, d1⟩ := HCb.out w1 hb1
      have hbl := Nat.lt_of_lt_of_le hbb hb1.size
      go_wp2_with fail
      refine Calls.mono (HX.out _) ?_
      rintro e w2 ⟨rfl, rfl⟩
      obtain ⟨f0, f1⟩ := HCa.out w1 hb1
      have hbl1 : bb < w1.heap.size + 1 := by omega
      go_wp2
      go_region
      have hs1 := hb1.size
      have hBW0 : Below w.heap.size w ((w1.alloc (.cells #[.int .i64 x2, .int .i64 y2] 25)).alloc (.cells #[.int .i64 (x1 + x2), .int .i64 (y1 + y2)] 25)).drew := by go_grown
      have c0 : (((w1.alloc (.cells #[.int .i64 x2, .int .i64 y2] 25)).alloc (.cells #[.int .i64 (x1 + x2), .int .i64 (y1 + y2)] 25)).drew).cell? ⟨w1.heap.size + 1, 0, none⟩ = some (.int .i64 (x1 + x2)) := by simp
      have c1 : (((w1.alloc (.cells #[.int .i64 x2, .int .i64 y2] 25)).alloc (.cells #[.int .i64 (x1 + x2), .int .i64 (y1 + y2)] 25)).drew).cell? ⟨w1.heap.size + 1, 1, none⟩ = some (.int .i64 (y1 + y2)) := by simp
      have hrb : w1.heap.size + 1 < (((w1.alloc (.cells #[.int .i64 x2, .int .i64 y2] 25)).alloc (.cells #[.int .i64 (x1 + x2), .int .i64 (y1 + y2)] 25)).drew).heap.size := by simp only [World.size_alloc, World.size_drew]; omega
      clear d0 d1 f0 f1 hbl hbl1 HCa HCb HX HI HF i2 i3 i4 b1 b2 b3 b4 b5 b6 b7 b8 s1 s2 q1
      generalize (((w1.alloc (.cells #[.int .i64 x2, .int .i64 y2] 25)).alloc (.cells #[.int .i64 (x1 + x2), .int .i64 (y1 + y2)] 25)).drew) = W at *
      generalize w1.heap.size + 1 = rb at *
      clear hb1 hs1
      obtain ⟨i0, hi, hz0, hz1, hz2⟩ := info_parts infoVec
      have HBW := Lib.hid hBW0
      have HCl' : Hid (∀ wr, Below W.heap.size W wr → ∀ j, j < l.length → wr.cell? ⟨bb, off + j * 2, none⟩ = some (.int .i64 (cyc l j).1) ∧ wr.cell? ⟨bb, off + j * 2 + 1, none⟩ = some (.int .i64 (cyc l j).2)) := fun wr h => HCl.out wr (belowTo hBW0 h)
      clear HCl hBW0
      have HCl := HCl'
      clear HCl'
      have HO1 : Hid (Vecs (W.drew.alloc (.cells #[] 25)) W.heap.size (.slice (some ⟨W.heap.size, 0, none⟩) 0 0) []) := Vecs.empty W.drew
      have hB1 : Below W.heap.size W (W.drew.alloc (.cells #[] 25)) := by go_grown
      have HB1 := Lib.hid hB1
      have HO2 : Hid (Vecs ((W.drew.alloc (.cells #[] 25)).alloc (.cells #[.int .i64 (x1 + x2), .int .i64 (y1 + y2)] 25)) W.heap.size (.slice (some ⟨W.heap.size, 0, none⟩) 0 0) []) := HO1.out.below (by go_grown)
      have hB2 : Below W.heap.size W ((W.drew.alloc (.cells #[] 25)).alloc (.cells #[.int .i64 (x1 + x2), .int .i64 (y1 + y2)] 25)) := by go_grown
      have HB2 := Lib.hid hB2
      have hO3 := (Vecs.empty (W.drew.alloc (.cells #[.int .i64 (x1 + x2), .int .i64 (y1 + y2)] 25))).lower (base' := W.heap.size) (by simp)
      simp only [World.size_alloc, World.size_drew] at hO3
      have HO3 : Hid (Vecs ((W.drew.alloc (.cells #[.int .i64 (x1 + x2), .int .i64 (y1 + y2)] 25)).alloc (.cells #[] 25)) W.heap.size (.slice (some ⟨W.heap.size + 1, 0, none⟩) 0 0) []) := hO3
      have hB3 : Below W.heap.size W ((W.drew.alloc (.cells #[.int .i64 (x1 + x2), .int .i64 (y1 + y2)] 25)).alloc (.cells #[] 25)) := by go_grown
      have HB3 := Lib.hid hB3
      have KE0 : Hid (((W.drew.alloc (.cells #[] 25)).alloc (.cells #[.int .i64 (x1 + x2), .int .i64 (y1 + y2)] 25)).cell? ⟨W.heap.size + 1, 0, none⟩ = some (.int .i64 (x1 + x2))) := by show ((W.drew.alloc (.cells #[] 25)).alloc (.cells #[.int .i64 (x1 + x2), .int .i64 (y1 + y2)] 25)).cell? ⟨W.heap.size + 1, 0, none⟩ = some (.int .i64 (x1 + x2)); rw [World.cell?_alloc_at _ _ _ _ (by simp only [World.size_alloc, World.size_drew])]; rfl
      have KE1 : Hid (((W.drew.alloc (.cells #[] 25)).alloc (.cells #[.int .i64 (x1 + x2), .int .i64 (y1 + y2)] 25)).cell? ⟨W.heap.size + 1, 1, none⟩ = some (.int .i64 (y1 + y2))) := by show ((W.drew.alloc (.cells #[] 25)).alloc (.cells #[.int .i64 (x1 + x2), .int .i64 (y1 + y2)] 25)).cell? ⟨W.heap.size + 1, 1, none⟩ = some (.int .i64 (y1 + y2)); rw [World.cell?_alloc_at _ _ _ _ (by simp only [World.size_alloc, World.size_drew])]; rfl
      have KR0 : Hid (((W.drew.alloc (.cells #[.int .i64 (x1 + x2), .int .i64 (y1 + y2)] 25)).alloc (.cells #[] 25)).cell? ⟨W.heap.size, 0, none⟩ = some (.int .i64 (x1 + x2))) := by show ((W.drew.alloc (.cells #[.int .i64 (x1 + x2), .int .i64 (y1 + y2)] 25)).alloc (.cells #[] 25)).cell? ⟨W.heap.size, 0, none⟩ = some (.int .i64 (x1 + x2)); rw [World.cell?_alloc_lt _ _ ⟨_, _, none⟩ (by simp only [World.size_alloc, World.size_drew]; omega), World.cell?_alloc_at _ _ _ _ (by simp only [World.size_drew])]; rfl
      have KR1 : Hid (((W.drew.alloc (.cells #[.int .i64 (x1 + x2), .int .i64 (y1 + y2)] 25)).alloc (.cells #[] 25)).cell? ⟨W.heap.size, 1, none⟩ = some (.int .i64 (y1 + y2))) := by show ((W.drew.alloc (.cells #[.int .i64 (x1 + x2), .int .i64 (y1 + y2)] 25)).alloc (.cells #[] 25)).cell? ⟨W.heap.size, 1, none⟩ = some (.int .i64 (y1 + y2)); rw [World.cell?_alloc_lt _ _ ⟨_, _, none⟩ (by simp only [World.size_alloc, World.size_drew]; omega), World.cell?_alloc_at _ _ _ _ (by simp only [World.size_drew])]; rfl
      clear hB1 hB2 hB3 hO3
      have h20l : l.length ≤ 20 := by have := HL.out; omega
      have q1 : IntKind.i64.wrap ((k : Int) + 1) = (k : Int) + 1 := by rw [IntKind.wrap_i64]; omega
      have q2 : ((k : Int) + 1).toNat = k + 1 := by omega
      have q3 : (0 : Int) ≤ (k : Int) + 1 := by omega
      have q4 : (k : Int) + 1 ≤ (c : Int) := by omega
      have q5 : k + 1 ≤ c := by omega
      have q6 : ¬ c = 0 := by omega
      have HT1 : Hid (0 + (k + 1) ≤ l.length) := by have := HL.out; show 0 + (k + 1) ≤ l.length; omega
      have HK0 : Hid (k < l.length) := by have := HL.out; show k < l.length; omega
      have HSI := Lib.hid (fun v' (L : List V2) w' h' => specFanIn_any v' L w' h')
      by_cases hck : c = k + 1
      case pos =>
        have hnk : n = k + 1 := by omega
        subst hck
        subst hnk
        have HR : Hid ((([] ++ (l.drop 0).take (k + 1)) ++ [(x1 + x2, y1 + y2)]) ++ [] = blowL l k (x1 + x2, y1 + y2)) := by
          unfold blowL
          rw [List.drop_of_length_le (i := k + 1) (by have := HL.out; omega)]
          rfl
        have i6 : (k : Int) ≤ (k : Int) + 1 := by omega
        go_wp2
        refine wp_region_any (by kernel_rfl) ?_
        try (change wpAny _ _ _ _ _ _ _ (World.drew _))
        refine wpAny_take (i := 1) (v := ?_) rfl (by kernel_rfl) (by kernel_rfl) (by kernel_rfl) (fun _ _ _ h => h) (Or.inl ⟨by rfl, ?_⟩) ?_
        rotate_left
        focus (intro w0; go_simp; try with_reducible rfl)
        refine wpAny_take (i := 2) (v := ?_) rfl (by kernel_rfl) (by kernel_rfl) (by kernel_rfl) (fun _ _ _ h => h) (Or.inl ⟨by rfl, ?_⟩) ?_
        rotate_left
        focus (intro w0; go_simp; try with_reducible rfl)
        refine wpAny_take (i := 3) (v := ?_) rfl (by kernel_rfl) (by kernel_rfl) (by kernel_rfl) (fun _ _ _ h => h) (Or.inl ⟨by rfl, ?_⟩) ?_
        rotate_left
        focus (intro w0; go_simp; try with_reducible rfl)
        refine wpAny_take (i := 4) (v := ?_) rfl (by kernel_rfl) (by kernel_rfl) (by kernel_rfl) (fun _ _ _ h => h) (Or.inl ⟨by rfl, ?_⟩) ?_
        rotate_left
        focus (intro w0; go_simp; try with_reducible rfl)
        refine wpAny_take (i := 9) (v := ?_) rfl (by kernel_rfl) (by kernel_rfl) (by kernel_rfl) (fun _ _ _ h => h) (Or.inl ⟨by rfl, ?_⟩) ?_
        rotate_left
        focus (intro w0; go_simp; try with_reducible rfl)
        refine wpAny_take (i := 10) (v := ?_) rfl (by kernel_rfl) (by kernel_rfl) (by kernel_rfl) (fun _ _ _ h => h) (Or.inl ⟨by rfl, ?_⟩) ?_
        rotate_left
        focus (intro w0; go_simp; try with_reducible rfl)
        refine wpAny_take (i := 11) (v := ?_) rfl (by kernel_rfl) (by kernel_rfl) (by kernel_rfl) (fun _ _ _ h => h) (Or.inl ⟨by rfl, ?_⟩) ?_
        rotate_left
        focus (intro w0; go_simp; try with_reducible rfl)
        refine wpAny_take (i := 12) (v := ?_) rfl (by kernel_rfl) (by kernel_rfl) (by kernel_rfl) (fun _ _ _ h => h) (Or.inl ⟨by rfl, ?_⟩) ?_
        rotate_left
        focus (intro w0; go_simp; try with_reducible rfl)
        refine wpAny_ready (rs := [0, 6]) (by kernel_rfl) (by simp) (AllReady.cons rfl (fun K hK => ?_) (AllReady.cons rfl (fun K hK => ?_) (AllReady.nil)))
        focus
          go_simp
          refine hK _ _ ?_
          clear hK K
          refine wpAny_ready (rs := [5, 6]) (by kernel_rfl) (by simp) (AllReady.cons rfl (fun K hK => ?_) (AllReady.cons rfl (fun K hK => ?_) (AllReady.nil)))
          focus
            (refine step_list (by rintro ⟨_, _, h⟩; obtain ⟨_, hv, _⟩ := h; cases hv) (by kernel_rfl) ?_; first | (refine wpList_append_own_at _ rfl _ _ 23 rfl W.heap.size 25 i0 (.agg #[.int .i64 (0), .int .i64 (0)]) 2 16 Tryz.underlying23 hi hz0 hz1 hz2 rfl (by decide) (.slice (some ⟨W.heap.size, 0, none⟩) 0 0) _ _ rfl HO1.out _ _ _ _ rfl (piece_len HT1.out) (piece_cells (HCl.out _ HB1.out) HT1.out) (piece_one _) (by unfold maxLen; simp; omega) (by simp; omega) HB1.out.size ?_; intro v2 w2 hown2 hgrow2 _ _; have HBA := Lib.hid (HB1.out.grown hgrow2 HB1.out.size (fun q hq => (World.ownsRow.lt HO1.out q hq).1)); have HO := Lib.hid (Vecs.join (l := []) hown2 (by have := HL.out; simp <;> omega)); have b0 := (HBA.out.cell (p := ⟨rb, 0, none⟩) hrb).trans c0; have b1 := (HBA.out.cell (p := ⟨rb, 1, none⟩) hrb).trans c1; have bl := Nat.lt_of_lt_of_le hrb HBA.out.size; clear hown2 hgrow2) | (refine wpList_append_own_at _ rfl _ _ 23 rfl W.heap.size 25 i0 (.agg #[.int .i64 (0), .int .i64 (0)]) 2 16 Tryz.underlying23 hi hz0 hz1 hz2 rfl (by decide) (.slice (some ⟨W.heap.size + 1, 0, none⟩) 0 0) _ _ rfl HO3.out _ _ _ _ rfl (piece_len HT1.out) (piece_cells (HCl.out _ HB3.out) HT1.out) (piece_one _) (by unfold maxLen; simp; omega) (by simp; omega) HB3.out.size ?_; intro v2 w2 hown2 hgrow2 _ _; have HBA := Lib.hid (HB3.out.grown hgrow2 HB3.out.size (fun q hq => (World.ownsRow.lt HO3.out q hq).1)); have HO := Lib.hid (Vecs.join (l := []) hown2 (by have := HL.out; simp <;> omega)); have rr : w2.heap[W.heap.size]? = ((W.drew.alloc (.cells #[.int .i64 (x1 + x2), .int .i64 (y1 + y2)] 25)).alloc (.cells #[] 25)).heap[W.heap.size]? := hgrow2.block _ (by simp <;> omega) (by simp [Value.ownBlock]); have RR0 : Hid (w2.cell? ⟨W.heap.size, 0, none⟩ = some (.int .i64 (x1 + x2))) := (cell_same rr 0).trans KR0.out; have RR1 : Hid (w2.cell? ⟨W.heap.size, 1, none⟩ = some (.int .i64 (y1 + y2))) := (cell_same rr 1).trans KR1.out; clear rr; clear hown2 hgrow2) | (refine wpList_append_own_at _ rfl _ _ 23 rfl W.heap.size 25 i0 (.agg #[.int .i64 (0), .int .i64 (0)]) 2 16 Tryz.underlying23 hi hz0 hz1 hz2 rfl (by decide) (.slice (some ⟨W.heap.size, 0, none⟩) 0 0) _ _ rfl HO2.out _ _ _ _ rfl (piece_len HT1.out) (piece_cells (HCl.out _ HB2.out) HT1.out) (piece_one _) (by unfold maxLen; simp; omega) (by simp; omega) HB2.out.size ?_; intro v2 w2 hown2 hgrow2 _ _; have HBA := Lib.hid (HB2.out.grown hgrow2 HB2.out.size (fun q hq => (World.ownsRow.lt HO2.out q hq).1)); have HO := Lib.hid (Vecs.join (l := []) hown2 (by have := HL.out; simp <;> omega)); have rr : w2.heap[W.heap.size + 1]? = ((W.drew.alloc (.cells #[] 25)).alloc (.cells #[.int .i64 (x1 + x2), .int .i64 (y1 + y2)] 25)).heap[W.heap.size + 1]? := hgrow2.block _ (by simp <;> omega) (by simp [Value.ownBlock]); have RR0 : Hid (w2.cell? ⟨W.heap.size + 1, 0, none⟩ = some (.int .i64 (x1 + x2))) := (cell_same rr 0).trans KE0.out; have RR1 : Hid (w2.cell? ⟨W.heap.size + 1, 1, none⟩ = some (.int .i64 (y1 + y2))) := (cell_same rr 1).trans KE1.out; clear rr; clear hown2 hgrow2))
            refine hK _ _ ?_
            clear hK K
            refine wpAny_ready (rs := [6]) (by kernel_rfl) (by simp) (AllReady.cons rfl (fun K hK => ?_) (AllReady.nil))
            go_simp
            refine hK _ _ ?_
            clear hK K
            refine wpAny_ready (rs := [7]) (by kernel_rfl) (by simp) (AllReady.cons rfl (fun K hK => ?_) (AllReady.nil))
            go_simp
            refine hK _ _ ?_
            clear hK K
            refine wpAny_ready (rs := [8]) (by kernel_rfl) (by simp) (AllReady.cons rfl (fun K hK => ?_) (AllReady.nil))
            (refine step_list (by rintro ⟨_, _, h⟩; obtain ⟨_, hv, _⟩ := h; cases hv) (by kernel_rfl) ?_; first | (refine wpList_append_own_at _ rfl _ _ 23 rfl W.heap.size 25 i0 (.agg #[.int .i64 (0), .int .i64 (0)]) 2 16 Tryz.underlying23 hi hz0 hz1 hz2 rfl (by decide) _ _ _ rfl HO.out _ 1 1 [.int .i64 (x1 + x2), .int .i64 (y1 + y2)] rfl rfl (two_cells RR0.out RR1.out) (two_one _ _) (by unfold maxLen; simp; omega) (by simp; omega) HBA.out.size ?_; intro v3 w3 hown3 hgrow3 _ _; have HBC := Lib.hid (HBA.out.grown hgrow3 HBA.out.size (fun q hq => (World.ownsRow.lt HO.out q hq).1)); have HOC := Lib.hid (Vecs.snoc (l := [] ++ (l.drop 0).take (k + 1)) rfl hown3); clear hown3 hgrow3) | (refine wpList_append_own_at _ rfl _ _ 23 rfl W.heap.size 25 i0 (.agg #[.int .i64 (0), .int .i64 (0)]) 2 16 Tryz.underlying23 hi hz0 hz1 hz2 rfl (by decide) _ _ _ rfl (HO.out.below (by go_grown)) _ 1 1 [.int .i64 (x1 + x2), .int .i64 (y1 + y2)] rfl rfl (two_cells (by simp) (by simp)) (two_one _ _) (by unfold maxLen; simp; omega) (by simp; omega) (HBA.out.alloc HBA.out.size _).size ?_; intro v3 w3 hown3 hgrow3 _ _; have HBC := Lib.hid ((HBA.out.alloc HBA.out.size _).grown hgrow3 (HBA.out.alloc HBA.out.size _).size (fun q hq => (World.ownsRow.lt HO.out q hq).1)); have HOC := Lib.hid (Vecs.snoc (l := [] ++ (l.drop 0).take (k + 1)) rfl hown3); clear hown3 hgrow3))
            refine hK _ _ ?_
            clear hK K
            refine wpAny_ready (rs := [13]) (by kernel_rfl) (by simp) (AllReady.cons rfl (fun K hK => ?_) (AllReady.nil))
            (refine step_list (by rintro ⟨_, _, h⟩; obtain ⟨_, hv, _⟩ := h; cases hv) (by kernel_rfl) ?_; refine wpList_append_own_at _ rfl _ _ 23 rfl W.heap.size 25 i0 (.agg #[.int .i64 (0), .int .i64 (0)]) 2 16 Tryz.underlying23 hi hz0 hz1 hz2 rfl (by decide) _ _ _ rfl HOC.out _ 0 _ [] rfl rfl (fun j u hj => by simp at hj) (fun u hu => by simp at hu) (by unfold maxLen; simp; omega) (by simp; omega) HBC.out.size ?_; intro v4 w4 hown4 hgrow4 _ _; have HBD := Lib.hid (HBC.out.grown hgrow4 HBC.out.size (fun q hq => (World.ownsRow.lt HOC.out q hq).1)); have HOD := Lib.hid (Vecs.join (m := []) hown4 (by have := HL.out; simp <;> omega)); clear hown4 hgrow4)
            refine hK _ _ ?_
            clear hK K
            refine wpAny_seq 14 rfl (by kernel_rfl) ?_
            simp only [List.drop_succ_cons, List.drop_zero]
          rotate_left 1
          focus
            go_simp
            refine hK _ _ ?_
            clear hK K
            refine wpAny_ready (rs := [5, 7]) (by kernel_rfl) (by simp) (AllReady.cons rfl (fun K hK => ?_) (AllReady.cons rfl (fun K hK => ?_) (AllReady.nil)))
            focus
              (refine step_list (by rintro ⟨_, _, h⟩; obtain ⟨_, hv, _⟩ := h; cases hv) (by kernel_rfl) ?_; first | (refine wpList_append_own_at _ rfl _ _ 23 rfl W.heap.size 25 i0 (.agg #[.int .i64 (0), .int .i64 (0)]) 2 16 Tryz.underlying23 hi hz0 hz1 hz2 rfl (by decide) (.slice (some ⟨W.heap.size, 0, none⟩) 0 0) _ _ rfl HO1.out _ _ _ _ rfl (piece_len HT1.out) (piece_cells (HCl.out _ HB1.out) HT1.out) (piece_one _) (by unfold maxLen; simp; omega) (by simp; omega) HB1.out.size ?_; intro v2 w2 hown2 hgrow2 _ _; have HBA := Lib.hid (HB1.out.grown hgrow2 HB1.out.size (fun q hq => (World.ownsRow.lt HO1.out q hq).1)); have HO := Lib.hid (Vecs.join (l := []) hown2 (by have := HL.out; simp <;> omega)); have b0 := (HBA.out.cell (p := ⟨rb, 0, none⟩) hrb).trans c0; have b1 := (HBA.out.cell (p := ⟨rb, 1, none⟩) hrb).trans c1; have bl := Nat.lt_of_lt_of_le hrb HBA.out.size; clear hown2 hgrow2) | (refine wpList_append_own_at _ rfl _ _ 23 rfl W.heap.size 25 i0 (.agg #[.int .i64 (0), .int .i64 (0)]) 2 16 Tryz.underlying23 hi hz0 hz1 hz2 rfl (by decide) (.slice (some ⟨W.heap.size + 1, 0, none⟩) 0 0) _ _ rfl HO3.out _ _ _ _ rfl (piece_len HT1.out) (piece_cells (HCl.out _ HB3.out) HT1.out) (piece_one _) (by unfold maxLen; simp; omega) (by simp; omega) HB3.out.size ?_; intro v2 w2 hown2 hgrow2 _ _; have HBA := Lib.hid (HB3.out.grown hgrow2 HB3.out.size (fun q hq => (World.ownsRow.lt HO3.out q hq).1)); have HO := Lib.hid (Vecs.join (l := []) hown2 (by have := HL.out; simp <;> omega)); have rr : w2.heap[W.heap.size]? = ((W.drew.alloc (.cells #[.int .i64 (x1 + x2), .int .i64 (y1 + y2)] 25)).alloc (.cells #[] 25)).heap[W.heap.size]? := hgrow2.block _ (by simp <;> omega) (by simp [Value.ownBlock]); have RR0 : Hid (w2.cell? ⟨W.heap.size, 0, none⟩ = some (.int .i64 (x1 + x2))) := (cell_same rr 0).trans KR0.out; have RR1 : Hid (w2.cell? ⟨W.heap.size, 1, none⟩ = some (.int .i64 (y1 + y2))) := (cell_same rr 1).trans KR1.out; clear rr; clear hown2 hgrow2) | (refine wpList_append_own_at _ rfl _ _ 23 rfl W.heap.size 25 i0 (.agg #[.int .i64 (0), .int .i64 (0)]) 2 16 Tryz.underlying23 hi hz0 hz1 hz2 rfl (by decide) (.slice (some ⟨W.heap.size, 0, none⟩) 0 0) _ _ rfl HO2.out _ _ _ _ rfl (piece_len HT1.out) (piece_cells (HCl.out _ HB2.out) HT1.out) (piece_one _) (by unfold maxLen; simp; omega) (by simp; omega) HB2.out.size ?_; intro v2 w2 hown2 hgrow2 _ _; have HBA := Lib.hid (HB2.out.grown hgrow2 HB2.out.size (fun q hq => (World.ownsRow.lt HO2.out q hq).1)); have HO := Lib.hid (Vecs.join (l := []) hown2 (by have := HL.out; simp <;> omega)); have rr : w2.heap[W.heap.size + 1]? = ((W.drew.alloc (.cells #[] 25)).alloc (.cells #[.int .i64 (x1 + x2), .int .i64 (y1 + y2)] 25)).heap[W.heap.size + 1]? := hgrow2.block _ (by simp <;> omega) (by simp [Value.ownBlock]); have RR0 : Hid (w2.cell? ⟨W.heap.size + 1, 0, none⟩ = some (.int .i64 (x1 + x2))) := (cell_same rr 0).trans KE0.out; have RR1 : Hid (w2.cell? ⟨W.heap.size + 1, 1, none⟩ = some (.int .i64 (y1 + y2))) := (cell_same rr 1).trans KE1.out; clear rr; clear hown2 hgrow2))
              refine hK _ _ ?_
              clear hK K
              refine wpAny_ready (rs := [7]) (by kernel_rfl) (by simp) (AllReady.cons rfl (fun K hK => ?_) (AllReady.nil))
              go_simp
              refine hK _ _ ?_
              clear hK K
              refine wpAny_ready (rs := [8]) (by kernel_rfl) (by simp) (AllReady.cons rfl (fun K hK => ?_) (AllReady.nil))
              (refine step_list (by rintro ⟨_, _, h⟩; obtain ⟨_, hv, _⟩ := h; cases hv) (by kernel_rfl) ?_; first | (refine wpList_append_own_at _ rfl _ _ 23 rfl W.heap.size 25 i0 (.agg #[.int .i64 (0), .int .i64 (0)]) 2 16 Tryz.underlying23 hi hz0 hz1 hz2 rfl (by decide) _ _ _ rfl HO.out _ 1 1 [.int .i64 (x1 + x2), .int .i64 (y1 + y2)] rfl rfl (two_cells RR0.out RR1.out) (two_one _ _) (by unfold maxLen; simp; omega) (by simp; omega) HBA.out.size ?_; intro v3 w3 hown3 hgrow3 _ _; have HBC := Lib.hid (HBA.out.grown hgrow3 HBA.out.size (fun q hq => (World.ownsRow.lt HO.out q hq).1)); have HOC := Lib.hid (Vecs.snoc (l := [] ++ (l.drop 0).take (k + 1)) rfl hown3); clear hown3 hgrow3) | (refine wpList_append_own_at _ rfl _ _ 23 rfl W.heap.size 25 i0 (.agg #[.int .i64 (0), .int .i64 (0)]) 2 16 Tryz.underlying23 hi hz0 hz1 hz2 rfl (by decide) _ _ _ rfl (HO.out.below (by go_grown)) _ 1 1 [.int .i64 (x1 + x2), .int .i64 (y1 + y2)] rfl rfl (two_cells (by simp) (by simp)) (two_one _ _) (by unfold maxLen; simp; omega) (by simp; omega) (HBA.out.alloc HBA.out.size _).size ?_; intro v3 w3 hown3 hgrow3 _ _; have HBC := Lib.hid ((HBA.out.alloc HBA.out.size _).grown hgrow3 (HBA.out.alloc HBA.out.size _).size (fun q hq => (World.ownsRow.lt HO.out q hq).1)); have HOC := Lib.hid (Vecs.snoc (l := [] ++ (l.drop 0).take (k + 1)) rfl hown3); clear hown3 hgrow3))
              refine hK _ _ ?_
              clear hK K
              refine wpAny_ready (rs := [13]) (by kernel_rfl) (by simp) (AllReady.cons rfl (fun K hK => ?_) (AllReady.nil))
              (refine step_list (by rintro ⟨_, _, h⟩; obtain ⟨_, hv, _⟩ := h; cases hv) (by kernel_rfl) ?_; refine wpList_append_own_at _ rfl _ _ 23 rfl W.heap.size 25 i0 (.agg #[.int .i64 (0), .int .i64 (0)]) 2 16 Tryz.underlying23 hi hz0 hz1 hz2 rfl (by decide) _ _ _ rfl HOC.out _ 0 _ [] rfl rfl (fun j u hj => by simp at hj) (fun u hu => by simp at hu) (by unfold maxLen; simp; omega) (by simp; omega) HBC.out.size ?_; intro v4 w4 hown4 hgrow4 _ _; have HBD := Lib.hid (HBC.out.grown hgrow4 HBC.out.size (fun q hq => (World.ownsRow.lt HOC.out q hq).1)); have HOD := Lib.hid (Vecs.join (m := []) hown4 (by have := HL.out; simp <;> omega)); clear hown4 hgrow4)
              refine hK _ _ ?_
              clear hK K
              refine wpAny_seq 14 rfl (by kernel_rfl) ?_
              simp only [List.drop_succ_cons, List.drop_zero]
            rotate_left 1
            focus
              go_simp
              refine hK _ _ ?_
              clear hK K
              refine wpAny_ready (rs := [5]) (by kernel_rfl) (by simp) (AllReady.cons rfl (fun K hK => ?_) (AllReady.nil))
              (refine step_list (by rintro ⟨_, _, h⟩; obtain ⟨_, hv, _⟩ := h; cases hv) (by kernel_rfl) ?_; first | (refine wpList_append_own_at _ rfl _ _ 23 rfl W.heap.size 25 i0 (.agg #[.int .i64 (0), .int .i64 (0)]) 2 16 Tryz.underlying23 hi hz0 hz1 hz2 rfl (by decide) (.slice (some ⟨W.heap.size, 0, none⟩) 0 0) _ _ rfl HO1.out _ _ _ _ rfl (piece_len HT1.out) (piece_cells (HCl.out _ HB1.out) HT1.out) (piece_one _) (by unfold maxLen; simp; omega) (by simp; omega) HB1.out.size ?_; intro v2 w2 hown2 hgrow2 _ _; have HBA := Lib.hid (HB1.out.grown hgrow2 HB1.out.size (fun q hq => (World.ownsRow.lt HO1.out q hq).1)); have HO := Lib.hid (Vecs.join (l := []) hown2 (by have := HL.out; simp <;> omega)); have b0 := (HBA.out.cell (p := ⟨rb, 0, none⟩) hrb).trans c0; have b1 := (HBA.out.cell (p := ⟨rb, 1, none⟩) hrb).trans c1; have bl := Nat.lt_of_lt_of_le hrb HBA.out.size; clear hown2 hgrow2) | (refine wpList_append_own_at _ rfl _ _ 23 rfl W.heap.size 25 i0 (.agg #[.int .i64 (0), .int .i64 (0)]) 2 16 Tryz.underlying23 hi hz0 hz1 hz2 rfl (by decide) (.slice (some ⟨W.heap.size + 1, 0, none⟩) 0 0) _ _ rfl HO3.out _ _ _ _ rfl (piece_len HT1.out) (piece_cells (HCl.out _ HB3.out) HT1.out) (piece_one _) (by unfold maxLen; simp; omega) (by simp; omega) HB3.out.size ?_; intro v2 w2 hown2 hgrow2 _ _; have HBA := Lib.hid (HB3.out.grown hgrow2 HB3.out.size (fun q hq => (World.ownsRow.lt HO3.out q hq).1)); have HO := Lib.hid (Vecs.join (l := []) hown2 (by have := HL.out; simp <;> omega)); have rr : w2.heap[W.heap.size]? = ((W.drew.alloc (.cells #[.int .i64 (x1 + x2), .int .i64 (y1 + y2)] 25)).alloc (.cells #[] 25)).heap[W.heap.size]? := hgrow2.block _ (by simp <;> omega) (by simp [Value.ownBlock]); have RR0 : Hid (w2.cell? ⟨W.heap.size, 0, none⟩ = some (.int .i64 (x1 + x2))) := (cell_same rr 0).trans KR0.out; have RR1 : Hid (w2.cell? ⟨W.heap.size, 1, none⟩ = some (.int .i64 (y1 + y2))) := (cell_same rr 1).trans KR1.out; clear rr; clear hown2 hgrow2) | (refine wpList_append_own_at _ rfl _ _ 23 rfl W.heap.size 25 i0 (.agg #[.int .i64 (0), .int .i64 (0)]) 2 16 Tryz.underlying23 hi hz0 hz1 hz2 rfl (by decide) (.slice (some ⟨W.heap.size, 0, none⟩) 0 0) _ _ rfl HO2.out _ _ _ _ rfl (piece_len HT1.out) (piece_cells (HCl.out _ HB2.out) HT1.out) (piece_one _) (by unfold maxLen; simp; omega) (by simp; omega) HB2.out.size ?_; intro v2 w2 hown2 hgrow2 _ _; have HBA := Lib.hid (HB2.out.grown hgrow2 HB2.out.size (fun q hq => (World.ownsRow.lt HO2.out q hq).1)); have HO := Lib.hid (Vecs.join (l := []) hown2 (by have := HL.out; simp <;> omega)); have rr : w2.heap[W.heap.size + 1]? = ((W.drew.alloc (.cells #[] 25)).alloc (.cells #[.int .i64 (x1 + x2), .int .i64 (y1 + y2)] 25)).heap[W.heap.size + 1]? := hgrow2.block _ (by simp <;> omega) (by simp [Value.ownBlock]); have RR0 : Hid (w2.cell? ⟨W.heap.size + 1, 0, none⟩ = some (.int .i64 (x1 + x2))) := (cell_same rr 0).trans KE0.out; have RR1 : Hid (w2.cell? ⟨W.heap.size + 1, 1, none⟩ = some (.int .i64 (y1 + y2))) := (cell_same rr 1).trans KE1.out; clear rr; clear hown2 hgrow2))
              refine hK _ _ ?_
              clear hK K
              refine wpAny_ready (rs := [8]) (by kernel_rfl) (by simp) (AllReady.cons rfl (fun K hK => ?_) (AllReady.nil))
              (refine step_list (by rintro ⟨_, _, h⟩; obtain ⟨_, hv, _⟩ := h; cases hv) (by kernel_rfl) ?_; first | (refine wpList_append_own_at _ rfl _ _ 23 rfl W.heap.size 25 i0 (.agg #[.int .i64 (0), .int .i64 (0)]) 2 16 Tryz.underlying23 hi hz0 hz1 hz2 rfl (by decide) _ _ _ rfl HO.out _ 1 1 [.int .i64 (x1 + x2), .int .i64 (y1 + y2)] rfl rfl (two_cells RR0.out RR1.out) (two_one _ _) (by unfold maxLen; simp; omega) (by simp; omega) HBA.out.size ?_; intro v3 w3 hown3 hgrow3 _ _; have HBC := Lib.hid (HBA.out.grown hgrow3 HBA.out.size (fun q hq => (World.ownsRow.lt HO.out q hq).1)); have HOC := Lib.hid (Vecs.snoc (l := [] ++ (l.drop 0).take (k + 1)) rfl hown3); clear hown3 hgrow3) | (refine wpList_append_own_at _ rfl _ _ 23 rfl W.heap.size 25 i0 (.agg #[.int .i64 (0), .int .i64 (0)]) 2 16 Tryz.underlying23 hi hz0 hz1 hz2 rfl (by decide) _ _ _ rfl (HO.out.below (by go_grown)) _ 1 1 [.int .i64 (x1 + x2), .int .i64 (y1 + y2)] rfl rfl (two_cells (by simp) (by simp)) (two_one _ _) (by unfold maxLen; simp; omega) (by simp; omega) (HBA.out.alloc HBA.out.size _).size ?_; intro v3 w3 hown3 hgrow3 _ _; have HBC := Lib.hid ((HBA.out.alloc HBA.out.size _).grown hgrow3 (HBA.out.alloc HBA.out.size _).size (fun q hq => (World.ownsRow.lt HO.out q hq).1)); have HOC := Lib.hid (Vecs.snoc (l := [] ++ (l.drop 0).take (k + 1)) rfl hown3); clear hown3 hgrow3))
              refine hK _ _ ?_
              clear hK K
              refine wpAny_ready (rs := [13]) (by kernel_rfl) (by simp) (AllReady.cons rfl (fun K hK => ?_) (AllReady.nil))
              (refine step_list (by rintro ⟨_, _, h⟩; obtain ⟨_, hv, _⟩ := h; cases hv) (by kernel_rfl) ?_; refine wpList_append_own_at _ rfl _ _ 23 rfl W.heap.size 25 i0 (.agg #[.int .i64 (0), .int .i64 (0)]) 2 16 Tryz.underlying23 hi hz0 hz1 hz2 rfl (by decide) _ _ _ rfl HOC.out _ 0 _ [] rfl rfl (fun j u hj => by simp at hj) (fun u hu => by simp at hu) (by unfold maxLen; simp; omega) (by simp; omega) HBC.out.size ?_; intro v4 w4 hown4 hgrow4 _ _; have HBD := Lib.hid (HBC.out.grown hgrow4 HBC.out.size (fun q hq => (World.ownsRow.lt HOC.out q hq).1)); have HOD := Lib.hid (Vecs.join (m := []) hown4 (by have := HL.out; simp <;> omega)); clear hown4 hgrow4)
              refine hK _ _ ?_
              clear hK K
              refine wpAny_seq 14 rfl (by kernel_rfl) ?_
              simp only [List.drop_succ_cons, List.drop_zero]
        rotate_left 3
        focus
          go_simp
          refine hK _ _ ?_
          clear hK K
          refine wpAny_ready (rs := [0, 7]) (by kernel_rfl) (by simp) (AllReady.cons rfl (fun K hK => ?_) (AllReady.cons rfl (fun K hK => ?_) (AllReady.nil)))
          focus
            go_simp
            refine hK _ _ ?_
            clear hK K
            refine wpAny_ready (rs := [5, 7]) (by kernel_rfl) (by simp) (AllReady.cons rfl (fun K hK => ?_) (AllReady.cons rfl (fun K hK => ?_) (AllReady.nil)))
            focus
              (refine step_list (by rintro ⟨_, _, h⟩; obtain ⟨_, hv, _⟩ := h; cases hv) (by kernel_rfl) ?_; first | (refine wpList_append_own_at _ rfl _ _ 23 rfl W.heap.size 25 i0 (.agg #[.int .i64 (0), .int .i64 (0)]) 2 16 Tryz.underlying23 hi hz0 hz1 hz2 rfl (by decide) (.slice (some ⟨W.heap.size, 0, none⟩) 0 0) _ _ rfl HO1.out _ _ _ _ rfl (piece_len HT1.out) (piece_cells (HCl.out _ HB1.out) HT1.out) (piece_one _) (by unfold maxLen; simp; omega) (by simp; omega) HB1.out.size ?_; intro v2 w2 hown2 hgrow2 _ _; have HBA := Lib.hid (HB1.out.grown hgrow2 HB1.out.size (fun q hq => (World.ownsRow.lt HO1.out q hq).1)); have HO := Lib.hid (Vecs.join (l := []) hown2 (by have := HL.out; simp <;> omega)); have b0 := (HBA.out.cell (p := ⟨rb, 0, none⟩) hrb).trans c0; have b1 := (HBA.out.cell (p := ⟨rb, 1, none⟩) hrb).trans c1; have bl := Nat.lt_of_lt_of_le hrb HBA.out.size; clear hown2 hgrow2) | (refine wpList_append_own_at _ rfl _ _ 23 rfl W.heap.size 25 i0 (.agg #[.int .i64 (0), .int .i64 (0)]) 2 16 Tryz.underlying23 hi hz0 hz1 hz2 rfl (by decide) (.slice (some ⟨W.heap.size + 1, 0, none⟩) 0 0) _ _ rfl HO3.out _ _ _ _ rfl (piece_len HT1.out) (piece_cells (HCl.out _ HB3.out) HT1.out) (piece_one _) (by unfold maxLen; simp; omega) (by simp; omega) HB3.out.size ?_; intro v2 w2 hown2 hgrow2 _ _; have HBA := Lib.hid (HB3.out.grown hgrow2 HB3.out.size (fun q hq => (World.ownsRow.lt HO3.out q hq).1)); have HO := Lib.hid (Vecs.join (l := []) hown2 (by have := HL.out; simp <;> omega)); have rr : w2.heap[W.heap.size]? = ((W.drew.alloc (.cells #[.int .i64 (x1 + x2), .int .i64 (y1 + y2)] 25)).alloc (.cells #[] 25)).heap[W.heap.size]? := hgrow2.block _ (by simp <;> omega) (by simp [Value.ownBlock]); have RR0 : Hid (w2.cell? ⟨W.heap.size, 0, none⟩ = some (.int .i64 (x1 + x2))) := (cell_same rr 0).trans KR0.out; have RR1 : Hid (w2.cell? ⟨W.heap.size, 1, none⟩ = some (.int .i64 (y1 + y2))) := (cell_same rr 1).trans KR1.out; clear rr; clear hown2 hgrow2) | (refine wpList_append_own_at _ rfl _ _ 23 rfl W.heap.size 25 i0 (.agg #[.int .i64 (0), .int .i64 (0)]) 2 16 Tryz.underlying23 hi hz0 hz1 hz2 rfl (by decide) (.slice (some ⟨W.heap.size, 0, none⟩) 0 0) _ _ rfl HO2.out _ _ _ _ rfl (piece_len HT1.out) (piece_cells (HCl.out _ HB2.out) HT1.out) (piece_one _) (by unfold maxLen; simp; omega) (by simp; omega) HB2.out.size ?_; intro v2 w2 hown2 hgrow2 _ _; have HBA := Lib.hid (HB2.out.grown hgrow2 HB2.out.size (fun q hq => (World.ownsRow.lt HO2.out q hq).1)); have HO := Lib.hid (Vecs.join (l := []) hown2 (by have := HL.out; simp <;> omega)); have rr : w2.heap[W.heap.size + 1]? = ((W.drew.alloc (.cells #[] 25)).alloc (.cells #[.int .i64 (x1 + x2), .int .i64 (y1 + y2)] 25)).heap[W.heap.size + 1]? := hgrow2.block _ (by simp <;> omega) (by simp [Value.ownBlock]); have RR0 : Hid (w2.cell? ⟨W.heap.size + 1, 0, none⟩ = some (.int .i64 (x1 + x2))) := (cell_same rr 0).trans KE0.out; have RR1 : Hid (w2.cell? ⟨W.heap.size + 1, 1, none⟩ = some (.int .i64 (y1 + y2))) := (cell_same rr 1).trans KE1.out; clear rr; clear hown2 hgrow2))
              refine hK _ _ ?_
              clear hK K
              refine wpAny_ready (rs := [7]) (by kernel_rfl) (by simp) (AllReady.cons rfl (fun K hK => ?_) (AllReady.nil))
              go_simp
              refine hK _ _ ?_
              clear hK K
              refine wpAny_ready (rs := [8]) (by kernel_rfl) (by simp) (AllReady.cons rfl (fun K hK => ?_) (AllReady.nil))
              (refine step_list (by rintro ⟨_, _, h⟩; obtain ⟨_, hv, _⟩ := h; cases hv) (by kernel_rfl) ?_; first | (refine wpList_append_own_at _ rfl _ _ 23 rfl W.heap.size 25 i0 (.agg #[.int .i64 (0), .int .i64 (0)]) 2 16 Tryz.underlying23 hi hz0 hz1 hz2 rfl (by decide) _ _ _ rfl HO.out _ 1 1 [.int .i64 (x1 + x2), .int .i64 (y1 + y2)] rfl rfl (two_cells RR0.out RR1.out) (two_one _ _) (by unfold maxLen; simp; omega) (by simp; omega) HBA.out.size ?_; intro v3 w3 hown3 hgrow3 _ _; have HBC := Lib.hid (HBA.out.grown hgrow3 HBA.out.size (fun q hq => (World.ownsRow.lt HO.out q hq).1)); have HOC := Lib.hid (Vecs.snoc (l := [] ++ (l.drop 0).take (k + 1)) rfl hown3); clear hown3 hgrow3) | (refine wpList_append_own_at _ rfl _ _ 23 rfl W.heap.size 25 i0 (.agg #[.int .i64 (0), .int .i64 (0)]) 2 16 Tryz.underlying23 hi hz0 hz1 hz2 rfl (by decide) _ _ _ rfl (HO.out.below (by go_grown)) _ 1 1 [.int .i64 (x1 + x2), .int .i64 (y1 + y2)] rfl rfl (two_cells (by simp) (by simp)) (two_one _ _) (by unfold maxLen; simp; omega) (by simp; omega) (HBA.out.alloc HBA.out.size _).size ?_; intro v3 w3 hown3 hgrow3 _ _; have HBC := Lib.hid ((HBA.out.alloc HBA.out.size _).grown hgrow3 (HBA.out.alloc HBA.out.size _).size (fun q hq => (World.ownsRow.lt HO.out q hq).1)); have HOC := Lib.hid (Vecs.snoc (l := [] ++ (l.drop 0).take (k + 1)) rfl hown3); clear hown3 hgrow3))
              refine hK _ _ ?_
              clear hK K
              refine wpAny_ready (rs := [13]) (by kernel_rfl) (by simp) (AllReady.cons rfl (fun K hK => ?_) (AllReady.nil))
              (refine step_list (by rintro ⟨_, _, h⟩; obtain ⟨_, hv, _⟩ := h; cases hv) (by kernel_rfl) ?_; refine wpList_append_own_at _ rfl _ _ 23 rfl W.heap.size 25 i0 (.agg #[.int .i64 (0), .int .i64 (0)]) 2 16 Tryz.underlying23 hi hz0 hz1 hz2 rfl (by decide) _ _ _ rfl HOC.out _ 0 _ [] rfl rfl (fun j u hj => by simp at hj) (fun u hu => by simp at hu) (by unfold maxLen; simp; omega) (by simp; omega) HBC.out.size ?_; intro v4 w4 hown4 hgrow4 _ _; have HBD := Lib.hid (HBC.out.grown hgrow4 HBC.out.size (fun q hq => (World.ownsRow.lt HOC.out q hq).1)); have HOD := Lib.hid (Vecs.join (m := []) hown4 (by have := HL.out; simp <;> omega)); clear hown4 hgrow4)
              refine hK _ _ ?_
              clear hK K
              refine wpAny_seq 14 rfl (by kernel_rfl) ?_
              simp only [List.drop_succ_cons, List.drop_zero]
            rotate_left 1
            focus
              go_simp
              refine hK _ _ ?_
              clear hK K
              refine wpAny_ready (rs := [5]) (by kernel_rfl) (by simp) (AllReady.cons rfl (fun K hK => ?_) (AllReady.nil))
              (refine step_list (by rintro ⟨_, _, h⟩; obtain ⟨_, hv, _⟩ := h; cases hv) (by kernel_rfl) ?_; first | (refine wpList_append_own_at _ rfl _ _ 23 rfl W.heap.size 25 i0 (.agg #[.int .i64 (0), .int .i64 (0)]) 2 16 Tryz.underlying23 hi hz0 hz1 hz2 rfl (by decide) (.slice (some ⟨W.heap.size, 0, none⟩) 0 0) _ _ rfl HO1.out _ _ _ _ rfl (piece_len HT1.out) (piece_cells (HCl.out _ HB1.out) HT1.out) (piece_one _) (by unfold maxLen; simp; omega) (by simp; omega) HB1.out.size ?_; intro v2 w2 hown2 hgrow2 _ _; have HBA := Lib.hid (HB1.out.grown hgrow2 HB1.out.size (fun q hq => (World.ownsRow.lt HO1.out q hq).1)); have HO := Lib.hid (Vecs.join (l := []) hown2 (by have := HL.out; simp <;> omega)); have b0 := (HBA.out.cell (p := ⟨rb, 0, none⟩) hrb).trans c0; have b1 := (HBA.out.cell (p := ⟨rb, 1, none⟩) hrb).trans c1; have bl := Nat.lt_of_lt_of_le hrb HBA.out.size; clear hown2 hgrow2) | (refine wpList_append_own_at _ rfl _ _ 23 rfl W.heap.size 25 i0 (.agg #[.int .i64 (0), .int .i64 (0)]) 2 16 Tryz.underlying23 hi hz0 hz1 hz2 rfl (by decide) (.slice (some ⟨W.heap.size + 1, 0, none⟩) 0 0) _ _ rfl HO3.out _ _ _ _ rfl (piece_len HT1.out) (piece_cells (HCl.out _ HB3.out) HT1.out) (piece_one _) (by unfold maxLen; simp; omega) (by simp; omega) HB3.out.size ?_; intro v2 w2 hown2 hgrow2 _ _; have HBA := Lib.hid (HB3.out.grown hgrow2 HB3.out.size (fun q hq => (World.ownsRow.lt HO3.out q hq).1)); have HO := Lib.hid (Vecs.join (l := []) hown2 (by have := HL.out; simp <;> omega)); have rr : w2.heap[W.heap.size]? = ((W.drew.alloc (.cells #[.int .i64 (x1 + x2), .int .i64 (y1 + y2)] 25)).alloc (.cells #[] 25)).heap[W.heap.size]? := hgrow2.block _ (by simp <;> omega) (by simp [Value.ownBlock]); have RR0 : Hid (w2.cell? ⟨W.heap.size, 0, none⟩ = some (.int .i64 (x1 + x2))) := (cell_same rr 0).trans KR0.out; have RR1 : Hid (w2.cell? ⟨W.heap.size, 1, none⟩ = some (.int .i64 (y1 + y2))) := (cell_same rr 1).trans KR1.out; clear rr; clear hown2 hgrow2) | (refine wpList_append_own_at _ rfl _ _ 23 rfl W.heap.size 25 i0 (.agg #[.int .i64 (0), .int .i64 (0)]) 2 16 Tryz.underlying23 hi hz0 hz1 hz2 rfl (by decide) (.slice (some ⟨W.heap.size, 0, none⟩) 0 0) _ _ rfl HO2.out _ _ _ _ rfl (piece_len HT1.out) (piece_cells (HCl.out _ HB2.out) HT1.out) (piece_one _) (by unfold maxLen; simp; omega) (by simp; omega) HB2.out.size ?_; intro v2 w2 hown2 hgrow2 _ _; have HBA := Lib.hid (HB2.out.grown hgrow2 HB2.out.size (fun q hq => (World.ownsRow.lt HO2.out q hq).1)); have HO := Lib.hid (Vecs.join (l := []) hown2 (by have := HL.out; simp <;> omega)); have rr : w2.heap[W.heap.size + 1]? = ((W.drew.alloc (.cells #[] 25)).alloc (.cells #[.int .i64 (x1 + x2), .int .i64 (y1 + y2)] 25)).heap[W.heap.size + 1]? := hgrow2.block _ (by simp <;> omega) (by simp [Value.ownBlock]); have RR0 : Hid (w2.cell? ⟨W.heap.size + 1, 0, none⟩ = some (.int .i64 (x1 + x2))) := (cell_same rr 0).trans KE0.out; have RR1 : Hid (w2.cell? ⟨W.heap.size + 1, 1, none⟩ = some (.int .i64 (y1 + y2))) := (cell_same rr 1).trans KE1.out; clear rr; clear hown2 hgrow2))
              refine hK _ _ ?_
              clear hK K
              refine wpAny_ready (rs := [8]) (by kernel_rfl) (by simp) (AllReady.cons rfl (fun K hK => ?_) (AllReady.nil))
              (refine step_list (by rintro ⟨_, _, h⟩; obtain ⟨_, hv, _⟩ := h; cases hv) (by kernel_rfl) ?_; first | (refine wpList_append_own_at _ rfl _ _ 23 rfl W.heap.size 25 i0 (.agg #[.int .i64 (0), .int .i64 (0)]) 2 16 Tryz.underlying23 hi hz0 hz1 hz2 rfl (by decide) _ _ _ rfl HO.out _ 1 1 [.int .i64 (x1 + x2), .int .i64 (y1 + y2)] rfl rfl (two_cells RR0.out RR1.out) (two_one _ _) (by unfold maxLen; simp; omega) (by simp; omega) HBA.out.size ?_; intro v3 w3 hown3 hgrow3 _ _; have HBC := Lib.hid (HBA.out.grown hgrow3 HBA.out.size (fun q hq => (World.ownsRow.lt HO.out q hq).1)); have HOC := Lib.hid (Vecs.snoc (l := [] ++ (l.drop 0).take (k + 1)) rfl hown3); clear hown3 hgrow3) | (refine wpList_append_own_at _ rfl _ _ 23 rfl W.heap.size 25 i0 (.agg #[.int .i64 (0), .int .i64 (0)]) 2 16 Tryz.underlying23 hi hz0 hz1 hz2 rfl (by decide) _ _ _ rfl (HO.out.below (by go_grown)) _ 1 1 [.int .i64 (x1 + x2), .int .i64 (y1 + y2)] rfl rfl (two_cells (by simp) (by simp)) (two_one _ _) (by unfold maxLen; simp; omega) (by simp; omega) (HBA.out.alloc HBA.out.size _).size ?_; intro v3 w3 hown3 hgrow3 _ _; have HBC := Lib.hid ((HBA.out.alloc HBA.out.size _).grown hgrow3 (HBA.out.alloc HBA.out.size _).size (fun q hq => (World.ownsRow.lt HO.out q hq).1)); have HOC := Lib.hid (Vecs.snoc (l := [] ++ (l.drop 0).take (k + 1)) rfl hown3); clear hown3 hgrow3))
              refine hK _ _ ?_
              clear hK K
              refine wpAny_ready (rs := [13]) (by kernel_rfl) (by simp) (AllReady.cons rfl (fun K hK => ?_) (AllReady.nil))
              (refine step_list (by rintro ⟨_, _, h⟩; obtain ⟨_, hv, _⟩ := h; cases hv) (by kernel_rfl) ?_; refine wpList_append_own_at _ rfl _ _ 23 rfl W.heap.size 25 i0 (.agg #[.int .i64 (0), .int .i64 (0)]) 2 16 Tryz.underlying23 hi hz0 hz1 hz2 rfl (by decide) _ _ _ rfl HOC.out _ 0 _ [] rfl rfl (fun j u hj => by simp at hj) (fun u hu => by simp at hu) (by unfold maxLen; simp; omega) (by simp; omega) HBC.out.size ?_; intro v4 w4 hown4 hgrow4 _ _; have HBD := Lib.hid (HBC.out.grown hgrow4 HBC.out.size (fun q hq => (World.ownsRow.lt HOC.out q hq).1)); have HOD := Lib.hid (Vecs.join (m := []) hown4 (by have := HL.out; simp <;> omega)); clear hown4 hgrow4)
              refine hK _ _ ?_
              clear hK K
              refine wpAny_seq 14 rfl (by kernel_rfl) ?_
              simp only [List.drop_succ_cons, List.drop_zero]
          rotate_left 2
          focus
            go_simp
            refine hK _ _ ?_
            clear hK K
            refine wpAny_ready (rs := [0]) (by kernel_rfl) (by simp) (AllReady.cons rfl (fun K hK => ?_) (AllReady.nil))
            go_simp
            refine hK _ _ ?_
            clear hK K
            refine wpAny_ready (rs := [5]) (by kernel_rfl) (by simp) (AllReady.cons rfl (fun K hK => ?_) (AllReady.nil))
            (refine step_list (by rintro ⟨_, _, h⟩; obtain ⟨_, hv, _⟩ := h; cases hv) (by kernel_rfl) ?_; first | (refine wpList_append_own_at _ rfl _ _ 23 rfl W.heap.size 25 i0 (.agg #[.int .i64 (0), .int .i64 (0)]) 2 16 Tryz.underlying23 hi hz0 hz1 hz2 rfl (by decide) (.slice (some ⟨W.heap.size, 0, none⟩) 0 0) _ _ rfl HO1.out _ _ _ _ rfl (piece_len HT1.out) (piece_cells (HCl.out _ HB1.out) HT1.out) (piece_one _) (by unfold maxLen; simp; omega) (by simp; omega) HB1.out.size ?_; intro v2 w2 hown2 hgrow2 _ _; have HBA := Lib.hid (HB1.out.grown hgrow2 HB1.out.size (fun q hq => (World.ownsRow.lt HO1.out q hq).1)); have HO := Lib.hid (Vecs.join (l := []) hown2 (by have := HL.out; simp <;> omega)); have b0 := (HBA.out.cell (p := ⟨rb, 0, none⟩) hrb).trans c0; have b1 := (HBA.out.cell (p := ⟨rb, 1, none⟩) hrb).trans c1; have bl := Nat.lt_of_lt_of_le hrb HBA.out.size; clear hown2 hgrow2) | (refine wpList_append_own_at _ rfl _ _ 23 rfl W.heap.size 25 i0 (.agg #[.int .i64 (0), .int .i64 (0)]) 2 16 Tryz.underlying23 hi hz0 hz1 hz2 rfl (by decide) (.slice (some ⟨W.heap.size + 1, 0, none⟩) 0 0) _ _ rfl HO3.out _ _ _ _ rfl (piece_len HT1.out) (piece_cells (HCl.out _ HB3.out) HT1.out) (piece_one _) (by unfold maxLen; simp; omega) (by simp; omega) HB3.out.size ?_; intro v2 w2 hown2 hgrow2 _ _; have HBA := Lib.hid (HB3.out.grown hgrow2 HB3.out.size (fun q hq => (World.ownsRow.lt HO3.out q hq).1)); have HO := Lib.hid (Vecs.join (l := []) hown2 (by have := HL.out; simp <;> omega)); have rr : w2.heap[W.heap.size]? = ((W.drew.alloc (.cells #[.int .i64 (x1 + x2), .int .i64 (y1 + y2)] 25)).alloc (.cells #[] 25)).heap[W.heap.size]? := hgrow2.block _ (by simp <;> omega) (by simp [Value.ownBlock]); have RR0 : Hid (w2.cell? ⟨W.heap.size, 0, none⟩ = some (.int .i64 (x1 + x2))) := (cell_same rr 0).trans KR0.out; have RR1 : Hid (w2.cell? ⟨W.heap.size, 1, none⟩ = some (.int .i64 (y1 + y2))) := (cell_same rr 1).trans KR1.out; clear rr; clear hown2 hgrow2) | (refine wpList_append_own_at _ rfl _ _ 23 rfl W.heap.size 25 i0 (.agg #[.int .i64 (0), .int .i64 (0)]) 2 16 Tryz.underlying23 hi hz0 hz1 hz2 rfl (by decide) (.slice (some ⟨W.heap.size, 0, none⟩) 0 0) _ _ rfl HO2.out _ _ _ _ rfl (piece_len HT1.out) (piece_cells (HCl.out _ HB2.out) HT1.out) (piece_one _) (by unfold maxLen; simp; omega) (by simp; omega) HB2.out.size ?_; intro v2 w2 hown2 hgrow2 _ _; have HBA := Lib.hid (HB2.out.grown hgrow2 HB2.out.size (fun q hq => (World.ownsRow.lt HO2.out q hq).1)); have HO := Lib.hid (Vecs.join (l := []) hown2 (by have := HL.out; simp <;> omega)); have rr : w2.heap[W.heap.size + 1]? = ((W.drew.alloc (.cells #[] 25)).alloc (.cells #[.int .i64 (x1 + x2), .int .i64 (y1 + y2)] 25)).heap[W.heap.size + 1]? := hgrow2.block _ (by simp <;> omega) (by simp [Value.ownBlock]); have RR0 : Hid (w2.cell? ⟨W.heap.size + 1, 0, none⟩ = some (.int .i64 (x1 + x2))) := (cell_same rr 0).trans KE0.out; have RR1 : Hid (w2.cell? ⟨W.heap.size + 1, 1, none⟩ = some (.int .i64 (y1 + y2))) := (cell_same rr 1).trans KE1.out; clear rr; clear hown2 hgrow2))
            refine hK _ _ ?_
            clear hK K
            refine wpAny_ready (rs := [8]) (by kernel_rfl) (by simp) (AllReady.cons rfl (fun K hK => ?_) (AllReady.nil))
            (refine step_list (by rintro ⟨_, _, h⟩; obtain ⟨_, hv, _⟩ := h; cases hv) (by kernel_rfl) ?_; first | (refine wpList_append_own_at _ rfl _ _ 23 rfl W.heap.size 25 i0 (.agg #[.int .i64 (0), .int .i64 (0)]) 2 16 Tryz.underlying23 hi hz0 hz1 hz2 rfl (by decide) _ _ _ rfl HO.out _ 1 1 [.int .i64 (x1 + x2), .int .i64 (y1 + y2)] rfl rfl (two_cells RR0.out RR1.out) (two_one _ _) (by unfold maxLen; simp; omega) (by simp; omega) HBA.out.size ?_; intro v3 w3 hown3 hgrow3 _ _; have HBC := Lib.hid (HBA.out.grown hgrow3 HBA.out.size (fun q hq => (World.ownsRow.lt HO.out q hq).1)); have HOC := Lib.hid (Vecs.snoc (l := [] ++ (l.drop 0).take (k + 1)) rfl hown3); clear hown3 hgrow3) | (refine wpList_append_own_at _ rfl _ _ 23 rfl W.heap.size 25 i0 (.agg #[.int .i64 (0), .int .i64 (0)]) 2 16 Tryz.underlying23 hi hz0 hz1 hz2 rfl (by decide) _ _ _ rfl (HO.out.below (by go_grown)) _ 1 1 [.int .i64 (x1 + x2), .int .i64 (y1 + y2)] rfl rfl (two_cells (by simp) (by simp)) (two_one _ _) (by unfold maxLen; simp; omega) (by simp; omega) (HBA.out.alloc HBA.out.size _).size ?_; intro v3 w3 hown3 hgrow3 _ _; have HBC := Lib.hid ((HBA.out.alloc HBA.out.size _).grown hgrow3 (HBA.out.alloc HBA.out.size _).size (fun q hq => (World.ownsRow.lt HO.out q hq).1)); have HOC := Lib.hid (Vecs.snoc (l := [] ++ (l.drop 0).take (k + 1)) rfl hown3); clear hown3 hgrow3))
            refine hK _ _ ?_
            clear hK K
            refine wpAny_ready (rs := [13]) (by kernel_rfl) (by simp) (AllReady.cons rfl (fun K hK => ?_) (AllReady.nil))
            (refine step_list (by rintro ⟨_, _, h⟩; obtain ⟨_, hv, _⟩ := h; cases hv) (by kernel_rfl) ?_; refine wpList_append_own_at _ rfl _ _ 23 rfl W.heap.size 25 i0 (.agg #[.int .i64 (0), .int .i64 (0)]) 2 16 Tryz.underlying23 hi hz0 hz1 hz2 rfl (by decide) _ _ _ rfl HOC.out _ 0 _ [] rfl rfl (fun j u hj => by simp at hj) (fun u hu => by simp at hu) (by unfold maxLen; simp; omega) (by simp; omega) HBC.out.size ?_; intro v4 w4 hown4 hgrow4 _ _; have HBD := Lib.hid (HBC.out.grown hgrow4 HBC.out.size (fun q hq => (World.ownsRow.lt HOC.out q hq).1)); have HOD := Lib.hid (Vecs.join (m := []) hown4 (by have := HL.out; simp <;> omega)); clear hown4 hgrow4)
            refine hK _ _ ?_
            clear hK K
            refine wpAny_seq 14 rfl (by kernel_rfl) ?_
            simp only [List.drop_succ_cons, List.drop_zero]
        all_goals go_wp2_with fail
        all_goals
          rw [HR.out] at HOD
          refine Calls.mono (HSI.out _ _ _ (HOD.out.reads (by rw [blowL_len HK0.out]; omega))) ?_
          rintro e w5 ⟨rfl, hb5⟩
          have hB5 := belowTo HBW.out (HBD.out.trans (hb5.mono HBD.out.size))
          have HO5 := Lib.hid ((HOD.out.below hb5).lower (base' := w.heap.size) HBW.out.size)
          have hs5 := hB5.size
          have HE5 := Lib.hid ((hE.out w5).lower hs5)
          clear hb5
          cases hK : fanB (blowL l k (x1 + x2, y1 + y2))
          · have HK := Lib.hid hK
            clear hK
            go_wp2
            go_returns
            first
              | exact ⟨_, rfl, HE5.out, by go_grown⟩
              | (rw [HK.out]; exact ⟨_, rfl, HE5.out, by go_grown⟩)
          · have HK := Lib.hid hK
            clear hK
            go_wp2
            go_returns
            first
              | exact ⟨_, rfl, HO5.out, hB5⟩
              | (rw [HK.out]; exact ⟨_, rfl, HO5.out, hB5⟩)
      case neg =>
        have HT2 : Hid (k + 1 + (n - (k + 1)) ≤ l.length) := by have := HL.out; show k + 1 + (n - (k + 1)) ≤ l.length; omega
        have HR : Hid ((([] ++ (l.drop 0).take (k + 1)) ++ [(x1 + x2, y1 + y2)]) ++ (l.drop (k + 1)).take (n - (k + 1)) = blowL l k (x1 + x2, y1 + y2)) := by
          unfold blowL
          rw [List.take_of_length_le (l := l.drop (k + 1)) (by have := HL.out; simp <;> omega)]
          rfl
        have j1 : k + 1 ≤ n := by omega
        have j2 : ¬ (k + 1) * 2 = 0 := by omega
        have j3 : (k : Int) + 1 ≤ (n : Int) := by omega
        go_wp2
        refine wp_region_any (by kernel_rfl) ?_
        try (change wpAny _ _ _ _ _ _ _ (World.drew _))
        refine wpAny_take (i := 1) (v := ?_) rfl (by kernel_rfl) (by kernel_rfl) (by kernel_rfl) (fun _ _ _ h => h) (Or.inl ⟨by rfl, ?_⟩) ?_
        rotate_left
        focus (intro w0; go_simp; try with_reducible rfl)
        refine wpAny_take (i := 2) (v := ?_) rfl (by kernel_rfl) (by kernel_rfl) (by kernel_rfl) (fun _ _ _ h => h) (Or.inl ⟨by rfl, ?_⟩) ?_
        rotate_left
        focus (intro w0; go_simp; try with_reducible rfl)
        refine wpAny_take (i := 3) (v := ?_) rfl (by kernel_rfl) (by kernel_rfl) (by kernel_rfl) (fun _ _ _ h => h) (Or.inl ⟨by rfl, ?_⟩) ?_
        rotate_left
        focus (intro w0; go_simp; try with_reducible rfl)
        refine wpAny_take (i := 4) (v := ?_) rfl (by kernel_rfl) (by kernel_rfl) (by kernel_rfl) (fun _ _ _ h => h) (Or.inl ⟨by rfl, ?_⟩) ?_
        rotate_left
        focus (intro w0; go_simp; try with_reducible rfl)
        refine wpAny_take (i := 9) (v := ?_) rfl (by kernel_rfl) (by kernel_rfl) (by kernel_rfl) (fun _ _ _ h => h) (Or.inl ⟨by rfl, ?_⟩) ?_
        rotate_left
        focus (intro w0; go_simp; try with_reducible rfl)
        refine wpAny_take (i := 10) (v := ?_) rfl (by kernel_rfl) (by kernel_rfl) (by kernel_rfl) (fun _ _ _ h => h) (Or.inl ⟨by rfl, ?_⟩) ?_
        rotate_left
        focus (intro w0; go_simp; try with_reducible rfl)
        refine wpAny_take (i := 11) (v := ?_) rfl (by kernel_rfl) (by kernel_rfl) (by kernel_rfl) (fun _ _ _ h => h) (Or.inl ⟨by rfl, ?_⟩) ?_
        rotate_left
        focus (intro w0; go_simp; try with_reducible rfl)
        refine wpAny_take (i := 12) (v := ?_) rfl (by kernel_rfl) (by kernel_rfl) (by kernel_rfl) (fun _ _ _ h => h) (Or.inl ⟨by rfl, ?_⟩) ?_
        rotate_left
        focus (intro w0; go_simp; try with_reducible rfl)
        refine wpAny_ready (rs := [0, 6]) (by kernel_rfl) (by simp) (AllReady.cons rfl (fun K hK => ?_) (AllReady.cons rfl (fun K hK => ?_) (AllReady.nil)))
        focus
          go_simp
          refine hK _ _ ?_
          clear hK K
          refine wpAny_ready (rs := [5, 6]) (by kernel_rfl) (by simp) (AllReady.cons rfl (fun K hK => ?_) (AllReady.cons rfl (fun K hK => ?_) (AllReady.nil)))
          focus
            (refine step_list (by rintro ⟨_, _, h⟩; obtain ⟨_, hv, _⟩ := h; cases hv) (by kernel_rfl) ?_; first | (refine wpList_append_own_at _ rfl _ _ 23 rfl W.heap.size 25 i0 (.agg #[.int .i64 (0), .int .i64 (0)]) 2 16 Tryz.underlying23 hi hz0 hz1 hz2 rfl (by decide) (.slice (some ⟨W.heap.size, 0, none⟩) 0 0) _ _ rfl HO1.out _ _ _ _ rfl (piece_len HT1.out) (piece_cells (HCl.out _ HB1.out) HT1.out) (piece_one _) (by unfold maxLen; simp; omega) (by simp; omega) HB1.out.size ?_; intro v2 w2 hown2 hgrow2 _ _; have HBA := Lib.hid (HB1.out.grown hgrow2 HB1.out.size (fun q hq => (World.ownsRow.lt HO1.out q hq).1)); have HO := Lib.hid (Vecs.join (l := []) hown2 (by have := HL.out; simp <;> omega)); have b0 := (HBA.out.cell (p := ⟨rb, 0, none⟩) hrb).trans c0; have b1 := (HBA.out.cell (p := ⟨rb, 1, none⟩) hrb).trans c1; have bl := Nat.lt_of_lt_of_le hrb HBA.out.size; clear hown2 hgrow2) | (refine wpList_append_own_at _ rfl _ _ 23 rfl W.heap.size 25 i0 (.agg #[.int .i64 (0), .int .i64 (0)]) 2 16 Tryz.underlying23 hi hz0 hz1 hz2 rfl (by decide) (.slice (some ⟨W.heap.size + 1, 0, none⟩) 0 0) _ _ rfl HO3.out _ _ _ _ rfl (piece_len HT1.out) (piece_cells (HCl.out _ HB3.out) HT1.out) (piece_one _) (by unfold maxLen; simp; omega) (by simp; omega) HB3.out.size ?_; intro v2 w2 hown2 hgrow2 _ _; have HBA := Lib.hid (HB3.out.grown hgrow2 HB3.out.size (fun q hq => (World.ownsRow.lt HO3.out q hq).1)); have HO := Lib.hid (Vecs.join (l := []) hown2 (by have := HL.out; simp <;> omega)); have rr : w2.heap[W.heap.size]? = ((W.drew.alloc (.cells #[.int .i64 (x1 + x2), .int .i64 (y1 + y2)] 25)).alloc (.cells #[] 25)).heap[W.heap.size]? := hgrow2.block _ (by simp <;> omega) (by simp [Value.ownBlock]); have RR0 : Hid (w2.cell? ⟨W.heap.size, 0, none⟩ = some (.int .i64 (x1 + x2))) := (cell_same rr 0).trans KR0.out; have RR1 : Hid (w2.cell? ⟨W.heap.size, 1, none⟩ = some (.int .i64 (y1 + y2))) := (cell_same rr 1).trans KR1.out; clear rr; clear hown2 hgrow2) | (refine wpList_append_own_at _ rfl _ _ 23 rfl W.heap.size 25 i0 (.agg #[.int .i64 (0), .int .i64 (0)]) 2 16 Tryz.underlying23 hi hz0 hz1 hz2 rfl (by decide) (.slice (some ⟨W.heap.size, 0, none⟩) 0 0) _ _ rfl HO2.out _ _ _ _ rfl (piece_len HT1.out) (piece_cells (HCl.out _ HB2.out) HT1.out) (piece_one _) (by unfold maxLen; simp; omega) (by simp; omega) HB2.out.size ?_; intro v2 w2 hown2 hgrow2 _ _; have HBA := Lib.hid (HB2.out.grown hgrow2 HB2.out.size (fun q hq => (World.ownsRow.lt HO2.out q hq).1)); have HO := Lib.hid (Vecs.join (l := []) hown2 (by have := HL.out; simp <;> omega)); have rr : w2.heap[W.heap.size + 1]? = ((W.drew.alloc (.cells #[] 25)).alloc (.cells #[.int .i64 (x1 + x2), .int .i64 (y1 + y2)] 25)).heap[W.heap.size + 1]? := hgrow2.block _ (by simp <;> omega) (by simp [Value.ownBlock]); have RR0 : Hid (w2.cell? ⟨W.heap.size + 1, 0, none⟩ = some (.int .i64 (x1 + x2))) := (cell_same rr 0).trans KE0.out; have RR1 : Hid (w2.cell? ⟨W.heap.size + 1, 1, none⟩ = some (.int .i64 (y1 + y2))) := (cell_same rr 1).trans KE1.out; clear rr; clear hown2 hgrow2))
            refine hK _ _ ?_
            clear hK K
            refine wpAny_ready (rs := [6]) (by kernel_rfl) (by simp) (AllReady.cons rfl (fun K hK => ?_) (AllReady.nil))
            go_simp
            refine hK _ _ ?_
            clear hK K
            refine wpAny_ready (rs := [7]) (by kernel_rfl) (by simp) (AllReady.cons rfl (fun K hK => ?_) (AllReady.nil))
            go_simp
            refine hK _ _ ?_
            clear hK K
            refine wpAny_ready (rs := [8]) (by kernel_rfl) (by simp) (AllReady.cons rfl (fun K hK => ?_) (AllReady.nil))
            (refine step_list (by rintro ⟨_, _, h⟩; obtain ⟨_, hv, _⟩ := h; cases hv) (by kernel_rfl) ?_; first | (refine wpList_append_own_at _ rfl _ _ 23 rfl W.heap.size 25 i0 (.agg #[.int .i64 (0), .int .i64 (0)]) 2 16 Tryz.underlying23 hi hz0 hz1 hz2 rfl (by decide) _ _ _ rfl HO.out _ 1 1 [.int .i64 (x1 + x2), .int .i64 (y1 + y2)] rfl rfl (two_cells RR0.out RR1.out) (two_one _ _) (by unfold maxLen; simp; omega) (by simp; omega) HBA.out.size ?_; intro v3 w3 hown3 hgrow3 _ _; have HBC := Lib.hid (HBA.out.grown hgrow3 HBA.out.size (fun q hq => (World.ownsRow.lt HO.out q hq).1)); have HOC := Lib.hid (Vecs.snoc (l := [] ++ (l.drop 0).take (k + 1)) rfl hown3); clear hown3 hgrow3) | (refine wpList_append_own_at _ rfl _ _ 23 rfl W.heap.size 25 i0 (.agg #[.int .i64 (0), .int .i64 (0)]) 2 16 Tryz.underlying23 hi hz0 hz1 hz2 rfl (by decide) _ _ _ rfl (HO.out.below (by go_grown)) _ 1 1 [.int .i64 (x1 + x2), .int .i64 (y1 + y2)] rfl rfl (two_cells (by simp) (by simp)) (two_one _ _) (by unfold maxLen; simp; omega) (by simp; omega) (HBA.out.alloc HBA.out.size _).size ?_; intro v3 w3 hown3 hgrow3 _ _; have HBC := Lib.hid ((HBA.out.alloc HBA.out.size _).grown hgrow3 (HBA.out.alloc HBA.out.size _).size (fun q hq => (World.ownsRow.lt HO.out q hq).1)); have HOC := Lib.hid (Vecs.snoc (l := [] ++ (l.drop 0).take (k + 1)) rfl hown3); clear hown3 hgrow3))
            refine hK _ _ ?_
            clear hK K
            refine wpAny_ready (rs := [13]) (by kernel_rfl) (by simp) (AllReady.cons rfl (fun K hK => ?_) (AllReady.nil))
            (refine step_list (by rintro ⟨_, _, h⟩; obtain ⟨_, hv, _⟩ := h; cases hv) (by kernel_rfl) ?_; refine wpList_append_own_at _ rfl _ _ 23 rfl W.heap.size 25 i0 (.agg #[.int .i64 (0), .int .i64 (0)]) 2 16 Tryz.underlying23 hi hz0 hz1 hz2 rfl (by decide) _ _ _ rfl HOC.out _ _ _ _ rfl (piece_len HT2.out) (piece_cells (HCl.out _ HBC.out) HT2.out) (piece_one _) (by unfold maxLen; simp; omega) (by simp; omega) HBC.out.size ?_; intro v4 w4 hown4 hgrow4 _ _; have HBD := Lib.hid (HBC.out.grown hgrow4 HBC.out.size (fun q hq => (World.ownsRow.lt HOC.out q hq).1)); have HOD := Lib.hid (Vecs.join hown4 (by have := HL.out; simp <;> omega)); clear hown4 hgrow4)
            refine hK _ _ ?_
            clear hK K
            refine wpAny_seq 14 rfl (by kernel_rfl) ?_
            simp only [List.drop_succ_cons, List.drop_zero]
          rotate_left 1
          focus
            go_simp
            refine hK _ _ ?_
            clear hK K
            refine wpAny_ready (rs := [5, 7]) (by kernel_rfl) (by simp) (AllReady.cons rfl (fun K hK => ?_) (AllReady.cons rfl (fun K hK => ?_) (AllReady.nil)))
            focus
              (refine step_list (by rintro ⟨_, _, h⟩; obtain ⟨_, hv, _⟩ := h; cases hv) (by kernel_rfl) ?_; first | (refine wpList_append_own_at _ rfl _ _ 23 rfl W.heap.size 25 i0 (.agg #[.int .i64 (0), .int .i64 (0)]) 2 16 Tryz.underlying23 hi hz0 hz1 hz2 rfl (by decide) (.slice (some ⟨W.heap.size, 0, none⟩) 0 0) _ _ rfl HO1.out _ _ _ _ rfl (piece_len HT1.out) (piece_cells (HCl.out _ HB1.out) HT1.out) (piece_one _) (by unfold maxLen; simp; omega) (by simp; omega) HB1.out.size ?_; intro v2 w2 hown2 hgrow2 _ _; have HBA := Lib.hid (HB1.out.grown hgrow2 HB1.out.size (fun q hq => (World.ownsRow.lt HO1.out q hq).1)); have HO := Lib.hid (Vecs.join (l := []) hown2 (by have := HL.out; simp <;> omega)); have b0 := (HBA.out.cell (p := ⟨rb, 0, none⟩) hrb).trans c0; have b1 := (HBA.out.cell (p := ⟨rb, 1, none⟩) hrb).trans c1; have bl := Nat.lt_of_lt_of_le hrb HBA.out.size; clear hown2 hgrow2) | (refine wpList_append_own_at _ rfl _ _ 23 rfl W.heap.size 25 i0 (.agg #[.int .i64 (0), .int .i64 (0)]) 2 16 Tryz.underlying23 hi hz0 hz1 hz2 rfl (by decide) (.slice (some ⟨W.heap.size + 1, 0, none⟩) 0 0) _ _ rfl HO3.out _ _ _ _ rfl (piece_len HT1.out) (piece_cells (HCl.out _ HB3.out) HT1.out) (piece_one _) (by unfold maxLen; simp; omega) (by simp; omega) HB3.out.size ?_; intro v2 w2 hown2 hgrow2 _ _; have HBA := Lib.hid (HB3.out.grown hgrow2 HB3.out.size (fun q hq => (World.ownsRow.lt HO3.out q hq).1)); have HO := Lib.hid (Vecs.join (l := []) hown2 (by have := HL.out; simp <;> omega)); have rr : w2.heap[W.heap.size]? = ((W.drew.alloc (.cells #[.int .i64 (x1 + x2), .int .i64 (y1 + y2)] 25)).alloc (.cells #[] 25)).heap[W.heap.size]? := hgrow2.block _ (by simp <;> omega) (by simp [Value.ownBlock]); have RR0 : Hid (w2.cell? ⟨W.heap.size, 0, none⟩ = some (.int .i64 (x1 + x2))) := (cell_same rr 0).trans KR0.out; have RR1 : Hid (w2.cell? ⟨W.heap.size, 1, none⟩ = some (.int .i64 (y1 + y2))) := (cell_same rr 1).trans KR1.out; clear rr; clear hown2 hgrow2) | (refine wpList_append_own_at _ rfl _ _ 23 rfl W.heap.size 25 i0 (.agg #[.int .i64 (0), .int .i64 (0)]) 2 16 Tryz.underlying23 hi hz0 hz1 hz2 rfl (by decide) (.slice (some ⟨W.heap.size, 0, none⟩) 0 0) _ _ rfl HO2.out _ _ _ _ rfl (piece_len HT1.out) (piece_cells (HCl.out _ HB2.out) HT1.out) (piece_one _) (by unfold maxLen; simp; omega) (by simp; omega) HB2.out.size ?_; intro v2 w2 hown2 hgrow2 _ _; have HBA := Lib.hid (HB2.out.grown hgrow2 HB2.out.size (fun q hq => (World.ownsRow.lt HO2.out q hq).1)); have HO := Lib.hid (Vecs.join (l := []) hown2 (by have := HL.out; simp <;> omega)); have rr : w2.heap[W.heap.size + 1]? = ((W.drew.alloc (.cells #[] 25)).alloc (.cells #[.int .i64 (x1 + x2), .int .i64 (y1 + y2)] 25)).heap[W.heap.size + 1]? := hgrow2.block _ (by simp <;> omega) (by simp [Value.ownBlock]); have RR0 : Hid (w2.cell? ⟨W.heap.size + 1, 0, none⟩ = some (.int .i64 (x1 + x2))) := (cell_same rr 0).trans KE0.out; have RR1 : Hid (w2.cell? ⟨W.heap.size + 1, 1, none⟩ = some (.int .i64 (y1 + y2))) := (cell_same rr 1).trans KE1.out; clear rr; clear hown2 hgrow2))
              refine hK _ _ ?_
              clear hK K
              refine wpAny_ready (rs := [7]) (by kernel_rfl) (by simp) (AllReady.cons rfl (fun K hK => ?_) (AllReady.nil))
              go_simp
              refine hK _ _ ?_
              clear hK K
              refine wpAny_ready (rs := [8]) (by kernel_rfl) (by simp) (AllReady.cons rfl (fun K hK => ?_) (AllReady.nil))
              (refine step_list (by rintro ⟨_, _, h⟩; obtain ⟨_, hv, _⟩ := h; cases hv) (by kernel_rfl) ?_; first | (refine wpList_append_own_at _ rfl _ _ 23 rfl W.heap.size 25 i0 (.agg #[.int .i64 (0), .int .i64 (0)]) 2 16 Tryz.underlying23 hi hz0 hz1 hz2 rfl (by decide) _ _ _ rfl HO.out _ 1 1 [.int .i64 (x1 + x2), .int .i64 (y1 + y2)] rfl rfl (two_cells RR0.out RR1.out) (two_one _ _) (by unfold maxLen; simp; omega) (by simp; omega) HBA.out.size ?_; intro v3 w3 hown3 hgrow3 _ _; have HBC := Lib.hid (HBA.out.grown hgrow3 HBA.out.size (fun q hq => (World.ownsRow.lt HO.out q hq).1)); have HOC := Lib.hid (Vecs.snoc (l := [] ++ (l.drop 0).take (k + 1)) rfl hown3); clear hown3 hgrow3) | (refine wpList_append_own_at _ rfl _ _ 23 rfl W.heap.size 25 i0 (.agg #[.int .i64 (0), .int .i64 (0)]) 2 16 Tryz.underlying23 hi hz0 hz1 hz2 rfl (by decide) _ _ _ rfl (HO.out.below (by go_grown)) _ 1 1 [.int .i64 (x1 + x2), .int .i64 (y1 + y2)] rfl rfl (two_cells (by simp) (by simp)) (two_one _ _) (by unfold maxLen; simp; omega) (by simp; omega) (HBA.out.alloc HBA.out.size _).size ?_; intro v3 w3 hown3 hgrow3 _ _; have HBC := Lib.hid ((HBA.out.alloc HBA.out.size _).grown hgrow3 (HBA.out.alloc HBA.out.size _).size (fun q hq => (World.ownsRow.lt HO.out q hq).1)); have HOC := Lib.hid (Vecs.snoc (l := [] ++ (l.drop 0).take (k + 1)) rfl hown3); clear hown3 hgrow3))
              refine hK _ _ ?_
              clear hK K
              refine wpAny_ready (rs := [13]) (by kernel_rfl) (by simp) (AllReady.cons rfl (fun K hK => ?_) (AllReady.nil))
              (refine step_list (by rintro ⟨_, _, h⟩; obtain ⟨_, hv, _⟩ := h; cases hv) (by kernel_rfl) ?_; refine wpList_append_own_at _ rfl _ _ 23 rfl W.heap.size 25 i0 (.agg #[.int .i64 (0), .int .i64 (0)]) 2 16 Tryz.underlying23 hi hz0 hz1 hz2 rfl (by decide) _ _ _ rfl HOC.out _ _ _ _ rfl (piece_len HT2.out) (piece_cells (HCl.out _ HBC.out) HT2.out) (piece_one _) (by unfold maxLen; simp; omega) (by simp; omega) HBC.out.size ?_; intro v4 w4 hown4 hgrow4 _ _; have HBD := Lib.hid (HBC.out.grown hgrow4 HBC.out.size (fun q hq => (World.ownsRow.lt HOC.out q hq).1)); have HOD := Lib.hid (Vecs.join hown4 (by have := HL.out; simp <;> omega)); clear hown4 hgrow4)
              refine hK _ _ ?_
              clear hK K
              refine wpAny_seq 14 rfl (by kernel_rfl) ?_
              simp only [List.drop_succ_cons, List.drop_zero]
            rotate_left 1
            focus
              go_simp
              refine hK _ _ ?_
              clear hK K
              refine wpAny_ready (rs := [5]) (by kernel_rfl) (by simp) (AllReady.cons rfl (fun K hK => ?_) (AllReady.nil))
              (refine step_list (by rintro ⟨_, _, h⟩; obtain ⟨_, hv, _⟩ := h; cases hv) (by kernel_rfl) ?_; first | (refine wpList_append_own_at _ rfl _ _ 23 rfl W.heap.size 25 i0 (.agg #[.int .i64 (0), .int .i64 (0)]) 2 16 Tryz.underlying23 hi hz0 hz1 hz2 rfl (by decide) (.slice (some ⟨W.heap.size, 0, none⟩) 0 0) _ _ rfl HO1.out _ _ _ _ rfl (piece_len HT1.out) (piece_cells (HCl.out _ HB1.out) HT1.out) (piece_one _) (by unfold maxLen; simp; omega) (by simp; omega) HB1.out.size ?_; intro v2 w2 hown2 hgrow2 _ _; have HBA := Lib.hid (HB1.out.grown hgrow2 HB1.out.size (fun q hq => (World.ownsRow.lt HO1.out q hq).1)); have HO := Lib.hid (Vecs.join (l := []) hown2 (by have := HL.out; simp <;> omega)); have b0 := (HBA.out.cell (p := ⟨rb, 0, none⟩) hrb).trans c0; have b1 := (HBA.out.cell (p := ⟨rb, 1, none⟩) hrb).trans c1; have bl := Nat.lt_of_lt_of_le hrb HBA.out.size; clear hown2 hgrow2) | (refine wpList_append_own_at _ rfl _ _ 23 rfl W.heap.size 25 i0 (.agg #[.int .i64 (0), .int .i64 (0)]) 2 16 Tryz.underlying23 hi hz0 hz1 hz2 rfl (by decide) (.slice (some ⟨W.heap.size + 1, 0, none⟩) 0 0) _ _ rfl HO3.out _ _ _ _ rfl (piece_len HT1.out) (piece_cells (HCl.out _ HB3.out) HT1.out) (piece_one _) (by unfold maxLen; simp; omega) (by simp; omega) HB3.out.size ?_; intro v2 w2 hown2 hgrow2 _ _; have HBA := Lib.hid (HB3.out.grown hgrow2 HB3.out.size (fun q hq => (World.ownsRow.lt HO3.out q hq).1)); have HO := Lib.hid (Vecs.join (l := []) hown2 (by have := HL.out; simp <;> omega)); have rr : w2.heap[W.heap.size]? = ((W.drew.alloc (.cells #[.int .i64 (x1 + x2), .int .i64 (y1 + y2)] 25)).alloc (.cells #[] 25)).heap[W.heap.size]? := hgrow2.block _ (by simp <;> omega) (by simp [Value.ownBlock]); have RR0 : Hid (w2.cell? ⟨W.heap.size, 0, none⟩ = some (.int .i64 (x1 + x2))) := (cell_same rr 0).trans KR0.out; have RR1 : Hid (w2.cell? ⟨W.heap.size, 1, none⟩ = some (.int .i64 (y1 + y2))) := (cell_same rr 1).trans KR1.out; clear rr; clear hown2 hgrow2) | (refine wpList_append_own_at _ rfl _ _ 23 rfl W.heap.size 25 i0 (.agg #[.int .i64 (0), .int .i64 (0)]) 2 16 Tryz.underlying23 hi hz0 hz1 hz2 rfl (by decide) (.slice (some ⟨W.heap.size, 0, none⟩) 0 0) _ _ rfl HO2.out _ _ _ _ rfl (piece_len HT1.out) (piece_cells (HCl.out _ HB2.out) HT1.out) (piece_one _) (by unfold maxLen; simp; omega) (by simp; omega) HB2.out.size ?_; intro v2 w2 hown2 hgrow2 _ _; have HBA := Lib.hid (HB2.out.grown hgrow2 HB2.out.size (fun q hq => (World.ownsRow.lt HO2.out q hq).1)); have HO := Lib.hid (Vecs.join (l := []) hown2 (by have := HL.out; simp <;> omega)); have rr : w2.heap[W.heap.size + 1]? = ((W.drew.alloc (.cells #[] 25)).alloc (.cells #[.int .i64 (x1 + x2), .int .i64 (y1 + y2)] 25)).heap[W.heap.size + 1]? := hgrow2.block _ (by simp <;> omega) (by simp [Value.ownBlock]); have RR0 : Hid (w2.cell? ⟨W.heap.size + 1, 0, none⟩ = some (.int .i64 (x1 + x2))) := (cell_same rr 0).trans KE0.out; have RR1 : Hid (w2.cell? ⟨W.heap.size + 1, 1, none⟩ = some (.int .i64 (y1 + y2))) := (cell_same rr 1).trans KE1.out; clear rr; clear hown2 hgrow2))
              refine hK _ _ ?_
              clear hK K
              refine wpAny_ready (rs := [8]) (by kernel_rfl) (by simp) (AllReady.cons rfl (fun K hK => ?_) (AllReady.nil))
              (refine step_list (by rintro ⟨_, _, h⟩; obtain ⟨_, hv, _⟩ := h; cases hv) (by kernel_rfl) ?_; first | (refine wpList_append_own_at _ rfl _ _ 23 rfl W.heap.size 25 i0 (.agg #[.int .i64 (0), .int .i64 (0)]) 2 16 Tryz.underlying23 hi hz0 hz1 hz2 rfl (by decide) _ _ _ rfl HO.out _ 1 1 [.int .i64 (x1 + x2), .int .i64 (y1 + y2)] rfl rfl (two_cells RR0.out RR1.out) (two_one _ _) (by unfold maxLen; simp; omega) (by simp; omega) HBA.out.size ?_; intro v3 w3 hown3 hgrow3 _ _; have HBC := Lib.hid (HBA.out.grown hgrow3 HBA.out.size (fun q hq => (World.ownsRow.lt HO.out q hq).1)); have HOC := Lib.hid (Vecs.snoc (l := [] ++ (l.drop 0).take (k + 1)) rfl hown3); clear hown3 hgrow3) | (refine wpList_append_own_at _ rfl _ _ 23 rfl W.heap.size 25 i0 (.agg #[.int .i64 (0), .int .i64 (0)]) 2 16 Tryz.underlying23 hi hz0 hz1 hz2 rfl (by decide) _ _ _ rfl (HO.out.below (by go_grown)) _ 1 1 [.int .i64 (x1 + x2), .int .i64 (y1 + y2)] rfl rfl (two_cells (by simp) (by simp)) (two_one _ _) (by unfold maxLen; simp; omega) (by simp; omega) (HBA.out.alloc HBA.out.size _).size ?_; intro v3 w3 hown3 hgrow3 _ _; have HBC := Lib.hid ((HBA.out.alloc HBA.out.size _).grown hgrow3 (HBA.out.alloc HBA.out.size _).size (fun q hq => (World.ownsRow.lt HO.out q hq).1)); have HOC := Lib.hid (Vecs.snoc (l := [] ++ (l.drop 0).take (k + 1)) rfl hown3); clear hown3 hgrow3))
              refine hK _ _ ?_
              clear hK K
              refine wpAny_ready (rs := [13]) (by kernel_rfl) (by simp) (AllReady.cons rfl (fun K hK => ?_) (AllReady.nil))
              (refine step_list (by rintro ⟨_, _, h⟩; obtain ⟨_, hv, _⟩ := h; cases hv) (by kernel_rfl) ?_; refine wpList_append_own_at _ rfl _ _ 23 rfl W.heap.size 25 i0 (.agg #[.int .i64 (0), .int .i64 (0)]) 2 16 Tryz.underlying23 hi hz0 hz1 hz2 rfl (by decide) _ _ _ rfl HOC.out _ _ _ _ rfl (piece_len HT2.out) (piece_cells (HCl.out _ HBC.out) HT2.out) (piece_one _) (by unfold maxLen; simp; omega) (by simp; omega) HBC.out.size ?_; intro v4 w4 hown4 hgrow4 _ _; have HBD := Lib.hid (HBC.out.grown hgrow4 HBC.out.size (fun q hq => (World.ownsRow.lt HOC.out q hq).1)); have HOD := Lib.hid (Vecs.join hown4 (by have := HL.out; simp <;> omega)); clear hown4 hgrow4)
              refine hK _ _ ?_
              clear hK K
              refine wpAny_seq 14 rfl (by kernel_rfl) ?_
              simp only [List.drop_succ_cons, List.drop_zero]
        rotate_left 3
        focus
          go_simp
          refine hK _ _ ?_
          clear hK K
          refine wpAny_ready (rs := [0, 7]) (by kernel_rfl) (by simp) (AllReady.cons rfl (fun K hK => ?_) (AllReady.cons rfl (fun K hK => ?_) (AllReady.nil)))
          focus
            go_simp
            refine hK _ _ ?_
            clear hK K
            refine wpAny_ready (rs := [5, 7]) (by kernel_rfl) (by simp) (AllReady.cons rfl (fun K hK => ?_) (AllReady.cons rfl (fun K hK => ?_) (AllReady.nil)))
            focus
              (refine step_list (by rintro ⟨_, _, h⟩; obtain ⟨_, hv, _⟩ := h; cases hv) (by kernel_rfl) ?_; first | (refine wpList_append_own_at _ rfl _ _ 23 rfl W.heap.size 25 i0 (.agg #[.int .i64 (0), .int .i64 (0)]) 2 16 Tryz.underlying23 hi hz0 hz1 hz2 rfl (by decide) (.slice (some ⟨W.heap.size, 0, none⟩) 0 0) _ _ rfl HO1.out _ _ _ _ rfl (piece_len HT1.out) (piece_cells (HCl.out _ HB1.out) HT1.out) (piece_one _) (by unfold maxLen; simp; omega) (by simp; omega) HB1.out.size ?_; intro v2 w2 hown2 hgrow2 _ _; have HBA := Lib.hid (HB1.out.grown hgrow2 HB1.out.size (fun q hq => (World.ownsRow.lt HO1.out q hq).1)); have HO := Lib.hid (Vecs.join (l := []) hown2 (by have := HL.out; simp <;> omega)); have b0 := (HBA.out.cell (p := ⟨rb, 0, none⟩) hrb).trans c0; have b1 := (HBA.out.cell (p := ⟨rb, 1, none⟩) hrb).trans c1; have bl := Nat.lt_of_lt_of_le hrb HBA.out.size; clear hown2 hgrow2) | (refine wpList_append_own_at _ rfl _ _ 23 rfl W.heap.size 25 i0 (.agg #[.int .i64 (0), .int .i64 (0)]) 2 16 Tryz.underlying23 hi hz0 hz1 hz2 rfl (by decide) (.slice (some ⟨W.heap.size + 1, 0, none⟩) 0 0) _ _ rfl HO3.out _ _ _ _ rfl (piece_len HT1.out) (piece_cells (HCl.out _ HB3.out) HT1.out) (piece_one _) (by unfold maxLen; simp; omega) (by simp; omega) HB3.out.size ?_; intro v2 w2 hown2 hgrow2 _ _; have HBA := Lib.hid (HB3.out.grown hgrow2 HB3.out.size (fun q hq => (World.ownsRow.lt HO3.out q hq).1)); have HO := Lib.hid (Vecs.join (l := []) hown2 (by have := HL.out; simp <;> omega)); have rr : w2.heap[W.heap.size]? = ((W.drew.alloc (.cells #[.int .i64 (x1 + x2), .int .i64 (y1 + y2)] 25)).alloc (.cells #[] 25)).heap[W.heap.size]? := hgrow2.block _ (by simp <;> omega) (by simp [Value.ownBlock]); have RR0 : Hid (w2.cell? ⟨W.heap.size, 0, none⟩ = some (.int .i64 (x1 + x2))) := (cell_same rr 0).trans KR0.out; have RR1 : Hid (w2.cell? ⟨W.heap.size, 1, none⟩ = some (.int .i64 (y1 + y2))) := (cell_same rr 1).trans KR1.out; clear rr; clear hown2 hgrow2) | (refine wpList_append_own_at _ rfl _ _ 23 rfl W.heap.size 25 i0 (.agg #[.int .i64 (0), .int .i64 (0)]) 2 16 Tryz.underlying23 hi hz0 hz1 hz2 rfl (by decide) (.slice (some ⟨W.heap.size, 0, none⟩) 0 0) _ _ rfl HO2.out _ _ _ _ rfl (piece_len HT1.out) (piece_cells (HCl.out _ HB2.out) HT1.out) (piece_one _) (by unfold maxLen; simp; omega) (by simp; omega) HB2.out.size ?_; intro v2 w2 hown2 hgrow2 _ _; have HBA := Lib.hid (HB2.out.grown hgrow2 HB2.out.size (fun q hq => (World.ownsRow.lt HO2.out q hq).1)); have HO := Lib.hid (Vecs.join (l := []) hown2 (by have := HL.out; simp <;> omega)); have rr : w2.heap[W.heap.size + 1]? = ((W.drew.alloc (.cells #[] 25)).alloc (.cells #[.int .i64 (x1 + x2), .int .i64 (y1 + y2)] 25)).heap[W.heap.size + 1]? := hgrow2.block _ (by simp <;> omega) (by simp [Value.ownBlock]); have RR0 : Hid (w2.cell? ⟨W.heap.size + 1, 0, none⟩ = some (.int .i64 (x1 + x2))) := (cell_same rr 0).trans KE0.out; have RR1 : Hid (w2.cell? ⟨W.heap.size + 1, 1, none⟩ = some (.int .i64 (y1 + y2))) := (cell_same rr 1).trans KE1.out; clear rr; clear hown2 hgrow2))
              refine hK _ _ ?_
              clear hK K
              refine wpAny_ready (rs := [7]) (by kernel_rfl) (by simp) (AllReady.cons rfl (fun K hK => ?_) (AllReady.nil))
              go_simp
              refine hK _ _ ?_
              clear hK K
              refine wpAny_ready (rs := [8]) (by kernel_rfl) (by simp) (AllReady.cons rfl (fun K hK => ?_) (AllReady.nil))
              (refine step_list (by rintro ⟨_, _, h⟩; obtain ⟨_, hv, _⟩ := h; cases hv) (by kernel_rfl) ?_; first | (refine wpList_append_own_at _ rfl _ _ 23 rfl W.heap.size 25 i0 (.agg #[.int .i64 (0), .int .i64 (0)]) 2 16 Tryz.underlying23 hi hz0 hz1 hz2 rfl (by decide) _ _ _ rfl HO.out _ 1 1 [.int .i64 (x1 + x2), .int .i64 (y1 + y2)] rfl rfl (two_cells RR0.out RR1.out) (two_one _ _) (by unfold maxLen; simp; omega) (by simp; omega) HBA.out.size ?_; intro v3 w3 hown3 hgrow3 _ _; have HBC := Lib.hid (HBA.out.grown hgrow3 HBA.out.size (fun q hq => (World.ownsRow.lt HO.out q hq).1)); have HOC := Lib.hid (Vecs.snoc (l := [] ++ (l.drop 0).take (k + 1)) rfl hown3); clear hown3 hgrow3) | (refine wpList_append_own_at _ rfl _ _ 23 rfl W.heap.size 25 i0 (.agg #[.int .i64 (0), .int .i64 (0)]) 2 16 Tryz.underlying23 hi hz0 hz1 hz2 rfl (by decide) _ _ _ rfl (HO.out.below (by go_grown)) _ 1 1 [.int .i64 (x1 + x2), .int .i64 (y1 + y2)] rfl rfl (two_cells (by simp) (by simp)) (two_one _ _) (by unfold maxLen; simp; omega) (by simp; omega) (HBA.out.alloc HBA.out.size _).size ?_; intro v3 w3 hown3 hgrow3 _ _; have HBC := Lib.hid ((HBA.out.alloc HBA.out.size _).grown hgrow3 (HBA.out.alloc HBA.out.size _).size (fun q hq => (World.ownsRow.lt HO.out q hq).1)); have HOC := Lib.hid (Vecs.snoc (l := [] ++ (l.drop 0).take (k + 1)) rfl hown3); clear hown3 hgrow3))
              refine hK _ _ ?_
              clear hK K
              refine wpAny_ready (rs := [13]) (by kernel_rfl) (by simp) (AllReady.cons rfl (fun K hK => ?_) (AllReady.nil))
              (refine step_list (by rintro ⟨_, _, h⟩; obtain ⟨_, hv, _⟩ := h; cases hv) (by kernel_rfl) ?_; refine wpList_append_own_at _ rfl _ _ 23 rfl W.heap.size 25 i0 (.agg #[.int .i64 (0), .int .i64 (0)]) 2 16 Tryz.underlying23 hi hz0 hz1 hz2 rfl (by decide) _ _ _ rfl HOC.out _ _ _ _ rfl (piece_len HT2.out) (piece_cells (HCl.out _ HBC.out) HT2.out) (piece_one _) (by unfold maxLen; simp; omega) (by simp; omega) HBC.out.size ?_; intro v4 w4 hown4 hgrow4 _ _; have HBD := Lib.hid (HBC.out.grown hgrow4 HBC.out.size (fun q hq => (World.ownsRow.lt HOC.out q hq).1)); have HOD := Lib.hid (Vecs.join hown4 (by have := HL.out; simp <;> omega)); clear hown4 hgrow4)
              refine hK _ _ ?_
              clear hK K
              refine wpAny_seq 14 rfl (by kernel_rfl) ?_
              simp only [List.drop_succ_cons, List.drop_zero]
            rotate_left 1
            focus
              go_simp
              refine hK _ _ ?_
              clear hK K
              refine wpAny_ready (rs := [5]) (by kernel_rfl) (by simp) (AllReady.cons rfl (fun K hK => ?_) (AllReady.nil))
              (refine step_list (by rintro ⟨_, _, h⟩; obtain ⟨_, hv, _⟩ := h; cases hv) (by kernel_rfl) ?_; first | (refine wpList_append_own_at _ rfl _ _ 23 rfl W.heap.size 25 i0 (.agg #[.int .i64 (0), .int .i64 (0)]) 2 16 Tryz.underlying23 hi hz0 hz1 hz2 rfl (by decide) (.slice (some ⟨W.heap.size, 0, none⟩) 0 0) _ _ rfl HO1.out _ _ _ _ rfl (piece_len HT1.out) (piece_cells (HCl.out _ HB1.out) HT1.out) (piece_one _) (by unfold maxLen; simp; omega) (by simp; omega) HB1.out.size ?_; intro v2 w2 hown2 hgrow2 _ _; have HBA := Lib.hid (HB1.out.grown hgrow2 HB1.out.size (fun q hq => (World.ownsRow.lt HO1.out q hq).1)); have HO := Lib.hid (Vecs.join (l := []) hown2 (by have := HL.out; simp <;> omega)); have b0 := (HBA.out.cell (p := ⟨rb, 0, none⟩) hrb).trans c0; have b1 := (HBA.out.cell (p := ⟨rb, 1, none⟩) hrb).trans c1; have bl := Nat.lt_of_lt_of_le hrb HBA.out.size; clear hown2 hgrow2) | (refine wpList_append_own_at _ rfl _ _ 23 rfl W.heap.size 25 i0 (.agg #[.int .i64 (0), .int .i64 (0)]) 2 16 Tryz.underlying23 hi hz0 hz1 hz2 rfl (by decide) (.slice (some ⟨W.heap.size + 1, 0, none⟩) 0 0) _ _ rfl HO3.out _ _ _ _ rfl (piece_len HT1.out) (piece_cells (HCl.out _ HB3.out) HT1.out) (piece_one _) (by unfold maxLen; simp; omega) (by simp; omega) HB3.out.size ?_; intro v2 w2 hown2 hgrow2 _ _; have HBA := Lib.hid (HB3.out.grown hgrow2 HB3.out.size (fun q hq => (World.ownsRow.lt HO3.out q hq).1)); have HO := Lib.hid (Vecs.join (l := []) hown2 (by have := HL.out; simp <;> omega)); have rr : w2.heap[W.heap.size]? = ((W.drew.alloc (.cells #[.int .i64 (x1 + x2), .int .i64 (y1 + y2)] 25)).alloc (.cells #[] 25)).heap[W.heap.size]? := hgrow2.block _ (by simp <;> omega) (by simp [Value.ownBlock]); have RR0 : Hid (w2.cell? ⟨W.heap.size, 0, none⟩ = some (.int .i64 (x1 + x2))) := (cell_same rr 0).trans KR0.out; have RR1 : Hid (w2.cell? ⟨W.heap.size, 1, none⟩ = some (.int .i64 (y1 + y2))) := (cell_same rr 1).trans KR1.out; clear rr; clear hown2 hgrow2) | (refine wpList_append_own_at _ rfl _ _ 23 rfl W.heap.size 25 i0 (.agg #[.int .i64 (0), .int .i64 (0)]) 2 16 Tryz.underlying23 hi hz0 hz1 hz2 rfl (by decide) (.slice (some ⟨W.heap.size, 0, none⟩) 0 0) _ _ rfl HO2.out _ _ _ _ rfl (piece_len HT1.out) (piece_cells (HCl.out _ HB2.out) HT1.out) (piece_one _) (by unfold maxLen; simp; omega) (by simp; omega) HB2.out.size ?_; intro v2 w2 hown2 hgrow2 _ _; have HBA := Lib.hid (HB2.out.grown hgrow2 HB2.out.size (fun q hq => (World.ownsRow.lt HO2.out q hq).1)); have HO := Lib.hid (Vecs.join (l := []) hown2 (by have := HL.out; simp <;> omega)); have rr : w2.heap[W.heap.size + 1]? = ((W.drew.alloc (.cells #[] 25)).alloc (.cells #[.int .i64 (x1 + x2), .int .i64 (y1 + y2)] 25)).heap[W.heap.size + 1]? := hgrow2.block _ (by simp <;> omega) (by simp [Value.ownBlock]); have RR0 : Hid (w2.cell? ⟨W.heap.size + 1, 0, none⟩ = some (.int .i64 (x1 + x2))) := (cell_same rr 0).trans KE0.out; have RR1 : Hid (w2.cell? ⟨W.heap.size + 1, 1, none⟩ = some (.int .i64 (y1 + y2))) := (cell_same rr 1).trans KE1.out; clear rr; clear hown2 hgrow2))
              refine hK _ _ ?_
              clear hK K
              refine wpAny_ready (rs := [8]) (by kernel_rfl) (by simp) (AllReady.cons rfl (fun K hK => ?_) (AllReady.nil))
              (refine step_list (by rintro ⟨_, _, h⟩; obtain ⟨_, hv, _⟩ := h; cases hv) (by kernel_rfl) ?_; first | (refine wpList_append_own_at _ rfl _ _ 23 rfl W.heap.size 25 i0 (.agg #[.int .i64 (0), .int .i64 (0)]) 2 16 Tryz.underlying23 hi hz0 hz1 hz2 rfl (by decide) _ _ _ rfl HO.out _ 1 1 [.int .i64 (x1 + x2), .int .i64 (y1 + y2)] rfl rfl (two_cells RR0.out RR1.out) (two_one _ _) (by unfold maxLen; simp; omega) (by simp; omega) HBA.out.size ?_; intro v3 w3 hown3 hgrow3 _ _; have HBC := Lib.hid (HBA.out.grown hgrow3 HBA.out.size (fun q hq => (World.ownsRow.lt HO.out q hq).1)); have HOC := Lib.hid (Vecs.snoc (l := [] ++ (l.drop 0).take (k + 1)) rfl hown3); clear hown3 hgrow3) | (refine wpList_append_own_at _ rfl _ _ 23 rfl W.heap.size 25 i0 (.agg #[.int .i64 (0), .int .i64 (0)]) 2 16 Tryz.underlying23 hi hz0 hz1 hz2 rfl (by decide) _ _ _ rfl (HO.out.below (by go_grown)) _ 1 1 [.int .i64 (x1 + x2), .int .i64 (y1 + y2)] rfl rfl (two_cells (by simp) (by simp)) (two_one _ _) (by unfold maxLen; simp; omega) (by simp; omega) (HBA.out.alloc HBA.out.size _).size ?_; intro v3 w3 hown3 hgrow3 _ _; have HBC := Lib.hid ((HBA.out.alloc HBA.out.size _).grown hgrow3 (HBA.out.alloc HBA.out.size _).size (fun q hq => (World.ownsRow.lt HO.out q hq).1)); have HOC := Lib.hid (Vecs.snoc (l := [] ++ (l.drop 0).take (k + 1)) rfl hown3); clear hown3 hgrow3))
              refine hK _ _ ?_
              clear hK K
              refine wpAny_ready (rs := [13]) (by kernel_rfl) (by simp) (AllReady.cons rfl (fun K hK => ?_) (AllReady.nil))
              (refine step_list (by rintro ⟨_, _, h⟩; obtain ⟨_, hv, _⟩ := h; cases hv) (by kernel_rfl) ?_; refine wpList_append_own_at _ rfl _ _ 23 rfl W.heap.size 25 i0 (.agg #[.int .i64 (0), .int .i64 (0)]) 2 16 Tryz.underlying23 hi hz0 hz1 hz2 rfl (by decide) _ _ _ rfl HOC.out _ _ _ _ rfl (piece_len HT2.out) (piece_cells (HCl.out _ HBC.out) HT2.out) (piece_one _) (by unfold maxLen; simp; omega) (by simp; omega) HBC.out.size ?_; intro v4 w4 hown4 hgrow4 _ _; have HBD := Lib.hid (HBC.out.grown hgrow4 HBC.out.size (fun q hq => (World.ownsRow.lt HOC.out q hq).1)); have HOD := Lib.hid (Vecs.join hown4 (by have := HL.out; simp <;> omega)); clear hown4 hgrow4)
              refine hK _ _ ?_
              clear hK K
              refine wpAny_seq 14 rfl (by kernel_rfl) ?_
              simp only [List.drop_succ_cons, List.drop_zero]
          rotate_left 2
          focus
            go_simp
            refine hK _ _ ?_
            clear hK K
            refine wpAny_ready (rs := [0]) (by kernel_rfl) (by simp) (AllReady.cons rfl (fun K hK => ?_) (AllReady.nil))
            go_simp
            refine hK _ _ ?_
            clear hK K
            refine wpAny_ready (rs := [5]) (by kernel_rfl) (by simp) (AllReady.cons rfl (fun K hK => ?_) (AllReady.nil))
            (refine step_list (by rintro ⟨_, _, h⟩; obtain ⟨_, hv, _⟩ := h; cases hv) (by kernel_rfl) ?_; first | (refine wpList_append_own_at _ rfl _ _ 23 rfl W.heap.size 25 i0 (.agg #[.int .i64 (0), .int .i64 (0)]) 2 16 Tryz.underlying23 hi hz0 hz1 hz2 rfl (by decide) (.slice (some ⟨W.heap.size, 0, none⟩) 0 0) _ _ rfl HO1.out _ _ _ _ rfl (piece_len HT1.out) (piece_cells (HCl.out _ HB1.out) HT1.out) (piece_one _) (by unfold maxLen; simp; omega) (by simp; omega) HB1.out.size ?_; intro v2 w2 hown2 hgrow2 _ _; have HBA := Lib.hid (HB1.out.grown hgrow2 HB1.out.size (fun q hq => (World.ownsRow.lt HO1.out q hq).1)); have HO := Lib.hid (Vecs.join (l := []) hown2 (by have := HL.out; simp <;> omega)); have b0 := (HBA.out.cell (p := ⟨rb, 0, none⟩) hrb).trans c0; have b1 := (HBA.out.cell (p := ⟨rb, 1, none⟩) hrb).trans c1; have bl := Nat.lt_of_lt_of_le hrb HBA.out.size; clear hown2 hgrow2) | (refine wpList_append_own_at _ rfl _ _ 23 rfl W.heap.size 25 i0 (.agg #[.int .i64 (0), .int .i64 (0)]) 2 16 Tryz.underlying23 hi hz0 hz1 hz2 rfl (by decide) (.slice (some ⟨W.heap.size + 1, 0, none⟩) 0 0) _ _ rfl HO3.out _ _ _ _ rfl (piece_len HT1.out) (piece_cells (HCl.out _ HB3.out) HT1.out) (piece_one _) (by unfold maxLen; simp; omega) (by simp; omega) HB3.out.size ?_; intro v2 w2 hown2 hgrow2 _ _; have HBA := Lib.hid (HB3.out.grown hgrow2 HB3.out.size (fun q hq => (World.ownsRow.lt HO3.out q hq).1)); have HO := Lib.hid (Vecs.join (l := []) hown2 (by have := HL.out; simp <;> omega)); have rr : w2.heap[W.heap.size]? = ((W.drew.alloc (.cells #[.int .i64 (x1 + x2), .int .i64 (y1 + y2)] 25)).alloc (.cells #[] 25)).heap[W.heap.size]? := hgrow2.block _ (by simp <;> omega) (by simp [Value.ownBlock]); have RR0 : Hid (w2.cell? ⟨W.heap.size, 0, none⟩ = some (.int .i64 (x1 + x2))) := (cell_same rr 0).trans KR0.out; have RR1 : Hid (w2.cell? ⟨W.heap.size, 1, none⟩ = some (.int .i64 (y1 + y2))) := (cell_same rr 1).trans KR1.out; clear rr; clear hown2 hgrow2) | (refine wpList_append_own_at _ rfl _ _ 23 rfl W.heap.size 25 i0 (.agg #[.int .i64 (0), .int .i64 (0)]) 2 16 Tryz.underlying23 hi hz0 hz1 hz2 rfl (by decide) (.slice (some ⟨W.heap.size, 0, none⟩) 0 0) _ _ rfl HO2.out _ _ _ _ rfl (piece_len HT1.out) (piece_cells (HCl.out _ HB2.out) HT1.out) (piece_one _) (by unfold maxLen; simp; omega) (by simp; omega) HB2.out.size ?_; intro v2 w2 hown2 hgrow2 _ _; have HBA := Lib.hid (HB2.out.grown hgrow2 HB2.out.size (fun q hq => (World.ownsRow.lt HO2.out q hq).1)); have HO := Lib.hid (Vecs.join (l := []) hown2 (by have := HL.out; simp <;> omega)); have rr : w2.heap[W.heap.size + 1]? = ((W.drew.alloc (.cells #[] 25)).alloc (.cells #[.int .i64 (x1 + x2), .int .i64 (y1 + y2)] 25)).heap[W.heap.size + 1]? := hgrow2.block _ (by simp <;> omega) (by simp [Value.ownBlock]); have RR0 : Hid (w2.cell? ⟨W.heap.size + 1, 0, none⟩ = some (.int .i64 (x1 + x2))) := (cell_same rr 0).trans KE0.out; have RR1 : Hid (w2.cell? ⟨W.heap.size + 1, 1, none⟩ = some (.int .i64 (y1 + y2))) := (cell_same rr 1).trans KE1.out; clear rr; clear hown2 hgrow2))
            refine hK _ _ ?_
            clear hK K
            refine wpAny_ready (rs := [8]) (by kernel_rfl) (by simp) (AllReady.cons rfl (fun K hK => ?_) (AllReady.nil))
            (refine step_list (by rintro ⟨_, _, h⟩; obtain ⟨_, hv, _⟩ := h; cases hv) (by kernel_rfl) ?_; first | (refine wpList_append_own_at _ rfl _ _ 23 rfl W.heap.size 25 i0 (.agg #[.int .i64 (0), .int .i64 (0)]) 2 16 Tryz.underlying23 hi hz0 hz1 hz2 rfl (by decide) _ _ _ rfl HO.out _ 1 1 [.int .i64 (x1 + x2), .int .i64 (y1 + y2)] rfl rfl (two_cells RR0.out RR1.out) (two_one _ _) (by unfold maxLen; simp; omega) (by simp; omega) HBA.out.size ?_; intro v3 w3 hown3 hgrow3 _ _; have HBC := Lib.hid (HBA.out.grown hgrow3 HBA.out.size (fun q hq => (World.ownsRow.lt HO.out q hq).1)); have HOC := Lib.hid (Vecs.snoc (l := [] ++ (l.drop 0).take (k + 1)) rfl hown3); clear hown3 hgrow3) | (refine wpList_append_own_at _ rfl _ _ 23 rfl W.heap.size 25 i0 (.agg #[.int .i64 (0), .int .i64 (0)]) 2 16 Tryz.underlying23 hi hz0 hz1 hz2 rfl (by decide) _ _ _ rfl (HO.out.below (by go_grown)) _ 1 1 [.int .i64 (x1 + x2), .int .i64 (y1 + y2)] rfl rfl (two_cells (by simp) (by simp)) (two_one _ _) (by unfold maxLen; simp; omega) (by simp; omega) (HBA.out.alloc HBA.out.size _).size ?_; intro v3 w3 hown3 hgrow3 _ _; have HBC := Lib.hid ((HBA.out.alloc HBA.out.size _).grown hgrow3 (HBA.out.alloc HBA.out.size _).size (fun q hq => (World.ownsRow.lt HO.out q hq).1)); have HOC := Lib.hid (Vecs.snoc (l := [] ++ (l.drop 0).take (k + 1)) rfl hown3); clear hown3 hgrow3))
            refine hK _ _ ?_
            clear hK K
            refine wpAny_ready (rs := [13]) (by kernel_rfl) (by simp) (AllReady.cons rfl (fun K hK => ?_) (AllReady.nil))
            (refine step_list (by rintro ⟨_, _, h⟩; obtain ⟨_, hv, _⟩ := h; cases hv) (by kernel_rfl) ?_; refine wpList_append_own_at _ rfl _ _ 23 rfl W.heap.size 25 i0 (.agg #[.int .i64 (0), .int .i64 (0)]) 2 16 Tryz.underlying23 hi hz0 hz1 hz2 rfl (by decide) _ _ _ rfl HOC.out _ _ _ _ rfl (piece_len HT2.out) (piece_cells (HCl.out _ HBC.out) HT2.out) (piece_one _) (by unfold maxLen; simp; omega) (by simp; omega) HBC.out.size ?_; intro v4 w4 hown4 hgrow4 _ _; have HBD := Lib.hid (HBC.out.grown hgrow4 HBC.out.size (fun q hq => (World.ownsRow.lt HOC.out q hq).1)); have HOD := Lib.hid (Vecs.join hown4 (by have := HL.out; simp <;> omega)); clear hown4 hgrow4)
            refine hK _ _ ?_
            clear hK K
            refine wpAny_seq 14 rfl (by kernel_rfl) ?_
            simp only [List.drop_succ_cons, List.drop_zero]
        all_goals go_wp2_with fail
        all_goals
          rw [HR.out] at HOD
          refine Calls.mono (HSI.out _ _ _ (HOD.out.reads (by rw [blowL_len HK0.out]; omega))) ?_
          rintro e w5 ⟨rfl, hb5⟩
          have hB5 := belowTo HBW.out (HBD.out.trans (hb5.mono HBD.out.size))
          have HO5 := Lib.hid ((HOD.out.below hb5).lower (base' := w.heap.size) HBW.out.size)
          have hs5 := hB5.size
          have HE5 := Lib.hid ((hE.out w5).lower hs5)
          clear hb5
          cases hK : fanB (blowL l k (x1 + x2, y1 + y2))
          · have HK := Lib.hid hK
            clear hK
            go_wp2
            go_returns
            first
              | exact ⟨_, rfl, HE5.out, by go_grown⟩
              | (rw [HK.out]; exact ⟨_, rfl, HE5.out, by go_grown⟩)
          · have HK := Lib.hid hK
            clear hK
            go_wp2
            go_returns
            first
              | exact ⟨_, rfl, HO5.out, hB5⟩
              | (rw [HK.out]; exact ⟨_, rfl, HO5.out, hB5⟩)
end Go.Proofs.YtohojjoediibhaaGreatDoor

/- Least fans: the mathematics. -/
namespace Go.Proofs.YtohojjoediibhaaGreatDoor
open Go.RowKit

theorem cyc_app_lt {α : Type} [Inhabited α] {l : List α} {p : α} {i : Nat} (h : i < l.length) : cyc (l ++ [p]) i = cyc l i := by
  rw [cyc_lt h, cyc_lt (by simp; omega), List.getElem?_append_left h]
theorem cyc_app_last {α : Type} [Inhabited α] {l : List α} {p : α} : cyc (l ++ [p]) l.length = p := by
  rw [cyc_lt (by simp), List.getElem?_append_right (Nat.le_refl _)]
  simp
theorem smooth_rot {l : List V2} {k : Nat} (h : Smooth l) (hk : k ≤ l.length) : Smooth (rot k l) := by
  refine ⟨fun i => ?_, fun i => ?_⟩
  · rw [cyc_rot hk]
    exact h.1 _
  · rw [cyc_rot hk, cyc_rot hk]
    exact h.2 (k + i)
theorem smooth_of {l : List V2} (h0 : 0 < l.length) (h1 : ∀ i, i < l.length → vecB (cyc l i).1 (cyc l i).2 = true) (h2 : ∀ i, i < l.length → detV (cyc l i) (cyc l (i + 1)) = 1) : Smooth l := by
  refine ⟨fun i => ?_, fun i => ?_⟩
  · have := h1 _ (Nat.mod_lt i h0)
    rwa [cyc_mod] at this
  · have := h2 _ (Nat.mod_lt i h0)
    rwa [cyc_mod, show cyc l (i % l.length + 1) = cyc l (i + 1) from cyc_congr l (by rw [Nat.mod_add_mod])] at this
theorem smooth_last {l : List V2} {p : V2} (h : Smooth (l ++ [p])) (h0 : 0 < l.length) (hd : detV (cyc l (l.length - 1)) (cyc l 0) = 1) : Smooth l := by
  refine smooth_of h0 (fun i hi => ?_) (fun i hi => ?_)
  · have := h.1 i
    rwa [cyc_app_lt hi] at this
  · by_cases e : i + 1 = l.length
    · rw [cyc_next, if_pos e, show i = l.length - 1 by omega]
      exact hd
    · have := h.2 i
      rwa [cyc_app_lt hi, cyc_app_lt (by omega)] at this
theorem rot_lastV {l : List V2} {i : Nat} (h : i < l.length) : rot (i + 1) l = (l.drop (i + 1) ++ l.take i) ++ [cyc l i] := by
  unfold rot
  rw [List.take_add_one, cyc_get h, List.append_assoc]
  rfl
theorem rot_downV {l : List V2} {i : Nat} : rot (l.length - (i + 1)) (l.drop (i + 1) ++ l.take i) = downL l i := by
  unfold rot downL
  rw [← List.length_drop, List.drop_left, List.take_left]
theorem smooth_down {l : List V2} {i : Nat} (h : Smooth l) (hi : i < l.length) (hd : downB l i = true) : Smooth (downL l i) := by
  have hd' := hd
  unfold downB at hd'
  rw [Bool.and_eq_true] at hd'
  have h3 : 3 < l.length := of_decide_eq_true hd'.1
  have hn : numZ l i = -1 := by simpa using hd'.2
  have hr := smooth_rot (k := i + 1) h (by omega)
  rw [rot_lastV hi] at hr
  have hml : (l.drop (i + 1) ++ l.take i).length = l.length - 1 := by simp; omega
  have e1 : cyc (l.drop (i + 1) ++ l.take i) (l.length - 2) = cyc l (i + l.length - 1) := by
    have : cyc (rot (i + 1) l) (l.length - 2) = cyc l (i + 1 + (l.length - 2)) := cyc_rot (by omega) _
    rw [rot_lastV hi, cyc_app_lt (by omega)] at this
    rw [this, show i + 1 + (l.length - 2) = i + l.length - 1 by omega]
  have e2 : cyc (l.drop (i + 1) ++ l.take i) 0 = cyc l (i + 1) := by
    have : cyc (rot (i + 1) l) 0 = cyc l (i + 1 + 0) := cyc_rot (by omega) _
    rw [rot_lastV hi, cyc_app_lt (by omega)] at this
    exact this
  have hs := smooth_last hr (by omega) (by
    rw [hml, show l.length - 1 - 1 = l.length - 2 by omega, e1, e2]
    unfold numZ at hn
    omega)
  rw [← rot_downV]
  exact smooth_rot hs (by omega)
/-- the first index at which a ray can be blown down -/
def firstD (l : List V2) : Option Nat := (List.range l.length).find? (downB l)
theorem firstD_some {l : List V2} {k : Nat} (hk : k < l.length) (h1 : downB l k = true) (h2 : ∀ i, i < k → downB l i = false) : firstD l = some k := by
  unfold firstD
  have e : List.range l.length = List.range k ++ k :: (List.range l.length).drop (k + 1) := by
    have e1 : List.range k ++ [k] = (List.range l.length).take (k + 1) := by rw [List.take_range, Nat.min_eq_left (by omega), List.range_succ]
    rw [List.append_cons, e1, List.take_append_drop]
  rw [e, List.find?_append]
  have : (List.range k).find? (downB l) = none := by
    rw [List.find?_eq_none]
    intro x hx
    rw [h2 x (List.mem_range.1 hx)]
    decide
  rw [this, List.find?_cons_of_pos h1]
  rfl
theorem firstD_none {l : List V2} (h : ∀ i, i < l.length → downB l i = false) : firstD l = none := by
  unfold firstD
  rw [List.find?_eq_none]
  intro x hx
  rw [h x (List.mem_range.1 hx)]
  decide
def leastN : Nat → List V2 → List V2
  | 0, l => l
  | k + 1, l => match firstD l with
    | none => l
    | some i => leastN k (downL l i)
def leastL (l : List V2) : List V2 := leastN l.length l
theorem least_step {l : List V2} {k : Nat} (hk : k < l.length) (h1 : downB l k = true) (h2 : ∀ i, i < k → downB l i = false) : leastL l = leastL (downL l k) := by
  unfold leastL
  rw [downL_len hk]
  obtain ⟨n, hn⟩ : ∃ n, l.length = n + 1 := ⟨l.length - 1, by omega⟩
  rw [hn, Nat.add_sub_cancel]
  show (match firstD l with | none => l | some i => leastN n (downL l i)) = _
  rw [firstD_some hk h1 h2]
theorem least_end {l : List V2} (h : ∀ i, i < l.length → downB l i = false) : leastL l = l := by
  unfold leastL
  cases hn : l.length with
  | zero => rfl
  | succ n =>
    show (match firstD l with | none => l | some i => leastN n (downL l i)) = _
    rw [firstD_none h]
theorem leastN_len (k : Nat) : ∀ l : List V2, (leastN k l).length ≤ l.length := by
  induction k with
  | zero => intro l; exact Nat.le_refl _
  | succ k ih =>
    intro l
    show (match firstD l with | none => l | some i => leastN k (downL l i)).length ≤ _
    cases firstD l with
    | none => exact Nat.le_refl _
    | some i =>
      refine Nat.le_trans (ih _) ?_
      simp [downL]
      omega
theorem least_len (l : List V2) : (leastL l).length ≤ l.length := leastN_len _ _
end Go.Proofs.YtohojjoediibhaaGreatDoor

/- Fans: built from a list of cones: both sides. -/
namespace Go.Proofs.YtohojjoediibhaaGreatDoor
open Go.RowKit

def buildS : List Int → List V2 → Option (List V2)
  | [], l => some l
  | i :: r, l => if smoothB l && blowB l i then buildS r (blowL l i.toNat (blowP l i.toNat)) else none
def triL : List V2 := [(1, 0), (0, 1), (-1, -1)]
theorem tri_smooth : smoothB triL = true := by decide +kernel
def builtB (is : List Int) : Bool := (buildS is triL).isSome
def builtL (is : List Int) : List V2 := (buildS is triL).getD []
theorem build_step {is : List Int} {k : Nat} {l : List V2} (hk : k < is.length) : buildS (is.drop k) l = if smoothB l && blowB l (is[k]?.getD 0) then buildS (is.drop (k + 1)) (blowL l (is[k]?.getD 0).toNat (blowP l (is[k]?.getD 0).toNat)) else none := by
  rw [List.drop_eq_getElem_cons hk, List.getElem?_eq_getElem hk]
  rfl
theorem build_len (is : List Int) : ∀ l l', l.length ≤ 20 → buildS is l = some l' → l'.length ≤ 20 := by
  induction is with
  | nil => intro l l' h e; cases e; exact h
  | cons i r ih =>
    intro l l' h e
    unfold buildS at e
    split at e
    · next hc =>
      rw [Bool.and_eq_true] at hc
      have h2 := hc.2
      unfold blowB at h2
      rw [Bool.and_eq_true] at h2
      exact ih _ _ (fan_len h2.2).2 e
    · cases e
theorem built_len {is : List Int} (h : builtB is = true) : (builtL is).length ≤ 20 := by
  unfold builtB at h
  obtain ⟨l', hl⟩ := Option.isSome_iff_exists.1 h
  unfold builtL
  rw [hl]
  exact build_len is triL l' (by decide) hl
theorem smooth_snoc {l : List V2} {p : V2} (h : Smooth l) (h0 : 0 < l.length) (hp : vecB p.1 p.2 = true) (h1 : detV (cyc l (l.length - 1)) p = 1) (h2 : detV p (cyc l 0) = 1) : Smooth (l ++ [p]) := by
  refine smooth_of (by simp) (fun i hi => ?_) (fun i hi => ?_)
  · simp at hi
    by_cases e : i < l.length
    · rw [cyc_app_lt e]; exact h.1 i
    · rw [show i = l.length by omega, cyc_app_last]; exact hp
  · simp at hi
    by_cases e : i + 1 < l.length
    · rw [cyc_app_lt (by omega), cyc_app_lt e]; exact h.2 i
    · by_cases e2 : i + 1 = l.length
      · rw [cyc_app_lt (by omega), e2, cyc_app_last, show i = l.length - 1 by omega]; exact h1
      · obtain rfl : i = l.length := by omega
        rw [cyc_app_last]
        have : cyc (l ++ [p]) (l.length + 1) = cyc (l ++ [p]) 0 := by
          have := cyc_add (l ++ [p]) 0
          rwa [show 0 + (l ++ [p]).length = l.length + 1 by simp] at this
        rw [this, cyc_app_lt h0]
        exact h2
theorem rot_blowV {l : List V2} {i : Nat} {p : V2} : rot (l.length - (i + 1)) (rot (i + 1) l ++ [p]) = blowL l i p := by
  unfold rot blowL
  rw [List.append_assoc, ← List.length_drop, List.drop_left, List.take_left]
theorem blow_cyc {l : List V2} {i : Nat} {p : V2} (h : i < l.length) : cyc (blowL l i p) (i + 1) = p := by
  rw [cyc_lt (by rw [blowL_len h]; omega)]
  unfold blowL
  have e : (l.take (i + 1)).length = i + 1 := by simp; omega
  rw [List.append_assoc, List.getElem?_append_right (by omega), e, Nat.sub_self]
  rfl
theorem smooth_blow {l : List V2} {i : Nat} (h : Smooth l) (hi : i < l.length) (hf : fanB (blowL l i (blowP l i)) = true) : smoothB (blowL l i (blowP l i)) = true := by
  have hv := fan_vec hf (i + 1)
  rw [blow_cyc hi] at hv
  have hr := smooth_rot (k := i + 1) h (by omega)
  have hd := h.2 i
  have hlast : cyc (rot (i + 1) l) ((rot (i + 1) l).length - 1) = cyc l i := by
    rw [rot_len, cyc_rot (by omega), show i + 1 + (l.length - 1) = i + l.length by omega, cyc_add]
  have hfirst : cyc (rot (i + 1) l) 0 = cyc l (i + 1) := by rw [cyc_rot (by omega), Nat.add_zero]
  have hS : Smooth (blowL l i (blowP l i)) := by
    rw [← rot_blowV]
    refine smooth_rot (smooth_snoc hr (by rw [rot_len]; omega) hv ?_ ?_) (by simp [rot_len]; omega)
    · rw [hlast]
      unfold detV detZ blowP at *
      rw [Int.mul_add, Int.mul_add, Int.mul_comm (cyc l i).1 (cyc l i).2]
      omega
    · rw [hfirst]
      unfold detV detZ blowP at *
      rw [Int.add_mul, Int.add_mul, Int.mul_comm (cyc l (i + 1)).1 (cyc l (i + 1)).2]
      omega
  unfold smoothB
  rw [hf, Bool.true_and]
  exact List.all_eq_true.2 (fun j _ => by simpa [smB] using hS.2 j)
theorem Vecs.tri (w : World) : Vecs (w.alloc (.cells #[.int .i64 1, .int .i64 0, .int .i64 0, .int .i64 1, .int .i64 (-1), .int .i64 (-1)] 25)) w.heap.size (.slice (some ⟨w.heap.size, 0, none⟩) 3 3) triL :=
  ⟨rfl, .inr ⟨w.heap.size, 3, #[.int .i64 1, .int .i64 0, .int .i64 0, .int .i64 1, .int .i64 (-1), .int .i64 (-1)], rfl, Nat.le_refl _, heap_alloc_new w _, Nat.le_refl _, by decide, rfl, rfl⟩⟩
def BuildI (w : World) (is : List Int) (s4 s5 : Value) (wr : World) : Prop :=
  ∃ (L : List V2) (k : Nat), Vecs wr w.heap.size s4 L ∧ s5 = .int .i64 k ∧ k ≤ is.length ∧ L.length ≤ 20 ∧ buildS (is.drop k) L = buildS is triL ∧ Below w.heap.size w wr
set_option maxHeartbeats 8000000 in
theorem specFanBuild_any (v : Value) (is : List Int) (w : World) (hl : ReadsInts w v is) :
    Calls Tryz.prog 101 #[v] w (GivesVecsOk w (gV (builtB is) (builtL is)) (builtB is)) := by
  obtain ⟨a, c, rfl, hm, hcell⟩ := hl
  have HC := Lib.hid hcell
  have hE := Lib.hid (fun w' => Vecs.empty w')
  have HI0 : Hid (BuildI w is (.slice (some ⟨w.heap.size, 0, none⟩) 3 3) (.int .i64 0) (w.alloc (.cells #[.int .i64 1, .int .i64 0, .int .i64 0, .int .i64 1, .int .i64 (-1), .int .i64 (-1)] 25))) :=
    ⟨triL, 0, Vecs.tri w, rfl, Nat.zero_le _, by decide, rfl, by go_grown⟩
  have HS := Lib.hid (fun k (l : List V2) (hk : k < is.length) => build_step (l := l) hk)
  clear hcell
  go_enter Tryz.func101, Tryz.ntmps101
  go_wp2
  go_loopw [4, 5] (fun s4 s5 wr => Hid (BuildI w is s4 s5 wr)) (fun _ s5 _ => is.length - (intOf s5).toNat)
  case atStart => exact HI0
  case round =>
    obtain ⟨L, k, hV, he, hk, h20, hbd, hB⟩ := hrel.out
    clear hrel HI0
    subst he
    have i1 : (0 : Int) ≤ (k : Int) := by omega
    have HV := Lib.hid hV
    have HBd := Lib.hid hbd
    clear hV hbd
    by_cases hlt : k < is.length
    · obtain ⟨bb, off, rfl, hbb, hcs⟩ := HC.out (by omega)
      have i2 : (k : Int) < (is.length : Int) := by omega
      have c0 := (hB.cell (p := ⟨bb, off + k, none⟩) hbb).trans (hcs k hlt)
      have hbl := Nat.lt_of_lt_of_le hbb hB.size
      have HSk := Lib.hid (HS.out k L hlt)
      clear hcs
      generalize is[k]?.getD 0 = i at *
      have HW := Lib.hid (specFanBlow_any _ L i wr (HV.out.reads (by omega)))
      have hs := hB.size
      cases hK : smoothB L && blowB L i
      · rw [hK] at HW
        have HN : Hid (buildS is triL = none) := by
          have := HSk.out
          rw [hK] at this
          exact HBd.out.symm.trans this
        clear hK HSk HBd HV
        go_wp2_with fail
        refine Calls.mono HW.out ?_
        rintro e w2 ⟨v2, rfl, _, hb2⟩
        have hB2 := belowTo hB hb2
        have HE := Lib.hid ((hE.out w2).lower hB2.size)
        clear hb2
        go_wp2
        go_returns
        have h1 : builtB is = false := by unfold builtB; rw [HN.out]; rfl
        rw [h1]
        exact ⟨_, rfl, HE.out, hB2.alloc hB2.size _⟩
      · rw [hK] at HW
        have hLn : (blowL L i.toNat (blowP L i.toNat)).length ≤ 20 := by
          rw [Bool.and_eq_true] at hK
          have h2 := hK.2
          unfold blowB at h2
          rw [Bool.and_eq_true] at h2
          exact (fan_len h2.2).2
        have HN : Hid (buildS (is.drop (k + 1)) (blowL L i.toNat (blowP L i.toNat)) = buildS is triL) := by
          have := HSk.out
          rw [hK] at this
          exact this.symm.trans HBd.out
        have HLn := Lib.hid hLn
        clear hK HSk HBd HV hLn
        go_wp2_with fail
        refine Calls.mono HW.out ?_
        rintro e w2 ⟨v2, rfl, hV2, hb2⟩
        have hB2 := belowTo hB hb2
        have HI2 : Hid (BuildI w is v2 (.int .i64 ((k : Int) + 1)) w2) := ⟨_, k + 1, hV2.lower hs, by simp, by omega, HLn.out, HN.out, hB2⟩
        clear hb2 hV2 hB2
        go_wp2
        go_roundw
        case rel => exact HI2
        case measure => simp [intOf]; omega
    · obtain rfl : k = is.length := by omega
      have i2 : ¬ (is.length : Int) < (is.length : Int) := by omega
      have HN : Hid (buildS is triL = some L) := by
        have := HBd.out
        rw [List.drop_length] at this
        exact this.symm
      clear HBd
      go_wp2
      go_returns
      have h1 : builtB is = true := by unfold builtB; rw [HN.out]; rfl
      have h2 : builtL is = L := by unfold builtL; rw [HN.out]; rfl
      rw [h1, h2]
      exact ⟨_, rfl, HV.out, hB⟩
def BuildG (w : World) (g : Nat) (is : List Int) (s : Value) (wr : World) : Prop :=
  ∃ (ns : List Node) (k : Nat), FanAt wr w.heap.size g ns ∧ s = .int .i64 k ∧ k ≤ is.length ∧ smoothB (rays ns) = true ∧ buildS (is.drop k) (rays ns) = buildS is triL ∧ Below w.heap.size w wr
end Go.Proofs.YtohojjoediibhaaGreatDoor
