import Derived.Test.YtgaeibibeekclaaDoorYu
import Derived.Test.YtgaeibibeekclaaDoorYv
import Derived.Test.YtgaeibibeekclaaDoorBj
/- l6gHull: the hull of some vectors: the model. -/
namespace Go.Proofs.YtgaeibibeekclaaDoor
open Go.RowKit

theorem insD_len (v : V2) : ∀ l : List V2, (insD v l).length ≤ l.length + 1 := by
  intro l
  induction l with
  | nil => simp [insD]
  | cons a l ih =>
    unfold insD
    split
    · simp
    · split
      · simp
      · simp only [List.length_cons]; omega
theorem sortD_len (l : List V2) : (sortD l).length ≤ l.length := by
  refine snoc_ind (P := fun l => (sortD l).length ≤ l.length) (by simp [sortD]) (fun m c h => ?_) l
  rw [sortD_snoc, List.length_append, List.length_singleton]
  have := insD_len c (sortD m)
  omega
/-- what the model's hull gives: of fewer than three vectors these -/
def hullM (l : List V2) : List V2 := if (sortD l).length < 3 then sortD l else hullD l
theorem half_len' (l : List V2) : (halfH l).length ≤ l.length := by
  have h := fold_len l []
  simpa [halfH] using h
theorem half_pos {l : List V2} (h : 0 < l.length) : 0 < (halfH l).length := by
  cases k : halfH l
  · exfalso
    refine absurd k ?_
    have hl : l = l.dropLast ++ [l.getLast (by intro e; rw [e] at h; simp at h)] := (List.dropLast_concat_getLast _).symm
    intro k
    rw [hl] at k
    unfold halfH at k
    rw [List.foldl_append] at k
    obtain ⟨r, hr⟩ := push_head ((l.dropLast).foldl pushH []) (l.getLast (by intro e; rw [e] at h; simp at h))
    rw [List.foldl_cons, List.foldl_nil, hr] at k
    cases k
  · simp
theorem back_snoc (S : List V2) (n k : Nat) : (List.range (k + 1)).map (fun j => cyc S (n - 1 - j)) = (List.range k).map (fun j => cyc S (n - 1 - j)) ++ [cyc S (n - 1 - k)] := by simp [List.range_succ]
theorem back_all {S : List V2} : (List.range S.length).map (fun j => cyc S (S.length - 1 - j)) = S.reverse := by
  apply List.ext_getElem?
  intro j
  by_cases hj : j < S.length
  · rw [List.getElem?_map, List.getElem?_range hj, List.getElem?_reverse hj]
    simp only [Option.map_some]
    rw [cyc_get (by omega : S.length - 1 - j < S.length)]
  · rw [List.getElem?_eq_none (by simp; omega), List.getElem?_eq_none (by simp; omega)]
theorem drop_last (L : List V2) : ((L.drop 0).take (L.length - 1)) = L.dropLast := by rw [List.drop_zero, List.dropLast_eq_take]
theorem hull_join (S : List V2) : ([] ++ ((((halfH S).reverse).drop 0).take (((halfH S).reverse).length - 1))) ++ ((((halfH S.reverse).reverse).drop 0).take (((halfH S.reverse).reverse).length - 1)) = hullZ S := by
  have e : ∀ L : List V2, L.reverse.dropLast = L.tail.reverse := fun L => by cases L <;> simp
  unfold hullZ
  rw [drop_last, drop_last, List.nil_append, e, e]
set_option maxRecDepth 100000 in
set_option maxHeartbeats 16000000 in
theorem l6gHull_any (v : Value) (l : List V2) (w : World) (hl : ReadsVecs w v l) (hm : l.length ≤ 1000) (hs : ∀ x ∈ l, small5 x) :
    Calls Tryd.prog 55 #[v] w (GivesVecs w (hullM l)) := by
  obtain ⟨i0, hi0, hz0, hz1, hz2⟩ := info_parts infoVec
  have HSo := Lib.hid (l6gSort_any v l w hl (by omega))
  have hSn : (sortD l).length ≤ 1000 := Nat.le_trans (sortD_len l) hm
  have hSm : ∀ x ∈ sortD l, small5 x := fun x hx => hs x ((sortD_mem l x).1 hx)
  obtain ⟨a, c, rfl, _⟩ := hl
  unfold hullM hullD
  generalize sortD l = S at *
  clear hs hm
  by_cases h3 : S.length < 3
  · rw [if_pos h3]
    have j1 : (S.length : Int) < 3 := by omega
    have HRd := Lib.hid (fun w' b v' (hI : Vecs w' b v' S) => (hI.reads (by omega) : ReadsVecs w' v' S))
    go_enter Tryd.func55, Tryd.ntmps55
    go_wp2_with fail
    refine Calls.mono HSo.out ?_
    rintro e w1 ⟨v1, rfl, I1, hb1⟩
    obtain ⟨a1, c1, rfl, _⟩ := HRd.out _ _ _ I1
    have HI1 := Lib.hid I1
    clear I1 HRd HSo hSm
    go_wp2
    go_returns
    exact ⟨_, rfl, HI1.out, hb1⟩
  · rw [if_neg h3]
    have j1 : ¬ (S.length : Int) < 3 := by omega
    obtain ⟨n, hn⟩ : ∃ n, n = S.length := ⟨_, rfl⟩
    have HN := Lib.hid hn
    have h0 : 0 < S.length := by omega
    have HHa := Lib.hid (fun v' b' w' (hI : Vecs w' b' v' S) => l6gHalf_any v' S w' (hI.reads (by omega)) h0 hSn hSm)
    have HHb := Lib.hid (fun v' b' w' (hI : Vecs w' b' v' S.reverse) => l6gHalf_any v' S.reverse w' (hI.reads (by rw [List.length_reverse]; omega)) (by rw [List.length_reverse]; exact h0) (by rw [List.length_reverse]; exact hSn) (fun x hx => hSm x (List.mem_reverse.1 hx)))
    have HX := Lib.hid (fun k => back_snoc S n k)
    have HXa : Hid ((List.range n).map (fun j => cyc S (n - 1 - j)) = S.reverse) := by show _ = _; rw [hn]; exact back_all
    have HX0 : Hid ((List.range 0).map (fun j => cyc S (n - 1 - j)) = []) := rfl
    have HJ := Lib.hid (hull_join S)
    have ha1 : (halfH S).reverse.length ≤ 1000 := by rw [List.length_reverse]; have := half_len' S; omega
    have hb1' : (halfH S.reverse).reverse.length ≤ 1000 := by rw [List.length_reverse]; have := half_len' S.reverse; rw [List.length_reverse] at this; omega
    have ha0 : 0 < (halfH S).reverse.length := by rw [List.length_reverse]; exact half_pos h0
    have hb0 : 0 < (halfH S.reverse).reverse.length := by rw [List.length_reverse]; exact half_pos (by rw [List.length_reverse]; exact h0)
    generalize hullZ S = HZ at *
    generalize (halfH S).reverse = LA at *
    generalize (halfH S.reverse).reverse = LB at *
    rw [← hn] at j1 h3 hSn
    have HLs : Hid (0 < LA.length ∧ LA.length ≤ 1000 ∧ 0 < LB.length ∧ LB.length ≤ 1000) := ⟨ha0, ha1, hb0, hb1'⟩
    clear hSm hn h0 ha0 ha1 hb0 hb1'
    go_enter Tryd.func55, Tryd.ntmps55
    go_wp2_with fail
    refine Calls.mono HSo.out ?_
    rintro e w1 ⟨v1, rfl, I1, hb1⟩
    obtain ⟨g1, c1, rfl, hg1, hgl1, hcc1⟩ := Vecs.formD I1 (by have := HN.out; omega)
    have HRow := Lib.hid I1.rowC
    have HI1 := Lib.hid I1
    have HB1 := Lib.hid hb1
    have HEm := Lib.hid (Vecs.empty w1)
    rw [← HN.out] at hcc1
    have q0 : IntKind.i64.wrap ((n : Int) - 1) = (n : Int) - 1 := by rw [IntKind.wrap_i64]; omega
    rw [← HN.out]
    clear I1 HSo hb1
    go_wp2
    go_loopw [4, 5] (fun s4 s5 wr => ∃ k : Nat, k ≤ n ∧ s5 = .int .i64 ((n : Int) - 1 - k) ∧ Hid (Vecs wr w1.heap.size s4 ((List.range k).map (fun j => cyc S (n - 1 - j)))) ∧ Below w1.heap.size w1 wr) (fun _ s5 _ => (intOf s5 + 1).toNat)
    case atStart => exact ⟨0, Nat.zero_le _, by simp, by rw [HX0.out]; exact HEm.out, by go_grown⟩
    case round =>
      obtain ⟨k, hk, rfl, HV, hB⟩ := hrel
      by_cases hlt : k < n
      · have i1 : (0 : Int) ≤ (n : Int) - 1 - (k : Int) := by omega
        have i2 : (n : Int) - 1 - (k : Int) < (n : Int) := by omega
        have i3 : ((n : Int) - 1 - (k : Int)).toNat = n - 1 - k := by omega
        obtain ⟨⟨p1, p2⟩, _⟩ := HRow.out (n - 1 - k) (by have := HN.out; omega)
        have d0 := (hB.cell (p := ⟨g1, (n - 1 - k) * 2, none⟩) hgl1).trans p1
        have d1 := (hB.cell (p := ⟨g1, (n - 1 - k) * 2 + 1, none⟩) hgl1).trans p2
        have HXk := Lib.hid (HX.out k)
        have hkl : ((List.range k).map (fun j => cyc S (n - 1 - j))).length = k := by simp
        generalize hV : cyc S (n - 1 - k) = V at d0 d1 HXk
        clear hV
        obtain ⟨x, y⟩ := V
        dsimp only at d0 d1
        obtain ⟨I, hI⟩ : ∃ I : Int, I = (n : Int) - 1 - (k : Int) := ⟨_, rfl⟩
        have HIe := Lib.hid hI
        have q1 : IntKind.i64.wrap (I - 1) = I - 1 := by rw [IntKind.wrap_i64]; omega
        rw [← hI] at i1 i2 i3 ⊢
        have hown := HV.out
        unfold Vecs VRow at hown
        rw [hkl] at hown
        have HHk := Lib.hid hkl
        have hbs := hB.size
        have h1000 : k ≤ 1000 := by omega
        clear HV HX HXa HX0 HJ hI hkl p1 p2 HHa HHb HEm HRow
        go_wp2_with (at_builtin; refine wpList_append_own_at _ rfl _ _ 23 rfl w1.heap.size 31 i0 (.agg #[.int .i64 (0), .int .i64 (0)]) 2 16 Tryd.underlying23 hi0 hz0 hz1 hz2 rfl (by decide) _ _ _ rfl (World.ownsRow.alloc hown _) ⟨_, 0, none⟩ 1 1 [.int .i64 x, .int .i64 y] rfl rfl (pair_cells2 _ x y _) (pair_one2 x y) ?c3 ?c4 ?c5 ?_)
        case c3 => unfold maxLen; omega
        case c4 => omega
        case c5 => first | omega | (simp; omega)
        intro v' wz hown' hgrow _ _
        have HB5 := Lib.hid ((hB.alloc hbs _).grown hgrow (by simp; omega) (fun k hk => (hown.lt k hk).1))
        have HVv := Lib.hid (Vecs.snoc (l := (List.range k).map (fun j => cyc S (n - 1 - j))) HHk.out.symm hown')
        rw [← HXk.out] at HVv
        clear hown' hgrow hown hbs d0 d1 h1000
        go_wp2
        go_roundw
        case rel => exact ⟨k + 1, by omega, by rw [HIe.out]; congr 1; push_cast; omega, HVv, HB5.out⟩
        case measure => have := HIe.out; simp [intOf]; omega
      · obtain rfl : k = n := by omega
        have i2 : ¬ (0 : Int) ≤ (k : Int) - 1 - (k : Int) := by omega
        have hV := HV.out
        rw [HXa.out] at hV
        have HA := Lib.hid (HHa.out _ _ wr (HI1.out.below hB))
        rw [← HN.out] at HA
        have HBk := Lib.hid (fun w' (h : Below wr.heap.size wr w') => HHb.out _ _ w' (hV.below h))
        have hBw := HB1.out.trans (hB.mono HB1.out.size)
        obtain ⟨vl, hvl⟩ : ∃ x, x = (k : Int) - 1 - (k : Int) := ⟨_, rfl⟩
        rw [← hvl] at i2 ⊢
        clear hV HV HX HXa HX0 hvl HHa HHb HRow HEm
        go_wp2_with fail
        refine Calls.mono HA.out ?_
        rintro e w6 ⟨v6, rfl, I6, hb6⟩
        have HB2 := Lib.hid (HBk.out w6 hb6)
        have HI6 := Lib.hid I6
        have hB6 := belowTo hBw hb6
        clear HA HBk I6 hb6
        go_wp2_with fail
        refine Calls.mono HB2.out ?_
        rintro e w7 ⟨v7, rfl, I7, hb7⟩
        have I6' := HI6.out.below hb7
        have HB7 := Lib.hid (belowTo hB6 hb7)
        obtain ⟨g6, c6, rfl, _, hgl6, hcc6⟩ := Vecs.formD I6' HLs.out.1
        obtain ⟨g7, c7, rfl, _, hgl7, hcc7⟩ := Vecs.formD I7 HLs.out.2.2.1
        have HC6 : Hid (∀ wr, Below w7.heap.size w7 wr → ∀ j, j < LA.length → wr.cell? ⟨g6, j * 2, none⟩ = some (.int .i64 (cyc LA j).1) ∧ wr.cell? ⟨g6, j * 2 + 1, none⟩ = some (.int .i64 (cyc LA j).2)) := fun wr h j hj => by
          obtain ⟨⟨p1, p2⟩, _⟩ := I6'.rowC j hj
          exact ⟨(h.cell (p := ⟨g6, j * 2, none⟩) hgl6).trans p1, (h.cell (p := ⟨g6, j * 2 + 1, none⟩) hgl6).trans p2⟩
        have HC7 : Hid (∀ wr, Below w7.heap.size w7 wr → ∀ j, j < LB.length → wr.cell? ⟨g7, j * 2, none⟩ = some (.int .i64 (cyc LB j).1) ∧ wr.cell? ⟨g7, j * 2 + 1, none⟩ = some (.int .i64 (cyc LB j).2)) := fun wr h j hj => by
          obtain ⟨⟨p1, p2⟩, _⟩ := I7.rowC j hj
          exact ⟨(h.cell (p := ⟨g7, j * 2, none⟩) hgl7).trans p1, (h.cell (p := ⟨g7, j * 2 + 1, none⟩) hgl7).trans p2⟩
        have HT1 : Hid (0 + (LA.length - 1) ≤ LA.length ∧ LA.length ≤ 1000) := ⟨by omega, HLs.out.2.1⟩
        have HT2 : Hid (0 + (LB.length - 1) ≤ LB.length ∧ LB.length ≤ 1000) := ⟨by omega, HLs.out.2.2.2⟩
        obtain ⟨na, hna⟩ : ∃ na, na = LA.length := ⟨_, rfl⟩
        obtain ⟨nb, hnb⟩ : ∃ nb, nb = LB.length := ⟨_, rfl⟩
        obtain ⟨la0, la1, lb0, lb1⟩ := HLs.out
        rw [← hna] at la0 la1 hcc6 HJ HT1
        rw [← hnb] at lb0 lb1 hcc7 HJ HT2
        rw [← hna, ← hnb]
        have HT1' : Hid (0 + (na - 1) ≤ LA.length) := by show _ ≤ _; omega
        have HT2' : Hid (0 + (nb - 1) ≤ LB.length) := by show _ ≤ _; omega
        have a1 : IntKind.i64.wrap ((na : Int) - 1) = ((na - 1 : Nat) : Int) := by rw [IntKind.wrap_i64]; omega
        have a2 : (0 : Int) ≤ ((na - 1 : Nat) : Int) := by omega
        have a3 : ((na - 1 : Nat) : Int) ≤ (na : Int) := by omega
        have a4 : ((na - 1 : Nat) : Int) ≤ (c6 : Int) := by omega
        have a5 : na - 1 ≤ c6 := by omega
        have a6 : ¬ c6 = 0 := by omega
        have b1 : IntKind.i64.wrap ((nb : Int) - 1) = ((nb - 1 : Nat) : Int) := by rw [IntKind.wrap_i64]; omega
        have b2 : (0 : Int) ≤ ((nb - 1 : Nat) : Int) := by omega
        have b3 : ((nb - 1 : Nat) : Int) ≤ (nb : Int) := by omega
        have b4 : ((nb - 1 : Nat) : Int) ≤ (c7 : Int) := by omega
        have b5 : nb - 1 ≤ c7 := by omega
        have b6 : ¬ c7 = 0 := by omega
        have HNs : Hid (na ≤ 1000 ∧ nb ≤ 1000) := ⟨la1, lb1⟩
        obtain ⟨ma, hma⟩ : ∃ ma, ma = na - 1 := ⟨_, rfl⟩
        obtain ⟨mb, hmb⟩ : ∃ mb, mb = nb - 1 := ⟨_, rfl⟩
        have hma1 : ma ≤ 1000 := by omega
        have hmb1 : mb ≤ 1000 := by omega
        rw [← hma] at a1 a2 a3 a4 a5 HJ HT1'
        rw [← hmb] at b1 b2 b3 b4 b5 HJ HT2'
        replace HT1 := HT1'
        replace HT2 := HT2'
        have HO1 : Hid (Vecs (w7.drew.alloc (.cells #[] 31)) w7.heap.size (.slice (some ⟨w7.heap.size, 0, none⟩) 0 0) []) := Vecs.empty w7.drew
        have HB1' : Hid (Below w7.heap.size w7 (w7.drew.alloc (.cells #[] 31))) := by show Below w7.heap.size w7 (w7.drew.alloc (.cells #[] 31)); go_grown
        clear HB1
        have HB1 := HB1'
        have hw7 := HB7.out.size
        clear HB1' I6' I7 hb7 HI6 HI1 hna hnb la0 la1 lb0 lb1 hcc6 hcc7 HT1' HT2' hma hmb HLs HB2 HNs hgl6 hgl7 hB6 hBw hB hgl1 hcc1 hg1
        go_upto_region 11 with fail
        refine wp_region_any (by kernel_rfl) ?_
        try (change wpAny _ _ _ _ _ _ _ (World.drew _))
        refine wpAny_take (i := 1) (v := ?_) rfl (by kernel_rfl) (by kernel_rfl) (by kernel_rfl) (fun _ _ _ h => h) (Or.inl ⟨by rfl, ?_⟩) ?_
        rotate_left
        focus (intro w0; go_simp; try with_reducible rfl)
        refine wpAny_take (i := 2) (v := ?_) rfl (by kernel_rfl) (by kernel_rfl) (by kernel_rfl) (fun _ _ _ h => h) (Or.inl ⟨by rfl, ?_⟩) ?_
        rotate_left
        focus (intro w0; go_simp; try with_reducible rfl)
        refine wpAny_take (i := 3) (v := ?_) rfl (by kernel_rfl) (by kernel_rfl) (by kernel_rfl) (fun _ _ _ h => h) (Or.inl ⟨by rfl, ?_⟩) ?_
        rotate_left
        focus (intro w0; go_simp; try with_reducible rfl)
        refine wpAny_take (i := 4) (v := ?_) rfl (by kernel_rfl) (by kernel_rfl) (by kernel_rfl) (fun _ _ _ h => h) (Or.inl ⟨by rfl, ?_⟩) ?_
        rotate_left
        focus (intro w0; go_simp; try with_reducible rfl)
        refine wpAny_take (i := 5) (v := ?_) rfl (by kernel_rfl) (by kernel_rfl) (by kernel_rfl) (fun _ _ _ h => h) (Or.inl ⟨by rfl, ?_⟩) ?_
        rotate_left
        focus (intro w0; go_simp; try with_reducible rfl)
        refine wpAny_take (i := 7) (v := ?_) rfl (by kernel_rfl) (by kernel_rfl) (by kernel_rfl) (fun _ _ _ h => h) (Or.inl ⟨by rfl, ?_⟩) ?_
        rotate_left
        focus (intro w0; go_simp; try with_reducible rfl)
        refine wpAny_take (i := 8) (v := ?_) rfl (by kernel_rfl) (by kernel_rfl) (by kernel_rfl) (fun _ _ _ h => h) (Or.inl ⟨by rfl, ?_⟩) ?_
        rotate_left
        focus (intro w0; go_simp; try with_reducible rfl)
        refine wpAny_take (i := 9) (v := ?_) rfl (by kernel_rfl) (by kernel_rfl) (by kernel_rfl) (fun _ _ _ h => h) (Or.inl ⟨by rfl, ?_⟩) ?_
        rotate_left
        focus (intro w0; go_simp; try with_reducible rfl)
        refine wpAny_take (i := 10) (v := ?_) rfl (by kernel_rfl) (by kernel_rfl) (by kernel_rfl) (fun _ _ _ h => h) (Or.inl ⟨by rfl, ?_⟩) ?_
        rotate_left
        focus (intro w0; go_simp; try with_reducible rfl)
        refine wpAny_take (i := 11) (v := ?_) rfl (by kernel_rfl) (by kernel_rfl) (by kernel_rfl) (fun _ _ _ h => h) (Or.inl ⟨by rfl, ?_⟩) ?_
        rotate_left
        focus (intro w0; go_simp; try with_reducible rfl)
        refine wpAny_ready (rs := [0]) (by kernel_rfl) (by simp) (AllReady.cons rfl (fun K hK => ?_) (AllReady.nil))
        go_simp
        refine hK _ _ ?_
        clear hK K
        refine wpAny_ready (rs := [6]) (by kernel_rfl) (by simp) (AllReady.cons rfl (fun K hK => ?_) (AllReady.nil))
        (refine step_list (by rintro ⟨_, _, h⟩; obtain ⟨_, hv, _⟩ := h; cases hv) (by kernel_rfl) ?_; refine wpList_append_own_at _ rfl _ _ 23 rfl w7.heap.size 31 i0 (.agg #[.int .i64 (0), .int .i64 (0)]) 2 16 Tryd.underlying23 hi0 hz0 hz1 hz2 rfl (by decide) (.slice (some ⟨w7.heap.size, 0, none⟩) 0 0) _ _ rfl HO1.out _ _ _ _ rfl (piece_len HT1.out) (piece0D (HC6.out _ HB1.out) HT1.out) (piece_one _) (by unfold maxLen; simp <;> omega) (by simp <;> omega) HB1.out.size ?_; intro v2 w2 hown2 hgrow2 _ _; have HBA := Lib.hid (HB1.out.grown hgrow2 HB1.out.size (fun q hq => (World.ownsRow.lt HO1.out q hq).1)); have HOA := Lib.hid (Vecs.join (l := []) hown2 (by have := HT1.out; simp <;> omega)); clear hown2 hgrow2)
        refine hK _ _ ?_
        clear hK K
        refine wpAny_ready (rs := [12]) (by kernel_rfl) (by simp) (AllReady.cons rfl (fun K hK => ?_) (AllReady.nil))
        (refine step_list (by rintro ⟨_, _, h⟩; obtain ⟨_, hv, _⟩ := h; cases hv) (by kernel_rfl) ?_; refine wpList_append_own_at _ rfl _ _ 23 rfl w7.heap.size 31 i0 (.agg #[.int .i64 (0), .int .i64 (0)]) 2 16 Tryd.underlying23 hi0 hz0 hz1 hz2 rfl (by decide) _ _ _ rfl HOA.out _ _ _ _ rfl (piece_len HT2.out) (piece0D (HC7.out _ HBA.out) HT2.out) (piece_one _) (by unfold maxLen; simp <;> omega) (by simp <;> omega) HBA.out.size ?_; intro v4 w4 hown4 hgrow4 _ _; have HBD := Lib.hid (HBA.out.grown hgrow4 HBA.out.size (fun q hq => (World.ownsRow.lt HOA.out q hq).1)); have HOD := Lib.hid (Vecs.join hown4 (by have := HT1.out; have := HT2.out; simp <;> omega)); clear hown4 hgrow4)
        refine hK _ _ ?_
        clear hK K
        refine wpAny_seq 13 rfl (by kernel_rfl) ?_
        simp only [List.drop_succ_cons, List.drop_zero]
        all_goals
          rw [HJ.out] at HOD
          have HV4 := Lib.hid (HOD.out.lower (base' := w.heap.size) hw7)
          have HB4 := Lib.hid (HB7.out.trans (HBD.out.mono hw7))
          clear HOD HBD HOA HBA
          go_wp2
          go_returns
          exact ⟨_, rfl, HV4.out, HB4.out⟩
end Go.Proofs.YtgaeibibeekclaaDoor

/- PolygonOf: both sides. -/
namespace Go.Proofs.YtgaeibibeekclaaDoor
open Go.RowKit

/-- the hull, and whether it is told -/
def OfB (l : List V2) : Bool := decide (l.length ≤ 60) && polyB (hullD l)
def OfL (l : List V2) : List V2 := gV (OfB l) (hullD l)
theorem ofL_len (l : List V2) : (OfL l).length ≤ 576460752303423488 := gV_len (fun h => by
  unfold OfB at h
  rw [Bool.and_eq_true] at h
  have := poly_len h.2
  omega)
theorem hull_two {l : List V2} (h : (sortD l).length ≤ 2) : (hullD l).length ≤ 2 := by
  unfold hullD
  generalize sortD l = S at *
  match S, h with
  | [], _ => exact Nat.zero_le _
  | [a], _ => exact Nat.zero_le _
  | [a, b], _ => exact Nat.le_refl _
theorem hull_three {l : List V2} (h : polyB (hullD l) = true) : 3 ≤ (sortD l).length := by
  rcases Nat.lt_or_ge (sortD l).length 3 with c | c
  · have := hull_two (l := l) (by omega)
    have := poly_len h
    omega
  · exact c
/-- the vectors of a hull that is a polygon are small -/
theorem hull_small_all {l : List V2} (h : polyB (hullD l) = true) : ∀ x ∈ l, cnrV x = true := by
  have h3 := hull_three h
  have hb := hull_bound (B := 100) (sortD_asc l) (by omega) (fun q hq => by
    obtain ⟨i, hi, rfl⟩ := List.mem_iff_getElem.1 hq
    have hi2 : i < (hullD l).length := hi
    have := poly_small h i
    rw [cyc_lt hi2] at this
    have e : ((hullD l)[i]?.getD default) = (hullZ (sortD l))[i] := by
      show ((hullZ (sortD l))[i]?.getD default) = _
      rw [List.getElem?_eq_getElem hi]
      rfl
    rw [e] at this
    exact this)
  intro x hx
  obtain ⟨a, b⟩ := hb x ((sortD_mem l x).2 hx)
  unfold cnrV cnrN
  simp
  omega
theorem leastAt_zero {l : List V2} (h : ∀ j, lessB (cyc l j) (cyc l 0) = false) : ∀ i, leastAt l i = 0 := by
  intro i
  induction i with
  | zero => rfl
  | succ i ih =>
    unfold leastAt
    rw [ih, h]
    rfl
/-- a hull begins with the least corner -/
theorem hull_tidy {l : List V2} (h : polyB (hullD l) = true) : tidyP (hullD l) = hullD l := by
  have h3 := hull_three h
  obtain ⟨a, ha⟩ : ∃ a, (sortD l).head? = some a := by
    cases k : sortD l
    · rw [k] at h3; simp at h3
    · exact ⟨_, rfl⟩
  obtain ⟨r, hr⟩ := hull_head (sortD_asc l) (by omega) ha
  have h0 : cyc (hullD l) 0 = a := by
    have hl := poly_len h
    rw [cyc_lt (by omega)]
    show ((hullZ (sortD l))[0]?.getD default) = a
    rw [hr]
    rfl
  have hmin : ∀ q ∈ sortD l, a = q ∨ lexV (subV q a) := by
    intro q hq
    cases k : sortD l with
    | nil => rw [k] at h3; simp at h3
    | cons b S =>
      rw [k] at ha hq
      simp at ha
      subst ha
      rcases List.mem_cons.1 hq with e | e
      · exact .inl e.symm
      · have hs := sortD_asc l
        rw [k] at hs
        unfold Asc at hs
        exact .inr ((List.pairwise_cons.1 hs).1 q e)
  unfold tidyP
  rw [leastAt_zero (fun j => by
    rw [h0]
    cases k : lessB (cyc (hullD l) j) a
    · rfl
    · exfalso
      have hp0 : 0 < (hullD l).length := by have := poly_len h; omega
      have hm : cyc (hullD l) j ∈ sortD l := hull_mem (sortD_asc l) _ (cyc_mem hp0 j)
      have h1 := less_lex.1 k
      rcases hmin _ hm with e | e
      · rw [← e] at h1
        unfold lexV subV at h1
        dsimp only at h1
        omega
      · exact lex_asym h1 e)]
  simp [rot]
theorem hullM_done (l : List V2) : polyB (hullM l) = polyB (hullD l) ∧ gV (polyB (hullM l)) (tidyP (hullM l)) = gV (polyB (hullD l)) (hullD l) := by
  unfold hullM
  split
  · rename_i h3
    have a : polyB (sortD l) = false := poly_short (.inl h3)
    have b : polyB (hullD l) = false := poly_short (.inl (by have := hull_two (l := l) (by omega); omega))
    rw [a, b]
    exact ⟨rfl, rfl⟩
  · refine ⟨rfl, ?_⟩
    cases h : polyB (hullD l)
    · rfl
    · rw [hull_tidy h]
/-- hull and done, in the model -/
theorem small5_of {l : List V2} (h : ∀ x ∈ l, cnrV x = true) : ∀ x ∈ l, small5 x := fun x hx => by
  have := cnr_in (h x hx)
  unfold small5
  omega
set_option maxHeartbeats 8000000 in
theorem polygonOf_any (v : Value) (l : List V2) (w : World) (hl : ReadsVecs w v l) (hg : EtOk w) :
    Calls Tryd.prog 21 #[v] w (GivesVecsR w (OfL l) (OfB l)) := by
  by_cases h60 : l.length ≤ 60
  · have HH := Lib.hid (fun w' (hb : Below w.heap.size w w') (hv : allV l = true) => hullOf_any v l w' (hg.below hb) (hl.below hb) (by omega) (fun x hx => by
      have := List.all_eq_true.1 hv x hx
      have := szs this
      unfold big
      omega))
    have hC : Calls Tryd.prog 52 #[v] w fun e w' => ((allV l = true ∧ e = .returned .nilIface) ∨ (allV l = false ∧ ∃ s, e = .returned (.iface 80 (.agg #[.string s])))) ∧ Below w.heap.size w w' := by
      by_cases h0 : l.length = 0
      · have hl0 : l = [] := List.eq_nil_of_length_eq_zero h0
        subst hl0
        obtain ⟨a, c, rfl, _⟩ := hl
        exact (cornCheck_nil a c w).mono (fun e w' h => ⟨.inl ⟨rfl, h.1⟩, h.2⟩)
      · refine (cornCheck_any v l w hl (by omega) (by omega)).mono (fun e w' h => ?_)
        obtain ⟨h1 | ⟨h1, h2⟩, h3⟩ := h
        · exact ⟨.inl h1, h3⟩
        · exact ⟨.inr ⟨h1, h2⟩, h3⟩
    have HC := Lib.hid hC
    have HZ : Hid (allV l = false → OfB l = false ∧ OfL l = []) := fun h => by
      have : OfB l = false := by
        cases k : OfB l
        · rfl
        · unfold OfB at k
          rw [Bool.and_eq_true] at k
          have hs := hull_small_all k.2
          have : allV l = true := by
            unfold allV
            rw [List.all_eq_true]
            intro x hx
            have := cnr_in (hs x hx)
            exact vec_of (by omega)
          rw [h] at this
          cases this
      unfold OfL
      rw [this]
      exact ⟨rfl, rfl⟩
    have HY : Hid (OfB l = polyB (hullD l) ∧ OfL l = gV (polyB (hullD l)) (hullD l)) := by
      have : OfB l = polyB (hullD l) := by unfold OfB; simp [h60]
      show _ ∧ _
      unfold OfL
      rw [this]
      exact ⟨rfl, rfl⟩
    have j1 : ¬ 60 < (l.length : Int) := by omega
    obtain ⟨a, c, rfl, _⟩ := hl
    generalize OfB l = B at *
    generalize OfL l = D at *
    generalize allV l = V at *
    generalize polyB (hullD l) = P at *
    generalize hullD l = H at *
    clear h60 hC
    go_enter Tryd.func21, Tryd.ntmps21
    go_wp2_with fail
    refine Calls.mono HC.out ?_
    rintro e w1 ⟨⟨rfl, rfl⟩ | ⟨rfl, s, rfl⟩, hb1⟩
    · obtain ⟨rfl, rfl⟩ := HY.out
      clear HC HZ HY
      go_wp2_with fail
      refine Calls.mono (none_nil _) ?_
      rintro e w2 ⟨rfl, hb2⟩
      have hb := belowTo hb1 hb2
      have HH2 := Lib.hid (HH.out w2 hb (by simp))
      clear hb1 hb2 HH
      go_wp2_with fail
      refine Calls.mono HH2.out ?_
      rintro e w3 ⟨v3, rfl, I3, hb3⟩
      have HI3 := Lib.hid (I3.lower hb.size)
      replace hb := belowTo hb hb3
      clear hb3 I3 HH2
      go_wp2
      go_returns
      exact ⟨_, rfl, HI3.out, hb⟩
    · obtain ⟨rfl, rfl⟩ := HZ.out rfl
      clear HC HZ HY HH
      go_wp2_with fail
      refine Calls.mono (none_hit s _ (hg.below hb1)) ?_
      rintro e w2 ⟨rfl, hb2⟩
      have hb := belowTo hb1 hb2
      clear hb1 hb2
      go_wp2
      go_returns
      exact ⟨_, rfl, VecsR.nil _ _, hb⟩
  · have hB : OfB l = false := by unfold OfB; simp; omega
    have j1 : 60 < (l.length : Int) := by omega
    obtain ⟨a, c, rfl, _⟩ := hl
    unfold OfL
    rw [hB]
    clear hB
    go_enter Tryd.func21, Tryd.ntmps21
    go_wp2
    go_returns
    exact ⟨_, rfl, VecsR.nil _ _, Below.refl _ _⟩
set_option maxHeartbeats 8000000 in
theorem specPolygonOf_any (v : Value) (l : List V2) (w : World) (hl : ReadsVecs w v l) :
    Calls Tryd.prog 24 #[v] w (GivesVecsOk w (OfL l) (OfB l)) := by
  have hE := Lib.hid (fun w' => Vecs.empty w')
  by_cases h60 : l.length ≤ 60
  · have HH := Lib.hid (fun w' (hb : Below w.heap.size w w') (hs : ∀ x ∈ l, cnrV x = true) => l6gHull_any v l w' (hl.below hb) (by omega) (small5_of hs))
    have HD := Lib.hid (fun v' b' w' (hI : Vecs w' b' v' (hullM l)) (hm : (hullM l).length ≤ 576460752303423488) => l6gDone_any v' (hullM l) w' (hI.reads hm))
    have hM : (hullM l).length ≤ 576460752303423488 := by
      have h1 := sortD_len l
      unfold hullM
      split
      · omega
      · have h1' := half_len (sortD l)
        have h2' := half_len (sortD l).reverse
        have h4 : (sortD l).reverse.length = (sortD l).length := by simp
        show ((halfH (sortD l)).tail.reverse ++ (halfH (sortD l).reverse).tail.reverse).length ≤ _
        rw [List.length_append]
        omega
    have HMl := Lib.hid hM
    unfold TidyS at HD
    rw [(hullM_done l).2, (hullM_done l).1] at HD
    have HY : OfB l = polyB (hullD l) ∧ OfL l = gV (polyB (hullD l)) (hullD l) := by
      have : OfB l = polyB (hullD l) := by unfold OfB; simp [h60]
      unfold OfL
      rw [this]
      exact ⟨rfl, rfl⟩
    have HZ : Hid (∀ k, k < l.length → cnrV (cyc l k) = false → polyB (hullD l) = false) := fun k hk h => by
      cases q : polyB (hullD l)
      · rfl
      · have := hull_small_all q _ (cyc_mem (by omega) k)
        rw [h] at this
        cases this
    have HG : Hid ((∀ k, k < l.length → cnrV (cyc l k) = true) → ∀ x ∈ l, cnrV x = true) := fun h x hx => by
      obtain ⟨i, hi, rfl⟩ := List.mem_iff_getElem.1 hx
      have := h i hi
      rwa [cyc_lt hi, List.getElem?_eq_getElem hi] at this
    rw [HY.1, HY.2]
    have j1 : ¬ 60 < (l.length : Int) := by omega
    have HS := Lib.hid (fun x y w' => l6gSmall_any x y w')
    obtain ⟨a, c, rfl, _, _, hcell⟩ := hl
    have HCl := Lib.hid hcell
    have HDz : Hid (polyB (hullD l) = false → gV (polyB (hullD l)) (hullD l) = []) := fun h => by rw [h]; rfl
    generalize gV (polyB (hullD l)) (hullD l) = D at *
    generalize polyB (hullD l) = P at *
    generalize hullM l = M at *
    clear hcell HY hM
    go_enter Tryd.func24, Tryd.ntmps24
    go_wp2
    go_loopw [4] (fun s wr => ∃ k : Nat, k ≤ l.length ∧ s = .int .i64 k ∧ Hid (∀ j, j < k → cnrV (cyc l j) = true) ∧ Below w.heap.size w wr) (fun s _ => l.length - (intOf s).toNat)
    case atStart => exact ⟨0, Nat.zero_le _, rfl, fun j hj => by omega, Below.refl _ _⟩
    case round =>
      obtain ⟨k, hk, rfl, HEx, hB⟩ := hrel
      have i1 : (0 : Int) ≤ (k : Int) := by omega
      by_cases hlt : k < l.length
      · have i2 : (k : Int) < (l.length : Int) := by omega
        obtain ⟨bb, off, rfl, hbb, hcs⟩ := HCl.out (by omega)
        have d0 := (hB.cell (p := ⟨bb, off + k * 2, none⟩) hbb).trans (hcs k hlt).1
        have d1 := (hB.cell (p := ⟨bb, off + k * 2 + 1, none⟩) hbb).trans (hcs k hlt).2
        have HZk := Lib.hid (fun h => HZ.out k hlt h)
        have HE2 : Hid (cnrV (cyc l k) = true → ∀ j, j < k + 1 → cnrV (cyc l j) = true) := fun h j h2 => by
          by_cases e : j = k
          · subst e; exact h
          · exact HEx.out j (by omega)
        generalize hV : cyc l k = V at d0 d1 HZk HE2
        clear hV
        obtain ⟨x, y⟩ := V
        dsimp only at d0 d1
        have HSk := Lib.hid (fun w' => HS.out x y w')
        generalize hz : cnrV (x, y) = z at HZk HE2 HSk
        clear hz
        have hs := hB.size
        clear HEx HZ HG HS HH HD hcs HCl
        go_wp2_with fail
        refine Calls.mono (HSk.out _) ?_
        rintro e w2 ⟨rfl, hb2⟩
        have hA : Below w.heap.size w w2 := hB.trans ((belowTo (a := wr) (by go_grown) hb2).mono hs)
        clear hb2 HSk
        cases z
        · obtain rfl := HZk.out rfl
          obtain rfl := HDz.out rfl
          have hs2 := hA.size
          have HE3 := Lib.hid ((hE.out w2).lower hs2)
          clear HE2 HZk
          go_wp2
          go_returns
          exact ⟨_, rfl, HE3.out, by go_grown⟩
        · have HE3 := Lib.hid (HE2.out rfl)
          clear HE2 HZk
          go_wp2
          go_roundw
          case rel => exact ⟨k + 1, by omega, by go_num, HE3.out, hA⟩
          case measure => simp [intOf]; omega
      · obtain rfl : k = l.length := by omega
        have i2 : ¬ ((l.length : Nat) : Int) < (l.length : Int) := by omega
        have HH2 := Lib.hid (HH.out wr hB (HG.out HEx.out))
        clear HEx HZ HG HS HH HCl HDz hE
        go_wp2_with fail
        refine Calls.mono HH2.out ?_
        rintro e w2 ⟨v2, rfl, I2, hb2⟩
        have HD2 := Lib.hid (HD.out v2 _ w2 I2 HMl.out)
        have hb := belowTo hB hb2
        clear hb2 I2 HD HH2
        go_wp2_with fail
        refine Calls.mono HD2.out ?_
        rintro e w3 ⟨v3, rfl, I3, hb3⟩
        have HI3 := Lib.hid (I3.lower hb.size)
        replace hb := belowTo hb hb3
        clear hb3 I3 HD2
        go_wp2
        go_returns
        exact ⟨_, rfl, HI3.out, hb⟩
  · have hB : OfB l = false := by unfold OfB; simp; omega
    have j1 : 60 < (l.length : Int) := by omega
    have HE := Lib.hid (hE.out w)
    obtain ⟨a, c, rfl, _⟩ := hl
    unfold OfL
    rw [hB]
    clear hB
    go_enter Tryd.func24, Tryd.ntmps24
    go_wp2
    go_returns
    exact ⟨_, rfl, HE.out, by go_grown⟩
end Go.Proofs.YtgaeibibeekclaaDoor
