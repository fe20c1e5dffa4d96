/- Lists of lists of numbers: the same, marked, held. -/
import Derived.Test.YtnhanbaaclkjaaaDoorEp
namespace Go.Proofs.YtnhanbaaclkjaaaDoor
open Go.RowKit

theorem markIntS_from (v : Value) (b k : Nat) (l : List Int) (w : World) (I : Ints w b v l) (hk : k ≤ 1000) (hm : l.length ≤ 1152921504606846976) :
    Calls Tryd.prog 24 #[v, .int .i64 k] w fun e w' => e = .returned (.int .i64 ((k + l.length : Nat) : Int)) ∧ Ints w' b v (marks k l.length) ∧ w.grownBy w' v.ownBlock := by
  rcases I.form with ⟨rfl, a, c, rfl⟩ | ⟨hne, g, c, rfl, _, _, _⟩
  · refine Calls.mono (markIntS_nil a c k w) ?_
    rintro e w' ⟨rfl, rfl⟩
    exact ⟨rfl, I, World.grownBy.refl _ _⟩
  · refine Calls.mono (markIntS_row g c b k l.length l w rfl I (by omega) hm) ?_
    rintro e w' ⟨rfl, h2, h3⟩
    exact ⟨rfl, Ints.as (marks_len k l.length).symm h2, h3⟩
theorem heldIntS_from (v : Value) (b k n : Nat) (w : World) (I : Ints w b v (marks k n)) (hk : k ≤ 1000) (hm : n ≤ 1152921504606846976) :
    Calls Tryd.prog 68 #[v, .int .i64 k] w fun e w' => e = .returned (.int .i64 ((k + n : Nat) : Int)) ∧ w = w' := by
  rcases I.form with ⟨h0, a, c, rfl⟩ | ⟨hne, g, c, rfl, _, _, _⟩
  · have hn : n = 0 := by have := marks_len k n; rw [h0] at this; exact this.symm
    subst hn
    exact heldIntS_nil a c k w
  · rw [marks_len] at I ⊢
    have I' : w.ownsRow b 3 1 (.slice (some ⟨g, 0, none⟩) n c) n (intsV (marks k n)) := by
      have := I; unfold Ints at this; rwa [marks_len] at this
    exact heldIntS_row g c b k n w I' hk hm

/-! how many numbers lie ahead of a row; rows marked -/
def rowOf (L : List (List Int)) (r : Nat) : List Int := L[r]?.getD []
def offS (L : List (List Int)) : Nat → Nat
  | 0 => 0
  | r + 1 => offS L r + (rowOf L r).length
def markedS (L : List (List Int)) (r : Nat) : List (List Int) := (List.range L.length).map fun i => if i < r then marks (1 + offS L i) (rowOf L i).length else rowOf L i
theorem markedS_len (L : List (List Int)) (r : Nat) : (markedS L r).length = L.length := by simp [markedS]
theorem markedS_at {L : List (List Int)} {r i : Nat} (h : i < L.length) : rowOf (markedS L r) i = if i < r then marks (1 + offS L i) (rowOf L i).length else rowOf L i := by
  have e : (markedS L r)[i]? = some (if i < r then marks (1 + offS L i) (rowOf L i).length else rowOf L i) := by simp [markedS, h]
  show ((markedS L r)[i]?).getD [] = _
  rw [e]
  rfl
theorem markedS_zero (L : List (List Int)) : markedS L 0 = L := by
  refine List.ext_getElem (markedS_len L 0) (fun i h1 h2 => ?_)
  simp [markedS, rowOf, h2]
theorem markedS_set (L : List (List Int)) (r : Nat) : (markedS L r).set r (marks (1 + offS L r) (rowOf L r).length) = markedS L (r + 1) := by
  refine List.ext_getElem (by rw [List.length_set, markedS_len, markedS_len]) (fun i h1 h2 => ?_)
  rw [List.getElem_set]
  simp only [markedS, List.getElem_map, List.getElem_range]
  by_cases e : r = i
  · subst e
    rw [if_pos rfl, if_pos (by omega)]
  · rw [if_neg e]
    by_cases h3 : i < r
    · rw [if_pos h3, if_pos (by omega)]
    · rw [if_neg h3, if_neg (by omega)]
theorem offS_mono (L : List (List Int)) {r s : Nat} (h : r ≤ s) : offS L r ≤ offS L s := by
  induction s with
  | zero => rw [show r = 0 by omega]; exact Nat.le_refl _
  | succ s ih =>
    by_cases e : r = s + 1
    · subst e; exact Nat.le_refl _
    · have := ih (by omega)
      show _ ≤ offS L s + _
      omega
theorem row_le {L : List (List Int)} {r : Nat} (h : r < L.length) : offS L r + (rowOf L r).length ≤ offS L L.length := offS_mono L (r := r + 1) (by omega)
/-- one row of it is written anew -/
theorem Rows2.put {W W' : World} {lo hi r g c : Nat} {u : Value} {L : List (List Int)} {row : List Int} (h : Rows2 W lo hi (.slice (some ⟨g, 0, none⟩) L.length c) L) (hr : r < L.length) (hc : W.cell? ⟨g, r, none⟩ = some u)
    (hu : Ints W' lo u row) (hg : W.grownBy W' u.ownBlock) : Rows2 W' lo hi (.slice (some ⟨g, 0, none⟩) L.length c) (L.set r row) := by
  obtain ⟨h1, h2, vs, h3, h4, h5, h6⟩ := h
  have hne : 3 ≠ 25 := by decide
  have hvr : vs[r]? = some u := by rw [← hc, World.ownsRow.cellAt h4 r (by omega)]
  obtain ⟨row0, _, q2, q3, q4⟩ := h5 r u hvr
  refine ⟨Nat.le_trans h1 hg.size, h2, vs, by rw [List.length_set]; exact h3, by rw [List.length_set]; exact own_kept h4 hg (fun k hk e => rows_type hne q2 h4 e hk), fun j x hj => ?_, h6⟩
  by_cases e : j = r
  · subst e
    rw [hvr] at hj
    obtain rfl : u = x := by injection hj
    exact ⟨row, by rw [List.getElem?_set_self (by omega)], hu, q3, q4⟩
  · obtain ⟨rw0, p1, p2, p3, p4⟩ := h5 j x hj
    refine ⟨rw0, by rw [List.getElem?_set_ne (fun q => e q.symm)]; exact p1, own_kept p2 hg (fun k hk q => ?_), p3, p4⟩
    rcases Nat.lt_or_gt_of_ne e with c1 | c1
    · exact h6 j r x u k c1 hj hvr hk q
    · exact h6 r j u x k c1 hvr hj q hk
theorem Rows2.len_eq {W : World} {lo hi : Nat} {v : Value} {L : List (List Int)} (h : Rows2 W lo hi v L) : ∃ a c, v = .slice a L.length c := by
  obtain ⟨_, _, vs, _, h4, _⟩ := h
  rcases h4.2 with ⟨rfl, h0⟩ | ⟨g, cap, cur, rfl, _⟩
  · exact ⟨none, 0, by rw [h0]⟩
  · exact ⟨_, cap, rfl⟩
set_option maxHeartbeats 8000000 in
theorem eqIntSS_same (v1 v2 : Value) (lo1 hi1 lo2 hi2 : Nat) (L : List (List Int)) (w : World) (h1 : Rows2 w lo1 hi1 v1 L) (h2 : Rows2 w lo2 hi2 v2 L) :
    Calls Tryd.prog 37 #[v1, v2] w fun e w' => e = .returned (.bool true) ∧ Below w.heap.size w w' := by
  obtain ⟨a1, c1, rfl⟩ := h1.len_eq
  obtain ⟨a2, c2, rfl⟩ := h2.len_eq
  have HA := Lib.hid (fun h0 => h1.at h0)
  have HB := Lib.hid (fun h0 => h2.at h0)
  have HE := Lib.hid (fun u1 u2 b1 b2 l w' I1 I2 => eqIntS_same u1 u2 b1 b2 l w' I1 I2)
  obtain ⟨n, hn⟩ : ∃ n, n = L.length := ⟨_, rfl⟩
  have hm : n ≤ maxLen := by
    by_cases h0 : 0 < L.length
    · obtain ⟨_, _, _, _, h, _⟩ := h1.at h0; omega
    · omega
  unfold maxLen at hm
  rw [← hn] at HA HB ⊢
  clear h1 h2 hn
  go_enter Tryd.func37, Tryd.ntmps37
  go_wp2
  go_loopw [5] (fun s5 wr => ∃ r : Nat, s5 = .int .i64 r ∧ r ≤ n ∧ Below w.heap.size w wr) (fun s5 _ => n - (intOf s5).toNat)
  case atStart => exact ⟨0, rfl, Nat.zero_le _, Below.refl _ _⟩
  case round =>
    obtain ⟨r, rfl, hr, hB⟩ := hrel
    have i0 : (0 : Int) ≤ (r : Int) := by omega
    by_cases hlt : r < n
    · have i1 : (r : Int) < (n : Int) := by omega
      obtain ⟨g1, d1, e1, hg1, _, hc1⟩ := HA.out (by omega)
      obtain ⟨g2, d2, e2, hg2, _, hc2⟩ := HB.out (by omega)
      injection e1 with e1 _ e1c
      injection e2 with e2 _ e2c
      subst e1 e2 e1c e2c
      obtain ⟨p1, q1, r1, k1, I1, _⟩ := hc1 r hlt
      obtain ⟨p2, q2, r2, k2, I2, _⟩ := hc2 r hlt
      have l1 := cell_lt k1
      have l2 := cell_lt k2
      have m1 := (hB.cell (p := ⟨g1, r, none⟩) l1).trans k1
      have m2 := (hB.cell (p := ⟨g2, r, none⟩) l2).trans k2
      have HEr := Lib.hid (HE.out _ _ _ _ _ wr.drew ((I1.below hB).below (by go_grown)) ((I2.below hB).below (by go_grown)))
      clear hc1 hc2 I1 I2 k1 k2
      go_wp2
      refine wp_region_any (by kernel_rfl) ?_
      try (change wpAny _ _ _ _ _ _ _ (World.drew _))
      refine wpAny_take (i := 0) (v := ?_) rfl (by kernel_rfl) (by kernel_rfl) (by kernel_rfl) (fun _ _ _ h => h) (Or.inl ⟨by rfl, ?_⟩) ?_
      rotate_left
      focus (intro w0; go_simp; try with_reducible rfl)
      refine wpAny_take (i := 1) (v := ?_) rfl (by kernel_rfl) (by kernel_rfl) (by kernel_rfl) (fun _ _ _ h => h) (Or.inl ⟨by rfl, ?_⟩) ?_
      rotate_left
      focus (intro w0; go_simp; try with_reducible rfl)
      refine wpAny_take (i := 2) (v := ?_) rfl (by kernel_rfl) (by kernel_rfl) (by kernel_rfl) (fun _ _ _ h => h) (Or.inl ⟨by rfl, ?_⟩) ?_
      rotate_left
      focus (intro w0; go_simp; try with_reducible rfl)
      refine wpAny_take (i := 4) (v := ?_) rfl (by kernel_rfl) (by kernel_rfl) (by kernel_rfl) (fun _ _ _ h => h) (Or.inl ⟨by rfl, ?_⟩) ?_
      rotate_left
      focus (intro w0; go_simp; try with_reducible rfl)
      refine wpAny_take (i := 5) (v := ?_) rfl (by kernel_rfl) (by kernel_rfl) (by kernel_rfl) (fun _ _ _ h => h) (Or.inl ⟨by rfl, ?_⟩) ?_
      rotate_left
      focus (intro w0; go_simp; try with_reducible rfl)
      refine wpAny_take (i := 6) (v := ?_) rfl (by kernel_rfl) (by kernel_rfl) (by kernel_rfl) (fun _ _ _ h => h) (Or.inl ⟨by rfl, ?_⟩) ?_
      rotate_left
      focus (intro w0; go_simp; try with_reducible rfl)
      refine wpAny_ready (rs := [3, 7]) (by kernel_rfl) (by simp) (AllReady.cons rfl (fun K hK => ?_) (AllReady.cons rfl (fun K hK => ?_) (AllReady.nil)))
      focus
        go_simp
        refine hK _ _ ?_
        clear hK K
        refine wpAny_ready (rs := [7]) (by kernel_rfl) (by simp) (AllReady.cons rfl (fun K hK => ?_) (AllReady.nil))
        go_simp
        refine hK _ _ ?_
        clear hK K
        refine wpAny_ready (rs := [8]) (by kernel_rfl) (by simp) (AllReady.cons rfl (fun K hK => ?_) (AllReady.nil))
        go_simp
        (refine Calls.mono HEr.out ?_; rintro e w2 ⟨rfl, hbX⟩; replace hbX := undrew hbX; replace hB := belowTo hB hbX; clear hbX)
        refine hK _ _ ?_
        clear hK K
        refine wpAny_seq 9 rfl (by kernel_rfl) ?_
        simp only [List.drop_succ_cons, List.drop_zero]
      rotate_left 1
      focus
        go_simp
        refine hK _ _ ?_
        clear hK K
        refine wpAny_ready (rs := [3]) (by kernel_rfl) (by simp) (AllReady.cons rfl (fun K hK => ?_) (AllReady.nil))
        go_simp
        refine hK _ _ ?_
        clear hK K
        refine wpAny_ready (rs := [8]) (by kernel_rfl) (by simp) (AllReady.cons rfl (fun K hK => ?_) (AllReady.nil))
        go_simp
        (refine Calls.mono HEr.out ?_; rintro e w2 ⟨rfl, hbX⟩; replace hbX := undrew hbX; replace hB := belowTo hB hbX; clear hbX)
        refine hK _ _ ?_
        clear hK K
        refine wpAny_seq 9 rfl (by kernel_rfl) ?_
        simp only [List.drop_succ_cons, List.drop_zero]
      all_goals
        go_wp2
        go_roundw
        case rel => exact ⟨r + 1, by go_num, by omega, hB⟩
        case measure => simp [intOf]; omega
    · obtain rfl : r = n := by omega
      have i2 : ¬ (r : Int) < (r : Int) := by omega
      go_wp2
      go_returns
      exact ⟨rfl, hB⟩
set_option maxHeartbeats 8000000 in
theorem markIntSS_own (v : Value) (lo hi : Nat) (L : List (List Int)) (w : World) (h : Rows2 w lo hi v L) (hT : offS L L.length ≤ 900) (hlo : lo ≤ w.heap.size) :
    Calls Tryd.prog 38 #[v, .int .i64 1] w fun e w' => e = .returned (.int .i64 ((1 + offS L L.length : Nat) : Int)) ∧ Rows2 w' lo hi v (markedS L L.length) ∧ Below lo w w' := by
  have HR0 : Hid (Rows2 w lo hi v (markedS L 0)) := by show Rows2 _ _ _ _ _; rw [markedS_zero]; exact h
  have HMl := Lib.hid (fun r => markedS_len L r)
  have HMa := Lib.hid (fun r i (hi : i < L.length) => markedS_at (L := L) (r := r) hi)
  have HMs := Lib.hid (fun r => markedS_set L r)
  have HOf := Lib.hid (fun r (hr : r < L.length) => row_le (L := L) hr)
  have HOs : Hid (∀ r, offS L (r + 1) = offS L r + (rowOf L r).length) := fun r => rfl
  have HO0 : Hid (offS L 0 = 0) := rfl
  obtain ⟨a, c, rfl⟩ := h.len_eq
  have hm : L.length ≤ maxLen := by
    by_cases h0 : 0 < L.length
    · obtain ⟨_, _, _, _, h, _⟩ := h.at h0; omega
    · omega
  unfold maxLen at hm
  obtain ⟨n, hn⟩ : ∃ n, n = L.length := ⟨_, rfl⟩
  rw [← hn] at HMl HMa HOf HR0 hT hm ⊢
  have HN := Lib.hid hn
  clear h hn
  go_enter Tryd.func38, Tryd.ntmps38
  go_wp2
  go_loopw [1, 5] (fun s1 s5 wr => ∃ r : Nat, s5 = .int .i64 r ∧ r ≤ n ∧ s1 = .int .i64 ((1 + offS L r : Nat) : Int) ∧ Hid (Rows2 wr lo hi (.slice a n c) (markedS L r)) ∧ Below lo w wr) (fun _ s5 _ => n - (intOf s5).toNat)
  case atStart => exact ⟨0, rfl, Nat.zero_le _, by rw [HO0.out]; rfl, HR0, Below.refl _ _⟩
  case round =>
    obtain ⟨r, rfl, hr, rfl, HR, hB⟩ := hrel
    clear HR0
    have i0 : (0 : Int) ≤ (r : Int) := by omega
    by_cases hlt : r < n
    · have i1 : (r : Int) < (n : Int) := by omega
      obtain ⟨g, d, hv, hg, _, hc⟩ := HR.out.at (by rw [HMl.out]; omega)
      rw [HMl.out] at hv
      injection hv with e1 _ e1c
      subst e1 e1c
      obtain ⟨p1, q1, r1, k1, I1, _⟩ := hc r (by rw [HMl.out]; exact hlt)
      have eI : (markedS L r)[r]?.getD [] = rowOf L r := by
        have := HMa.out r r hlt
        rw [if_neg (Nat.lt_irrefl r)] at this
        exact this
      rw [eI] at I1
      have hle := HOf.out r hlt
      have HC := Lib.hid (markIntS_from _ _ (1 + offS L r) _ wr I1 (by omega) (by omega))
      have HS1 := Lib.hid (HMs.out r)
      have HP := Lib.hid (fun w' (J : Ints w' lo (.slice p1 q1 r1) (marks (1 + offS L r) (rowOf L r).length)) (hG : wr.grownBy w' (Value.slice p1 q1 r1).ownBlock) => Rows2.put (L := markedS L r) (r := r) (row := marks (1 + offS L r) (rowOf L r).length) (by rw [HMl.out]; exact HR.out) (by rw [HMl.out]; exact hlt) k1 J hG)
      have HBk := Lib.hid (I1.block)
      have e9 : ((1 + offS L r + (rowOf L r).length : Nat) : Int) = ((1 + offS L (r + 1) : Nat) : Int) := by rw [HOs.out]; omega
      rw [e9] at HC
      have hs := hB.size
      clear hc eI hle I1 e9
      obtain ⟨o2, ho2⟩ : ∃ o2, o2 = offS L (r + 1) := ⟨_, rfl⟩
      rw [← ho2] at HC
      have HO2 := Lib.hid ho2
      clear ho2
      generalize offS L r = o1 at *
      generalize (rowOf L r).length = m1 at *
      go_wp2_with fail
      refine Calls.mono HC.out ?_
      rintro e w2 ⟨rfl, J, hG⟩
      have hR2 := HP.out w2 J hG
      rw [HS1.out, HMl.out] at hR2
      have HR2 := Lib.hid hR2
      have hB2 : Below lo w w2 := hB.grown hG (by omega) (fun k hk => (HBk.out k hk).1)
      clear hR2 J hG HP HC HR
      go_wp2
      go_roundw
      case rel => exact ⟨r + 1, by go_num, by omega, by rw [← HO2.out]; go_num, HR2, hB2⟩
      case measure => simp [intOf]; omega
    · obtain rfl : r = n := by omega
      have i2 : ¬ (r : Int) < (r : Int) := by omega
      go_wp2
      go_returns
      exact ⟨rfl, HR.out, hB⟩
set_option maxHeartbeats 8000000 in
theorem heldIntSS_own (v : Value) (lo hi : Nat) (L : List (List Int)) (w : World) (h : Rows2 w lo hi v (markedS L L.length)) (hT : offS L L.length ≤ 900) :
    Calls Tryd.prog 39 #[v, .int .i64 1] w fun e w' => e = .returned (.int .i64 ((1 + offS L L.length : Nat) : Int)) ∧ w = w' := by
  have HMa := Lib.hid (fun i (hi : i < L.length) => (markedS_at (L := L) (r := L.length) hi).trans (if_pos hi))
  have HOf := Lib.hid (fun r (hr : r < L.length) => row_le (L := L) hr)
  have HOs : Hid (∀ r, offS L (r + 1) = offS L r + (rowOf L r).length) := fun r => rfl
  have HO0 : Hid (offS L 0 = 0) := rfl
  obtain ⟨a, c, rfl⟩ := h.len_eq
  have hml : (markedS L L.length).length = L.length := markedS_len L _
  have HAt := Lib.hid (fun h0 => h.at h0)
  have hm : L.length ≤ maxLen := by
    by_cases h0 : 0 < L.length
    · obtain ⟨_, _, _, _, h, _⟩ := h.at (by rw [hml]; exact h0); omega
    · omega
  unfold maxLen at hm
  rw [hml] at HAt ⊢
  obtain ⟨n, hn⟩ : ∃ n, n = L.length := ⟨_, rfl⟩
  rw [← hn] at HMa HOf HAt hT hm ⊢
  clear h hn hml
  go_enter Tryd.func39, Tryd.ntmps39
  go_wp2
  go_loop [1, 5] (fun s1 s5 => ∃ r : Nat, s5 = .int .i64 r ∧ r ≤ n ∧ s1 = .int .i64 ((1 + offS L r : Nat) : Int)) (fun _ s5 => n - (intOf s5).toNat)
  case atStart => exact ⟨0, rfl, Nat.zero_le _, by rw [HO0.out]; rfl⟩
  case round =>
    obtain ⟨r, rfl, hr, rfl⟩ := hrel
    have i0 : (0 : Int) ≤ (r : Int) := by omega
    by_cases hlt : r < n
    · have i1 : (r : Int) < (n : Int) := by omega
      obtain ⟨g, d, hv, hg, _, hc⟩ := HAt.out (by omega)
      injection hv with e1 _ e1c
      subst e1 e1c
      obtain ⟨p1, q1, r1, k1, I1, _⟩ := hc r hlt
      have eI : (markedS L n)[r]?.getD [] = marks (1 + offS L r) (rowOf L r).length := HMa.out r hlt
      rw [eI] at I1
      have hle := HOf.out r hlt
      have HC := Lib.hid (heldIntS_from _ _ (1 + offS L r) _ w I1 (by omega) (by omega))
      have e9 : ((1 + offS L r + (rowOf L r).length : Nat) : Int) = ((1 + offS L (r + 1) : Nat) : Int) := by rw [HOs.out]; omega
      rw [e9] at HC
      clear hc eI hle I1 e9
      obtain ⟨o2, ho2⟩ : ∃ o2, o2 = offS L (r + 1) := ⟨_, rfl⟩
      rw [← ho2] at HC
      have HO2 := Lib.hid ho2
      clear ho2
      generalize offS L r = o1 at *
      have z0 : (0 : Int) ≤ ((1 + o2 : Nat) : Int) := by omega
      have z1 : ¬ ((1 + o2 : Nat) : Int) < 0 := by omega
      have z2 : ¬ 1 + (o2 : Int) < 0 := by omega
      go_wp2_with fail
      refine Calls.mono HC.out ?_
      rintro e w2 ⟨rfl, rfl⟩
      go_wp2
      go_round
      case rel => exact ⟨r + 1, by go_num, by omega, by rw [← HO2.out]; go_num⟩
      case measure => simp [intOf]; omega
    · obtain rfl : r = n := by omega
      have i2 : ¬ (r : Int) < (r : Int) := by omega
      go_wp2
      go_returns
      exact ⟨rfl, rfl⟩
end Go.Proofs.YtnhanbaaclkjaaaDoor
