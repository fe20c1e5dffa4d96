/- Divisors: the model's side: products; the divisor of a vector; the canonical one. -/
import Derived.Test.YtpdbpfajkkkgdabDoorQn
import Derived.Test.YtpdbpfajkkkgdabDoorB2
namespace Go.Proofs.YtpdbpfajkkkgdabDoor
open Go.RowKit

theorem gz_degs {l : List V2} {d : List Int} {k : Nat} (h : k < l.length) : gz (degsZ l d) k = degZ l d k := gz_tab _ h
set_option maxHeartbeats 8000000 in
theorem l4Product_any (v u1 u2 : Value) (l : List V2) (a b : List Int) (w : World) (hv : ReadsVecs w v l) (h1 : ReadsInts w u1 a) (h2 : ReadsInts w u2 b) (ha : a.length = l.length) (hb : b.length = l.length) (hm : l.length ≤ 20) (h0 : 0 < l.length) (hS : Smooth l) (hda : bnd 100 a) (hdb : bnd 101 b) :
    Calls Tryd.prog 48 #[v, u1, u2] w fun e w' => e = .returned (.int .i64 (prodZ l a b)) ∧ Below w.heap.size w w' := by
  have HD := Lib.hid (l4Degrees_any v u2 l b w hv h2 hb (by omega) h0 hS hdb)
  have hq : ∀ i, -404000404 ≤ degZ l b i ∧ degZ l b i ≤ 404000404 := fun i => by have := deg_bnd hS hdb i; omega
  have HB := Lib.hid (fun k (hk : k ≤ 20) => dot_bnd hda hq hk)
  have HT := Lib.hid (fun i => dot_term hda hq i)
  have HS := Lib.hid (fun k => dot_succ a (degZ l b) k)
  have HG := Lib.hid (fun k (h : k < l.length) => gz_degs (l := l) (d := b) h)
  have HP : Hid (prodZ l a b = dotD a (degZ l b) l.length) := rfl
  have HL2 := Lib.hid (degs_len l b)
  obtain ⟨p1, p2, rfl, _, _, _⟩ := hv
  obtain ⟨p3, p4, rfl, _⟩ := h2.len
  obtain ⟨bb, off, c, rfl, _, hbb, hcs⟩ := h1.open (by omega)
  have HC := Lib.hid hcs
  rw [ha] at HC ⊢
  obtain ⟨n, hn⟩ : ∃ n, n = l.length := ⟨_, rfl⟩
  have HN := Lib.hid hn
  rw [← hn] at HC HG HP hm h0 HD HL2 ⊢
  have H00 : Hid (dotD a (degZ l b) 0 = 0) := rfl
  clear h1 h2 ha hb hda hdb hS hcs hq hn
  go_enter Tryd.func48, Tryd.ntmps48
  go_wp2_with fail
  refine Calls.mono HD.out ?_
  rintro e w1 ⟨v7, rfl, hI, hb1⟩
  obtain ⟨bv, ov, cv, rfl, _, hbv, hvs⟩ := (hI.reads (show (degsZ l b).length ≤ 1152921504606846976 by have := HL2.out; omega)).open (by have := HL2.out; omega)
  rw [HL2.out] at hvs ⊢
  have HVs := Lib.hid hvs
  have hs1 := hb1.size
  clear hI hvs HD
  go_wp2
  go_loopw [8, 9] (fun s8 s9 wr => ∃ k : Nat, k ≤ n ∧ s8 = .int .i64 (dotD a (degZ l b) k) ∧ s9 = .int .i64 k ∧ Below w1.heap.size w1 wr) (fun _ s9 _ => n - (intOf s9).toNat)
  case atStart => exact ⟨0, Nat.zero_le _, by rw [H00.out], rfl, Below.refl _ _⟩
  case round =>
    obtain ⟨k, hk, rfl, rfl, hB⟩ := hrel
    have i1 : (0 : Int) ≤ (k : Int) := by omega
    by_cases hlt : k < n
    · have i2 : (k : Int) < (n : Int) := by omega
      have hBw := hb1.trans (hB.mono hs1)
      have d0 := HC.out wr hBw k hlt
      have d1 := HVs.out wr hB k hlt
      rw [HG.out k hlt] at d1
      have b1 := HB.out k (by omega)
      have b2 := HT.out k
      have HSk := Lib.hid (HS.out k)
      generalize dotD a (degZ l b) k = x at *
      generalize gz a k = z at *
      generalize degZ l b k = t at *
      have q1 : IntKind.i64.wrap (z * t) = z * t := by rw [IntKind.wrap_i64]; omega
      have q2 : IntKind.i64.wrap (x + z * t) = x + z * t := by rw [IntKind.wrap_i64]; omega
      clear HC HVs HG HB HT HS hBw
      go_wp2_with fail
      go_quiet (fail)
      go_wp2
      go_roundw
      case rel => exact ⟨k + 1, by omega, by rw [HSk.out], by go_num, below_drewN hB _⟩
      case measure => simp [intOf]; omega
    · obtain rfl : k = n := by omega
      have i2 : ¬ (k : Int) < (k : Int) := by omega
      have hBw := hb1.trans (hB.mono hs1)
      go_wp2
      go_returns
      exact ⟨by rw [HP.out]; rfl, hBw⟩
/-! products with vectors that may be great -/
set_option maxHeartbeats 1000000 in
theorem l1ProductBig_any (x1 y1 x2 y2 : Int) (w : World) (h1 : vecB x1 y1 = true) (h2 : (-400000 ≤ x2 ∧ x2 ≤ 400000) ∧ -400000 ≤ y2 ∧ y2 ≤ 400000) :
    Calls Tryd.prog 86 #[.agg #[.int .i64 (x1), .int .i64 (y1)], .agg #[.int .i64 (x2), .int .i64 (y2)]] w fun e w' => e = .returned (.int .i64 (dotZ x1 y1 x2 y2)) ∧ Below w.heap.size w w' := by
  have h3 := dot_big h2 h1
  rw [Int.mul_comm x2, Int.mul_comm y2] at h3
  obtain ⟨⟨_, _⟩, _, _⟩ := h3
  clear h1 h2
  go_enter Tryd.func86, Tryd.ntmps86
  go_wp2
  go_returns
  exact ⟨rfl, by go_grown⟩
theorem triv_snoc (l : List V2) (m : V2) (k : Nat) : (List.range (k + 1)).map (fun i => dotZ m.1 m.2 (cyc l i).1 (cyc l i).2) = (List.range k).map (fun i => dotZ m.1 m.2 (cyc l i).1 (cyc l i).2) ++ [dotZ m.1 m.2 (cyc l k).1 (cyc l k).2] := tab_snoc _ _
set_option maxHeartbeats 16000000 in
theorem l4Of_any (v : Value) (l : List V2) (x y : Int) (w : World) (hv : ReadsVecs w v l) (h0 : 0 < l.length) (hm : l.length ≤ 1000) (ha : allVec l) (hb : (-400000 ≤ x ∧ x ≤ 400000) ∧ -400000 ≤ y ∧ y ≤ 400000) :
    Calls Tryd.prog 65 #[v, .agg #[.int .i64 (x), .int .i64 (y)]] w (GivesInts w (trivL l (x, y))) := by
  obtain ⟨i0, hi, hz0, hz1, hz2⟩ := info_parts infoInt
  obtain ⟨bb, off, c, rfl, hc, _, hbb, hcs⟩ := hv.open h0
  have HC := Lib.hid hcs
  have HMs := Lib.hid (fun k => triv_snoc l (x, y) k)
  have HPr := Lib.hid (fun k w' => l1ProductBig_any (cyc l k).1 (cyc l k).2 x y w' (ha k) hb)
  have HZ : Hid (trivL l (x, y) = (List.range l.length).map (fun i => dotZ (x, y).1 (x, y).2 (cyc l i).1 (cyc l i).2)) := rfl
  have HFl := Lib.hid (fun k => dot_flip (cyc l k).1 (cyc l k).2 x y)
  have hE := Lib.hid (Ints.empty (w.alloc (.cells #[.int .i64 x, .int .i64 y] 44)))
  have hA : Below w.heap.size w (w.alloc (.cells #[.int .i64 x, .int .i64 y] 44)) := by go_grown
  have x0 : (w.alloc (.cells #[.int .i64 x, .int .i64 y] 44)).cell? ⟨w.heap.size, 0, none⟩ = some (.int .i64 x) := by simp
  have x1 : (w.alloc (.cells #[.int .i64 x, .int .i64 y] 44)).cell? ⟨w.heap.size, 1, none⟩ = some (.int .i64 y) := by simp
  have hz : (w.alloc (.cells #[.int .i64 x, .int .i64 y] 44)).heap.size = w.heap.size + 1 := by simp
  have HX0 := Lib.hid x0
  have HX1 := Lib.hid x1
  have HZz := Lib.hid hz
  obtain ⟨n, hn⟩ : ∃ n, n = l.length := ⟨_, rfl⟩
  have HN := Lib.hid hn
  rw [← hn] at HZ HC hm hc h0 ⊢
  clear hn hv hcs ha hb x0 x1 hz
  go_enter Tryd.func65, Tryd.ntmps65
  go_wp2
  generalize (w.alloc (.cells #[.int .i64 x, .int .i64 y] 44)) = W0 at *
  go_loopw [5, 6] (fun s5 s6 wr => ∃ k : Nat, k ≤ n ∧ s6 = .int .i64 k ∧ Hid (Ints wr W0.heap.size s5 ((List.range k).map (fun i => dotZ (x, y).1 (x, y).2 (cyc l i).1 (cyc l i).2))) ∧ Below W0.heap.size W0 wr) (fun _ s6 _ => n - (intOf s6).toNat)
  case atStart => exact ⟨0, Nat.zero_le _, rfl, by first | exact hE | (have h := HZz.out; rw [h] at hE ⊢; exact hE), by go_grown⟩
  case round =>
    obtain ⟨k, hk, rfl, HI, hB⟩ := hrel
    have i1 : (0 : Int) ≤ (k : Int) := by omega
    by_cases hlt : k < n
    · have i2 : (k : Int) < (n : Int) := by omega
      have hBw := hA.trans (hB.mono hA.size)
      obtain ⟨c0, c1⟩ := HC.out wr hBw k hlt
      have y0 := (hB.cell (p := ⟨w.heap.size, 0, none⟩) (show w.heap.size < _ by have := HZz.out; omega)).trans HX0.out
      have y1 := (hB.cell (p := ⟨w.heap.size, 1, none⟩) (show w.heap.size < _ by have := HZz.out; omega)).trans HX1.out
      have l0 : w.heap.size < wr.heap.size := cell_lt y0
      have l1 := cell_lt c0
      have HP := Lib.hid (HPr.out k)
      have HF := Lib.hid (HFl.out k)
      have HMk := Lib.hid (HMs.out k)
      have hkl : ((List.range k).map (fun i => dotZ (x, y).1 (x, y).2 (cyc l i).1 (cyc l i).2)).length = k := by simp
      have hown := HI.out
      unfold Ints at hown
      rw [hkl] at hown
      have HL2 := Lib.hid hkl
      have hbs := hB.size
      have HHown := Lib.hid hown
      clear hkl HI HC HPr HFl HMs hBw hown
      rw [HF.out] at HP
      have e1 : dotZ (x, y).1 (x, y).2 (cyc l k).1 (cyc l k).2 = dotZ x y (cyc l k).1 (cyc l k).2 := rfl
      rw [e1] at HMk
      clear e1 HF
      generalize dotZ x y (cyc l k).1 (cyc l k).2 = z at HP HMk
      generalize (cyc l k) = p at c0 c1 HP
      obtain ⟨px, py⟩ := p
      dsimp only at c0 c1 HP
      go_wp2
      refine wp_region_any (by kernel_rfl) ?_
      try (change wpAny _ _ _ _ _ _ _ (World.drew _))
      refine wpAny_take (i := 0) (v := ?_) rfl (by kernel_rfl) (by kernel_rfl) (by kernel_rfl) (fun _ _ _ h => h) (Or.inl ⟨by rfl, ?_⟩) ?_
      rotate_left
      focus (intro w0; go_simp; try with_reducible rfl)
      refine wpAny_take (i := 1) (v := ?_) rfl (by kernel_rfl) (by kernel_rfl) (by kernel_rfl) (fun _ _ _ h => h) (Or.inl ⟨by rfl, ?_⟩) ?_
      rotate_left
      focus (intro w0; go_simp; try with_reducible rfl)
      refine wpAny_take (i := 2) (v := ?_) rfl (by kernel_rfl) (by kernel_rfl) (by kernel_rfl) (fun _ _ _ h => h) (Or.inl ⟨by rfl, ?_⟩) ?_
      rotate_left
      focus (intro w0; go_simp; try with_reducible rfl)
      refine wpAny_take (i := 3) (v := ?_) rfl (by kernel_rfl) (by kernel_rfl) (by kernel_rfl) (fun _ _ _ h => h) (Or.inl ⟨by rfl, ?_⟩) ?_
      rotate_left
      focus (intro w0; go_simp; try with_reducible rfl)
      refine wpAny_ready (rs := [4, 5]) (by kernel_rfl) (by simp) (AllReady.cons rfl (fun K hK => ?_) (AllReady.cons rfl (fun K hK => ?_) (AllReady.nil)))
      focus
        go_simp
        refine hK _ _ ?_
        clear hK K
        refine wpAny_ready (rs := [5]) (by kernel_rfl) (by simp) (AllReady.cons rfl (fun K hK => ?_) (AllReady.nil))
        go_simp
        refine hK _ _ ?_
        clear hK K
        refine wpAny_ready (rs := [6]) (by kernel_rfl) (by simp) (AllReady.cons rfl (fun K hK => ?_) (AllReady.nil))
        go_simp
        (refine Calls.mono (HP.out _) ?_; rintro e w2 ⟨rfl, hb2⟩; replace hb2 := undrew hb2)
        refine hK _ _ ?_
        clear hK K
        refine wpAny_seq 7 rfl (by kernel_rfl) ?_
        simp only [List.drop_succ_cons, List.drop_zero]
      rotate_left 1
      focus
        go_simp
        refine hK _ _ ?_
        clear hK K
        refine wpAny_ready (rs := [4]) (by kernel_rfl) (by simp) (AllReady.cons rfl (fun K hK => ?_) (AllReady.nil))
        go_simp
        refine hK _ _ ?_
        clear hK K
        refine wpAny_ready (rs := [6]) (by kernel_rfl) (by simp) (AllReady.cons rfl (fun K hK => ?_) (AllReady.nil))
        go_simp
        (refine Calls.mono (HP.out _) ?_; rintro e w2 ⟨rfl, hb2⟩; replace hb2 := undrew hb2)
        refine hK _ _ ?_
        clear hK K
        refine wpAny_seq 7 rfl (by kernel_rfl) ?_
        simp only [List.drop_succ_cons, List.drop_zero]
      all_goals
        have hB1 := belowTo hB hb2
        have hown : w2.ownsRow W0.heap.size 3 1 _ _ _ := HHown.out.kept (row := none) (grown_of_below hb2 none) (by first | exact .inl rfl | (generalize Value.ownBlock _ = ob; cases ob <;> simp))
        have hbs2 := hB1.size
        clear hb2
        go_wp2_with (at_builtin; refine wpList_append_own_at _ rfl _ _ 23 rfl W0.heap.size 3 i0 (.int .i64 0) 1 8 Tryd.underlying23 hi hz0 hz1 hz2 rfl (by decide) _ _ _ rfl (hown.alloc _) ⟨w2.heap.size, 0, none⟩ 1 1 [.int .i64 z] rfl rfl ?c1 ?c2 ?c3 ?c4 ?c5 ?_)
        case c1 =>
          intro j u hj
          match j, hj with
          | 0, hj => simp at hj; subst hj; simp [Addr.add]
        case c2 => intro u hu; simp at hu; subst hu; rfl
        case c3 => unfold maxLen; omega
        case c4 => omega
        case c5 => simp; omega
        intro v' w3 hown' hgrow _ _
        have hB2 : Below W0.heap.size W0 w3 := (hB1.alloc hbs2 _).grown hgrow (by simp; omega) (fun k hk => (hown.lt k hk).1)
        have HV := Lib.hid (Ints.snoc (l := (List.range k).map (fun i => dotZ (x, y).1 (x, y).2 (cyc l i).1 (cyc l i).2)) HL2.out.symm hown')
        rw [← HMk.out] at HV
        clear hown' hgrow hown
        go_wp2
        go_roundw
        case rel => exact ⟨k + 1, by omega, by go_num, HV, hB2⟩
        case measure => simp [intOf]; omega
    · obtain rfl : k = n := by omega
      have i2 : ¬ (k : Int) < (k : Int) := by omega
      have hBw := hA.trans (hB.mono hA.size)
      have has := hA.size
      go_wp2
      go_returns
      exact ⟨_, rfl, by rw [HZ.out]; exact HI.out.lower has, hBw⟩
theorem can_snoc (k : Nat) : canL (k + 1) = canL k ++ [-1] := by
  unfold canL
  rw [List.replicate_succ']
set_option maxHeartbeats 8000000 in
theorem l4Canonical_any (v : Value) (l : List V2) (w : World) (hv : ReadsVecs w v l) (hm : l.length ≤ 1000) :
    Calls Tryd.prog 50 #[v] w (GivesInts w (canL l.length)) := by
  obtain ⟨i0, hi, hz0, hz1, hz2⟩ := info_parts infoInt
  obtain ⟨p1, p2, rfl, _, _, _⟩ := hv
  have hE := Lib.hid (Ints.empty w)
  have HMs := Lib.hid can_snoc
  generalize l.length = n at *
  go_enter Tryd.func50, Tryd.ntmps50
  go_wp2
  go_loopw [3, 4] (fun s3 s4 wr => ∃ k : Nat, k ≤ n ∧ s4 = .int .i64 k ∧ Hid (Ints wr w.heap.size s3 (canL k)) ∧ Below w.heap.size w wr) (fun _ s4 _ => n - (intOf s4).toNat)
  case atStart => exact ⟨0, Nat.zero_le _, rfl, hE, by go_grown⟩
  case round =>
    obtain ⟨k, hk, rfl, HI, hB⟩ := hrel
    have i1 : (0 : Int) ≤ (k : Int) := by omega
    by_cases hlt : k < n
    · have i2 : (k : Int) < (n : Int) := by omega
      have hkl : (canL k).length = k := by simp [canL]
      have HL2 := Lib.hid hkl
      have HMk := Lib.hid (HMs.out k)
      have hown := HI.out
      unfold Ints at hown
      rw [hkl] at hown
      have hbs := hB.size
      clear hkl HI
      go_wp2_with (at_builtin; refine wpList_append_own_at _ rfl _ _ 23 rfl w.heap.size 3 i0 (.int .i64 0) 1 8 Tryd.underlying23 hi hz0 hz1 hz2 rfl (by decide) _ _ _ rfl (hown.alloc _) ⟨wr.heap.size, 0, none⟩ 1 1 [.int .i64 (-1)] rfl rfl ?c1 ?c2 ?c3 ?c4 ?c5 ?_)
      case c1 =>
        intro j u hj
        match j, hj with
        | 0, hj => simp at hj; subst hj; simp [Addr.add]
      case c2 => intro u hu; simp at hu; subst hu; rfl
      case c3 => unfold maxLen; omega
      case c4 => omega
      case c5 => simp; omega
      intro v' w3 hown' hgrow _ _
      have hB2 : Below w.heap.size w w3 := (hB.alloc hbs _).grown hgrow (by simp; omega) (fun k hk => (hown.lt k hk).1)
      have HV := Lib.hid (Ints.snoc (l := canL k) HL2.out.symm hown')
      rw [← HMk.out] at HV
      clear hown' hgrow hown
      go_wp2
      go_roundw
      case rel => exact ⟨k + 1, by omega, by go_num, HV, hB2⟩
      case measure => simp [intOf]; omega
    · obtain rfl : k = n := by omega
      have i2 : ¬ (k : Int) < (k : Int) := by omega
      go_wp2
      go_returns
      exact ⟨_, rfl, HI.out, hB⟩
end Go.Proofs.YtpdbpfajkkkgdabDoor
