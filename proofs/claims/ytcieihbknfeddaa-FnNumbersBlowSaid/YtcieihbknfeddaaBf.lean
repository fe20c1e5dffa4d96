import Derived.Test.YtcieihbknfeddaaBe
import Derived.Test.YtcieihbknfeddaaBa
import Derived.Test.YtcieihbknfeddaaB9
import Derived.Test.YtcieihbknfeddaaB4
import Derived.StillTailTactics
import Derived.Test.YtcieihbknfeddaaB7
import Derived.Test.YtcieihbknfeddaaB2
/- Divisors: the model's side: what is a divisor. -/
namespace Go.Proofs.Ytcieihbknfeddaa
open Go.RowKit

end Go.Proofs.Ytcieihbknfeddaa

/- Fans, the model's side: the numbers of the rays. -/
namespace Go.Proofs.Ytcieihbknfeddaa
open Go.RowKit

theorem ahead_is (k n : Nat) (hn : 0 < n) : Int.tmod ((k : Int) + (n : Int) - 1) (n : Int) = (((k + n - 1) % n : Nat) : Int) := by
  rw [show ((k : Int) + (n : Int) - 1) = ((k + n - 1 : Nat) : Int) by omega, Int.ofNat_tmod]
theorem vec_bounds {x y : Int} (h : vecB x y = true) : (-1000 ≤ x ∧ x ≤ 1000) ∧ -1000 ≤ y ∧ y ≤ 1000 := by
  obtain ⟨h1, h2⟩ := vecB_true h
  exact ⟨szB_true h1, szB_true h2⟩
set_option maxHeartbeats 8000000 in
theorem l3Number_any (v : Value) (l : List V2) (k : Nat) (w : World) (hl : ReadsVecs w v l) (hk : k < l.length) (hm : l.length ≤ 1000) (hS : Smooth l) :
    Calls Try.prog 30 #[v, .int .i64 k] w fun e w' => e = .returned (.int .i64 (numZ l k)) ∧ Below w.heap.size w w' := by
  obtain ⟨bb, off, c, rfl, hc, hmm, hbb, hcs⟩ := hl.open (by omega)
  have hn0 : 0 < l.length := by omega
  obtain ⟨c1, c2⟩ := hcs w (Below.refl _ _) k hk
  have hjn : (k + 1) % l.length < l.length := Nat.mod_lt _ hn0
  have hjm : (k + l.length - 1) % l.length < l.length := Nat.mod_lt _ hn0
  obtain ⟨d1, d2⟩ := hcs w (Below.refl _ _) _ hjn
  obtain ⟨e1, e2⟩ := hcs w (Below.refl _ _) _ hjm
  rw [cyc_mod] at d1 d2 e1 e2
  have HX := Lib.hid (fun w' => l3Next_any (some ⟨bb, off, none⟩) l.length c k w' hk (by omega))
  have hT := ahead_is k l.length hn0
  have i1 : (0 : Int) ≤ (k : Int) := by omega
  have i2 : (k : Int) < (l.length : Int) := by omega
  have i3 : (0 : Int) ≤ (((k + 1) % l.length : Nat) : Int) := by omega
  have i4 : (((k + 1) % l.length : Nat) : Int) < (l.length : Int) := by omega
  have i5 : (0 : Int) ≤ (((k + l.length - 1) % l.length : Nat) : Int) := by omega
  have i6 : (((k + l.length - 1) % l.length : Nat) : Int) < (l.length : Int) := by omega
  have j1 : ¬ (l.length : Int) = 0 := by omega
  have j2 : ((l.length : Int) == 0) = false := by simpa using j1
  have j3 : (l.length : Int) ≤ 1000 := by omega
  have a1 := hS.2 (k + l.length - 1)
  rw [show k + l.length - 1 + 1 = k + l.length by omega, cyc_add] at a1
  have a2 := hS.2 k
  obtain ⟨⟨b1, b2⟩, b3, b4⟩ := vec_bounds (hS.1 (k + l.length - 1))
  obtain ⟨⟨b5, b6⟩, b7, b8⟩ := vec_bounds (hS.1 (k + 1))
  have hd := det_sz (hS.1 (k + l.length - 1)) (hS.1 (k + 1))
  obtain ⟨b9, b10⟩ := hd
  have HV : Hid (numZ l k = -(detV (cyc l (k + l.length - 1)) (cyc l (k + 1)))) := rfl
  rw [HV.out]
  have hDD : detZ (cyc l (k + l.length - 1)).1 (cyc l (k + l.length - 1)).2 (cyc l (k + 1)).1 (cyc l (k + 1)).2 = detV (cyc l (k + l.length - 1)) (cyc l (k + 1)) := rfl
  rw [hDD] at b9 b10
  have hx : (cyc l k).1 ≠ 0 → ((cyc l (k + l.length - 1)).1 + (cyc l (k + 1)).1).tdiv (cyc l k).1 = detV (cyc l (k + l.length - 1)) (cyc l (k + 1)) := num_x a1 a2
  have hy : (cyc l k).2 ≠ 0 → ((cyc l (k + l.length - 1)).2 + (cyc l (k + 1)).2).tdiv (cyc l k).2 = detV (cyc l (k + l.length - 1)) (cyc l (k + 1)) := num_y a1 a2
  have hy0 : (cyc l k).1 = 0 → (cyc l k).2 ≠ 0 := fun h h0 => by
    have := a1
    simp [detV, detZ, h, h0] at this
  clear hDD HV a1 a2 hS hcs hl hmm
  generalize (k + 1) % l.length = m at *
  generalize (k + l.length - 1) % l.length = m0 at *
  generalize detV (cyc l (k + l.length - 1)) (cyc l (k + 1)) = dd at *
  generalize cyc l (k + 1) = z at *
  obtain ⟨x2, y2⟩ := z
  generalize cyc l (k + l.length - 1) = z0 at *
  obtain ⟨x0, y0⟩ := z0
  generalize cyc l k = z1 at *
  obtain ⟨x1, y1⟩ := z1
  generalize l.length = n at *
  dsimp only at c1 c2 d1 d2 e1 e2 b1 b2 b3 b4 b5 b6 b7 b8 hx hy hy0
  have hbb1 : bb < w.heap.size + 1 := by omega
  have hbb2 : bb < w.heap.size + 1 + 1 := by omega
  have q1 : IntKind.i64.wrap (0 - dd) = -dd := by rw [IntKind.wrap_i64]; omega
  by_cases h1 : x1 = 0
  · have hy' := hy (hy0 h1)
    have hy1 : ¬ y1 = 0 := hy0 h1
    have hy2 : (y1 == 0) = false := by simpa using hy1
    have q2 : IntKind.i64.wrap dd = dd := by rw [IntKind.wrap_i64]; omega
    clear hx hy hy0
    subst h1
    go_enter Try.func30, Try.ntmps30
    go_wp2_with fail
    refine Calls.mono (HX.out _) ?_
    rintro e w1 ⟨rfl, rfl⟩
    go_wp2
    refine wp_region_any (by kernel_rfl) ?_
    try (change wpAny _ _ _ _ _ _ _ (World.drew _))
    refine wpAny_take (i := 0) (v := ?_) rfl (by kernel_rfl) (by kernel_rfl) (by kernel_rfl) (fun _ _ _ h => h) (Or.inl ⟨by rfl, ?_⟩) ?_
    rotate_left
    focus (intro w0; go_simp; try with_reducible rfl)
    refine wpAny_take (i := 2) (v := ?_) rfl (by kernel_rfl) (by kernel_rfl) (by kernel_rfl) (fun _ _ _ h => h) (Or.inl ⟨by rfl, ?_⟩) ?_
    rotate_left
    focus (intro w0; go_simp; try with_reducible rfl)
    refine wpAny_take (i := 3) (v := ?_) rfl (by kernel_rfl) (by kernel_rfl) (by kernel_rfl) (fun _ _ _ h => h) (Or.inl ⟨by rfl, ?_⟩) ?_
    rotate_left
    focus (intro w0; go_simp; try with_reducible rfl)
    refine wpAny_take (i := 4) (v := ?_) rfl (by kernel_rfl) (by kernel_rfl) (by kernel_rfl) (fun _ _ _ h => h) (Or.inl ⟨by rfl, ?_⟩) ?_
    rotate_left
    focus (intro w0; go_simp; try with_reducible rfl)
    refine wpAny_take (i := 5) (v := ?_) rfl (by kernel_rfl) (by kernel_rfl) (by kernel_rfl) (fun _ _ _ h => h) (Or.inl ⟨by rfl, ?_⟩) ?_
    rotate_left
    focus (intro w0; go_simp; try with_reducible rfl)
    refine wpAny_ready (rs := [1, 6]) (by kernel_rfl) (by simp) (AllReady.cons rfl (fun K hK => ?_) (AllReady.cons rfl (fun K hK => ?_) (AllReady.nil)))
    focus
      go_simp
      refine hK _ _ ?_
      clear hK K
      refine wpAny_ready (rs := [6]) (by kernel_rfl) (by simp) (AllReady.cons rfl (fun K hK => ?_) (AllReady.nil))
      go_simp
      refine hK _ _ ?_
      clear hK K
      refine wpAny_seq 7 rfl (by kernel_rfl) ?_
      simp only [List.drop_succ_cons, List.drop_zero]
    rotate_left 1
    focus
      go_simp
      refine hK _ _ ?_
      clear hK K
      refine wpAny_ready (rs := [1]) (by kernel_rfl) (by simp) (AllReady.cons rfl (fun K hK => ?_) (AllReady.nil))
      go_simp
      refine hK _ _ ?_
      clear hK K
      refine wpAny_seq 7 rfl (by kernel_rfl) ?_
      simp only [List.drop_succ_cons, List.drop_zero]
    all_goals go_wp2
    all_goals go_returns
    all_goals exact ⟨by first | rfl | simp [*], by go_grown⟩
  · have hx' := hx h1
    have hx2 : (x1 == 0) = false := by simpa using h1
    have q2 : IntKind.i64.wrap dd = dd := by rw [IntKind.wrap_i64]; omega
    clear hx hy hy0
    go_enter Try.func30, Try.ntmps30
    go_wp2_with fail
    refine Calls.mono (HX.out _) ?_
    rintro e w1 ⟨rfl, rfl⟩
    go_wp2
    refine wp_region_any (by kernel_rfl) ?_
    try (change wpAny _ _ _ _ _ _ _ (World.drew _))
    refine wpAny_take (i := 0) (v := ?_) rfl (by kernel_rfl) (by kernel_rfl) (by kernel_rfl) (fun _ _ _ h => h) (Or.inl ⟨by rfl, ?_⟩) ?_
    rotate_left
    focus (intro w0; go_simp; try with_reducible rfl)
    refine wpAny_take (i := 2) (v := ?_) rfl (by kernel_rfl) (by kernel_rfl) (by kernel_rfl) (fun _ _ _ h => h) (Or.inl ⟨by rfl, ?_⟩) ?_
    rotate_left
    focus (intro w0; go_simp; try with_reducible rfl)
    refine wpAny_take (i := 3) (v := ?_) rfl (by kernel_rfl) (by kernel_rfl) (by kernel_rfl) (fun _ _ _ h => h) (Or.inl ⟨by rfl, ?_⟩) ?_
    rotate_left
    focus (intro w0; go_simp; try with_reducible rfl)
    refine wpAny_take (i := 4) (v := ?_) rfl (by kernel_rfl) (by kernel_rfl) (by kernel_rfl) (fun _ _ _ h => h) (Or.inl ⟨by rfl, ?_⟩) ?_
    rotate_left
    focus (intro w0; go_simp; try with_reducible rfl)
    refine wpAny_take (i := 5) (v := ?_) rfl (by kernel_rfl) (by kernel_rfl) (by kernel_rfl) (fun _ _ _ h => h) (Or.inl ⟨by rfl, ?_⟩) ?_
    rotate_left
    focus (intro w0; go_simp; try with_reducible rfl)
    refine wpAny_ready (rs := [1, 6]) (by kernel_rfl) (by simp) (AllReady.cons rfl (fun K hK => ?_) (AllReady.cons rfl (fun K hK => ?_) (AllReady.nil)))
    focus
      go_simp
      refine hK _ _ ?_
      clear hK K
      refine wpAny_ready (rs := [6]) (by kernel_rfl) (by simp) (AllReady.cons rfl (fun K hK => ?_) (AllReady.nil))
      go_simp
      refine hK _ _ ?_
      clear hK K
      refine wpAny_seq 7 rfl (by kernel_rfl) ?_
      simp only [List.drop_succ_cons, List.drop_zero]
    rotate_left 1
    focus
      go_simp
      refine hK _ _ ?_
      clear hK K
      refine wpAny_ready (rs := [1]) (by kernel_rfl) (by simp) (AllReady.cons rfl (fun K hK => ?_) (AllReady.nil))
      go_simp
      refine hK _ _ ?_
      clear hK K
      refine wpAny_seq 7 rfl (by kernel_rfl) ?_
      simp only [List.drop_succ_cons, List.drop_zero]
    all_goals go_wp2
    all_goals go_returns
    all_goals exact ⟨by first | rfl | simp [*], by go_grown⟩
theorem nums_snoc (l : List V2) (k : Nat) : (List.range (k + 1)).map (numZ l) = (List.range k).map (numZ l) ++ [numZ l k] := by simp [List.range_succ]
set_option maxHeartbeats 8000000 in
theorem l3Numbers_any (v : Value) (l : List V2) (w : World) (hl : ReadsVecs w v l) (hm : l.length ≤ 1000) (hS : Smooth l) :
    Calls Try.prog 25 #[v] w (GivesInts w (numsZ l)) := by
  obtain ⟨i0, hi, hz0, hz1, hz2⟩ := info_parts infoInt
  have hE := Lib.hid (Ints.empty w)
  have HN := Lib.hid (fun k (h : k < l.length) w' (hb : Below w.heap.size w w') => l3Number_any v l k w' (hl.below hb) h hm hS)
  have HM := Lib.hid (nums_snoc l)
  obtain ⟨a, c, rfl, hc, hmm, _⟩ := hl
  have HZ : Hid (numsZ l = (List.range l.length).map (numZ l)) := rfl
  obtain ⟨n, hn⟩ : ∃ n, n = l.length := ⟨_, rfl⟩
  rw [← hn] at HN HZ hm hc hmm ⊢
  clear hn hS
  go_enter Try.func25, Try.ntmps25
  go_wp2
  go_loopw [3, 4] (fun s3 s4 wr => ∃ k : Nat, k ≤ n ∧ s4 = .int .i64 k ∧ Hid (Ints wr w.heap.size s3 ((List.range k).map (numZ l))) ∧ Below w.heap.size w wr) (fun _ s4 _ => n - (intOf s4).toNat)
  case atStart => exact ⟨0, Nat.zero_le _, rfl, hE, by go_grown⟩
  case round =>
    obtain ⟨k, hk, rfl, HI, hB⟩ := hrel
    have i1 : (0 : Int) ≤ (k : Int) := by omega
    by_cases hlt : k < n
    · have i2 : (k : Int) < (n : Int) := by omega
      have HNk := Lib.hid (HN.out k hlt wr hB)
      have HMk := Lib.hid (HM.out k)
      have hkl : ((List.range k).map (numZ l)).length = k := by simp
      generalize numZ l k = z at *
      go_wp2_with fail
      refine Calls.mono HNk.out ?_
      rintro e w1 ⟨rfl, hb1⟩
      have hB1 := belowTo hB hb1
      have hown := HI.out.below hb1
      unfold Ints at hown
      rw [hkl] at hown
      have hbs := hB1.size
      clear hb1
      go_wp2_with (at_builtin; refine wpList_append_own_at _ rfl _ _ 23 rfl w.heap.size 3 i0 (.int .i64 0) 1 8 Try.underlying23 hi hz0 hz1 hz2 rfl (by decide) _ _ _ rfl (hown.alloc _) ⟨w1.heap.size, 0, none⟩ 1 1 [.int .i64 z] rfl rfl ?c1 ?c2 ?c3 ?c4 ?c5 ?_)
      case c1 =>
        intro j u hj
        match j, hj with
        | 0, hj => simp at hj; subst hj; simp [Addr.add]
      case c2 => intro u hu; simp at hu; subst hu; rfl
      case c3 => unfold maxLen; omega
      case c4 => omega
      case c5 => simp; omega
      intro v' w2 hown' hgrow _ _
      have hB2 : Below w.heap.size w w2 := (hB1.alloc hbs _).grown hgrow (by simp; omega) (fun k hk => (hown.lt k hk).1)
      have HV := Lib.hid (Ints.snoc (l := (List.range k).map (numZ l)) hkl.symm hown')
      rw [← HMk.out] at HV
      clear hown' hgrow hown hB1 HI hE
      go_wp2
      go_roundw
      case rel => exact ⟨k + 1, by omega, by go_num, HV, hB2⟩
      case measure => simp [intOf]; omega
    · obtain rfl : k = n := by omega
      have i2 : ¬ (k : Int) < (k : Int) := by omega
      go_wp2
      go_returns
      exact ⟨_, rfl, by rw [HZ.out]; exact HI.out, hB⟩
set_option maxHeartbeats 4000000 in
theorem specFanNumbers_any (v : Value) (l : List V2) (w : World) (hl : ReadsVecs w v l) :
    Calls Try.prog 16 #[v] w (GivesIntsOk w (gV (smoothB l) (numsZ l)) (smoothB l)) := by
  have HF := Lib.hid (specFanSmooth_any v l w hl)
  have HN := Lib.hid (fun w' (hb : Below w.heap.size w w') h => l3Numbers_any v l w' (hl.below hb) (by have := fan_len (smooth_in (l := l) h).1; omega) (smooth_all h))
  have hE := Lib.hid (fun w' => Ints.empty w')
  clear hl
  cases hb : smoothB l
  · rw [hb] at HF
    clear hb HN
    go_enter Try.func16, Try.ntmps16
    go_wp2_with fail
    refine Calls.mono HF.out ?_
    rintro e w1 ⟨rfl, hb1⟩
    have hs1 := hb1.size
    have HE := Lib.hid ((hE.out w1).lower hs1)
    go_wp2
    go_returns
    exact ⟨_, rfl, HE.out, by go_grown⟩
  · rw [hb] at HF HN
    clear hb
    go_enter Try.func16, Try.ntmps16
    go_wp2_with fail
    refine Calls.mono HF.out ?_
    rintro e w1 ⟨rfl, hb1⟩
    have hs1 := hb1.size
    go_wp2_with fail
    refine Calls.mono (HN.out _ hb1 (by simp)) ?_
    rintro e w2 ⟨v2, rfl, hI, hb2⟩
    have HI := Lib.hid (hI.lower hs1)
    have hB := belowTo hb1 hb2
    clear hI hb1 hb2
    go_wp2
    go_returns
    exact ⟨_, rfl, HI.out, hB⟩
end Go.Proofs.Ytcieihbknfeddaa

/- Divisors: the model's side: sums, degrees, products. -/
namespace Go.Proofs.Ytcieihbknfeddaa
open Go.RowKit

theorem sum_snoc (a : List Int) (m : Int) (b : List Int) (k : Nat) : (List.range (k + 1)).map (fun i => gz a i + m * gz b i) = (List.range k).map (fun i => gz a i + m * gz b i) ++ [gz a k + m * gz b k] := tab_snoc _ _
end Go.Proofs.Ytcieihbknfeddaa

/- Divisors: the model's side: degrees, products. -/
namespace Go.Proofs.Ytcieihbknfeddaa
open Go.RowKit

theorem degs_snocM (l : List V2) (d : List Int) (k : Nat) : (List.range (k + 1)).map (degZ l d) = (List.range k).map (degZ l d) ++ [degZ l d k] := tab_snoc _ _
theorem degZ_flip (l : List V2) (d : List Int) (i : Nat) : degZ l d i = gz d ((i + l.length - 1) % l.length) + numZ l i * gz d i + gz d ((i + 1) % l.length) := by
  unfold degZ
  rw [Int.mul_comm (gz d i)]
end Go.Proofs.Ytcieihbknfeddaa

/- Divisors: the model's side: products; the divisor of a vector; the canonical one. -/
namespace Go.Proofs.Ytcieihbknfeddaa
open Go.RowKit

theorem gz_degs {l : List V2} {d : List Int} {k : Nat} (h : k < l.length) : gz (degsZ l d) k = degZ l d k := gz_tab _ h
/-! products with vectors that may be great -/
theorem triv_snoc (l : List V2) (m : V2) (k : Nat) : (List.range (k + 1)).map (fun i => dotZ m.1 m.2 (cyc l i).1 (cyc l i).2) = (List.range k).map (fun i => dotZ m.1 m.2 (cyc l i).1 (cyc l i).2) ++ [dotZ m.1 m.2 (cyc l k).1 (cyc l k).2] := tab_snoc _ _
theorem can_snoc (k : Nat) : canL (k + 1) = canL k ++ [-1] := by
  unfold canL
  rw [List.replicate_succ']
end Go.Proofs.Ytcieihbknfeddaa

/- Divisors: the model's functions. -/
namespace Go.Proofs.Ytcieihbknfeddaa
open Go.RowKit

end Go.Proofs.Ytcieihbknfeddaa
