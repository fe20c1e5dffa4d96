/- Divisors: the program's functions that make no divisor. -/
import Derived.Test.YtpdbpfajkkkgdaaDoorQd
import Derived.Test.YtpdbpfajkkkgdaaDoorQe
import Derived.Test.YtpdbpfajkkkgdaaDoorQq
import Derived.Test.YtpdbpfajkkkgdaaDoorB7
import Derived.BigRegion
namespace Go.Proofs.YtpdbpfajkkkgdaaDoor
open Go.RowKit

set_option maxHeartbeats 4000000 in
theorem divisorIn_any (v : Value) (l : List V2) (u : Value) (d : List Int) (w : World) (hl : ReadsVecs w v l) (hd : ReadsInts w u d) (hg : EtOk w) :
    Calls Tryd.prog 14 #[v, u] w fun e w' => e = .returned (.bool (divB l d)) ∧ Below w.heap.size w w' := by
  have HO := Lib.hid (divisorOf_any v u l d w hl hd hg)
  obtain ⟨a, c, rfl, _⟩ := hd.len
  clear hl hd
  generalize divB l d = b at *
  go_enter Tryd.func14, Tryd.ntmps14
  go_wp2_with fail
  refine Calls.mono HO.out ?_
  rintro e w1 ⟨⟨rfl, g, ns, rfl, hF, hn⟩ | ⟨rfl, rfl⟩, hb1⟩
  · have hs1 := hb1.size
    clear hF hn
    go_wp2
    go_returns
    exact ⟨rfl, by go_grown⟩
  · have hs1 := hb1.size
    go_wp2
    go_returns
    exact ⟨rfl, by go_grown⟩
set_option maxHeartbeats 4000000 in
theorem divisorDegrees_any (v : Value) (l : List V2) (u : Value) (d : List Int) (w : World) (hl : ReadsVecs w v l) (hd : ReadsInts w u d) (hg : EtOk w) :
    Calls Tryd.prog 30 #[v, u] w (GivesIntsOk w (gV (divB l d) (degsZ l d)) (divB l d)) := by
  have HO := Lib.hid (divisorOf_any v u l d w hl hd hg)
  have HD := Lib.hid (fun base g (ns : List Node) w' (hF : FanAt w' base g ns) (hn : rays ns = l) (hb : Below w.heap.size w w') (h : divB l d = true) => by
    have h1 := degrees_any base g ns u d w' hF (by have := div_len h; rw [← hn, rays_len] at this; omega) (by rw [hn]; exact div_smooth h) (hd.below hb) (by rw [← rays_len, hn]; exact (div_in h).2.1) (bnd_mono (div_bnd h) (by omega))
    rw [hn] at h1
    exact h1)
  obtain ⟨a, c, rfl, _⟩ := hd.len
  clear hl hd
  generalize hb : divB l d = b at *
  go_enter Tryd.func30, Tryd.ntmps30
  go_wp2_with fail
  refine Calls.mono HO.out ?_
  rintro e w1 ⟨⟨rfl, g, ns, rfl, hF, hn⟩ | ⟨rfl, rfl⟩, hb1⟩
  · have hF2 := Lib.hid (fun w2 (h : Below w1.heap.size w1 w2) => hF.below h)
    have HD2 := Lib.hid (fun w2 (h : Below w1.heap.size w1 w2) => HD.out w.heap.size g ns w2 (hF2.out w2 h) hn (belowTo hb1 h) (by simp))
    have hs1 := hb1.size
    clear hF hn hF2 HD hb
    go_wp2_with fail
    refine Calls.mono (HD2.out _ (by go_grown)) ?_
    rintro e w2 ⟨v2, rfl, hI, hb2⟩
    have HI := Lib.hid (hI.lower (base' := w.heap.size) (by simp; omega))
    have hB : Below w.heap.size w w2 := belowTo (by go_grown) hb2
    clear hI hb2
    go_wp2
    go_returns
    exact ⟨_, rfl, HI.out, hB⟩
  · have hs1 := hb1.size
    clear hb HD
    go_wp2
    go_returns
    exact ⟨_, rfl, Ints.nil _ _, by go_grown⟩
def DivsEnd (b : Bool) (l : List V2) (u1 u2 : Value) (w : World) (e : Ending) (w' : World) : Prop :=
  ((b = true ∧ ∃ g ns, e = .returned (.tuple #[.agg #[.pointer (some ⟨g, 0, none⟩), u1], .agg #[.pointer (some ⟨g, 0, none⟩), u2], .bool true]) ∧ FanAt w' w.heap.size g ns ∧ rays ns = l) ∨
    (b = false ∧ ∃ p a n c, e = .returned (.tuple #[.agg #[.pointer p, .slice a n c], .agg #[.pointer none, .slice none 0 0], .bool false]))) ∧ Below w.heap.size w w'
theorem FanAt.far2 {W : World} {base g k o o' : Nat} {ns : List Node} (h : FanAt W base g ns) (hk : k < base) (u u' : Value) : FanAt ((W.setCell ⟨k, o, none⟩ u).setCell ⟨k, o', none⟩ u') base g ns := (h.far hk u).far hk u'
set_option maxHeartbeats 16000000 in
theorem divisorsOf_any (v u1 u2 : Value) (l : List V2) (a b : List Int) (w : World) (hl : ReadsVecs w v l) (h1 : ReadsInts w u1 a) (h2 : ReadsInts w u2 b) (hg : EtOk w) :
    Calls Tryd.prog 46 #[v, u1, u2] w (DivsEnd (divB l a && divB l b) l u1 u2 w) := by
  have HO := Lib.hid (fun w' (hb : Below w.heap.size w w') => divisorOf_any v u1 l a w' (hl.below hb) (h1.below hb) (hg.below hb))
  have HM := Lib.hid (fun g (ns : List Node) w' (hb : Below w.heap.size w w') (c1 : (w' : World).cell? ⟨g, 1, none⟩ = some (.int .i64 ns.length)) (hs : ns.length ≤ 1000) => madeDiv_any g ns.length u2 b w' (hg.below hb) c1 (h2.below hb) hs)
  have HD : Hid (∀ n, n = l.length → divB l a = true → divB l b = fitB n b) := fun n hn h => by rw [div_fit h, hn]; rfl
  have HLn : Hid (divB l a = true → l.length ≤ 20) := fun h => (div_len h).2
  obtain ⟨p1, q1, rfl, _⟩ := h1.len
  obtain ⟨p2, q2, rfl, _⟩ := h2.len
  clear hl h1 h2
  cases ha : divB l a
  · rw [ha] at HO
    clear HD HM HLn ha
    go_enter Tryd.func46, Tryd.ntmps46
    go_wp2_with fail
    refine Calls.mono (HO.out _ (by go_grown)) ?_
    rintro e w1 ⟨⟨h, _⟩ | ⟨_, rfl⟩, hb1⟩
    · cases h
    have hB : Below w.heap.size w w1 := belowTo (by go_grown) hb1
    have hw1 := hb1.size
    simp only [World.size_alloc] at hw1
    have r0 : w1.cell? ⟨w.heap.size, 0, none⟩ = some (.pointer none) := (hb1.cell (p := ⟨w.heap.size, 0, none⟩) (by simp; omega)).trans (by first | (go_cell; done) | (go_simp; done) | (simp; done))
    have r1 : w1.cell? ⟨w.heap.size, 1, none⟩ = some (.slice none 0 0) := (hb1.cell (p := ⟨w.heap.size, 1, none⟩) (by simp; omega)).trans (by first | (go_cell; done) | (go_simp; done) | (simp; done))
    have r2 : w1.cell? ⟨w.heap.size + 1, 0, none⟩ = some (.pointer none) := (hb1.cell (p := ⟨w.heap.size + 1, 0, none⟩) (by simp)).trans (by first | (go_cell; done) | (go_simp; done) | (simp; done))
    have r3 : w1.cell? ⟨w.heap.size + 1, 1, none⟩ = some (.slice none 0 0) := (hb1.cell (p := ⟨w.heap.size + 1, 1, none⟩) (by simp)).trans (by first | (go_cell; done) | (go_simp; done) | (simp; done))
    have f0 : ∀ o, w1.frozen? ⟨w.heap.size, o, none⟩ = false := fun o => (hb1.frozen (p := ⟨w.heap.size, o, none⟩) (by simp; omega)).trans (by first | (go_cell; done) | (go_simp; done) | (simp; done))
    have f1 : ∀ o, w1.frozen? ⟨w.heap.size + 1, o, none⟩ = false := fun o => (hb1.frozen (p := ⟨w.heap.size + 1, o, none⟩) (by simp)).trans (by first | (go_cell; done) | (go_simp; done) | (simp; done))
    have u0 := cell_lt r0
    have u1 := cell_lt r2
    clear hb1
    go_wp2
    refine bodyPost_ret (by simp [results, Tryd.results46, go_sem, *]; try rfl) rfl ?_
    exact ⟨.inr ⟨rfl, none, none, 0, 0, rfl⟩, by go_grown⟩
  · rw [ha] at HO
    go_enter Tryd.func46, Tryd.ntmps46
    go_wp2_with fail
    refine Calls.mono (HO.out _ (by go_grown)) ?_
    rintro e w1 ⟨⟨_, g, ns, rfl, hF, hn⟩ | ⟨h, _⟩, hb1⟩
    case inr => cases h
    have hB : Below w.heap.size w w1 := belowTo (by go_grown) hb1
    have hnl : ns.length = l.length := by rw [← hn, rays_len]
    have HDn := Lib.hid (HD.out ns.length hnl ha)
    have hs : ns.length ≤ 1000 := by have := HLn.out ha; omega
    have HM2 := Lib.hid (fun w2 (h : Below w1.heap.size w1 w2) => HM.out g ns w2 (belowTo hB h) ((h.cell (p := ⟨g, 1, none⟩) hF.head.lt).trans hF.head.c1) hs)
    have hz : ((w.alloc (.cells #[.pointer none, .slice none 0 0] 54)).alloc (.cells #[.pointer none, .slice none 0 0] 54)).heap.size = w.heap.size + 2 := by simp
    have HF := Lib.hid (fun w2 (h : Below w1.heap.size w1 w2) => (hF.below h).lower (base' := w.heap.size + 2) (by rw [hz]; exact Nat.le_refl _))
    have HN := Lib.hid hn
    clear hF hn hnl hs HM HD HLn HO ha hz
    generalize fitB ns.length b = k at HM2 HDn
    unfold mkDiv at HM2
    have hw1 := hb1.size
    simp only [World.size_alloc] at hw1
    have r0 : w1.cell? ⟨w.heap.size, 0, none⟩ = some (.pointer none) := (hb1.cell (p := ⟨w.heap.size, 0, none⟩) (by simp; omega)).trans (by first | (go_cell; done) | (go_simp; done) | (simp; done))
    have r1 : w1.cell? ⟨w.heap.size, 1, none⟩ = some (.slice none 0 0) := (hb1.cell (p := ⟨w.heap.size, 1, none⟩) (by simp; omega)).trans (by first | (go_cell; done) | (go_simp; done) | (simp; done))
    have r2 : w1.cell? ⟨w.heap.size + 1, 0, none⟩ = some (.pointer none) := (hb1.cell (p := ⟨w.heap.size + 1, 0, none⟩) (by simp)).trans (by first | (go_cell; done) | (go_simp; done) | (simp; done))
    have r3 : w1.cell? ⟨w.heap.size + 1, 1, none⟩ = some (.slice none 0 0) := (hb1.cell (p := ⟨w.heap.size + 1, 1, none⟩) (by simp)).trans (by first | (go_cell; done) | (go_simp; done) | (simp; done))
    have f0 : ∀ o, w1.frozen? ⟨w.heap.size, o, none⟩ = false := fun o => (hb1.frozen (p := ⟨w.heap.size, o, none⟩) (by simp; omega)).trans (by first | (go_cell; done) | (go_simp; done) | (simp; done))
    have f1 : ∀ o, w1.frozen? ⟨w.heap.size + 1, o, none⟩ = false := fun o => (hb1.frozen (p := ⟨w.heap.size + 1, o, none⟩) (by simp)).trans (by first | (go_cell; done) | (go_simp; done) | (simp; done))
    clear hb1
    cases k
    all_goals
      simp only [Bool.false_eq_true, if_false, if_true] at HM2
      go_wp2_with fail
      refine Calls.mono (HM2.out _ (by go_grown)) ?_
      rintro e w2 ⟨rfl, hb2⟩
      have hA2 : Below w1.heap.size w1 w2 := belowTo (by go_grown) hb2
      have d0 : w2.cell? ⟨w1.heap.size, 0, none⟩ = some (.pointer (some ⟨g, 0, none⟩)) := (hb2.cell (p := ⟨w1.heap.size, 0, none⟩) (by simp)).trans (by first | (go_cell; done) | (go_simp; done) | (simp; done))
      have d1 : w2.cell? ⟨w1.heap.size, 1, none⟩ = some (.slice p1 a.length q1) := (hb2.cell (p := ⟨w1.heap.size, 1, none⟩) (by simp)).trans (by first | (go_cell; done) | (go_simp; done) | (simp; done))
      have s0 := cell_lt d0
      have t0 := (hA2.cell (p := ⟨w.heap.size, 0, none⟩) (cell_lt r0)).trans r0
      have t1 := (hA2.cell (p := ⟨w.heap.size, 1, none⟩) (cell_lt r1)).trans r1
      have t2 := (hA2.cell (p := ⟨w.heap.size + 1, 0, none⟩) (cell_lt r2)).trans r2
      have t3 := (hA2.cell (p := ⟨w.heap.size + 1, 1, none⟩) (cell_lt r3)).trans r3
      have g0 := fun o => (hA2.frozen (p := ⟨w.heap.size, o, none⟩) (cell_lt r0)).trans (f0 o)
      have g1 := fun o => (hA2.frozen (p := ⟨w.heap.size + 1, o, none⟩) (cell_lt r2)).trans (f1 o)
      have hs2 := hA2.size
      have u0 := cell_lt t0
      have u1 := cell_lt t2
      have hB2 := belowTo hB hA2
      have HF2 := Lib.hid (fun w3 (h : Below w2.heap.size w2 w3) => HF.out w3 (belowTo hA2 h))
      clear hb2 r0 r1 r2 r3 f0 f1 hA2 HM2
      go_wp2_with fail
      go_region
      all_goals go_wp2
    · refine bodyPost_ret (by simp [results, Tryd.results46, go_sem, *]; try rfl) rfl ?_
      exact ⟨.inr ⟨by rw [HDn.out]; rfl, _, _, _, _, rfl⟩, by go_grown⟩
    · refine bodyPost_ret (by simp [results, Tryd.results46, go_sem, *]; try rfl) rfl ?_
      refine ⟨.inl ⟨by rw [HDn.out]; rfl, g, ns, rfl, ?_, HN.out⟩, by go_grown⟩
      refine FanAt.lower (base := w.heap.size + 2) ?_ (by omega)
      have F1 := HF2.out w2 (Below.refl _ _)
      have F2 := FanAt.far2 (k := w.heap.size) (o := 0) (o' := 1) F1 (by omega) (.pointer (some ⟨g, 0, none⟩)) (.slice p1 a.length q1)
      have F3 := FanAt.far2 (k := w.heap.size + 1) (o := 0) (o' := 1) F2 (by omega) (.pointer (some ⟨g, 0, none⟩)) (.slice p2 b.length q2)
      exact F3.below (by go_grown)
set_option maxHeartbeats 8000000 in
theorem divisorProduct_any (v : Value) (l : List V2) (u1 : Value) (a : List Int) (u2 : Value) (b : List Int) (w : World) (hl : ReadsVecs w v l) (h1 : ReadsInts w u1 a) (h2 : ReadsInts w u2 b) (hg : EtOk w) :
    Calls Tryd.prog 28 #[v, u1, u2] w fun e w' => e = .returned (.tuple #[.int .i64 (gate (divB l a && divB l b) (prodZ l a b)), .bool (divB l a && divB l b)]) ∧ Below w.heap.size w w' := by
  have HO := Lib.hid (divisorsOf_any v u1 u2 l a b w hl h1 h2 hg)
  have HDg := Lib.hid (fun base g (ns : List Node) w' (hF : FanAt w' base g ns) (hb : Below w.heap.size w w') (hs : ns.length ≤ 1000) (hv : allVec (rays ns)) => degree_any base g ns u2 b w' hF hs hv (h2.below hb))
  have H1 := Lib.hid (fun B1 B2 i w' (h : DegBox w' B1 B2 l b) (hi : i < l.length) (hk : (divB l a && divB l b) = true) => by
    rw [Bool.and_eq_true] at hk
    exact degree1_any B1 B2 l b i w' h hi (div_in hk.2).2.1 (div_smooth hk.2) (bnd_mono (div_bnd hk.2) (by omega)) (by have := div_len hk.2; omega))
  have HPr := Lib.hid (fun B1 B2 gp w' (hb : Below w.heap.size w w') (hk : (divB l a && divB l b) = true) HQ => product_degree B1 B2 gp u1 a (degZ l b) w' (h1.below hb) (by rw [Bool.and_eq_true] at hk; have := div_len hk.1; have := (div_in hk.1).2.1; omega) (by rw [Bool.and_eq_true] at hk; exact div_bnd hk.1) (fun i => by rw [Bool.and_eq_true] at hk; have := deg_bnd (div_smooth hk.2) (bnd_mono (div_bnd hk.2) (by omega)) i; omega) HQ)
  have HP : Hid ((divB l a && divB l b) = true → dotD a (degZ l b) a.length = prodZ l a b ∧ a.length = l.length ∧ l.length ≤ 20 ∧ allVec l) := fun hk => by
    rw [Bool.and_eq_true] at hk
    have e := (div_in hk.1).2.1
    exact ⟨by rw [e]; rfl, e, (div_len hk.1).2, (div_smooth hk.1).1⟩
  obtain ⟨p1, q1, rfl, _⟩ := h1.len
  obtain ⟨p2, q2, rfl, _⟩ := h2.len
  clear hl h1 h2
  generalize hk : (divB l a && divB l b) = k at *
  go_enter Tryd.func28, Tryd.ntmps28
  go_wp2_with fail
  refine Calls.mono HO.out ?_
  rintro e w1 ⟨⟨rfl, g, ns, rfl, hF, hn⟩ | ⟨rfl, p, a', n', c', rfl⟩, hb1⟩
  · obtain ⟨e1, e2, e3, e4⟩ := HP.out (by simp)
    have hs : ns.length ≤ 1000 := by rw [← rays_len, hn]; omega
    have hv : allVec (rays ns) := by rw [hn]; exact e4
    have HD2 := Lib.hid (fun w2 (h : Below w1.heap.size w1 w2) => HDg.out w.heap.size g ns w2 (hF.below h) (belowTo hb1 h) hs hv)
    rw [hn] at HD2
    have HP2 := Lib.hid (fun B1 B2 gp w' (h : Below w.heap.size w w') (hX : DegBox w' B1 B2 l b) => HPr.out B1 B2 gp w' h (by simp) (fun i hi w2 h2 => H1.out B1 B2 i w2 (hX.below h2) (by omega) (by simp)))
    rw [e1] at HP2
    have hs1 := hb1.size
    clear HP HDg H1 HPr hF hn hs hv hk e1 e2 e3 e4
    go_wp2
    have hA : Below w1.heap.size w1 ((w1.alloc (.cells #[.pointer (some ⟨g, 0, none⟩), .slice p1 a.length q1] 54)).alloc (.cells #[.pointer (some ⟨g, 0, none⟩), .slice p2 b.length q2] 54)) := by go_grown
    have x0 : ((w1.alloc (.cells #[.pointer (some ⟨g, 0, none⟩), .slice p1 a.length q1] 54)).alloc (.cells #[.pointer (some ⟨g, 0, none⟩), .slice p2 b.length q2] 54)).cell? ⟨w1.heap.size, 0, none⟩ = some (.pointer (some ⟨g, 0, none⟩)) := by first | (go_cell; done) | (go_simp; done) | (simp; done)
    have x1 : ((w1.alloc (.cells #[.pointer (some ⟨g, 0, none⟩), .slice p1 a.length q1] 54)).alloc (.cells #[.pointer (some ⟨g, 0, none⟩), .slice p2 b.length q2] 54)).cell? ⟨w1.heap.size, 1, none⟩ = some (.slice p1 a.length q1) := by first | (go_cell; done) | (go_simp; done) | (simp; done)
    have y0 : ((w1.alloc (.cells #[.pointer (some ⟨g, 0, none⟩), .slice p1 a.length q1] 54)).alloc (.cells #[.pointer (some ⟨g, 0, none⟩), .slice p2 b.length q2] 54)).cell? ⟨w1.heap.size + 1, 0, none⟩ = some (.pointer (some ⟨g, 0, none⟩)) := by first | (go_cell; done) | (go_simp; done) | (simp; done)
    have y1 : ((w1.alloc (.cells #[.pointer (some ⟨g, 0, none⟩), .slice p1 a.length q1] 54)).alloc (.cells #[.pointer (some ⟨g, 0, none⟩), .slice p2 b.length q2] 54)).cell? ⟨w1.heap.size + 1, 1, none⟩ = some (.slice p2 b.length q2) := by first | (go_cell; done) | (go_simp; done) | (simp; done)
    generalize ((w1.alloc (.cells #[.pointer (some ⟨g, 0, none⟩), .slice p1 a.length q1] 54)).alloc (.cells #[.pointer (some ⟨g, 0, none⟩), .slice p2 b.length q2] 54)) = W2 at *
    have hB2 := belowTo hb1 hA
    have s0 := cell_lt x0
    refine wp_region_any (by kernel_rfl) ?_
    try (change wpAny _ _ _ _ _ _ _ (World.drew _))
    refine wpAny_ready (rs := [0, 1]) (by kernel_rfl) (by simp) (AllReady.cons rfl (fun K hK => ?_) (AllReady.cons rfl (fun K hK => ?_) (AllReady.nil)))
    focus
      go_simp
      refine hK _ _ ?_
      clear hK K
      refine wpAny_ready (rs := [1]) (by kernel_rfl) (by simp) (AllReady.cons rfl (fun K hK => ?_) (AllReady.nil))
      go_simp
      refine hK _ _ ?_
      clear hK K
      refine wpAny_ready (rs := [2]) (by kernel_rfl) (by simp) (AllReady.cons rfl (fun K hK => ?_) (AllReady.nil))
      go_simp
      (refine Calls.mono (HD2.out _ (by go_grown)) ?_; rintro e w2 ⟨B1, B2, rfl, hX, hbX⟩; replace hbX := undrew hbX; replace x0 := (hbX.cell (p := ⟨w1.heap.size, 0, none⟩) s0).trans x0; replace x1 := (hbX.cell (p := ⟨w1.heap.size, 1, none⟩) s0).trans x1; replace hB2 := belowTo hB2 hbX; clear hbX y0 y1)
      refine hK _ _ ?_
      clear hK K
      refine wpAny_ready (rs := [3]) (by kernel_rfl) (by simp) (AllReady.cons rfl (fun K hK => ?_) (AllReady.nil))
      go_simp
      (refine Calls.mono (HP2.out _ _ _ _ hB2 hX) ?_; rintro e w3 ⟨rfl, hb3⟩; replace hB2 := belowTo hB2 hb3; clear hb3)
      refine hK _ _ ?_
      clear hK K
      refine wpAny_seq 4 rfl (by kernel_rfl) ?_
      simp only [List.drop_succ_cons, List.drop_zero]
    rotate_left 1
    focus
      go_simp
      refine hK _ _ ?_
      clear hK K
      refine wpAny_ready (rs := [0, 2]) (by kernel_rfl) (by simp) (AllReady.cons rfl (fun K hK => ?_) (AllReady.cons rfl (fun K hK => ?_) (AllReady.nil)))
      focus
        go_simp
        refine hK _ _ ?_
        clear hK K
        refine wpAny_ready (rs := [2]) (by kernel_rfl) (by simp) (AllReady.cons rfl (fun K hK => ?_) (AllReady.nil))
        go_simp
        (refine Calls.mono (HD2.out _ (by go_grown)) ?_; rintro e w2 ⟨B1, B2, rfl, hX, hbX⟩; replace hbX := undrew hbX; replace x0 := (hbX.cell (p := ⟨w1.heap.size, 0, none⟩) s0).trans x0; replace x1 := (hbX.cell (p := ⟨w1.heap.size, 1, none⟩) s0).trans x1; replace hB2 := belowTo hB2 hbX; clear hbX y0 y1)
        refine hK _ _ ?_
        clear hK K
        refine wpAny_ready (rs := [3]) (by kernel_rfl) (by simp) (AllReady.cons rfl (fun K hK => ?_) (AllReady.nil))
        go_simp
        (refine Calls.mono (HP2.out _ _ _ _ hB2 hX) ?_; rintro e w3 ⟨rfl, hb3⟩; replace hB2 := belowTo hB2 hb3; clear hb3)
        refine hK _ _ ?_
        clear hK K
        refine wpAny_seq 4 rfl (by kernel_rfl) ?_
        simp only [List.drop_succ_cons, List.drop_zero]
      rotate_left 1
      focus
        go_simp
        (refine Calls.mono (HD2.out _ (by go_grown)) ?_; rintro e w2 ⟨B1, B2, rfl, hX, hbX⟩; replace hbX := undrew hbX; replace x0 := (hbX.cell (p := ⟨w1.heap.size, 0, none⟩) s0).trans x0; replace x1 := (hbX.cell (p := ⟨w1.heap.size, 1, none⟩) s0).trans x1; replace hB2 := belowTo hB2 hbX; clear hbX y0 y1)
        refine hK _ _ ?_
        clear hK K
        refine wpAny_ready (rs := [0]) (by kernel_rfl) (by simp) (AllReady.cons rfl (fun K hK => ?_) (AllReady.nil))
        go_simp
        refine hK _ _ ?_
        clear hK K
        refine wpAny_ready (rs := [3]) (by kernel_rfl) (by simp) (AllReady.cons rfl (fun K hK => ?_) (AllReady.nil))
        go_simp
        (refine Calls.mono (HP2.out _ _ _ _ hB2 hX) ?_; rintro e w3 ⟨rfl, hb3⟩; replace hB2 := belowTo hB2 hb3; clear hb3)
        refine hK _ _ ?_
        clear hK K
        refine wpAny_seq 4 rfl (by kernel_rfl) ?_
        simp only [List.drop_succ_cons, List.drop_zero]
    all_goals
      clear x0 x1
      go_wp2
      go_returns
      exact ⟨rfl, hB2⟩
  · have hs1 := hb1.size
    clear hk HP HDg H1 HPr
    go_wp2
    go_returns
    exact ⟨rfl, by go_grown⟩
end Go.Proofs.YtpdbpfajkkkgdaaDoor
