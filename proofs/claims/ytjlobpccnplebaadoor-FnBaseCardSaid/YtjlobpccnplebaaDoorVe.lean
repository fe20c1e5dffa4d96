/- The whole base: the model's side, cones that are not smooth; ConeBase of the model. -/
import Derived.Test.YtjlobpccnplebaaDoorB5
import Derived.Test.YtjlobpccnplebaaDoorMv
namespace Go.Proofs.YtjlobpccnplebaaDoor
open Go.RowKit

theorem fracC_ne {a b c d : Int} (h : coneB a b c d = true) (hd : detZ a b c d ≠ 1) : fracC a b c d ≠ [] := by
  obtain ⟨_, o1, _, o2, _⟩ := cone_in h
  have hk := kindC_rng h
  have hg := kind_gcd (oneB_true o1) (oneB_true o2)
  have h0 : 0 < kindC a b c d := by
    by_cases h0 : 0 < kindC a b c d
    · exact h0
    · have e : kindZ a b c d = 0 := by show kindC a b c d = 0; omega
      rw [e, gcdZ_zero] at hg
      have : detZ a b c d = 1 := by
        have hp : 0 < detZ a b c d := by omega
        have hq : max (detZ a b c d) (-detZ a b c d) = 1 := hg
        omega
      exact absurd this hd
  unfold fracC
  rw [frac_pos _ h0]
  simp
/-- a variable in block g that holds the vector x, y -/
def VecAt (W : World) (g : Nat) (x y : Int) : Prop := (W.cell? ⟨g, 0, none⟩ = some (.int .i64 x) ∧ W.cell? ⟨g, 1, none⟩ = some (.int .i64 y)) ∧ (W.frozen? ⟨g, 0, none⟩ = false ∧ W.frozen? ⟨g, 1, none⟩ = false) ∧ g < W.heap.size
theorem VecAt.same {W W' : World} {g : Nat} {x y : Int} (h : VecAt W g x y) (e : W'.heap[g]? = W.heap[g]?) (hs : W.heap.size ≤ W'.heap.size) : VecAt W' g x y := by
  obtain ⟨⟨h1, h2⟩, ⟨h3, h4⟩, h5⟩ := h
  exact ⟨⟨(World.cell?_of_block (a := ⟨g, 0, none⟩) e).trans h1, (World.cell?_of_block (a := ⟨g, 1, none⟩) e).trans h2⟩, ⟨(World.frozen?_of_block (a := ⟨g, 0, none⟩) e).trans h3, (World.frozen?_of_block (a := ⟨g, 1, none⟩) e).trans h4⟩, Nat.lt_of_lt_of_le h5 hs⟩
theorem VecAt.alloc {W : World} {g : Nat} {x y : Int} (h : VecAt W g x y) (o : Obj) : VecAt (W.alloc o) g x y := h.same (Below.heap_alloc W o g h.2.2) (by simp)
theorem VecAt.new (W : World) (x y : Int) (t : TypeId) : VecAt (W.alloc (.cells #[.int .i64 x, .int .i64 y] t)) W.heap.size x y := by
  refine ⟨⟨?_, ?_⟩, ⟨?_, ?_⟩, by simp⟩ <;> simp
theorem VecAt.put {W : World} {g : Nat} {x y : Int} (h : VecAt W g x y) (u v : Int) : VecAt ((W.setCell ⟨g, 0, none⟩ (.int .i64 u)).setCell ⟨g, 1, none⟩ (.int .i64 v)) g u v := by
  obtain ⟨⟨h1, h2⟩, ⟨h3, h4⟩, h5⟩ := h
  refine ⟨⟨?_, ?_⟩, ⟨by simp [h3], by simp [h4]⟩, by simpa using h5⟩
  · rw [World.cell?_setCell_other _ _ _ _ (by simp)]
    exact World.cell?_setCell_same _ _ _ h1
  · refine World.cell?_setCell_same (u := .int .i64 y) _ _ _ ?_
    rw [World.cell?_setCell_other _ _ _ _ (by simp)]; exact h2
theorem heap_put {W : World} {g k : Nat} (u v : Value) (h : k ≠ g) : ((W.setCell ⟨g, 0, none⟩ u).setCell ⟨g, 1, none⟩ v).heap[k]? = W.heap[k]? := by
  rw [Below.heap_setCell _ _ _ _ h, Below.heap_setCell _ _ _ _ h]
theorem VecAt.other {W : World} {g g' : Nat} {x y : Int} (h : VecAt W g x y) (hne : g ≠ g') (u v : Value) : VecAt ((W.setCell ⟨g', 0, none⟩ u).setCell ⟨g', 1, none⟩ v) g x y :=
  h.same (heap_put u v hne) (by simp)
/-- numbers that lie in block g from its beginning on -/
def NumsAt (W : World) (g : Nat) (l : List Int) : Prop := (∀ j, j < l.length → W.cell? ⟨g, j, none⟩ = some (.int .i64 (l[j]?.getD 0))) ∧ g < W.heap.size
theorem NumsAt.same {W W' : World} {g : Nat} {l : List Int} (h : NumsAt W g l) (e : W'.heap[g]? = W.heap[g]?) (hs : W.heap.size ≤ W'.heap.size) : NumsAt W' g l :=
  ⟨fun j hj => (World.cell?_of_block (a := ⟨g, j, none⟩) e).trans (h.1 j hj), Nat.lt_of_lt_of_le h.2 hs⟩
/-- the list that is made is none of three blocks -/
def Apart (v : Value) (g1 g2 g3 : Nat) : Prop := ∀ k, v.ownBlock = some k → k ≠ g1 ∧ k ≠ g2 ∧ k ≠ g3
theorem Vecs.put {W : World} {base g : Nat} {v : Value} {l : List (Int × Int)} (h : Vecs W base v l) (hne : ∀ k, v.ownBlock = some k → k ≠ g) (x y : Value) : Vecs ((W.setCell ⟨g, 0, none⟩ x).setCell ⟨g, 1, none⟩ y) base v l := by
  have hg : W.grownBy ((W.setCell ⟨g, 0, none⟩ x).setCell ⟨g, 1, none⟩ y) (some g) := ⟨rfl, rfl, rfl, by simp, fun k _ hk => heap_put x y (fun e => hk (by rw [e]))⟩
  exact h.far hg (fun k hk e => hne k hk (by cases e; rfl))

set_option maxHeartbeats 4000000 in
theorem l2Base_more (a b c d : Int) (w : World) (h : coneB a b c d = true) (hd : detZ a b c d ≠ 1) :
    Calls Tryd.prog 67 #[.agg #[.int .i64 (a), .int .i64 (b), .int .i64 (c), .int .i64 (d)]] w (GivesVecs w (baseL a b c d)) := by
  obtain ⟨h1, _, h2, _, hp⟩ := cone_in h
  have hp' := posB_true hp
  have hdb : (detZ a b c d == 1) = false := by simpa using hd
  have hnb : (detZ a b c d == 0) = false := by simp; omega
  have hnn : ¬ detZ a b c d = 0 := by omega
  have HNE := Lib.hid (fracC_ne h hd)
  have HLn := Lib.hid (fracC_len h)
  have hn := det_sz h1 h2
  have hk := kindC_rng h
  obtain ⟨xa, xb⟩ := szs h1
  obtain ⟨xc, xd⟩ := szs h2
  have m1 := mul_bd2 (q := kindC a b c d) (a := a) ⟨hk.1, by omega⟩ xa
  have m2 := mul_bd2 (q := kindC a b c d) (a := b) ⟨hk.1, by omega⟩ xb
  obtain ⟨t1, t2⟩ := base_tdiv h
  have HS := Lib.hid (baseAt_start h)
  have hXY : (-1000 ≤ baseX a b c d ∧ baseX a b c d ≤ 1000) ∧ (-1000 ≤ baseY a b c d ∧ baseY a b c d ≤ 1000) := by
    obtain ⟨_, _, _, _, _, _, _, _, _, _, _, q1, q2⟩ := baseAt_start h
    exact ⟨q1, q2⟩
  obtain ⟨⟨_, _⟩, _, _⟩ := hXY
  have HX := Lib.hid (fun z l done lx ly nx ny hb => baseAt_next (z := z) (l := l) (done := done) (lx := lx) (ly := ly) (nx := nx) (ny := ny) h hb)
  have HE := Lib.hid (fun done lx ly nx ny hb => baseAt_end (a := a) (b := b) (c := c) (d := d) (done := done) (lx := lx) (ly := ly) (nx := nx) (ny := ny) hb)
  have HLL := Lib.hid (fun w' => l2List_any a b c d w' h)
  have HK := Lib.hid (fun w' => l2Kind_any a b c d w' h)
  have HD := Lib.hid (fun w' => l1Det_any a b c d w' h1 h2)
  have HO := Lib.hid (fun w' => Vecs.one w' a b)
  have HT : Hid (∀ l done lx ly nx ny, BaseAt a b c d l done lx ly nx ny → (baseL a b c d).length ≤ 2000002 ∧ done.length ≤ 2000002) := by
    intro l done lx ly nx ny hb
    have e := baseL_len h
    obtain ⟨_, _, _, e2, _⟩ := hb
    refine ⟨e, ?_⟩
    rw [e2, List.length_append] at e
    omega
  generalize hN : detZ a b c d = N at *
  generalize kindC a b c d = K at *
  generalize fracC a b c d = L at *
  generalize baseX a b c d = X0 at *
  generalize baseY a b c d = Y0 at *
  obtain ⟨_, _⟩ := hn
  obtain ⟨_, _⟩ := hk
  clear h hd hp hN
  go_enter Tryd.func67, Tryd.ntmps67
  go_wp2_with fail
  go_call (HD.out _) as e w1 ⟨rfl, hb1⟩
  have hA : Below w.heap.size w w1 := belowTo (by go_grown) hb1
  have p0 : w1.cell? ⟨w.heap.size, 0, none⟩ = some (.int .i64 (a)) := (hb1.cell (p := ⟨w.heap.size, 0, none⟩) (by first | assumption | (go_size; done) | (simp; omega) | (simp only [World.size_alloc]; omega))).trans (by first | assumption | (go_cell; done) | (go_simp; done) | simp [*]); have pf0 : w1.frozen? ⟨w.heap.size, 0, none⟩ = false := (hb1.frozen (p := ⟨w.heap.size, 0, none⟩) (by first | assumption | (go_size; done) | (simp; omega) | (simp only [World.size_alloc]; omega))).trans (by first | assumption | (go_cell; done) | (go_simp; done) | simp [*]); have p1 : w1.cell? ⟨w.heap.size, 1, none⟩ = some (.int .i64 (b)) := (hb1.cell (p := ⟨w.heap.size, 1, none⟩) (by first | assumption | (go_size; done) | (simp; omega) | (simp only [World.size_alloc]; omega))).trans (by first | assumption | (go_cell; done) | (go_simp; done) | simp [*]); have pf1 : w1.frozen? ⟨w.heap.size, 1, none⟩ = false := (hb1.frozen (p := ⟨w.heap.size, 1, none⟩) (by first | assumption | (go_size; done) | (simp; omega) | (simp only [World.size_alloc]; omega))).trans (by first | assumption | (go_cell; done) | (go_simp; done) | simp [*]); have p2 : w1.cell? ⟨w.heap.size, 2, none⟩ = some (.int .i64 (c)) := (hb1.cell (p := ⟨w.heap.size, 2, none⟩) (by first | assumption | (go_size; done) | (simp; omega) | (simp only [World.size_alloc]; omega))).trans (by first | assumption | (go_cell; done) | (go_simp; done) | simp [*]); have pf2 : w1.frozen? ⟨w.heap.size, 2, none⟩ = false := (hb1.frozen (p := ⟨w.heap.size, 2, none⟩) (by first | assumption | (go_size; done) | (simp; omega) | (simp only [World.size_alloc]; omega))).trans (by first | assumption | (go_cell; done) | (go_simp; done) | simp [*]); have p3 : w1.cell? ⟨w.heap.size, 3, none⟩ = some (.int .i64 (d)) := (hb1.cell (p := ⟨w.heap.size, 3, none⟩) (by first | assumption | (go_size; done) | (simp; omega) | (simp only [World.size_alloc]; omega))).trans (by first | assumption | (go_cell; done) | (go_simp; done) | simp [*]); have pf3 : w1.frozen? ⟨w.heap.size, 3, none⟩ = false := (hb1.frozen (p := ⟨w.heap.size, 3, none⟩) (by first | assumption | (go_size; done) | (simp; omega) | (simp only [World.size_alloc]; omega))).trans (by first | assumption | (go_cell; done) | (go_simp; done) | simp [*])
  have hl : w.heap.size < w1.heap.size := bsize hb1 _ (by simp)
  have HW := Lib.hid (HO.out w1)
  clear hb1 pf0 pf1 pf2 pf3
  go_wp2_with fail
  refine Calls.mono (HLL.out _) ?_
  rintro e w2 ⟨v5, rfl, I5, hb2⟩
  have hA2 : Below w.heap.size w w2 := belowTo (by have := hA.size; go_grown) hb2
  have r0 := (hb2.cell (p := ⟨w.heap.size, 0, none⟩) (by simp only [World.size_alloc]; omega)).trans ((World.cell?_alloc_lt _ _ ⟨w.heap.size, 0, none⟩ hl).trans p0)
  have r1 := (hb2.cell (p := ⟨w.heap.size, 1, none⟩) (by simp only [World.size_alloc]; omega)).trans ((World.cell?_alloc_lt _ _ ⟨w.heap.size, 1, none⟩ hl).trans p1)
  have r2 := (hb2.cell (p := ⟨w.heap.size, 2, none⟩) (by simp only [World.size_alloc]; omega)).trans ((World.cell?_alloc_lt _ _ ⟨w.heap.size, 2, none⟩ hl).trans p2)
  have r3 := (hb2.cell (p := ⟨w.heap.size, 3, none⟩) (by simp only [World.size_alloc]; omega)).trans ((World.cell?_alloc_lt _ _ ⟨w.heap.size, 3, none⟩ hl).trans p3)
  have hl2 : w.heap.size < w2.heap.size := Nat.lt_of_lt_of_le (by simp; omega) hb2.size
  have hg0 : w1.heap.size < w2.heap.size := Nat.lt_of_lt_of_le (by simp) hb2.size
  replace HW := Lib.hid (HW.out.below hb2)
  have I5' : Hid (Ints w2 (w1.heap.size + 1) v5 L) := by show Ints _ _ _ _; simpa using I5
  have hw13 : w.heap.size < w1.heap.size := hl
  clear I5 hb2 p0 p1 p2 p3 hA hl
  go_wp2_with fail
  go_call (HK.out _) as e w3 ⟨rfl, hb3⟩
  have hA3 : Below w.heap.size w w3 := belowTo hA2 hb3
  have s0 := (hb3.cell (p := ⟨w.heap.size, 0, none⟩) hl2).trans r0
  have s1 := (hb3.cell (p := ⟨w.heap.size, 1, none⟩) hl2).trans r1
  have s2 := (hb3.cell (p := ⟨w.heap.size, 2, none⟩) hl2).trans r2
  have s3 := (hb3.cell (p := ⟨w.heap.size, 3, none⟩) hl2).trans r3
  have hl3 : w.heap.size < w3.heap.size := Nat.lt_of_lt_of_le hl2 hb3.size
  have hg3 : w1.heap.size < w3.heap.size := Nat.lt_of_lt_of_le hg0 hb3.size
  replace HW := Lib.hid (HW.out.below hb3)
  replace I5' := Lib.hid (I5'.out.below hb3)
  clear hb3 r0 r1 r2 r3 hA2 hl2 hg0
  have hI5 := I5'.out
  rcases hI5.form with ⟨h0, _⟩ | ⟨_, gl, cl, rfl, hgl, hgls, hlc⟩
  · exact absurd h0 HNE.out
  have HC : Hid (NumsAt w3 gl L) := ⟨fun j hj => hI5.cell j hj, hgls⟩
  obtain ⟨m, hm⟩ : ∃ m, m = L.length := ⟨_, rfl⟩
  have HM := Lib.hid hm
  have hm2 : m ≤ 2000000 := by rw [hm]; exact HLn.out
  rw [← hm]
  clear hI5 I5' hlc hm HNE HLn HLL HK HD HO
  go_wp2
  go_region
  have V7 : VecAt ((w3.alloc (.cells #[.int .i64 a, .int .i64 b] 24)).alloc (.cells #[.int .i64 X0, .int .i64 Y0] 24)).drew w3.heap.size a b := (VecAt.new w3 a b _).alloc _
  have V8 : VecAt ((w3.alloc (.cells #[.int .i64 a, .int .i64 b] 24)).alloc (.cells #[.int .i64 X0, .int .i64 Y0] 24)).drew (w3.heap.size + 1) X0 Y0 := by
    have := VecAt.new (w3.alloc (.cells #[.int .i64 a, .int .i64 b] 24)) X0 Y0 24
    rw [World.size_alloc] at this
    exact this
  have e2 : ∀ g, g < w3.heap.size → (((w3.alloc (.cells #[.int .i64 a, .int .i64 b] 24)).alloc (.cells #[.int .i64 X0, .int .i64 Y0] 24)).drew).heap[g]? = w3.heap[g]? := fun g hg =>
    (Below.heap_alloc (w3.alloc (.cells #[.int .i64 a, .int .i64 b] 24)) _ g (by simp; omega)).trans (Below.heap_alloc w3 _ g hg)
  have VN := HC.out.same (e2 gl HC.out.2) (by simp; omega)
  have VB := e2 w.heap.size hl3
  have VW : Vecs (((w3.alloc (.cells #[.int .i64 a, .int .i64 b] 24)).alloc (.cells #[.int .i64 X0, .int .i64 Y0] 24)).drew) w1.heap.size (.slice (some ⟨w1.heap.size, 0, none⟩) 1 1) [(a, b)] :=
    World.ownsRow.drew ((HW.out.far (row := none) (World.grownBy_alloc w3 (.cells #[.int .i64 a, .int .i64 b] 24) none) (fun k _ e => by cases e)).far (row := none) (World.grownBy_alloc _ (.cells #[.int .i64 X0, .int .i64 Y0] 24) none) (fun k _ e => by cases e))
  have VS : (((w3.alloc (.cells #[.int .i64 a, .int .i64 b] 24)).alloc (.cells #[.int .i64 X0, .int .i64 Y0] 24)).drew).heap.size = w3.heap.size + 1 + 1 := by simp
  have VA : Below w.heap.size w (((w3.alloc (.cells #[.int .i64 a, .int .i64 b] 24)).alloc (.cells #[.int .i64 X0, .int .i64 Y0] 24)).drew) := by have := hA3.size; go_grown
  generalize ((w3.alloc (.cells #[.int .i64 a, .int .i64 b] 24)).alloc (.cells #[.int .i64 X0, .int .i64 Y0] 24)).drew = W6 at *
  have H7 := Lib.hid V7
  have H8 := Lib.hid V8
  have HN := Lib.hid VN
  have HHB := Lib.hid VB
  have HVW := Lib.hid VW
  have HS3 := Lib.hid s3
  have HS2 := Lib.hid s2
  clear V7 V8 VN VB VW e2 s0 s1 s2 s3 HC HW hA3 t1 t2 m1 m2
  obtain ⟨i0, hi, hz0, hz1, hz2⟩ := info_parts infoVec
  go_wp2_with fail
  go_loopw [4, 9] (fun s4 s9 wr => ∃ (k : Nat) (done : List (Int × Int)) (lx ly nx ny : Int) (v4 : Value), v4 = s4 ∧ s9 = .int .i64 k ∧ k ≤ m ∧ Hid (BaseAt a b c d (L.drop k) done lx ly nx ny) ∧ Hid (Vecs wr w1.heap.size s4 done ∧ Apart s4 w3.heap.size (w3.heap.size + 1) gl) ∧ Hid (VecAt wr w3.heap.size lx ly) ∧ Hid (VecAt wr (w3.heap.size + 1) nx ny) ∧ Hid (NumsAt wr gl L) ∧ Hid (wr.heap[w.heap.size]? = w3.heap[w.heap.size]?) ∧ w3.heap.size + 1 + 1 ≤ wr.heap.size ∧ Below w.heap.size w wr) (fun _ s9 _ => m - (intOf s9).toNat)
  case atStart => exact ⟨0, [(a, b)], a, b, X0, Y0, _, rfl, rfl, Nat.zero_le _, HS, ⟨HVW.out, fun k hk => (by have hk' : w1.heap.size = k := (by simpa [Value.ownBlock] using hk); subst hk'; exact ⟨by omega, by omega, by omega⟩)⟩, H7, H8, HN, HHB, by omega, VA⟩
  case round =>
    obtain ⟨k, done, lx, ly, nx, ny, v4, rfl, rfl, hk, HBA, HV, G7, G8, GN, GB, hsz, hB⟩ := hrel
    clear H7 H8 HN HHB HVW HS VA VS
    have hdl := (HT.out _ _ _ _ _ _ HBA.out).2
    have hown : wr.ownsRow w1.heap.size 24 2 _ _ _ := HV.out.1
    have hlt1 := hB.size
    have hgN := GN.out.2
    by_cases hlt : k < m
    · have hkL : k < L.length := by have := HM.out; omega
      have HDr := Lib.hid (drop_get hkL)
      have c1 := GN.out.1 k hkL
      have HB2 := HBA.out
      rw [HDr.out] at HB2
      obtain ⟨hb', ⟨p0, p1⟩, ⟨p2, p3⟩, z0, z1⟩ := HX.out _ _ _ _ _ _ _ HB2
      have HNB := Lib.hid hb'
      have hbd : (-1000 ≤ lx ∧ lx ≤ 1000) ∧ (-1000 ≤ ly ∧ ly ≤ 1000) ∧ (-1000 ≤ nx ∧ nx ≤ 1000) ∧ (-1000 ≤ ny ∧ ny ≤ 1000) := by
        obtain ⟨_, _, _, _, _, _, _, _, _, b1, b2, b3, b4⟩ := HBA.out
        exact ⟨b1, b2, b3, b4⟩
      obtain ⟨⟨_, _⟩, ⟨_, _⟩, ⟨_, _⟩, _, _⟩ := hbd
      obtain ⟨⟨a70, a71⟩, ⟨a72, a73⟩, a74⟩ := G7.out
      obtain ⟨⟨a80, a81⟩, ⟨a82, a83⟩, a84⟩ := G8.out
      clear hb' HB2 HDr HBA hkL
      generalize L[k]?.getD 0 = z at *
      rw [Int.mul_comm] at p0 p1 p2 p3
      have EX := Lib.hid (Int.mul_comm nx z)
      have EY := Lib.hid (Int.mul_comm ny z)
      have j1 : (0 : Int) ≤ (k : Int) := by omega
      have j2 : (k : Int) < (m : Int) := by omega
      go_wp2_with (at_builtin; refine wpList_append_own_at _ rfl _ _ 43 rfl w1.heap.size 24 i0 (.agg #[.int .i64 (0), .int .i64 (0)]) 2 16 Tryd.underlying43 hi hz0 hz1 hz2 rfl (by decide) _ _ _ rfl (hown.alloc _) ⟨wr.heap.size, 0, none⟩ 1 1 [.int .i64 nx, .int .i64 ny] rfl rfl ?c1 ?c2 ?c3 ?c4 ?c5 ?_)
      case c1 =>
        intro j u hj
        match j, hj with
        | 0, hj => simp at hj; subst hj; simp [Addr.add]
        | 1, hj => simp at hj; subst hj; simp [Addr.add]
      case c2 => intro u hu; simp at hu; rcases hu with rfl | rfl <;> rfl
      case c3 => unfold maxLen; omega
      case c4 => omega
      case c5 => simp; omega
      intro v' w5 hown' hgrow _ hat
      have hsz5 : wr.heap.size + 1 ≤ w5.heap.size := by have := hgrow.size; simpa using this
      have eb : ∀ g, g < wr.heap.size → (∀ kk, v4.ownBlock = some kk → kk ≠ g) → w5.heap[g]? = wr.heap[g]? := fun g hg hne =>
        (hgrow.block g (by simp; omega) (fun e => hne g e.symm rfl)).trans (Below.heap_alloc wr _ g hg)
      have U7 := G7.out.same (eb _ a74 (fun kk h => (HV.out.2 kk h).1)) (by omega)
      have U8 := G8.out.same (eb _ a84 (fun kk h => (HV.out.2 kk h).2.1)) (by omega)
      have UN := GN.out.same (eb _ hgN (fun kk h => (HV.out.2 kk h).2.2)) (by omega)
      have UB := (eb w.heap.size (by omega) (fun kk h => by have := (hown.lt kk h).1; omega)).trans GB.out
      have c2 := (World.cell?_of_block (a := ⟨gl, k, none⟩) (eb _ hgN (fun kk h => (HV.out.2 kk h).2.2))).trans c1
      have hgN5 : gl < w5.heap.size := UN.2
      have HV' := Lib.hid (Vecs.snoc rfl hown')
      have HA' : Hid (Apart v' w3.heap.size (w3.heap.size + 1) gl) := by
        intro kk h
        rcases hat with h2 | h2
        · exact HV.out.2 kk (h2.symm.trans h)
        · rw [h] at h2
          have e : kk = wr.heap.size + 1 := by simpa using h2
          have := HV.out.2
          exact ⟨by omega, by omega, by omega⟩
      have HB5 : Below w.heap.size w w5 := ((hB.alloc hlt1 _).grown hgrow (by simp; omega) (fun kk h => by have := (hown.lt kk h).1; omega))
      have K7 := Lib.hid U7
      have K8 := Lib.hid U8
      have KN := Lib.hid UN
      have KB := Lib.hid UB
      obtain ⟨⟨c0, c1⟩, _, hs0⟩ := U7
      obtain ⟨⟨c3, c4⟩, _, hs1⟩ := U8
      have hs2 := hgN5
      have q1 : IntKind.i64.wrap (z * nx) = z * nx := by rw [IntKind.wrap_i64]; omega
      have q2 : IntKind.i64.wrap (z * nx - lx) = z * nx - lx := by rw [IntKind.wrap_i64]; omega
      have q3 : IntKind.i64.wrap (z * ny) = z * ny := by rw [IntKind.wrap_i64]; omega
      have q4 : IntKind.i64.wrap (z * ny - ly) = z * ny - ly := by rw [IntKind.wrap_i64]; omega
      clear hown hown' hgrow hat eb UN UB G7 G8 GN GB HV a70 a71 a72 a73 a80 a81 a82 a83 hB a74 a84
      go_upto_region 13 with fail
      go_cut [10] (fun s10 wx => ∃ g10 : Nat, s10 = .pointer (some ⟨g10, 0, none⟩) ∧ VecAt wx g10 (z * nx - lx) (z * ny - ly) ∧ w5.heap.size ≤ g10 ∧ Below w5.heap.size w5 wx)
      case first =>
        go_region_held3 (fun w' => w'.cell? ⟨w3.heap.size, 0, none⟩ = some (.int .i64 lx) ∧ w'.cell? ⟨w3.heap.size, 1, none⟩ = some (.int .i64 ly) ∧ w'.cell? ⟨w3.heap.size + 1, 0, none⟩ = some (.int .i64 nx) ∧ w'.cell? ⟨w3.heap.size + 1, 1, none⟩ = some (.int .i64 ny) ∧ w'.cell? ⟨gl, k, none⟩ = some (.int .i64 z) ∧ Below w5.heap.size w5 w')
          ((refine (fun hS => ⟨(hS.cell (p := ⟨w3.heap.size, 0, none⟩) hs0).trans c0, (hS.cell (p := ⟨w3.heap.size, 1, none⟩) hs0).trans c1, (hS.cell (p := ⟨w3.heap.size + 1, 0, none⟩) hs1).trans c3, (hS.cell (p := ⟨w3.heap.size + 1, 1, none⟩) hs1).trans c4, (hS.cell (p := ⟨gl, k, none⟩) hs2).trans c2, hS⟩) (?_ : Below w5.heap.size w5 _); first | (go_grown; done)))
          (fail)
        all_goals (go_wp2_with fail; go_meet)
        all_goals exact ⟨_, rfl, VecAt.new w5 _ _ _, Nat.le_refl _, by go_grown⟩
      case rest =>
        obtain ⟨W7, rfl⟩ : ∃ W7, W7 = wc := ⟨_, rfl⟩
        obtain ⟨g10, rfl, V10, hge, hB7⟩ := hcut
        have P7 := Lib.hid (K7.out.same (hB7.block _ hs0) hB7.size)
        have P8 := Lib.hid (K8.out.same (hB7.block _ hs1) hB7.size)
        have PN := Lib.hid (KN.out.same (hB7.block _ hs2) hB7.size)
        have PB := Lib.hid ((hB7.block w.heap.size (by omega)).trans KB.out)
        have HV7 := Lib.hid (HV'.out.below hB7)
        have hsz7 := hB7.size
        have hA7 : Below w.heap.size w W7 := belowTo HB5 hB7
        obtain ⟨⟨d0, d1⟩, ⟨d2, d3⟩, hs7⟩ := P7.out
        obtain ⟨⟨d4, d5⟩, ⟨d6, d7⟩, hs8⟩ := P8.out
        obtain ⟨⟨d8, d9⟩, _, hs10⟩ := V10
        have n1 : g10 ≠ w3.heap.size := by omega
        have n2 : g10 ≠ w3.heap.size + 1 := by omega
        have hw3 : w.heap.size ≤ w3.heap.size := by omega
        clear c0 c1 c2 c3 c4 hB7 K7 K8 KN KB HV' q1 q2 q3 q4 HB5
        go_wp2
        go_roundw
        case rel =>
          refine ⟨k + 1, done ++ [(nx, ny)], nx, ny, z * nx - lx, z * ny - ly, v', rfl, by go_num, by omega, (show BaseAt a b c d (L.drop (k + 1)) _ nx ny (z * nx - lx) (z * ny - ly) by rw [← EX.out, ← EY.out]; exact HNB.out), ⟨?_, HA'.out⟩, (P7.out.put nx ny).other (by omega) _ _, (P8.out.other (by omega) _ _).put _ _, ?_, ?_, by simp; omega, ?_⟩
          · exact (HV7.out.put (fun kk h => (HA'.out kk h).1) _ _).put (fun kk h => (HA'.out kk h).2.1) _ _
          · exact PN.out.same (by rw [heap_put _ _ (by omega), heap_put _ _ (by omega)]) (by simp)
          · show _ = _
            rw [heap_put _ _ (by omega), heap_put _ _ (by omega)]
            exact PB.out
          · exact (((hA7.setCell (p := ⟨w3.heap.size, 0, none⟩) hw3 _).setCell (p := ⟨w3.heap.size, 1, none⟩) hw3 _).setCell (p := ⟨w3.heap.size + 1, 0, none⟩) (show w.heap.size ≤ w3.heap.size + 1 by omega) _).setCell (p := ⟨w3.heap.size + 1, 1, none⟩) (show w.heap.size ≤ w3.heap.size + 1 by omega) _
        case measure => simp [intOf]; omega
    · have hkm : k = m := by omega
      have e0 : L.drop k = [] := List.drop_of_length_le (by have := HM.out; omega)
      have HB3 := HBA.out
      rw [e0] at HB3
      obtain ⟨f1, _, _⟩ := HE.out _ _ _ _ _ HB3
      have HF := Lib.hid f1
      have cb2 : wr.cell? ⟨w.heap.size, 2, none⟩ = some (.int .i64 c) := (World.cell?_of_block (a := ⟨w.heap.size, 2, none⟩) GB.out).trans HS2.out
      have cb3 : wr.cell? ⟨w.heap.size, 3, none⟩ = some (.int .i64 d) := (World.cell?_of_block (a := ⟨w.heap.size, 3, none⟩) GB.out).trans HS3.out
      have hwr : w.heap.size < wr.heap.size := by omega
      clear f1 HB3 HBA e0 G7 G8 GN GB
      go_wp2_with (at_builtin; refine wpList_append_own_at _ rfl _ _ 43 rfl w1.heap.size 24 i0 (.agg #[.int .i64 (0), .int .i64 (0)]) 2 16 Tryd.underlying43 hi hz0 hz1 hz2 rfl (by decide) _ _ _ rfl (hown.alloc _) ⟨wr.heap.size, 0, none⟩ 1 1 [.int .i64 c, .int .i64 d] rfl rfl ?c1 ?c2 ?c3 ?c4 ?c5 ?_)
      case c1 =>
        intro j u hj
        match j, hj with
        | 0, hj => simp at hj; subst hj; simp [Addr.add]
        | 1, hj => simp at hj; subst hj; simp [Addr.add]
      case c2 => intro u hu; simp at hu; rcases hu with rfl | rfl <;> rfl
      case c3 => unfold maxLen; omega
      case c4 => omega
      case c5 => simp; omega
      intro v' w5 hown' hgrow _ _
      have HB5 : Below w.heap.size w w5 := ((hB.alloc hlt1 _).grown hgrow (by simp; omega) (fun kk h => by have := (hown.lt kk h).1; omega))
      have HV5 := Lib.hid ((Vecs.snoc rfl hown').lower (Nat.le_of_lt hw13))
      clear hown hown' hgrow HV
      go_wp2
      go_returns
      refine ⟨_, rfl, ?_, HB5⟩
      rw [HF.out]
      exact HV5.out
end Go.Proofs.YtjlobpccnplebaaDoor
