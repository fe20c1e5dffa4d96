/- The whole base: the program's iterator. -/
import Derived.Test.YtjlobpccnplebaaDoorVe
import Derived.Test.YtjlobpccnplebaaDoorVf
import Derived.Test.YtjlobpccnplebaaDoorFd
import Derived.Sort.CutIn
import Derived.Deep.RegionWith
namespace Go.Proofs.YtjlobpccnplebaaDoor
open Go.RowKit Go.Shelf

attribute [local go_sem] Oper.semAt_some

set_option maxHeartbeats 1000000 in
theorem times_big (x y n : Int) (w : World) (hx : -2000000000 ≤ x * n ∧ x * n ≤ 2000000000) (hy : -2000000000 ≤ y * n ∧ y * n ≤ 2000000000) :
    Calls Tryd.prog 82 #[.agg #[.int .i64 (x), .int .i64 (y)], .int .i64 n] w fun e w' => e = .returned (.agg #[.int .i64 (x * n), .int .i64 (y * n)]) ∧ Below w.heap.size w w' := by
  obtain ⟨_, _⟩ := hx
  obtain ⟨_, _⟩ := hy
  go_enter Tryd.func82, Tryd.ntmps82
  go_wp2
  go_returns
  exact ⟨rfl, by go_grown⟩
set_option maxHeartbeats 1000000 in
theorem plus_big (x1 y1 x2 y2 : Int) (w : World) (h1 : -1000 ≤ x1 ∧ x1 ≤ 1000) (h2 : -1000 ≤ y1 ∧ y1 ≤ 1000) (h3 : -2000000000 ≤ x2 ∧ x2 ≤ 2000000000) (h4 : -2000000000 ≤ y2 ∧ y2 ≤ 2000000000) :
    Calls Tryd.prog 54 #[.agg #[.int .i64 (x1), .int .i64 (y1)], .agg #[.int .i64 (x2), .int .i64 (y2)]] w fun e w' => e = .returned (.agg #[.int .i64 (x1 + x2), .int .i64 (y1 + y2)]) ∧ Below w.heap.size w w' := by
  obtain ⟨_, _⟩ := h1
  obtain ⟨_, _⟩ := h2
  obtain ⟨_, _⟩ := h3
  obtain ⟨_, _⟩ := h4
  go_enter Tryd.func54, Tryd.ntmps54
  go_wp2
  go_returns
  exact ⟨rfl, by go_grown⟩
set_option maxHeartbeats 1000000 in
theorem minus_big (x1 y1 x2 y2 : Int) (w : World) (h1 : -2000000000 ≤ x1 ∧ x1 ≤ 2000000000) (h2 : -2000000000 ≤ y1 ∧ y1 ≤ 2000000000) (h3 : -1000 ≤ x2 ∧ x2 ≤ 1000) (h4 : -1000 ≤ y2 ∧ y2 ≤ 1000) :
    Calls Tryd.prog 90 #[.agg #[.int .i64 (x1), .int .i64 (y1)], .agg #[.int .i64 (x2), .int .i64 (y2)]] w fun e w' => e = .returned (.agg #[.int .i64 (x1 - x2), .int .i64 (y1 - y2)]) ∧ Below w.heap.size w w' := by
  obtain ⟨_, _⟩ := h1
  obtain ⟨_, _⟩ := h2
  obtain ⟨_, _⟩ := h3
  obtain ⟨_, _⟩ := h4
  go_enter Tryd.func90, Tryd.ntmps90
  go_wp2
  go_returns
  exact ⟨rfl, by go_grown⟩

/-- a cone in block g -/
def ConeAt (W : World) (g : Nat) (a b c d : Int) : Prop := (W.cell? ⟨g, 0, none⟩ = some (.int .i64 a) ∧ W.cell? ⟨g, 1, none⟩ = some (.int .i64 b) ∧ W.cell? ⟨g, 2, none⟩ = some (.int .i64 c) ∧ W.cell? ⟨g, 3, none⟩ = some (.int .i64 d)) ∧ g < W.heap.size
theorem ConeAt.same {W W' : World} {g : Nat} {a b c d : Int} (h : ConeAt W g a b c d) (e : W'.heap[g]? = W.heap[g]?) (hs : W.heap.size ≤ W'.heap.size) : ConeAt W' g a b c d := by
  obtain ⟨⟨h1, h2, h3, h4⟩, h5⟩ := h
  exact ⟨⟨(World.cell?_of_block (a := ⟨g, 0, none⟩) e).trans h1, (World.cell?_of_block (a := ⟨g, 1, none⟩) e).trans h2, (World.cell?_of_block (a := ⟨g, 2, none⟩) e).trans h3, (World.cell?_of_block (a := ⟨g, 3, none⟩) e).trans h4⟩, Nat.lt_of_lt_of_le h5 hs⟩

set_option linter.unusedSimpArgs false in
set_option maxRecDepth 100000 in
set_option maxHeartbeats 8000000 in
theorem base_seq (n : Nat) (hn : 1 ≤ n) (Bs : Nat) (a b c d : Int) (h : coneB a b c d = true) (w : World) (hc : ConeAt w Bs a b c d) :
    PrivSeq n Tryd.prog 89 #[.pointer (some ⟨Bs, 0, none⟩)] (fun x : Int × Int => #[.agg #[.int .i64 (x.1), .int .i64 (x.2)]]) (fun xs => xs = baseL a b c d) (baseL a b c d).length Bs w := by
  intro l J W hW hJ hY h0
  obtain ⟨h1, _, h2, _, hp⟩ := cone_in h
  have hp' := posB_true hp
  have hnb : (detZ a b c d == 0) = false := by simp; omega
  have hnn : ¬ detZ a b c d = 0 := by omega
  have hdn := det_sz h1 h2
  have hk := kindC_rng h
  obtain ⟨xa, xb⟩ := szs h1
  obtain ⟨xc, xd⟩ := szs h2
  have m1 := mul_bd2 (q := kindC a b c d) (a := a) ⟨hk.1, by omega⟩ xa
  have m2 := mul_bd2 (q := kindC a b c d) (a := b) ⟨hk.1, by omega⟩ xb
  have t1 : (c + a * kindC a b c d).tdiv (detZ a b c d) = baseX a b c d := by rw [← (base_tdiv h).1, Int.mul_comm a, Int.add_comm]
  have t2 : (d + b * kindC a b c d).tdiv (detZ a b c d) = baseY a b c d := by rw [← (base_tdiv h).2, Int.mul_comm b, Int.add_comm]
  rw [Int.mul_comm] at m1 m2
  have HS := Lib.hid (baseAt_start h)
  have hXY : (-1000 ≤ baseX a b c d ∧ baseX a b c d ≤ 1000) ∧ (-1000 ≤ baseY a b c d ∧ baseY a b c d ≤ 1000) := by
    obtain ⟨_, _, _, _, _, _, _, _, _, _, _, q1, q2⟩ := baseAt_start h
    exact ⟨q1, q2⟩
  have HX := Lib.hid (fun z l done lx ly nx ny hb => baseAt_next (z := z) (l := l) (done := done) (lx := lx) (ly := ly) (nx := nx) (ny := ny) h hb)
  have HE := Lib.hid (fun done lx ly nx ny hb => baseAt_end (a := a) (b := b) (c := c) (d := d) (done := done) (lx := lx) (ly := ly) (nx := nx) (ny := ny) hb)
  have HF := Lib.hid (fun w' => coneFractionM_any a b c d w' h)
  have HK := Lib.hid (fun w' => kind_any a b c d w' h)
  have HD := Lib.hid (fun w' => index_any a b c d w' h1 h2)
  have HT := Lib.hid (fun w' => times_big a b (kindC a b c d) w' m1 m2)
  have HP := Lib.hid (fun w' => plus_big c d (a * kindC a b c d) (b * kindC a b c d) w' xc xd m1 m2)
  have HLn := Lib.hid (fracC_len h)
  have HY := Lib.hid hY
  have HJ := Lib.hid hJ
  have H0 := Lib.hid h0
  have hcW := hc.same (hW.block Bs hc.2) hW.size
  obtain ⟨⟨c0, c1, c2, c3⟩, hs0⟩ := hcW
  generalize hN : detZ a b c d = N at *
  generalize kindC a b c d = K at *
  generalize fracC a b c d = L at *
  generalize baseX a b c d = X0 at *
  generalize baseY a b c d = Y0 at *
  generalize hBL : baseL a b c d = BL at *
  obtain ⟨⟨_, _⟩, _, _⟩ := hXY
  obtain ⟨_, _⟩ := hdn
  obtain ⟨_, _⟩ := hk
  obtain ⟨_, _⟩ := m1
  obtain ⟨_, _⟩ := m2
  have HBL := Lib.hid hBL
  have q1 : IntKind.i64.wrap X0 = X0 := by rw [IntKind.wrap_i64]; omega
  have q2 : IntKind.i64.wrap Y0 = Y0 := by rw [IntKind.wrap_i64]; omega
  clear h hp hN hY hJ h0 hBL hc
  refine callsIn_of_wp Tryd.func89 rfl trivial ?_ rfl
  simp only [Tryd.ntmps89, List.size_toArray, List.length_cons, List.length_nil, Nat.reduceAdd, Nat.reduceSub, Array.replicate_succ, Array.replicate_zero, List.push_toArray, List.append_toArray, List.nil_append, List.cons_append]
  gi_wp2_with fail
  refine ⟨trivial, ?_⟩
  refine CallsIn.mono (callsIn_wide.2 (HD.out _)) ?_
  rintro e V1 ⟨rfl, hb1⟩
  have A1 := hb1
  replace c0 := (hb1.cell (p := ⟨Bs, 0, none⟩) hs0).trans c0
  replace c1 := (hb1.cell (p := ⟨Bs, 1, none⟩) hs0).trans c1
  replace c2 := (hb1.cell (p := ⟨Bs, 2, none⟩) hs0).trans c2
  replace c3 := (hb1.cell (p := ⟨Bs, 3, none⟩) hs0).trans c3
  replace hs0 := Nat.lt_of_lt_of_le hs0 hb1.size
  clear hb1
  gi_upto_region 1 with fail
  refine wpIn_wide.2 ?_
  go_cut [4] (fun s4 wx => ∃ g4 : Nat, s4 = .pointer (some ⟨g4, 0, none⟩) ∧ VecAt wx g4 (c + a * K) (d + b * K) ∧ Below V1.heap.size V1 wx)
  case first =>
    go_region_held3 (fun w' => w'.cell? ⟨Bs, 0, none⟩ = some (.int .i64 (a)) ∧ w'.cell? ⟨Bs, 1, none⟩ = some (.int .i64 (b)) ∧ w'.cell? ⟨Bs, 2, none⟩ = some (.int .i64 (c)) ∧ w'.cell? ⟨Bs, 3, none⟩ = some (.int .i64 (d)) ∧ Below V1.heap.size V1 w') ((refine (fun hS => ⟨(hS.cell (p := ⟨Bs, 0, none⟩) hs0).trans c0, (hS.cell (p := ⟨Bs, 1, none⟩) hs0).trans c1, (hS.cell (p := ⟨Bs, 2, none⟩) hs0).trans c2, (hS.cell (p := ⟨Bs, 3, none⟩) hs0).trans c3, hS⟩) (?_ : Below V1.heap.size V1 _); first | (go_grown; done))) (first | (go_at_call 62; go_call (HK.out _) as e w1 ⟨rfl, hb0⟩; have hT : Below V1.heap.size V1 w1 := belowTo (by go_split_ands; assumption) hb0; have hTs := hT.size; (first | have hb1 := belowTo (by assumption) hb0 | have hb1 := hb0); obtain ⟨hc1, hf1⟩ := bcell hb1; have hz1 := bsize hb1; have hbs := hb0.size; (try simp only [World.size_alloc, World.size_drew, Nat.add_one_le_iff] at hbs); (try have t1 : V1.heap.size < w1.heap.size := (by omega)); (try have t2 : ¬ V1.heap.size = w1.heap.size := (by omega)); (try have t3 : ¬ w1.heap.size = V1.heap.size := (by omega))) | (go_at_call 82; go_call (HT.out _) as e w1 ⟨rfl, hb0⟩; have hT : Below V1.heap.size V1 w1 := belowTo (by go_split_ands; assumption) hb0; have hTs := hT.size; (first | have hb1 := belowTo (by assumption) hb0 | have hb1 := hb0); obtain ⟨hc1, hf1⟩ := bcell hb1; have hz1 := bsize hb1; have hbs := hb0.size; (try simp only [World.size_alloc, World.size_drew, Nat.add_one_le_iff] at hbs); (try have t1 : V1.heap.size < w1.heap.size := (by omega)); (try have t2 : ¬ V1.heap.size = w1.heap.size := (by omega)); (try have t3 : ¬ w1.heap.size = V1.heap.size := (by omega))) | (go_at_call 54; go_call (HP.out _) as e w1 ⟨rfl, hb0⟩; have hT : Below V1.heap.size V1 w1 := belowTo (by go_split_ands; assumption) hb0; have hTs := hT.size; (first | have hb1 := belowTo (by assumption) hb0 | have hb1 := hb0); obtain ⟨hc1, hf1⟩ := bcell hb1; have hz1 := bsize hb1; have hbs := hb0.size; (try simp only [World.size_alloc, World.size_drew, Nat.add_one_le_iff] at hbs); (try have t1 : V1.heap.size < w1.heap.size := (by omega)); (try have t2 : ¬ V1.heap.size = w1.heap.size := (by omega)); (try have t3 : ¬ w1.heap.size = V1.heap.size := (by omega))))
    all_goals (go_wp2_with fail; go_meet)
    all_goals exact ⟨_, rfl, ⟨⟨by first | (go_cell; done) | (simp; done) | (simp [*]; done), by first | (go_cell; done) | (simp; done) | (simp [*]; done)⟩, ⟨by first | (go_cell; done) | (simp; done) | (simp [*]; done), by first | (go_cell; done) | (simp; done) | (simp [*]; done)⟩, by first | (go_size; done) | (simp [*]; done) | (simp; omega)⟩, by go_grown⟩
  case rest =>
    obtain ⟨V2, rfl⟩ : ∃ V2, V2 = wc := ⟨_, rfl⟩
    obtain ⟨g4, rfl, ⟨⟨e0, e1⟩, _, hs1⟩, B2⟩ := hcut
    have A2 : Below W.heap.size W V2 := belowTo A1 B2
    replace c0 := (B2.cell (p := ⟨Bs, 0, none⟩) hs0).trans c0
    replace c1 := (B2.cell (p := ⟨Bs, 1, none⟩) hs0).trans c1
    have z2 := (B2.cell (p := ⟨Bs, 2, none⟩) hs0).trans c2
    have z3 := (B2.cell (p := ⟨Bs, 3, none⟩) hs0).trans c3
    have c2 := e0
    have c3 := e1
    replace hs0 := Nat.lt_of_lt_of_le hs0 B2.size
    clear e0 e1 B2 A1
    gi_upto_region 2 with fail
    refine wpIn_wide.2 ?_
    go_cut [5, 6] (fun s5 s6 wx => ∃ g5 g6 : Nat, s5 = .pointer (some ⟨g5, 0, none⟩) ∧ s6 = .pointer (some ⟨g6, 0, none⟩) ∧ VecAt wx g5 a b ∧ VecAt wx g6 X0 Y0 ∧ g5 ≠ g6 ∧ V2.heap.size ≤ g5 ∧ V2.heap.size ≤ g6 ∧ Below V2.heap.size V2 wx)
    case first =>
      go_region_held3 (fun w' => w'.cell? ⟨Bs, 0, none⟩ = some (.int .i64 (a)) ∧ w'.cell? ⟨Bs, 1, none⟩ = some (.int .i64 (b)) ∧ w'.cell? ⟨g4, 0, none⟩ = some (.int .i64 (c + a * K)) ∧ w'.cell? ⟨g4, 1, none⟩ = some (.int .i64 (d + b * K)) ∧ Below V2.heap.size V2 w') ((refine (fun hS => ⟨(hS.cell (p := ⟨Bs, 0, none⟩) hs0).trans c0, (hS.cell (p := ⟨Bs, 1, none⟩) hs0).trans c1, (hS.cell (p := ⟨g4, 0, none⟩) hs1).trans c2, (hS.cell (p := ⟨g4, 1, none⟩) hs1).trans c3, hS⟩) (?_ : Below V2.heap.size V2 _); first | (go_grown; done))) (first | (go_at_call 62; go_call (HK.out _) as e w1 ⟨rfl, hb0⟩; have hT : Below V2.heap.size V2 w1 := belowTo (by go_split_ands; assumption) hb0; have hTs := hT.size; (first | have hb1 := belowTo (by assumption) hb0 | have hb1 := hb0); obtain ⟨hc1, hf1⟩ := bcell hb1; have hz1 := bsize hb1; have hbs := hb0.size; (try simp only [World.size_alloc, World.size_drew, Nat.add_one_le_iff] at hbs); (try have t1 : V2.heap.size < w1.heap.size := (by omega)); (try have t2 : ¬ V2.heap.size = w1.heap.size := (by omega)); (try have t3 : ¬ w1.heap.size = V2.heap.size := (by omega))))
      all_goals (go_wp2_with fail; go_meet)
      all_goals exact ⟨_, _, rfl, rfl, ⟨⟨by first | (go_cell; done) | (simp; done) | (simp [*]; done), by first | (go_cell; done) | (simp; done) | (simp [*]; done)⟩, ⟨by first | (go_cell; done) | (simp; done) | (simp [*]; done), by first | (go_cell; done) | (simp; done) | (simp [*]; done)⟩, by first | (go_size; done) | (simp [*]; done) | (simp; omega)⟩, ⟨⟨by first | (go_cell; done) | (simp; done) | (simp [*]; done), by first | (go_cell; done) | (simp; done) | (simp [*]; done)⟩, ⟨by first | (go_cell; done) | (simp; done) | (simp [*]; done), by first | (go_cell; done) | (simp; done) | (simp [*]; done)⟩, by first | (go_size; done) | (simp [*]; done) | (simp; omega)⟩, by first | omega | simp, by first | omega | simp, by first | omega | simp, by go_grown⟩
    case rest =>
      obtain ⟨V5, rfl⟩ : ∃ V5, V5 = wc := ⟨_, rfl⟩
      obtain ⟨g5, g6, rfl, rfl, P5, P6, hne, hg5, hg6, B5⟩ := hcut
      have A5 : Below W.heap.size W V5 := belowTo A2 B5
      have K5 := Lib.hid P5
      have K6 := Lib.hid P6
      have hC5 : Hid (ConeAt V5 Bs a b c d) := ⟨⟨(B5.cell (p := ⟨Bs, 0, none⟩) hs0).trans c0, (B5.cell (p := ⟨Bs, 1, none⟩) hs0).trans c1, (B5.cell (p := ⟨Bs, 2, none⟩) hs0).trans z2, (B5.cell (p := ⟨Bs, 3, none⟩) hs0).trans z3⟩, Nat.lt_of_lt_of_le hs0 B5.size⟩
      have hWV2 := A2.size
      obtain ⟨⟨k50, k51⟩, _, hl5⟩ := P5
      have hl6 := P6.2.2
      clear B5 A2 c0 c1 c2 c3 z2 z3 P6
      have HJ5 : Hid (J (fun k => W.heap.size ≤ k ∧ k < V5.heap.size) [] V5) := HJ.out.less _ _ _ _ (HJ.out.grows _ _ _ _ H0.out (grown_of_below A5 none)) (fun k hk => hk.1)
      have hlen0 : ([] : List (Int × Int)).length < BL.length := by rw [← HBL.out]; simp [baseL]
      obtain ⟨fn, tmps, assign, body, hy, hR⟩ := HY.out _ [] (a, b) V5 HJ5.out (fun k hk => hk.2) hlen0
      dsimp only at hy
      gi_wp2
      refine hR.mono ?_
      rintro e V6 ⟨rfl, hJ6, hk6⟩
      have HJ6 : Hid (J (fun k => W.heap.size ≤ k ∧ k < V5.heap.size) [(a, b)] V6) := hJ6
      have L5 := Lib.hid (K5.out.same (hk6.1 g5 ⟨by omega, hl5⟩) hk6.2.2)
      have L6 := Lib.hid (K6.out.same (hk6.1 g6 ⟨by omega, hl6⟩) hk6.2.2)
      have hC6 := Lib.hid (hC5.out.same hk6.2.1 hk6.2.2)
      have hs6 := hk6.2.2
      obtain ⟨⟨u0, u1, u2, u3⟩, u4⟩ := hC6.out
      clear hJ6 hk6 K5 K6 hC5 HJ5 hy hR k50 k51
      gi_wp2_with fail
      refine ⟨trivial, ?_⟩
      refine CallsIn.mono (callsIn_wide.2 (HF.out _)) ?_
      rintro e V7 ⟨v, rfl, I7, hb7⟩
      have G5 := Lib.hid (L5.out.same (hb7.block g5 L5.out.2.2) hb7.size)
      have G6 := Lib.hid (L6.out.same (hb7.block g6 L6.out.2.2) hb7.size)
      have hlt5 := L5.out.2.2
      have hlt6 := L6.out.2.2
      have hs7 := hb7.size
      have HJ7 : Hid (J (fun k => (W.heap.size ≤ k ∧ k < V5.heap.size) ∨ (V6.heap.size ≤ k ∧ k < V7.heap.size)) [(a, b)] V7) :=
        HJ.out.less _ _ _ _ (HJ.out.grows _ _ _ _ (HJ.out.fresh _ _ _ HJ6.out) (grown_of_below hb7 none)) (fun k hk => hk.imp id And.left)
      have hC7 := Lib.hid (hC6.out.same (hb7.block Bs u4) hb7.size)
      obtain ⟨m, hm⟩ : ∃ m, m = L.length := ⟨_, rfl⟩
      have HM := Lib.hid hm
      have hm2 : m ≤ 2000000 := by rw [hm]; exact HLn.out
      clear L5 L6 hb7 HJ6 hC6 u0 u1 u2 u3 HF HLn
      -- where the list lies
      obtain ⟨gl, cl, av, rfl, HNL⟩ : ∃ (gl cl : Nat) (av : Option Addr), v = .slice av m cl ∧ Hid ((L ≠ [] → av = some ⟨gl, 0, none⟩ ∧ V6.heap.size ≤ gl) ∧ (L ≠ [] → NumsAt V7 gl L)) := by
        rcases I7.form with ⟨h0, a0, c0, rfl⟩ | ⟨_, gl, cl, rfl, hgl, hgls, _⟩
        · exact ⟨0, c0, a0, by rw [hm, h0]; rfl, fun hne => absurd h0 hne, fun hne => absurd h0 hne⟩
        · exact ⟨gl, cl, _, by rw [hm], fun _ => ⟨rfl, hgl⟩, fun _ => ⟨fun j hj => I7.cell j hj, hgls⟩⟩
      clear I7 hm
      gi_wp2_with fail
      gi_loopw [37] (fun s wr => ∃ (k : Nat) (done : List (Int × Int)) (lx ly nx ny : Int), s = .int .i64 k ∧ k ≤ m ∧ Hid (BaseAt a b c d (L.drop k) done lx ly nx ny) ∧ Hid (VecAt wr g5 lx ly) ∧ Hid (VecAt wr g6 nx ny) ∧ Hid (L ≠ [] → NumsAt wr gl L) ∧ Hid (J (fun k => (W.heap.size ≤ k ∧ k < V5.heap.size) ∨ (V6.heap.size ≤ k ∧ k < V7.heap.size)) done wr) ∧ V7.heap.size ≤ wr.heap.size) (fun s _ => m - (intOf s).toNat)
      case atStart => exact ⟨0, [(a, b)], a, b, X0, Y0, rfl, Nat.zero_le _, HS, G5, G6, HNL.out.2, HJ7, Nat.le_refl _⟩
      case round =>
        obtain ⟨k, done, lx, ly, nx, ny, rfl, hk, HBA, P5, P6, PN, PJ, hsz⟩ := hrel
        clear G5 G6 HJ7 HS hC7
        obtain ⟨⟨a60, a61⟩, _, a64⟩ := P6.out
        have hXs : ∀ k, ((W.heap.size ≤ k ∧ k < V5.heap.size) ∨ (V6.heap.size ≤ k ∧ k < V7.heap.size)) → k < wr.heap.size := fun k hk => by omega
        have hdl : done.length < BL.length := by
          obtain ⟨_, _, _, e2, _⟩ := HBA.out
          rw [← HBL.out, e2, List.length_append, baseZ_len]
          omega
        by_cases hlt : k < m
        · have hkL : k < L.length := by have := HM.out; omega
          have hLne : L ≠ [] := fun e => by rw [e] at hkL; simp at hkL
          obtain ⟨rfl, hgl⟩ := HNL.out.1 hLne
          have HDr := Lib.hid (drop_get hkL)
          have hN := PN.out hLne
          have r1 := hN.1 k hkL
          have hgl2 := (HNL.out.2 hLne).2
          have HB2 := HBA.out
          rw [HDr.out] at HB2
          obtain ⟨hb', p0, p1, z0, z1⟩ := HX.out _ _ _ _ _ _ _ HB2
          have HNB := Lib.hid hb'
          have hbd : (-1000 ≤ lx ∧ lx ≤ 1000) ∧ (-1000 ≤ ly ∧ ly ≤ 1000) := by
            obtain ⟨_, _, _, _, _, _, _, _, _, b1, b2, _, _⟩ := HBA.out
            exact ⟨b1, b2⟩
          obtain ⟨bx, by'⟩ := hbd
          obtain ⟨fn, tmps, assign, body, hy, hR⟩ := HY.out _ done (nx, ny) wr PJ.out hXs hdl
          dsimp only at hy
          clear hb' HB2 HBA
          generalize L[k]?.getD 0 = z at *
          have HTT := Lib.hid (fun w' => times_big nx ny z w' p0 p1)
          have HMM := Lib.hid (fun w' => minus_big (nx * z) (ny * z) lx ly w' p0 p1 bx by')
          have j1 : (0 : Int) ≤ (k : Int) := by omega
          have j2 : (k : Int) < (m : Int) := by omega
          gi_wp2
          refine hR.mono ?_
          rintro e V8 ⟨rfl, hJ8, hk8⟩
          have HJ8 := Lib.hid hJ8
          have R5 := Lib.hid (P5.out.same (hk8.1 g5 (.inl ⟨by omega, hl5⟩)) hk8.2.2)
          have R6 := Lib.hid (P6.out.same (hk8.1 g6 (.inl ⟨by omega, hl6⟩)) hk8.2.2)
          have RN := Lib.hid (hN.same (hk8.1 gl (.inr ⟨hgl, hgl2⟩)) hk8.2.2)
          have hs8 := hk8.2.2
          obtain ⟨⟨b50, b51⟩, ⟨b52, b53⟩, b54⟩ := R5.out
          obtain ⟨⟨b60, b61⟩, ⟨b62, b63⟩, b64⟩ := R6.out
          have hB8 : Below W.heap.size V8 V8 := Below.refl _ _
          have hWg5 : W.heap.size ≤ g5 := by omega
          have hWg6 : W.heap.size ≤ g6 := by omega
          have hW8 : W.heap.size ≤ V8.heap.size := by omega
          clear hy hR hJ8 hk8 P5 P6 PN PJ a60 a61 r1 hN q1 q2
          gi_upto_region 8 with fail
          refine wpIn_wide.2 ?_
          have hB80 : Below V8.heap.size V8 V8 := Below.refl _ _
          have hB80 : Below V8.heap.size V8 V8 := Below.refl _ _
          go_region_with (first | (go_at_call 82; go_call (HTT.out _) as e w1 ⟨rfl, hb0⟩; have q0 : w1.cell? ⟨g5, 0, none⟩ = some (.int .i64 lx) := (hb0.cell (p := ⟨g5, 0, none⟩) (by first | (with_reducible assumption) | (go_size; done) | (simp; omega))).trans (by first | (with_reducible assumption) | (go_keep; done) | (go_cell; done) | (go_simp; done) | (simp [*]; done)); have qf0 : w1.frozen? ⟨g5, 0, none⟩ = false := (hb0.frozen (p := ⟨g5, 0, none⟩) (by first | (with_reducible assumption) | (go_size; done) | (simp; omega))).trans (by first | (with_reducible assumption) | (go_keep; done) | (go_cell; done) | (go_simp; done) | (simp [*]; done)); have q1 : w1.cell? ⟨g5, 1, none⟩ = some (.int .i64 ly) := (hb0.cell (p := ⟨g5, 1, none⟩) (by first | (with_reducible assumption) | (go_size; done) | (simp; omega))).trans (by first | (with_reducible assumption) | (go_keep; done) | (go_cell; done) | (go_simp; done) | (simp [*]; done)); have qf1 : w1.frozen? ⟨g5, 1, none⟩ = false := (hb0.frozen (p := ⟨g5, 1, none⟩) (by first | (with_reducible assumption) | (go_size; done) | (simp; omega))).trans (by first | (with_reducible assumption) | (go_keep; done) | (go_cell; done) | (go_simp; done) | (simp [*]; done)); have q2 : w1.cell? ⟨g6, 0, none⟩ = some (.int .i64 nx) := (hb0.cell (p := ⟨g6, 0, none⟩) (by first | (with_reducible assumption) | (go_size; done) | (simp; omega))).trans (by first | (with_reducible assumption) | (go_keep; done) | (go_cell; done) | (go_simp; done) | (simp [*]; done)); have qf2 : w1.frozen? ⟨g6, 0, none⟩ = false := (hb0.frozen (p := ⟨g6, 0, none⟩) (by first | (with_reducible assumption) | (go_size; done) | (simp; omega))).trans (by first | (with_reducible assumption) | (go_keep; done) | (go_cell; done) | (go_simp; done) | (simp [*]; done)); have q3 : w1.cell? ⟨g6, 1, none⟩ = some (.int .i64 ny) := (hb0.cell (p := ⟨g6, 1, none⟩) (by first | (with_reducible assumption) | (go_size; done) | (simp; omega))).trans (by first | (with_reducible assumption) | (go_keep; done) | (go_cell; done) | (go_simp; done) | (simp [*]; done)); have qf3 : w1.frozen? ⟨g6, 1, none⟩ = false := (hb0.frozen (p := ⟨g6, 1, none⟩) (by first | (with_reducible assumption) | (go_size; done) | (simp; omega))).trans (by first | (with_reducible assumption) | (go_keep; done) | (go_cell; done) | (go_simp; done) | (simp [*]; done)); have hs0 : g5 < w1.heap.size := Nat.lt_of_lt_of_le (by first | (with_reducible assumption) | (go_size; done) | (simp; omega)) hb0.size; have hs1 : g6 < w1.heap.size := Nat.lt_of_lt_of_le (by first | (with_reducible assumption) | (go_size; done) | (simp; omega)) hb0.size; have hT2 : Below V8.heap.size V8 w1 := belowTo (by first | (with_reducible assumption) | (go_grown; done)) hb0; clear hb0) | (go_at_call 90; go_call (HMM.out _) as e w1 ⟨rfl, hb0⟩; have q0 : w1.cell? ⟨g5, 0, none⟩ = some (.int .i64 lx) := (hb0.cell (p := ⟨g5, 0, none⟩) (by first | (with_reducible assumption) | (go_size; done) | (simp; omega))).trans (by first | (with_reducible assumption) | (go_keep; done) | (go_cell; done) | (go_simp; done) | (simp [*]; done)); have qf0 : w1.frozen? ⟨g5, 0, none⟩ = false := (hb0.frozen (p := ⟨g5, 0, none⟩) (by first | (with_reducible assumption) | (go_size; done) | (simp; omega))).trans (by first | (with_reducible assumption) | (go_keep; done) | (go_cell; done) | (go_simp; done) | (simp [*]; done)); have q1 : w1.cell? ⟨g5, 1, none⟩ = some (.int .i64 ly) := (hb0.cell (p := ⟨g5, 1, none⟩) (by first | (with_reducible assumption) | (go_size; done) | (simp; omega))).trans (by first | (with_reducible assumption) | (go_keep; done) | (go_cell; done) | (go_simp; done) | (simp [*]; done)); have qf1 : w1.frozen? ⟨g5, 1, none⟩ = false := (hb0.frozen (p := ⟨g5, 1, none⟩) (by first | (with_reducible assumption) | (go_size; done) | (simp; omega))).trans (by first | (with_reducible assumption) | (go_keep; done) | (go_cell; done) | (go_simp; done) | (simp [*]; done)); have q2 : w1.cell? ⟨g6, 0, none⟩ = some (.int .i64 nx) := (hb0.cell (p := ⟨g6, 0, none⟩) (by first | (with_reducible assumption) | (go_size; done) | (simp; omega))).trans (by first | (with_reducible assumption) | (go_keep; done) | (go_cell; done) | (go_simp; done) | (simp [*]; done)); have qf2 : w1.frozen? ⟨g6, 0, none⟩ = false := (hb0.frozen (p := ⟨g6, 0, none⟩) (by first | (with_reducible assumption) | (go_size; done) | (simp; omega))).trans (by first | (with_reducible assumption) | (go_keep; done) | (go_cell; done) | (go_simp; done) | (simp [*]; done)); have q3 : w1.cell? ⟨g6, 1, none⟩ = some (.int .i64 ny) := (hb0.cell (p := ⟨g6, 1, none⟩) (by first | (with_reducible assumption) | (go_size; done) | (simp; omega))).trans (by first | (with_reducible assumption) | (go_keep; done) | (go_cell; done) | (go_simp; done) | (simp [*]; done)); have qf3 : w1.frozen? ⟨g6, 1, none⟩ = false := (hb0.frozen (p := ⟨g6, 1, none⟩) (by first | (with_reducible assumption) | (go_size; done) | (simp; omega))).trans (by first | (with_reducible assumption) | (go_keep; done) | (go_cell; done) | (go_simp; done) | (simp [*]; done)); have hs0 : g5 < w1.heap.size := Nat.lt_of_lt_of_le (by first | (with_reducible assumption) | (go_size; done) | (simp; omega)) hb0.size; have hs1 : g6 < w1.heap.size := Nat.lt_of_lt_of_le (by first | (with_reducible assumption) | (go_size; done) | (simp; omega)) hb0.size; have hT2 : Below V8.heap.size V8 w1 := belowTo (by first | (with_reducible assumption) | (go_grown; done)) hb0; clear hb0))
          all_goals gi_wp2
          all_goals go_roundw
          all_goals first
            | (show (_ : Nat) < _; simp [intOf]; omega)
            | (show (_ : Nat) < _; simp [intOf]; done)
            | skip
          all_goals
            have hT3 := hT2.size
            have hj : Hid (J (fun k => (W.heap.size ≤ k ∧ k < V5.heap.size) ∨ (V6.heap.size ≤ k ∧ k < V7.heap.size)) (done ++ [(nx, ny)]) w1) := HJ.out.grows _ _ _ _ HJ8.out (grown_of_below hT2 none)
            have hx5 : (W.heap.size ≤ g5 ∧ g5 < V5.heap.size) ∨ (V6.heap.size ≤ g5 ∧ g5 < V7.heap.size) := .inl ⟨hWg5, hl5⟩
            have hx6 : (W.heap.size ≤ g6 ∧ g6 < V5.heap.size) ∨ (V6.heap.size ≤ g6 ∧ g6 < V7.heap.size) := .inl ⟨hWg6, hl6⟩
            have T5 := R5.out.same (hT2.block g5 b54) hT2.size
            have T6 := R6.out.same (hT2.block g6 b64) hT2.size
            have TN := RN.out.same (hT2.block gl RN.out.2) hT2.size
            refine ⟨k + 1, done ++ [(nx, ny)], nx, ny, nx * z - lx, ny * z - ly, ?_, by omega, HNB, ?_, ?_, fun _ => ?_, ?_, ?_⟩
            · first | rfl | go_num
            · exact (T5.put nx ny).other hne _ _
            · exact (T6.other (Ne.symm hne) (.int .i64 nx) (.int .i64 ny)).put _ _
            · exact (TN.same (heap_put _ _ (fun e => by omega)) (by simp)).same (heap_put _ _ (fun e => by omega)) (by simp)
            · exact HJ.out.own _ _ _ _ _ _ (HJ.out.own _ _ _ _ _ _ (HJ.out.own _ _ _ _ _ _ (HJ.out.own _ _ _ _ _ _ hj hx5) hx5) hx6) hx6
            · simp; omega
        · have hL0 : L.drop k = [] := by
            have := HM.out
            rw [List.drop_eq_nil_iff]
            omega
          have HBA2 := HBA.out
          rw [hL0] at HBA2
          obtain ⟨e0, rfl, rfl⟩ := HE.out _ _ _ _ _ HBA2
          have HE0 := Lib.hid e0
          obtain ⟨fn, tmps, assign, body, hy, hR⟩ := HY.out _ done (nx, ny) wr PJ.out hXs hdl
          dsimp only at hy
          have j3 : ¬ (k : Int) < (m : Int) := by omega
          clear e0 HBA2
          gi_wp2_with fail
          refine hR.mono ?_
          rintro e V8 ⟨rfl, hJ8, hk8⟩
          have HJ8 := Lib.hid hJ8
          clear hy hR hJ8 hk8
          gi_wp2
          go_end0
          exact ⟨⟨_, rfl⟩, _, _, HE0.out.symm, HJ8.out⟩
end Go.Proofs.YtjlobpccnplebaaDoor
