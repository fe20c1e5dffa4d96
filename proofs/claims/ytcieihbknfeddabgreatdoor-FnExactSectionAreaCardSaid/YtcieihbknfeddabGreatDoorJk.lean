/- Corners of nef divisors and twice their area: the mathematics, the program. -/
import Derived.Test.YtcieihbknfeddabGreatDoorJb
import Derived.Test.YtcieihbknfeddabGreatDoorJn
import Derived.Test.YtcieihbknfeddabGreatDoorQx
import Derived.Test.YtcieihbknfeddabGreatDoorBa
import Derived.Test.YtcieihbknfeddabGreatDoorBe
import Derived.Test.YtcieihbknfeddabGreatDoorB2
namespace Go.Proofs.YtcieihbknfeddabGreatDoor
open Go.RowKit

/-- the corner of a cone -/
def cornZ (l : List V2) (d : List Int) (i : Nat) : V2 := (-(vecAt l d i).1, -(vecAt l d i).2)
def cornL (l : List V2) (d : List Int) : List V2 := (List.range l.length).map (cornZ l d)
theorem corn_len (l : List V2) (d : List Int) : (cornL l d).length = l.length := by simp [cornL]
theorem corn_cyc {l : List V2} {d : List Int} {k : Nat} (h : k < l.length) : cyc (cornL l d) k = cornZ l d k := by
  unfold cyc
  rw [corn_len, Nat.mod_eq_of_lt h]
  simp [cornL, h]
theorem corn_snoc (l : List V2) (d : List Int) (k : Nat) : (List.range (k + 1)).map (cornZ l d) = (List.range k).map (cornZ l d) ++ [cornZ l d k] := by simp [List.range_succ]
/-- are the corners those of a nef divisor, and vectors -/
def cornDB (l : List V2) (d : List Int) : Bool := nefDB l d && allV (cornL l d)
/-! the program -/
set_option maxHeartbeats 1000000 in
theorem timesNeg_any (x y : Int) (w : World) (h : (-400000 ≤ x ∧ x ≤ 400000) ∧ -400000 ≤ y ∧ y ≤ 400000) :
    Calls Tryz.prog 65 #[.agg #[.int .i64 (x), .int .i64 (y)], .int .i64 (-1)] w fun e w' => e = .returned (.agg #[.int .i64 (-x), .int .i64 (-y)]) ∧ Below w.heap.size w w' := by
  obtain ⟨⟨_, _⟩, _, _⟩ := h
  go_enter Tryz.func65, Tryz.ntmps65
  go_wp2
  go_returns
  exact ⟨rfl, by go_grown⟩
set_option maxRecDepth 100000 in
set_option maxHeartbeats 8000000 in
theorem corners_any (base g : Nat) (ns : List Node) (u : Value) (d : List Int) (w : World) (hF : FanAt w base g ns) (hs : ns.length ≤ 1000) (hv : allVec (rays ns)) (hu : ReadsInts w u d) (hd : d.length = ns.length) (hb : bnd 200 d) :
    Calls Tryz.prog 50 #[.agg #[.pointer (some ⟨g, 0, none⟩), u]] w (GivesVecs w (cornL (rays ns) d)) := by
  obtain ⟨i0, hi, hz0, hz1, hz2⟩ := info_parts infoVec
  have HV := Lib.hid (fun i w' (hb' : Below w.heap.size w w') (hi : i < ns.length) => vectorAt_any base g ns u d i w' (hF.below hb') hs hv (hu.below hb') hd hi hb)
  have HT := Lib.hid (fun i w' => timesNeg_any (vecAt (rays ns) d i).1 (vecAt (rays ns) d i).2 w' (vecAt_bnd hv hb i))
  have c3 := hF.head.c1
  have hlt := cell_lt c3
  have HM := Lib.hid (corn_snoc (rays ns) d)
  have HC : Hid (∀ i, cornZ (rays ns) d i = (-(vecAt (rays ns) d i).1, -(vecAt (rays ns) d i).2)) := fun i => rfl
  have HZ : Hid (cornL (rays ns) d = (List.range ns.length).map (cornZ (rays ns) d)) := by show _ = _; unfold cornL; rw [rays_len]
  obtain ⟨a, c, rfl, _⟩ := hu.len
  generalize rays ns = l at *
  generalize ns.length = n at *
  clear hF hv hu hb
  have hA : Below w.heap.size w (w.alloc (.cells #[.pointer (some ⟨g, 0, none⟩), .slice a d.length c] 47)) := by go_grown
  have x0 : (w.alloc (.cells #[.pointer (some ⟨g, 0, none⟩), .slice a d.length c] 47)).cell? ⟨w.heap.size, 0, none⟩ = some (.pointer (some ⟨g, 0, none⟩)) := by simp
  have x1 : (w.alloc (.cells #[.pointer (some ⟨g, 0, none⟩), .slice a d.length c] 47)).cell? ⟨w.heap.size, 1, none⟩ = some (.slice a d.length c) := by simp
  have c1 := (hA.cell (p := ⟨g, 1, none⟩) hlt).trans c3
  have HA := Lib.hid hA
  have HX0 := Lib.hid x0
  have HX1 := Lib.hid x1
  have HC1 := Lib.hid c1
  clear hA x0 x1 c1 c3 hd
  go_enter Tryz.func50, Tryz.ntmps50
  have x0 := HX0.out
  have c1 := HC1.out
  go_wp2
  generalize (w.alloc (.cells #[.pointer (some ⟨g, 0, none⟩), .slice a d.length c] 47)) = W1 at *
  clear x0 c1
  have hws := HA.out.size
  go_loopw [3, 10] (fun s3 s10 wr => ∃ k : Nat, k ≤ n ∧ s10 = .int .i64 k ∧ Hid (Vecs wr W1.heap.size s3 ((List.range k).map (cornZ l d))) ∧ Below W1.heap.size W1 wr) (fun _ s10 _ => n - (intOf s10).toNat)
  case atStart => exact ⟨0, Nat.zero_le _, rfl, Vecs.nil _ _, Below.refl _ _⟩
  case round =>
    obtain ⟨k, hk, rfl, HI, hB⟩ := hrel
    have i1 : (0 : Int) ≤ (k : Int) := by omega
    by_cases hlt2 : k < n
    · have i2 : (k : Int) < (n : Int) := by omega
      have HK := Lib.hid (HV.out k wr (HA.out.trans (hB.mono hws)) hlt2)
      have HTk := Lib.hid (HT.out k)
      have HMk := Lib.hid (HM.out k)
      have HCk := Lib.hid (HC.out k)
      have hkl : ((List.range k).map (cornZ l d)).length = k := by simp
      have y0 := (hB.cell (p := ⟨w.heap.size, 0, none⟩) (cell_lt HX0.out)).trans HX0.out
      have y1 := (hB.cell (p := ⟨w.heap.size, 1, none⟩) (cell_lt HX0.out)).trans HX1.out
      generalize vecAt l d k = V at *
      obtain ⟨x, y⟩ := V
      dsimp only at HTk HK HCk
      go_wp2_with fail
      refine Calls.mono HK.out ?_
      rintro e w2 ⟨rfl, hb2⟩
      have hB1 := belowTo hB hb2
      have HI2 := Lib.hid (HI.out.below hb2)
      clear hb2 hB HI y0 y1
      go_wp2_with fail
      refine Calls.mono (HTk.out _) ?_
      rintro e w3 ⟨rfl, hb3⟩
      have hB2 := belowTo hB1 hb3
      have hown := HI2.out.below hb3
      unfold Vecs VRow at hown
      rw [hkl] at hown
      have hbs := hB2.size
      clear hb3 hB1 HI2
      go_wp2_with (at_builtin; refine wpList_append_own_at _ rfl _ _ 58 rfl W1.heap.size 42 i0 (.agg #[.int .i64 (0), .int .i64 (0)]) 2 16 Tryz.underlying58 hi hz0 hz1 hz2 rfl (by decide) _ _ _ rfl (hown.alloc _) ⟨w3.heap.size, 0, none⟩ 1 1 [.int .i64 (-x), .int .i64 (-y)] rfl rfl ?c1 ?c2 ?c3 ?c4 ?c5 ?_)
      case c1 =>
        intro j u hj
        match j, hj with
        | 0, hj => simp at hj; subst hj; simp [Addr.add]
        | 1, hj => simp at hj; subst hj; simp [Addr.add]
      case c2 => intro u hu; simp at hu; rcases hu with rfl | rfl <;> rfl
      case c3 => unfold maxLen; omega
      case c4 => omega
      case c5 => simp; omega
      intro v' w4 hown' hgrow _ _
      have hB3 : Below W1.heap.size W1 w4 := (hB2.alloc hbs _).grown hgrow (by simp; omega) (fun k hk => (hown.lt k hk).1)
      have HVk := Lib.hid (Vecs.snoc (l := (List.range k).map (cornZ l d)) hkl.symm hown')
      rw [← HCk.out, ← HMk.out] at HVk
      clear hown' hgrow hown hB2
      go_wp2
      go_roundw
      case rel => exact ⟨k + 1, by omega, by go_num, HVk, hB3⟩
      case measure => simp [intOf]; omega
    · obtain rfl : k = n := by omega
      have i2 : ¬ (k : Int) < (k : Int) := by omega
      have hB2 := HA.out.trans (hB.mono hws)
      go_wp2
      go_returns
      exact ⟨_, rfl, by rw [HZ.out]; exact HI.out.lower hws, hB2⟩
set_option maxHeartbeats 8000000 in
theorem madeCorn_any (v : Value) (l : List V2) (w : World) (hg : EtOk w) (h : ReadsVecs w v l) (h0 : 0 < l.length) (hm : l.length ≤ 1000) :
    Calls Tryz.prog 49 #[v] w fun e w' => e = .returned (.tuple #[if allV l then v else .slice none 0 0, .bool (allV l)]) ∧ Below w.heap.size w w' := by
  have HC := Lib.hid (fun w' (hb : Below w.heap.size w w') => cornCheck_any v l w' (h.below hb) h0 hm)
  obtain ⟨a, c, rfl, _⟩ := h
  unfold CornPost at HC
  generalize allV l = K at *
  go_enter Tryz.func49, Tryz.ntmps49
  go_wp2_with fail
  refine Calls.mono (HC.out _ (by go_grown)) ?_
  rintro e w1 ⟨⟨rfl, rfl⟩ | ⟨rfl, s, rfl⟩, hb1⟩
  · have hB : Below w.heap.size w w1 := belowTo (by go_grown) hb1
    clear hb1
    go_wp2_with fail
    refine Calls.mono (none_nil _) ?_
    rintro e w2 ⟨rfl, hb2⟩
    have hB2 := belowTo hB hb2
    clear hb2
    go_wp2
    go_returns
    exact ⟨rfl, hB2⟩
  · have hB : Below w.heap.size w w1 := belowTo (by go_grown) hb1
    have HN := Lib.hid (none_hit s w1 (hg.below hB))
    clear hb1
    go_wp2_with fail
    refine Calls.mono HN.out ?_
    rintro e w2 ⟨rfl, hb2⟩
    have hB2 := belowTo hB hb2
    clear hb2
    go_wp2
    go_returns
    exact ⟨rfl, hB2⟩
theorem cornD_in {l : List V2} {d : List Int} (h : cornDB l d = true) : divB l d = true ∧ nefL (degsZ l d) = true ∧ allV (cornL l d) = true := by
  unfold cornDB nefDB at h
  simp only [Bool.and_eq_true] at h
  exact ⟨h.1.1, h.1.2, h.2⟩
theorem cornD_len {l : List V2} {d : List Int} (h : cornDB l d = true) : l.length ≤ 20 := (div_len (cornD_in h).1).2
set_option maxHeartbeats 8000000 in
theorem cornersOf_any (v : Value) (l : List V2) (u : Value) (d : List Int) (w : World) (hl : ReadsVecs w v l) (hd : ReadsInts w u d) (hg : EtOk w) :
    Calls Tryz.prog 34 #[v, u] w (GivesVecsOk w (gV (cornDB l d) (cornL l d)) (cornDB l d)) := by
  have HO := Lib.hid (divisorOf_any v u l d w hl hd hg)
  have HNf := Lib.hid (fun base g (ns : List Node) w' (hF : FanAt w' base g ns) (hn : rays ns = l) (hb : Below w.heap.size w w') (h : divB l d = true) => by
    have h1 := isNef_any base g ns u d w' hF (by have := div_len h; rw [← hn, rays_len] at this; omega) (by rw [hn]; exact div_smooth h) (hd.below hb) (by rw [← rays_len, hn]; exact (div_in h).2.1) (bnd_mono (div_bnd h) (by omega))
    rw [hn] at h1
    exact h1)
  have HCn := Lib.hid (fun base g (ns : List Node) w' (hF : FanAt w' base g ns) (hn : rays ns = l) (hb : Below w.heap.size w w') (h : divB l d = true) => by
    have h1 := corners_any base g ns u d w' hF (by have := div_len h; rw [← hn, rays_len] at this; omega) (by rw [hn]; exact (div_smooth h).1) (hd.below hb) (by rw [← rays_len, hn]; exact (div_in h).2.1) (bnd_mono (div_bnd h) (by omega))
    rw [hn] at h1
    exact h1)
  have HMd := Lib.hid (fun v' b' w' (hb : Below w.heap.size w w') (hI : Vecs w' b' v' (cornL l d)) (h : divB l d = true) => madeCorn_any v' (cornL l d) w' (hg.below hb) (hI.reads (by rw [corn_len]; have := div_len h; omega)) (by rw [corn_len]; have := div_len h; omega) (by rw [corn_len]; have := div_len h; omega))
  obtain ⟨a, c, rfl, _⟩ := hd.len
  unfold cornDB nefDB
  clear hl hd
  cases hb : divB l d
  · rw [hb] at HO
    clear hb HNf HCn HMd
    go_enter Tryz.func34, Tryz.ntmps34
    go_wp2_with fail
    refine Calls.mono HO.out ?_
    rintro e w1 ⟨⟨h, _⟩ | ⟨_, rfl⟩, hb1⟩
    · cases h
    have hs1 := hb1.size
    go_wp2
    go_returns
    exact ⟨_, rfl, Vecs.nil _ _, by go_grown⟩
  · rw [hb] at HO
    have HN2 := Lib.hid (fun base g ns w' hF hn h => HNf.out base g ns w' hF hn h hb)
    have HC2 := Lib.hid (fun base g ns w' hF hn h => HCn.out base g ns w' hF hn h hb)
    have HM2 := Lib.hid (fun v' b' w' h hI => HMd.out v' b' w' h hI hb)
    clear hb HNf HCn HMd
    generalize nefL (degsZ l d) = N at *
    generalize cornL l d = L at *
    cases N
    · clear HM2 HC2
      go_enter Tryz.func34, Tryz.ntmps34
      go_wp2_with fail
      refine Calls.mono HO.out ?_
      rintro e w1 ⟨⟨_, g, ns, rfl, hF, hn⟩ | ⟨h, _⟩, hb1⟩
      case inr => cases h
      have HN3 := Lib.hid (fun w2 (h : Below w1.heap.size w1 w2) => HN2.out w.heap.size g ns w2 (hF.below h) hn (belowTo hb1 h))
      have hs1 := hb1.size
      clear hF hn HN2
      go_wp2_with fail
      refine Calls.mono (HN3.out _ (by go_grown)) ?_
      rintro e w2 ⟨rfl, hb2⟩
      have hB : Below w.heap.size w w2 := belowTo (by go_grown) hb2
      clear hb2
      go_wp2
      go_returns
      exact ⟨_, rfl, Vecs.nil _ _, hB⟩
    · go_enter Tryz.func34, Tryz.ntmps34
      go_wp2_with fail
      refine Calls.mono HO.out ?_
      rintro e w1 ⟨⟨_, g, ns, rfl, hF, hn⟩ | ⟨h, _⟩, hb1⟩
      case inr => cases h
      have HN3 := Lib.hid (fun w2 (h : Below w1.heap.size w1 w2) => HN2.out w.heap.size g ns w2 (hF.below h) hn (belowTo hb1 h))
      have HC3 := Lib.hid (fun w2 (h : Below w1.heap.size w1 w2) => HC2.out w.heap.size g ns w2 (hF.below h) hn (belowTo hb1 h))
      have hs1 := hb1.size
      clear hF hn HN2 HC2
      go_wp2_with fail
      refine Calls.mono (HN3.out _ (by go_grown)) ?_
      rintro e w2 ⟨rfl, hb2⟩
      have hA2 : Below w1.heap.size w1 w2 := belowTo (by go_grown) hb2
      have x0 : w2.cell? ⟨w1.heap.size, 0, none⟩ = some (.pointer (some ⟨g, 0, none⟩)) := (hb2.cell (p := ⟨w1.heap.size, 0, none⟩) (by simp)).trans (by first | (go_cell; done) | (go_simp; done) | (simp; done))
      have x1 : w2.cell? ⟨w1.heap.size, 1, none⟩ = some (.slice a d.length c) := (hb2.cell (p := ⟨w1.heap.size, 1, none⟩) (by simp)).trans (by first | (go_cell; done) | (go_simp; done) | (simp; done))
      clear hb2 HN3
      go_wp2_with fail
      refine Calls.mono (HC3.out _ hA2) ?_
      rintro e w3 ⟨v3, rfl, hI, hb3⟩
      have hB3 := belowTo hb1 (belowTo hA2 hb3)
      have HI := Lib.hid (hI.lower (base' := w.heap.size) (Nat.le_trans hs1 hA2.size))
      clear hI hb3 x0 x1 hA2 HC3
      go_wp2_with fail
      refine Calls.mono (HM2.out v3 _ _ hB3 HI.out) ?_
      rintro e w4 ⟨rfl, hb4⟩
      have hB4 := belowTo hB3 hb4
      have HI4 := Lib.hid (HI.out.below hb4)
      clear hb4 hB3 HI HM2
      generalize allV L = K at *
      cases K
      all_goals
        go_wp2
        go_returns
        first | exact ⟨_, rfl, HI4.out, hB4⟩ | exact ⟨_, rfl, Vecs.nil _ _, hB4⟩
set_option maxHeartbeats 4000000 in
theorem sectionCorners_any (v : Value) (l : List V2) (u : Value) (d : List Int) (w : World) (hl : ReadsVecs w v l) (hd : ReadsInts w u d) (hg : EtOk w) :
    Calls Tryz.prog 17 #[v, u] w (GivesVecsOk w (gV (cornDB l d) (cornL l d)) (cornDB l d)) := by
  have HO := Lib.hid (cornersOf_any v l u d w hl hd hg)
  obtain ⟨va, vc, rfl, _⟩ := hl
  obtain ⟨a, c, rfl, _⟩ := hd.len
  clear hd
  generalize cornDB l d = K at *
  generalize gV K (cornL l d) = L at *
  go_enter Tryz.func17, Tryz.ntmps17
  go_wp2_with fail
  refine Calls.mono HO.out ?_
  rintro e w1 ⟨v1, rfl, hI, hb1⟩
  have HI := Lib.hid hI
  clear hI
  go_wp2
  go_returns
  exact ⟨_, rfl, HI.out, hb1⟩
set_option maxHeartbeats 4000000 in
theorem sectionArea_any (v : Value) (l : List V2) (u : Value) (d : List Int) (w : World) (hl : ReadsVecs w v l) (hd : ReadsInts w u d) (hg : EtOk w) :
    Calls Tryz.prog 20 #[v, u] w fun e w' => e = .returned (.tuple #[.int .i64 (gate (cornDB l d) (areaZ (cornL l d))), .bool (cornDB l d)]) ∧ Below w.heap.size w w' := by
  have HO := Lib.hid (cornersOf_any v l u d w hl hd hg)
  have HA := Lib.hid (fun v' b' w' (hI : Vecs w' b' v' (cornL l d)) (hk : cornDB l d = true) => area_any v' (cornL l d) w' (hI.reads (by rw [corn_len]; have := cornD_len hk; omega)) (by rw [corn_len]; have := div_len (cornD_in hk).1; omega) (by rw [corn_len]; have := cornD_len hk; omega) (cornD_in hk).2.2)
  obtain ⟨va, vc, rfl, _⟩ := hl
  obtain ⟨a, c, rfl, _⟩ := hd.len
  clear hd
  cases hk : cornDB l d
  · rw [hk] at HO
    clear HA hk
    go_enter Tryz.func20, Tryz.ntmps20
    go_wp2_with fail
    refine Calls.mono HO.out ?_
    rintro e w1 ⟨v1, rfl, hI, hb1⟩
    clear hI
    go_wp2
    go_returns
    exact ⟨rfl, hb1⟩
  · rw [hk] at HO
    have HA2 := Lib.hid (fun v' b' w' hI => HA.out v' b' w' hI hk)
    have HO2 : Hid (Calls Tryz.prog 34 #[.slice va l.length vc, .slice a d.length c] w (GivesVecsOk w (cornL l d) true)) := HO.out
    clear HA hk HO
    generalize areaZ (cornL l d) = Q at *
    generalize cornL l d = L at *
    go_enter Tryz.func20, Tryz.ntmps20
    go_wp2_with fail
    refine Calls.mono HO2.out ?_
    rintro e w1 ⟨v1, rfl, hI, hb1⟩
    have HA3 := Lib.hid (HA2.out v1 _ w1 hI)
    clear hI HA2
    go_wp2_with fail
    refine Calls.mono HA3.out ?_
    rintro e w2 ⟨rfl, hb2⟩
    have hB := belowTo hb1 hb2
    clear hb2
    go_wp2
    go_returns
    exact ⟨rfl, hB⟩
end Go.Proofs.YtcieihbknfeddabGreatDoor
